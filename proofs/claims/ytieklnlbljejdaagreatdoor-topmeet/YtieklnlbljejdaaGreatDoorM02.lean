import Derived.Test.YtieklnlbljejdaaGreatDoorM01
open Go.Value renaming int → ι, slice → σ, pointer → π, tuple → τ, nilIface → η
open Go.IntKind renaming i64 → κ
open Go.Ending renaming returned → ρ
open Go.Obj renaming cells → γ
open Option renaming none → ν, some → μ
open Go renaming World → dY, Calls → eW, Addr → dX, Value → dZ, TypeId → ew, run_underlying → fI
open Go.Proofs.Tryz renaming prog → eX
open Go.RowKit renaming intOf → eY
open BitVec renaming ofInt → fq
open Go.IntKind renaming i64 → ft, u8 → fD
open List renaming flatMap_cons → fA, length_append → fB, length_cons → eZ, map_cons → eN, map_nil → eO
open Go.Obj renaming cells → fC
open Go.Value renaming int → eB, ownBlock → eu, cells → fF
open ByteArray renaming empty → fE
open Array renaming map → fG
open Go.Builtin renaming append_ → fH, lenOf → fJ, firstCells → fK, nextslicecap → fL
set_option maxRecDepth 100000
set_option maxHeartbeats 4000000
open Go.Proofs.Tryz
namespace Go.Proofs.YtieklnlbljejdaaGreatDoor
open Go.RowKit
def yq(n:Int):Bool:=decide (0<=n)&&decide (n<=255)
theorem lZ(n:Int)(w:dY):eW eX 226 #[ι κ n] w λe w'=>e=ρ (.bool (yq n))/\w=w':=by
 by_cases Z:0<=n
 ·by_cases Y:n<=255
  ·have hb:yq n=true:=by simp[yq,Z,Y]
   rw[hb];clear hb
   go_in
   go_wp2
   go_ret;exact⟨by first|rfl|(simp;omega),rfl⟩
  ·have hb:yq n=false:=by simp[yq,Y]
   rw[hb];clear hb
   go_in
   go_wp2
   go_ret;exact⟨by first|rfl|(simp;omega),rfl⟩
 ·have hb:yq n=false:=by simp[yq,Z]
  rw[hb];clear hb
  go_in
  go_wp2
  go_ret;exact⟨by first|rfl|(simp;omega),rfl⟩
theorem BJ(k n K:Int)(bo:Nat)(w:dY)(Qo:bo<w.heap.size)(h:w.cell? ⟨bo,0,ν⟩=μ (ι κ K)):
 eW eX 243 #[.agg #[ι κ k,ι κ n],π (μ ⟨bo,0,ν⟩)] w λe w'=>e=ρ (.bool (k==K))/\eE w w':=by
 go_in
 go_wp2
 go_ret;exact⟨rfl,(av _ _).alloc (Nat.le_refl _) _⟩
theorem Qp(a:Option dX)(n cap:Nat)(os:List jE)(K:Int)(bo:Nat)(w:dY)(hn:n<=1000000)(T:bo<w.heap.size)(h:w.cell? ⟨bo,0,ν⟩=μ (ι κ K))(U:jc w a n os):
 eW eX 254 #[σ a n cap,.func (.func 243) #[] #[π (μ ⟨bo,0,ν⟩)]] w λe w'=>∃r:Int,e=ρ (ι κ r)/\(decide (0<=r)=os.any (λo=>o.1==K))/\eE w w':=by
 go_in
 go_wp2
 go_loopw [8] (λi wr=>∃k:Nat,k<=n/\i=ι κ k/\(os.take k).any (λo=>o.1==K)=false/\eE w wr) (λi _=>n-(eY i).toNat)
 case atStart=>exact⟨0,Nat.zero_le _,rfl,rfl,av _ _⟩
 case round=>
  obtain⟨k,hk,rfl,S,Y⟩:=hrel;have Z:Hid _:=S;clear S;by_cases kB:k<n
  ·have D:=U.below Y;rcases D.2 with h0|⟨b,off,rfl,hc⟩
   ·omega
   have G:k<os.length:=by rw[U.1];exact kB
   obtain⟨c1,c2⟩:=hc k G;have M:wr.cell? ⟨bo,0,ν⟩=μ (ι κ K):=(Y.cell (p:=⟨bo,0,ν⟩) T).trans h;have X:bo<wr.heap.size:=Nat.lt_of_lt_of_le T Y.size;have E:Hid (os.take (k+1)=os.take k++ [os[k]]):=aB G;have Q:Hid (os[k] ∈os):=aG _;generalize os[k] =o at c1 c2 E Q;clear hc;have nQ:(k:Int)<(n:Int):=eh;cases J:(o.1==K)
   ·go_wp2_with(fail);refine(BJ o.1 o.2 K bo wr X M).mono ?_;rintro e w1 ⟨rfl,V⟩
    go_wp2
    go_roundw
    case rel=>exact⟨k+1,eh,by go_num,by rw[E.out,List.any_append,Z.out];simp[J],gk Y V⟩
    case measure=>simp[eY];omega
   ·go_wp2_with(fail);refine(BJ o.1 o.2 K bo wr X M).mono ?_;rintro e w1 ⟨rfl,V⟩
    go_wp2
    go_ret;refine⟨_,rfl,?_,gk Y V⟩;have A:os.any (λo=>o.1==K)=true:=List.any_eq_true.mpr ⟨o,Q.out,J⟩;rw[A];simp
  ·have y:os.take k=os:=aJ (by rw[U.1];omega);rw[y]at Z
   go_wp2
   go_ret;exact⟨-1,rfl,by rw[Z.out];rfl,Y⟩
theorem IK(a:Option dX)(n cap:Nat)(os:List jE)(K:Int)(bo:Nat)(w:dY)(Z:n<=1000000)(X:bo<w.heap.size)(h:w.cell? ⟨bo,0,ν⟩=μ (ι κ K))(Y:jc w a n os):
 eW eX 242 #[σ a n cap,.func (.func 243) #[] #[π (μ ⟨bo,0,ν⟩)]] w λe w'=>e=ρ (.bool (os.any (λo=>o.1==K)))/\eE w w':=by
 go_in
 go_wp2_with(fail);refine(Qp a n cap os K bo w Z X h Y).mono ?_;rintro e w1 ⟨r,rfl,V,hb⟩
 go_wp2
 go_ret;exact⟨by rw[<-V];rfl,hb⟩
def pW:List jE->List jE->Nat
 |_,[] =>0
 |seen,o::r=>if(yq o.1&&yq o.2)=false then 1 else if seen.any (λx=>x.1==o.1)=true then 3 else pW (seen++ [o]) r
theorem AA(a:Option dX)(n cap:Nat)(os:List jE)(w:dY)(hn:n<=1000000)(Km:n<=cap)(D:jc w a n os):
 eW eX 227 #[σ a n cap] w λe w'=>e=ρ (jm (pW [] os))/\eE w w':=by
 go_in
 go_wp2
 go_loopw [7] (λi wr=>∃k:Nat,k<=n/\i=ι κ k/\pW [] os=pW (os.take k) (os.drop k)/\eE w wr) (λi _=>n-(eY i).toNat)
 case atStart=>exact⟨0,Nat.zero_le _,rfl,rfl,av _ _⟩
 case round=>
  obtain⟨k,hk,rfl,y,S⟩:=hrel;have hF:Hid _:=y;clear y;by_cases kB:k<n
  ·have Q:=D.below S;have A:=Q.take k eh;rcases Q.2 with h0|⟨b,off,rfl,hc⟩
   ·omega
   have E:k<os.length:=by rw[D.1];exact kB
   obtain⟨c1,c2⟩:=hc k E;have HT:Hid (os.take (k+1)=os.take k++ [os[k]]):=aB E;have V:Hid (os.drop k=os[k] ::os.drop (k+1)):=aS E;generalize os[k] =o at c1 c2 HT V;clear hc;have nQ:(k:Int)<(n:Int):=eh;have T:eE w (wr.alloc (γ #[ι κ o.1,ι κ o.2] 276)):=S.alloc S.size _;have h:jc (wr.alloc (γ #[ι κ o.1,ι κ o.2] 276)) (μ ⟨b,off,ν⟩) k (os.take k):=A.below ((av _ _).alloc (Nat.le_refl _) _);have J:(wr.alloc (γ #[ι κ o.1,ι κ o.2] 276)).cell? ⟨wr.heap.size,0,ν⟩=μ (ι κ o.1):=ar wr #[ι κ o.1,ι κ o.2] 276 (0,0) 0;have U:=IK (μ ⟨b,off,ν⟩) k cap (os.take k) o.1 wr.heap.size (wr.alloc (γ #[ι κ o.1,ι κ o.2] 276)) eh gY J h;clear A h Q;cases X:yq o.1
   ·have Y:Hid (pW [] os=1):=by
     show pW [] os=1;rw[hF.out,V.out,pW,ai (by simp[X])]
    go_wp2_with(fail);refine(lZ o.1 _).mono ?_;rintro e w1 ⟨rfl,rfl⟩;go_wp2_with(fail);rw[Y.out];go_ret;exact⟨rfl,T⟩
   ·cases M:yq o.2
    ·have Y:Hid (pW [] os=1):=by
      show pW [] os=1;rw[hF.out,V.out,pW,ai (by simp[M])]
     go_wp2_with(fail);refine(lZ o.1 _).mono ?_;rintro e w1 ⟨rfl,rfl⟩;go_wp2_with(fail);refine(lZ o.2 _).mono ?_;rintro e w1 ⟨rfl,rfl⟩;go_wp2_with(fail);rw[Y.out];go_ret;exact⟨rfl,T⟩
    ·cases Z:(os.take k).any (λx=>x.1==o.1)
     ·have Y:Hid (pW [] os=pW (os.take (k+1)) (os.drop (k+1))):=by
       show pW [] os=_;rw[hF.out,V.out,pW,af (by simp[X,M]),af (by simp[Z]),HT.out]
      rw[Z]at U;clear Z;go_wp2_with(fail);refine(lZ o.1 _).mono ?_;rintro e w1 ⟨rfl,rfl⟩;go_wp2_with(fail);refine(lZ o.2 _).mono ?_;rintro e w1 ⟨rfl,rfl⟩;go_wp2_with(fail);refine U.mono ?_;rintro e w1 ⟨rfl,G⟩
      go_wp2
      go_roundw
      case rel=>exact⟨k+1,eh,by go_num,Y.out,gk T G⟩
      case measure=>simp[eY];omega
     ·have Y:Hid (pW [] os=3):=by
       show pW [] os=3;rw[hF.out,V.out,pW,af (by simp[X,M]),ai Z]
      rw[Z]at U;clear Z;go_wp2_with(fail);refine(lZ o.1 _).mono ?_;rintro e w1 ⟨rfl,rfl⟩;go_wp2_with(fail);refine(lZ o.2 _).mono ?_;rintro e w1 ⟨rfl,rfl⟩;go_wp2_with(fail);refine U.mono ?_;rintro e w1 ⟨rfl,G⟩;go_wp2_with(fail);rw[Y.out];go_ret;exact⟨rfl,gk T G⟩
  ·have Y:Hid (pW [] os=0):=by
    show pW [] os=0;have GJ:os.drop k=[] :=a9 (by rw[D.1];omega);rw[hF.out,GJ,pW]
   go_wp2_with(fail);rw[Y.out];go_ret;exact⟨rfl,S⟩
def jS(code id:Int)(os:List jE):Nat:=
 if code<1 \/6<code \/yq id=false then 1
 else if 8<os.length then 2
 else if 5<=code/\0<os.length then 3
 else pW [] os
theorem uf(code id:Int)(a:Option dX)(n cap:Nat)(os:List jE)(w:dY)(M:n<=1000000)(J:n<=cap)(T:jc w a n os):
 eW eX 209 #[.agg #[ι κ code,ι κ id,σ a n cap]] w λe w'=>e=ρ (jm (jS code id os))/\eE w w':=by
 have hl:=T.1;have Y:eE w (w.alloc (γ #[ι κ code,ι κ id,σ a n cap] 37)):=(av _ _).alloc (Nat.le_refl _) _;have U:=AA a n cap os (w.alloc (γ #[ι κ code,ι κ id,σ a n cap] 37)) M J (T.below Y);by_cases S:code<1
 ·have Z:Hid (jS code id os=1):=by show jS code id os=1;simp[jS,S]
  go_in
  go_wp2_with(fail);rw[Z.out];go_ret;exact⟨rfl,Y⟩
 ·by_cases Q:6<code
  ·have Z:Hid (jS code id os=1):=by show jS code id os=1;simp[jS,Q]
   go_in
   go_wp2_with(fail);rw[Z.out];go_ret;exact⟨rfl,Y⟩
  ·cases X:yq id
   ·have Z:Hid (jS code id os=1):=by show jS code id os=1;simp[jS,X]
    go_in
    go_wp2_with(fail);refine(lZ id _).mono ?_;rintro e w1 ⟨rfl,rfl⟩;go_wp2_with(fail);rw[Z.out];go_ret;exact⟨rfl,Y⟩
   ·by_cases h4:(8:Int)<(n:Int)
    ·have Z:Hid (jS code id os=2):=by
      show jS code id os=2;rw[jS,af (by simp[X];omega),ai eh]
     go_in
     go_wp2_with(fail);refine(lZ id _).mono ?_;rintro e w1 ⟨rfl,rfl⟩;go_wp2_with(fail);rw[Z.out];go_ret;exact⟨rfl,Y⟩
    ·by_cases h5:5<=code
     ·by_cases h6:(0:Int)<(n:Int)
      ·have Z:Hid (jS code id os=3):=by
        show jS code id os=3;rw[jS,af (by simp[X];omega),af eh,ai eh]
       go_in
       go_wp2_with(fail);refine(lZ id _).mono ?_;rintro e w1 ⟨rfl,rfl⟩;go_wp2_with(fail);rw[Z.out];go_ret;exact⟨rfl,Y⟩
      ·have Z:Hid (jS code id os=pW [] os):=by
        show jS code id os=_;rw[jS,af (by simp[X];omega),af eh,af eh]
       go_in
       go_wp2_with(fail);refine(lZ id _).mono ?_;rintro e w1 ⟨rfl,rfl⟩;go_wp2_with(fail);refine U.mono ?_;rintro e w1 ⟨rfl,V⟩;go_wp2_with(fail);rw[Z.out];go_ret;exact⟨rfl,gk Y V⟩
     ·have Z:Hid (jS code id os=pW [] os):=by
       show jS code id os=_;rw[jS,af (by simp[X];omega),af eh,af eh]
      go_in
      go_wp2_with(fail);refine(lZ id _).mono ?_;rintro e w1 ⟨rfl,rfl⟩;go_wp2_with(fail);refine U.mono ?_;rintro e w1 ⟨rfl,V⟩;go_wp2_with(fail);rw[Z.out];go_ret;exact⟨rfl,gk Y V⟩
theorem Db(x:Int):yq x=true↔0<=x/\x<=255:=by simp[yq]
end Go.Proofs.YtieklnlbljejdaaGreatDoor
namespace Go.Proofs.YtieklnlbljejdaaGreatDoor.Plain
open Go.RowKit
theorem vQ(a b:Nat)(Z:a<65536)(hb:b<65536):bits .xor .i64 (a:Int) (b:Int)=((a^^^b:Nat):Int):=by
 have h:a^^^b<65536:=Nat.xor_lt_two_pow (n:=16) Z hb;have e:∀n:Nat,n<65536->(fq 64 (n:Int)).toNat=n:=by
  intro n hn;rw[BitVec.toNat_ofInt];simp;omega
 have Y:(fq 64 (a:Int) ^^^fq 64 (b:Int)).toNat=a^^^b:=by
  rw[BitVec.toNat_xor,e a Z,e b hb]
 show ft.wrap ((fq 64 (a:Int) ^^^fq 64 (b:Int)).toNat:Int)=_;rw[Y,IntKind.wrap_i64];omega
def turn(x:Nat):Nat:=if x%2=1 then x/2^^^33800 else x/2
def turns:Nat->Nat->Nat
 |0,x=>x
 |n+1,x=>turns n (turn x)
def IL(x:Nat)(c:UInt8):Nat:=turns 8 (x^^^c.toNat)
def reg(l:List UInt8):Nat:=l.foldl IL 65535
def sum(l:List UInt8):Nat:=reg l^^^65535
theorem IP(a b:Nat)(Z:a<65536)(hb:b<65536):a^^^b<65536:=Nat.xor_lt_two_pow (n:=16) Z hb
theorem TK(c:UInt8):c.toNat<65536:=by have:=c.toNat_lt;omega
theorem XG(x:Nat)(h:x<65536):turn x<65536:=by
 unfold turn;split
 ·exact IP _ _ eh eh
 ·omega
theorem DS:∀n x,x<65536->turns n x<65536
 |0,_,h=>h
 |n+1,x,h=>DS n _ (XG x h)
theorem DT:∀n x,turns (n+1) x=turn (turns n x)
 |0,_=>rfl
 |n+1,x=>by rw[turns,DT n (turn x)];rfl
theorem Qq(x:Nat)(c:UInt8)(h:x<65536):IL x c<65536:=DS 8 _ (IP _ _ h (TK c))
theorem Kn:∀(l:List UInt8) x,x<65536->l.foldl IL x<65536
 |[],_,h=>h
 |c::l,x,h=>Kn l _ (Qq x c h)
theorem IQ(l:List UInt8):reg l<65536:=Kn l _ eh
theorem MP(l:List UInt8):sum l<65536:=IP _ _ (IQ l) eh
theorem TL(l:List UInt8)(c:UInt8):reg (l++ [c])=IL (reg l) c:=by simp[reg]
end Go.Proofs.YtieklnlbljejdaaGreatDoor.Plain
namespace Go.Proofs.YtieklnlbljejdaaGreatDoor
open Go.RowKit Plain
theorem XH {k:IntKind} {a b:Int} (h:a=b):Ending.returned (.int k a)=ρ (.int k b):=by rw[h]
theorem GU(s:ByteArray)(k:Nat)(h:k<s.size):s.data.toList.take (k+1)=s.data.toList.take k++ [s[k]] :=by
 rw[aB (by simpa using h)];rfl
theorem TM(x:Nat)(h:x<65536)(h1:(x:Int) %2=1):bits .xor .i64 ((x:Int)/2) 33800=(turn x:Int):=by
 have e:=vQ (x/2) 33800 eh eh;have:x%2=1:=eh;simp only[turn,this,if_true];rw[<-e];simp
theorem Qr(x:Nat)(h1:¬(x:Int) %2=1):(x:Int)/2=(turn x:Int):=by
 have:¬x%2=1:=eh;simp[turn,this]
theorem OQ(s:ByteArray)(w:dY)(hs:s.size<=maxLen):
 eW eX 210 #[.string s] w λe w'=>e=ρ (ι κ (Plain.sum s.data.toList:Nat))/\w=w':=by
 unfold maxLen at hs
 go_in
 go_wp2
 go_loop [3,8] (λx i=>∃k:Nat,k<=s.size/\i=ι κ k/\x=ι κ (reg (s.data.toList.take k):Nat)) (λ_ i=>s.size-(eY i).toNat)
 case atStart=>exact⟨0,Nat.zero_le _,rfl,rfl⟩
 case round=>
  obtain⟨k,hk,rfl,rfl⟩:=hrel;by_cases G:k<s.size
  ·have U:=GU s k G;have V:Hid (reg (s.data.toList.take (k+1))=turns 8 (reg (s.data.toList.take k) ^^^s[k].toNat)):=by rw[U,TL];rfl
   have T:bits .xor .i64 (reg (s.data.toList.take k):Nat) (wrap64 (s[k].toNat:Nat))=((reg (s.data.toList.take k) ^^^s[k].toNat:Nat):Int):=by
    have hb:=s[k].toNat_lt;rw[cG _ ⟨eh,eh⟩];exact vQ _ _ (IQ _) (TK _)
   have Z:reg (s.data.toList.take k) ^^^s[k].toNat<65536:=IP _ _ (IQ _) (TK _);clear U;generalize reg (s.data.toList.take k) ^^^s[k].toNat=X at T Z V
   go_wp2
   go_loop [3,17] (λx i=>∃j:Nat,j<=8/\i=ι κ j/\x=ι κ (turns j X:Nat)) (λ_ i=>8-(eY i).toNat)
   case atStart=>exact⟨0,Nat.zero_le _,rfl,rfl⟩
   case round=>
    obtain⟨j,hj,rfl,rfl⟩:=hrel;by_cases hj8:j<8
    ·have hl:=DS j X Z;have Q:turns (j+1) X=turn (turns j X):=DT j X;have M:=TM (turns j X) hl;have J:=Qr (turns j X);generalize turns j X=Y at*
     go_wp2
     all_goals
      go_round
      case rel=>exact⟨j+1,eh,by go_num,by rw[Q];first|rw[M (by simp_all)] |rw[J (by simp_all)]⟩
      case measure=>simp[eY];omega
    ·have S:j=8:=eh;subst S
     go_wp2
     go_round
     case rel=>exact⟨k+1,eh,by go_num,by rw[V.out]⟩
     case measure=>simp[eY];omega
  ·go_wp2
   go_ret;have e:k=s.size:=eh;exact⟨XH (by rw[aJ (by simp;omega)];exact vQ _ 65535 (IQ _) eA),rfl⟩
end Go.Proofs.YtieklnlbljejdaaGreatDoor
namespace Go.Proofs.YtieklnlbljejdaaGreatDoor.Plain
open Go.RowKit
def rR(c:UInt8):Bool:=c==126||c==125||decide (c<32)
def CH(c:UInt8):List UInt8:=if rR c then [125,c^^^32]else [c]
def sC(l:List UInt8):List UInt8:=l.flatMap CH
def Ko(l:List UInt8):UInt8:=UInt8.ofNat (sum l%256)
def Kp(l:List UInt8):UInt8:=UInt8.ofNat (sum l/256)
def lT(l:List UInt8):List UInt8:=l++ [Ko l,Kp l]
def lL(l:List UInt8):List UInt8:=126::(sC (lT l)++ [126])
theorem GV(l:List UInt8):((Ko l).toNat:Int)=((sum l:Nat):Int) %256:=by
 have:=MP l;unfold Ko;rw[UInt8.toNat_ofNat_of_lt' (by show sum l%256<256;omega)];omega
theorem GX(l:List UInt8):((Kp l).toNat:Int)=((sum l:Nat):Int)/256:=by
 have:=MP l;unfold Kp;rw[UInt8.toNat_ofNat_of_lt' (by show sum l/256<256;omega)];omega
theorem Qs(l:List UInt8)(c:UInt8):sC (l++ [c])=sC l++CH c:=by simp[sC]
theorem XI(c:UInt8):(CH c).length<=2:=by unfold CH;split<;>simp
theorem Dc:∀l:List UInt8,(sC l).length<=2*l.length
 |[] =>by simp[sC]
 |c::l=>by
  have:=Dc l;have h:=XI c;simp only[sC,fA,fB,eZ]at this⊢;omega
theorem oz(l:List UInt8):(lT l).length=l.length+2:=by simp[lT]
theorem Qt(c:UInt8):rR c=true↔(c.toNat:Int)=126 \/(c.toNat:Int)=125 \/(c.toNat:Int)<32:=by
 unfold rR;simp only[Bool.or_eq_true,beq_iff_eq,decide_eq_true_eq,UInt8.lt_iff_toNat_lt];have Z:c=126↔(c.toNat:Int)=126:=by
  rw[<-UInt8.toNat_inj];show c.toNat=126↔_;omega
 have Y:c=125↔(c.toNat:Int)=125:=by
  rw[<-UInt8.toNat_inj];show c.toNat=125↔_;omega
 rw[Z,Y];show(_ \/_) \/c.toNat<32↔_;omega
theorem ZR(c:UInt8):bits .xor .u8 (c.toNat:Int) 32=((c^^^32).toNat:Int):=by
 have:=c.toNat_lt;have e:=u8_xor_nat c.toNat 32 eh eh;rw[UInt8.toNat_xor];exact e
end Go.Proofs.YtieklnlbljejdaaGreatDoor.Plain
namespace Go.Proofs.YtieklnlbljejdaaGreatDoor
open Go.RowKit Plain
variable {H:Type} {W w w1 wr x1:World} {a ao:Option Addr} {b cap cp j k lo n:Nat} {o:Obj} {ok:List jE} {ps:List MemPlace} {u v:Value}
theorem ZS:(eX.info? 5).map (λi=>(i.zero,i.size,i.bytes))=μ (μ (.int .u8 0),1,1):=gq
theorem Kq(s:ByteArray)(w:dY)(hs:s.size<=60):
 eW eX 197 #[.string s] w λe w'=>e=ρ (τ #[.string ⟨(lL s.data.toList).toArray⟩,η])/\eE w w':=by
 obtain⟨i0,hi,ox,nh,mO⟩:=aY ZS;have hle:¬(60:Int)<(s.size:Int):=eh;have hsl:=Plain.MP s.data.toList;obtain⟨cap,C,fr,aeO,iW⟩:=FZ (P:=eX) (w.alloc (γ #[.int .u8 126] 5)) 9 140 5 s underlying9 underlying140 underlying5 (by unfold maxLen;omega);have rQ:(w.alloc (γ #[.int .u8 126] 5)).heap.size=w.heap.size+1:=gY;rw[rQ]at iW;obtain⟨L,hL⟩:∃L,L=lT s.data.toList:=⟨_,rfl⟩
 have hLl:L.length=s.size+2:=by rw[hL,oz];rfl
 go_in
 go_wp2_with(first
  |(go_at_call 210;refine(OQ _ _ ?hx).mono ?_;(case hx=>unfold maxLen;omega);rintro e w' ⟨rfl,rfl⟩)
  |(at_builtin;go_must(refine iG _ rfl (.tmp 16) (.tmp 22) 140 rfl 5 i0 (.int .u8 0) 1 1 underlying140 hi ox nh mO rfl eA (.slice (some ⟨w.heap.size+1,0,none⟩) s.size cap) s.size (iO s.data.toList) rfl ?r1 _ 2 2 (iO [Ko s.data.toList,Kp s.data.toList]) rfl rfl eA ?c1 ?c2 ?c3 ?c4 ?_)))
 case r1=>exact(iW.alloc _).drew
 case c1=>
  intro j u hu;rw[add_plain,World.cell?_drew];have h2:=ar ((w.alloc (fC #[eB fD 126] 5)).alloc (fC C 5 fr)) #[eB fD (↑(sum s.data.toList) %256),eB fD (↑(sum s.data.toList)/256)] 5 (0,0) j;have h3:((w.alloc (fC #[eB fD 126] 5)).alloc (fC C 5 fr)).heap.size=w.heap.size+1+1:=gY;rw[h3]at h2;rw[h2,<-GV,<-GX];simpa[iO]using hu
 case c2=>intro u hu;simp[iO]at hu;rcases hu with rfl|rfl<;>rfl
 case c3=>unfold maxLen;omega
 case c4=>omega
 intro g1 CC w1 BK kE jF;have yo:eE w w1:=by
  refine Below.grown ?_ kE ?_ ?_
  ·exact((((av _ _).alloc (Nat.le_refl _) _).alloc gY _).alloc (by simp;omega) _).drew
  ·simp;omega
  ·intro k hk;simp[eu]at hk;omega
 have OT:w.heap.size<g1:=by
  rcases jF with h|h
  ·simp[eu]at h;omega
  ·omega
 have ud:Row w1 1 (σ (μ ⟨w.heap.size,0,ν⟩) 1 1) 1 (iO [126]):=by
  refine Row.kept (row:=μ (w.heap.size+1)) ?q1 kE ?q2
  case q1=>exact(((Row.made w 1 5 #[.int .u8 126] (0,0) 1 1 (iO [126]) rfl rfl (Nat.le_refl _) eA (.inl rfl) (by simp[iO])).alloc _).alloc _).drew
  case q2=>
   intro k hk;have uL:w.heap.size=k:=by simpa[eu]using hk
   intro e;have e':w.heap.size+1=k:=by simpa using e
   omega
 have hS:Row w1 1 (σ (μ ⟨g1,0,ν⟩) (s.size+2) CC) (s.size+2) (iO L):=by
  rw[hL,lT,lI];exact BK
 clear BK kE jF iW aeO
 go_wp2
 go_loopw [5,25] (λv i wr=>∃(k g cp:Nat) (E:List UInt8),E=126::sC (L.take k)/\k<=L.length/\i=ι κ k/\v=σ (μ ⟨g,0,ν⟩) E.length cp/\Row wr 1 v E.length (iO E)/\
  Row wr 1 (σ (μ ⟨g1,0,ν⟩) (s.size+2) CC) (s.size+2) (iO L)/\w.heap.size<=g/\g≠g1/\eE w wr)
  (λ_ i _=>L.length-(eY i).toNat)
 case atStart=>exact⟨0,w.heap.size,1,[126],rfl,Nat.zero_le _,rfl,rfl,ud,hS,Nat.le_refl _,eh,yo⟩
 case round=>
  obtain⟨k,g,cp,E,MO,hk,rfl,rfl,J,Q,J5,TP,G⟩:=hrel;have OO:E.length<=1+2*62:=by
   have h1:=Dc (L.take k);have h2:(L.take k).length<=62:=by simp;omega
   rw[MO];simp only[eZ];omega
  have HE:Hid _:=MO;clear MO;clear ud hS yo;have m1:E.length+1<=maxLen:=by unfold maxLen;omega
  have m2:E.length+2<=maxLen:=by unfold maxLen;omega
  have b1:(E.length+1)*1<=140737488355328:=eh;have b2:(E.length+2)*1<=140737488355328:=eh;by_cases kB:k<L.length
  ·have hcell:=Q.cell k _ (yg L k kB);have hx:=ZR L[k];have HN:Hid (126::sC (L.take (k+1))=E++CH L[k]):=by
    have:L.take (k+1)=L.take k++ [L[k]] :=aB kB;rw[HE.out,this,Qs];rfl
   have HC:Hid (rR L[k] =true↔_):=Qt L[k];obtain⟨c,hc⟩:∃c,c=L[k] :=⟨_,rfl⟩
   rw[<-hc]at hcell hx HN HC;clear hc;have hT:∀(T:rR c=true) (D A:Nat) (Z:dY),Row Z 1 (σ (μ ⟨D,0,ν⟩) (E.length+2) A) (E.length+2) (iO E++ [.int .u8 125,.int .u8 ((c^^^32).toNat:Int)])->
    Row Z 1 (σ (μ ⟨D,0,ν⟩) (126::sC (L.take (k+1))).length A) (126::sC (L.take (k+1))).length (iO (126::sC (L.take (k+1))))/\(126::sC (L.take (k+1))).length=E.length+2:=by
    intro T D A Z hr;rw[HN.out];have e1:CH c=[125,c^^^32] :=by simp[CH,T]
    rw[e1];refine⟨?_,gY⟩;rw[lI,aA];exact hr
   have hO:∀(T:¬rR c=true) (D A:Nat) (Z:dY),Row Z 1 (σ (μ ⟨D,0,ν⟩) (E.length+1) A) (E.length+1) (iO E++ [.int .u8 (c.toNat:Int)])->
    Row Z 1 (σ (μ ⟨D,0,ν⟩) (126::sC (L.take (k+1))).length A) (126::sC (L.take (k+1))).length (iO (126::sC (L.take (k+1))))/\(126::sC (L.take (k+1))).length=E.length+1:=by
    intro T D A Z hr;rw[HN.out];have e1:CH c=[c] :=by simp[CH,T]
    rw[e1];refine⟨?_,gY⟩;rw[lI,aA];exact hr
   by_cases h1:((c.toNat:Int)==126)=true
   ·have T:rR c=true:=HC.out.mpr (.inl (by simpa using h1));go_wp2_with(at_builtin;go_must(refine iG _ rfl (.tmp 39) (.tmp 42) 140 rfl 5 i0 (.int .u8 0) 1 1 underlying140 hi ox nh mO rfl eA _ E.length (iO E) rfl (J.alloc _) _ 2 2 [.int .u8 125,.int .u8 ((c^^^32).toNat:Int)] rfl rfl eA (pI _ _ _ _) (lK _ _ _ _) m2 b2 ?_));intro U cap2 Z X Y V;obtain⟨y,M⟩:=hT T U cap2 Z X;have R:=vJ Y V Q J5 TP G;have S:Hid _:=M;clear M Y V X J Q G hcell hx
    go_wp2
    go_roundw
    case rel=>exact⟨k+1,U,cap2,_,rfl,eh,by go_num,by rw[S.out],by rw[<-S.out];exact y,R.1,R.2.1,R.2.2.1,R.2.2.2⟩
    case measure=>simp[eY];omega
   ·have yr:((c.toNat:Int)==126)=false:=by simpa using h1
    by_cases h2:((c.toNat:Int)==125)=true
    ·have T:rR c=true:=HC.out.mpr (.inr (.inl (by simpa using h2)));go_wp2_with(at_builtin;go_must(refine iG _ rfl (.tmp 39) (.tmp 42) 140 rfl 5 i0 (.int .u8 0) 1 1 underlying140 hi ox nh mO rfl eA _ E.length (iO E) rfl (J.alloc _) _ 2 2 [.int .u8 125,.int .u8 ((c^^^32).toNat:Int)] rfl rfl eA (pI _ _ _ _) (lK _ _ _ _) m2 b2 ?_));intro U cap2 Z X Y V;obtain⟨y,M⟩:=hT T U cap2 Z X;have R:=vJ Y V Q J5 TP G;have S:Hid _:=M;clear M Y V X J Q G hcell hx
     go_wp2
     go_roundw
     case rel=>exact⟨k+1,U,cap2,_,rfl,eh,by go_num,by rw[S.out],by rw[<-S.out];exact y,R.1,R.2.1,R.2.2.1,R.2.2.2⟩
     case measure=>simp[eY];omega
    ·have AB:((c.toNat:Int)==125)=false:=by simpa using h2
     by_cases h3:(c.toNat:Int)<32
     ·have T:rR c=true:=HC.out.mpr (.inr (.inr h3));go_wp2_with(at_builtin;go_must(refine iG _ rfl (.tmp 39) (.tmp 42) 140 rfl 5 i0 (.int .u8 0) 1 1 underlying140 hi ox nh mO rfl eA _ E.length (iO E) rfl (J.alloc _) _ 2 2 [.int .u8 125,.int .u8 ((c^^^32).toNat:Int)] rfl rfl eA (pI _ _ _ _) (lK _ _ _ _) m2 b2 ?_));intro U cap2 Z X Y V;obtain⟨y,M⟩:=hT T U cap2 Z X;have R:=vJ Y V Q J5 TP G;have S:Hid _:=M;clear M Y V X J Q G hcell hx
      go_wp2
      go_roundw
      case rel=>exact⟨k+1,U,cap2,_,rfl,eh,by go_num,by rw[S.out],by rw[<-S.out];exact y,R.1,R.2.1,R.2.2.1,R.2.2.2⟩
      case measure=>simp[eY];omega
     ·have T:¬rR c=true:=by
       rw[HC.out];simp at yr AB;omega
      go_wp2_with(at_builtin;go_must(refine iG _ rfl (.tmp 44) (.tmp 46) 140 rfl 5 i0 (.int .u8 0) 1 1 underlying140 hi ox nh mO rfl eA _ E.length (iO E) rfl (J.alloc _) _ 1 1 [.int .u8 (c.toNat:Int)] rfl rfl eA (qE _ _ _) (wY _ _) m1 b1 ?_));intro U cap2 Z X Y V;obtain⟨y,M⟩:=hO T U cap2 Z X;have R:=vJ Y V Q J5 TP G;have S:Hid _:=M;clear M Y V X J Q G hcell hx
      go_wp2
      go_roundw
      case rel=>exact⟨k+1,U,cap2,_,rfl,eh,by go_num,by rw[S.out],by rw[<-S.out];exact y,R.1,R.2.1,R.2.2.1,R.2.2.2⟩
      case measure=>simp[eY];omega
  ·go_wp2_with(at_builtin;go_must(refine iG _ rfl (.tmp 49) (.tmp 50) 140 rfl 5 i0 (.int .u8 0) 1 1 underlying140 hi ox nh mO rfl eA _ E.length (iO E) rfl (J.alloc _) _ 1 1 [.int .u8 126] rfl rfl eA (qE _ _ _) (wY _ _) m1 b1 ?_));intro U cap2 Z X Y V;have R:=vJ Y V Q J5 TP G;have WZ:k=L.length:=eh;have hF:lL s.data.toList=E++ [126] :=by
    rw[HE.out,WZ,aJ (Nat.le_refl _),hL];rfl
   have ZO:(convert 140 9 (σ (μ ⟨U,0,ν⟩) (E.length+1) cap2)).run eX Z=.ok (.string ⟨(E++ [126]).toArray⟩) Z:=by
    refine Row.back (n:=E.length+1) ?_ 140 9 5 underlying140 underlying5 underlying9;rw[lI];exact X
   clear X Y V J Q G;have HF:Hid _:=hF;clear hF WZ
   go_wp2
   go_ret2
   exact⟨by rw[HF.out];rfl,R.2.2.2⟩
theorem OU(s:ByteArray)(w:dY)(hs:60<s.size)(Z:s.size<=maxLen):
 eW eX 197 #[.string s] w λe w'=>e=ρ (τ #[.string fE,.iface 128 (ι κ 2)])/\w=w':=by
 unfold maxLen at Z;have hle:(60:Int)<(s.size:Int):=eh
 go_in
 go_wp2
 go_ret2
 exact⟨rfl,rfl⟩
def jY(x:Int):UInt8:=UInt8.ofNat x.toNat
theorem nD(x:Int)(h0:0<=x)(h1:x<=255):((jY x).toNat:Int)=x:=by
 unfold jY;rw[UInt8.toNat_ofNat_of_lt' (by show x.toNat<256;omega)];omega
def BL(os:List jE):List UInt8:=os.flatMap λo=>[jY o.1,jY o.2]
def mD(code id:Int)(os:List jE):List UInt8:=jY code::jY id::jY os.length::BL os
theorem MR(os:List jE)(o:jE):BL (os++ [o])=BL os++ [jY o.1,jY o.2] :=by simp[BL]
theorem rT(os:List jE):(BL os).length=2*os.length:=by
 induction os with
 |nil=>rfl
 |cons o r ih=>simp only[BL,fA,fB,eZ,List.length_nil]at ih⊢;omega
theorem DU:∀(r seen:List jE),pW seen r=0->∀o∈r,yq o.1=true/\yq o.2=true
 |[],_,_,o,Z=>by simp at Z
 |x::r,seen,h,o,Z=>by
  unfold pW at h;split at h
  ·simp at h
  ·rename_i Y
   split at h
   ·simp at h
   ·rcases aP.mp Z with rfl|Z
    ·simpa using Y
    ·exact DU r _ h o Z
theorem MS {code id:Int} {os:List jE} (h:jS code id os=0):1<=code/\code<=6/\(0<=id/\id<=255)/\os.length<=8/\(5<=code->os.length=0)/\pW [] os=0:=by
 unfold jS at h;split at h
 ·simp at h
 ·rename_i h1
  split at h
  ·simp at h
  ·split at h
   ·simp at h
   ·have Z:yq id=true:=by cases hq:yq id<;>simp_all
    exact⟨eh,eh,(Db id).mp Z,eh,eh,h⟩
theorem Kr(code id:Int)(a:Option dX)(n cap:Nat)(os:List jE)(w:dY)(U:n<=1000000)(T:n<=cap)(S:jc w a n os)(hf:jS code id os≠0):
 eW eX 175 #[.agg #[ι κ code,ι κ id,σ a n cap]] w λe w'=>e=ρ (τ #[.string fE,jm (jS code id os)])/\eE w w':=by
 have Y:eE w (w.alloc (γ #[ι κ code,ι κ id,σ a n cap] 37)):=(av _ _).alloc (Nat.le_refl _) _;have Z:=uf code id a n cap os (w.alloc (γ #[ι κ code,ι κ id,σ a n cap] 37)) U T (S.below Y);generalize jS code id os=f at hf Z;have X:jm f=.iface 128 (ι κ (f:Int)):=by simp[jm,hf]
 rw[X]at Z⊢;clear X
 go_in
 go_wp2_with(fail);refine Z.mono ?_;rintro e w1 ⟨rfl,V⟩
 go_wp2
 go_ret2
 exact⟨rfl,gk Y V⟩
theorem IU(code id:Int)(a:Option dX)(n cap:Nat)(os:List jE)(w:dY)(Km:n<=cap)(ho:jc w a n os)(hf:jS code id os=0):
 eW eX 175 #[.agg #[ι κ code,ι κ id,σ a n cap]] w λe w'=>e=ρ (τ #[.string ⟨(mD code id os).toArray⟩,η])/\eE w w':=by
 obtain⟨i0,hi,ox,nh,mO⟩:=aY ZS;obtain⟨p1,p2,⟨p3,p4⟩,p5,p6,p7⟩:=MS hf;have nL:=DU os [] p7;have hl:=ho.1;have M:eE w (w.alloc (γ #[ι κ code,ι κ id,σ a n cap] 37)):=(av _ _).alloc (Nat.le_refl _) _;have Q:=uf code id a n cap os (w.alloc (γ #[ι κ code,ι κ id,σ a n cap] 37)) eh Km (ho.below M);have e0:jm 0=η:=rfl;rw[hf,e0]at Q;clear e0 p6 p7 hf;have TQ:∀w1:dY,Below (w.alloc (γ #[ι κ code,ι κ id,σ a n cap] 37)).heap.size (w.alloc (γ #[ι κ code,ι κ id,σ a n cap] 37)) w1->
  w1.cell? ⟨w.heap.size,0,ν⟩=μ (ι κ code)/\w1.cell? ⟨w.heap.size,1,ν⟩=μ (ι κ id)/\w1.cell? ⟨w.heap.size,2,ν⟩=μ (σ a n cap):=by
  intro w1 hb;have T:w.heap.size<(w.alloc (γ #[ι κ code,ι κ id,σ a n cap] 37)).heap.size:=gY;have hA:=λj=>ar w #[ι κ code,ι κ id,σ a n cap] 37 (0,0) j;exact⟨(hb.cell (p:=⟨w.heap.size,0,ν⟩) T).trans (hA 0),(hb.cell (p:=⟨w.heap.size,1,ν⟩) T).trans (hA 1),(hb.cell (p:=⟨w.heap.size,2,ν⟩) T).trans (hA 2)⟩
 go_in
 go_wp2_with(fail);refine Q.mono ?_;rintro e w1 ⟨rfl,U⟩;obtain⟨q0,q1,q2⟩:=TQ w1 U;have vH:=gk M U;have T:w.heap.size<w1.heap.size:=by
  have:=U.size;simp at this;omega
 clear TQ U Q M;go_wp2_with(fail);have ud:Row (w1.alloc (γ #[.int .u8 code,.int .u8 id,.int .u8 (n:Int)] 5)) 1 (σ (μ ⟨w1.heap.size,0,ν⟩) 3 3) 3 (iO [jY code,jY id,jY os.length]):=by
  refine Row.made w1 1 5 _ (0,0) 3 3 _ rfl rfl (Nat.le_refl _) eA (.inl rfl) ?_;intro j u hu;simp only[iO,eN,eO,nD code eh eh,nD id p3 p4,hl,nD (n:Int) eh eh]at hu;simpa using hu
 have yo:eE w (w1.alloc (γ #[.int .u8 code,.int .u8 id,.int .u8 (n:Int)] 5)):=vH.alloc vH.size _
 go_loopw [5,27] (λv i wr=>∃(k g cp:Nat) (E:List UInt8),E=jY code::jY id::jY os.length::BL (os.take k)/\k<=n/\i=ι κ k/\v=σ (μ ⟨g,0,ν⟩) E.length cp/\Row wr 1 v E.length (iO E)/\
  w.heap.size<=g/\eE w wr)
  (λ_ i _=>n-(eY i).toNat)
 case atStart=>exact⟨0,w1.heap.size,3,_,rfl,Nat.zero_le _,rfl,rfl,ud,vH.size,yo⟩
 case round=>
  obtain⟨k,g,cp,E,y,hk,rfl,rfl,X,J5,Y⟩:=hrel;have OO:E.length<=19:=by
   have h1:=rT (os.take k);have h2:(os.take k).length<=8:=by simp;omega
   rw[y];simp only[eZ];omega
  have HE:Hid _:=y;have HL:Hid _:=hl;clear y ud yo hl;have m2:E.length+2<=maxLen:=by unfold maxLen;omega
  have b2:(E.length+2)*1<=140737488355328:=eh;by_cases kB:k<n
  ·have Am:=ho.below Y;rcases Am.2 with h0|⟨b,off,rfl,hc⟩
   ·omega
   have qF:k<os.length:=by rw[HL.out];exact kB
   obtain⟨c1,c2⟩:=hc k qF;obtain⟨S,a2⟩:=nL os[k] (aG _);have HT:Hid (os.take (k+1)=os.take k++ [os[k]]):=aB qF;generalize os[k] =o at c1 c2 HT S a2;obtain⟨G,A⟩:=(Db o.1).mp S;obtain⟨o2a,D⟩:=(Db o.2).mp a2;clear hc S a2 Am;have nQ:(k:Int)<(n:Int):=eh;have ZN:eE w (wr.alloc (γ #[ι κ o.1,ι κ o.2] 276)):=Y.alloc Y.size _;have Z:Row (wr.alloc (γ #[ι κ o.1,ι κ o.2] 276)) 1 (σ (μ ⟨g,0,ν⟩) E.length cp) E.length (iO E):=X.alloc _;go_wp2_with(at_builtin;go_must(refine iG _ rfl (.tmp 31) (.tmp 38) 140 rfl 5 i0 (.int .u8 0) 1 1 underlying140 hi ox nh mO rfl eA _ E.length (iO E) rfl (Z.alloc _) _ 2 2 [.int .u8 o.1,.int .u8 o.2] rfl rfl eA ?hcc (lK _ _ _ _) m2 b2 ?_))
   case hcc=>
    have:=pI (wr.alloc (γ #[ι κ o.1,ι κ o.2] 276)) (.int .u8 o.1) (.int .u8 o.2) 5;simpa using this
   intro V cap2 w2 sT sv kU;have sy:μ g=μ V \/(wr.alloc (γ #[ι κ o.1,ι κ o.2] 276)).heap.size+1<=V:=by
    rcases kU with h|h
    ·exact .inl h
    ·exact .inr (by simp;omega)
   have R:=GD sv sy J5 ZN;have sA:Row w2 1 (σ (μ ⟨V,0,ν⟩) (E.length+2) cap2) (E++ [jY o.1,jY o.2]).length (iO (E++ [jY o.1,jY o.2])):=by
    rw[lI,aA];simp only[iO,eN,eO,nD o.1 G A,nD o.2 o2a D];exact sT
   have HN:Hid (E++ [jY o.1,jY o.2] =jY code::jY id::jY os.length::BL (os.take (k+1))):=by
    show E++ [jY o.1,jY o.2] =_;rw[HE.out,HT.out,MR];rfl
   have J:Hid ((E++ [jY o.1,jY o.2]).length=E.length+2):=by show(E++ [jY o.1,jY o.2]).length=E.length+2;simp
   clear sT sv kU sy X Y ZN Z
   go_wp2
   go_roundw
   case rel=>exact⟨k+1,V,cap2,_,HN.out,eh,by go_num,by rw[J.out],sA,R.1,R.2⟩
   case measure=>simp[eY];omega
  ·have ZO:(convert 140 9 (σ (μ ⟨g,0,ν⟩) E.length cp)).run eX wr=.ok (.string ⟨E.toArray⟩) wr:=Row.back X 140 9 5 underlying140 underlying5 underlying9;have HF:Hid (mD code id os=E):=by
    show mD code id os=E;have ze:os.take k=os:=aJ (by rw[HL.out];omega);rw[HE.out,ze];rfl
   clear X;go_wp2_with(fail);rw[HF.out]
   go_ret2
   exact⟨rfl,Y⟩
theorem TR:(eX.info? 276).map (λi=>(i.zero,i.size,i.bytes))=μ (μ (.agg #[ι κ 0,ι κ 0]),2,16):=gq
theorem TS(w:dY):(zeroValue 37).run eX w=.ok (.agg #[ι κ 0,ι κ 0,σ ν 0 0]) w:=gq
theorem AE(w:dY)(x y:dZ)(t:ew):∀(j:Nat) (u:dZ),[x,y][j]? =μ u->(w.alloc (γ #[x,y] t)).drew.cell? ((⟨w.heap.size,0,ν⟩:dX).add j)=μ u:=λj u Z=>pI w x y t j u Z
theorem rU(Y:∀k,v.ownBlock=μ k->lo+2<=k)(Z:(wr.alloc o).drew.grownBy x1 v.ownBlock)(hb:b<lo+2)(X:b<wr.heap.size):x1.heap[b]? =wr.heap[b]? :=by
 rw[Z.block b (by show b<(wr.alloc o).heap.size;simp;omega) (λe=>by have:=Y b e.symm;omega)];exact aU wr o b X
theorem Ks(Y:∀k,v.ownBlock=μ k->lo+2<=k)(Z:(wr.alloc o).drew.grownBy x1 v.ownBlock)(hc:wr.cell? ⟨lo+1,j,ν⟩=μ u):x1.cell? ⟨lo+1,j,ν⟩=μ u:=by
 have X:lo+1<wr.heap.size:=ag wr _ hc;rw[aj (w:=wr) (a:=⟨lo+1,j,ν⟩) (rU (b:=lo+1) Y Z eh X)];exact hc
theorem Ga(Y:∀k,v.ownBlock=μ k->lo+2<=k)(Z:(wr.alloc o).drew.grownBy x1 v.ownBlock)(hc:wr.cell? ⟨lo+1,j,ν⟩=μ u)(hf:wr.frozen? ⟨lo+1,j,ν⟩=false):x1.frozen? ⟨lo+1,j,ν⟩=false:=by
 have X:lo+1<wr.heap.size:=ag wr _ hc;rw[aM (w:=wr) (a:=⟨lo+1,j,ν⟩) (rU (b:=lo+1) Y Z eh X)];exact hf
def mL:List UInt8->List jE
 |k::n::r=>((k.toNat:Int),(n.toNat:Int))::mL r
 |_=>[]
theorem BM(s:ByteArray)(k:Nat)(h:k<s.size):s.data.toList.drop k=s[k] ::s.data.toList.drop (k+1):=by
 rw[aS (by simpa using h)];rfl
theorem vR(Y:wr.heap[w.heap.size]? =μ (γ #[ι κ 0,ι κ 0,σ ν 0 0] 37 (0,0)))(hb:eE wr w1):
 w1.cell? ⟨w.heap.size,0,ν⟩=μ (ι κ 0)/\w1.cell? ⟨w.heap.size,1,ν⟩=μ (ι κ 0)/\w1.cell? ⟨w.heap.size,2,ν⟩=μ (σ ν 0 0)/\∀j,w1.frozen? ⟨w.heap.size,j,ν⟩=false:=by
 have X:w.heap.size<wr.heap.size:=(ay.1 Y).1;have Z:w1.heap[w.heap.size]? =μ (γ #[ι κ 0,ι κ 0,σ ν 0 0] 37 (0,0)):=by rw[hb.block _ X];exact Y
 exact⟨ax w1 _ 0 _ 37 (0,0) Z,ax w1 _ 1 _ 37 (0,0) Z,ax w1 _ 2 _ 37 (0,0) Z,λj=>bE w1 _ j _ 37 Z⟩
def iY(l:List UInt8):Int×Int×List jE×Nat:=
 if l.length<3 \/(l.length:Int)≠(3:Int)+(2:Int)*((l.getD 2 0).toNat:Int)then(0,0,[],4)
 else if jS ((l.getD 0 0).toNat:Int) ((l.getD 1 0).toNat:Int) (mL (l.drop 3))=0 then(((l.getD 0 0).toNat:Int),((l.getD 1 0).toNat:Int),mL (l.drop 3),0)
 else(0,0,[],4)
def DW(l:List UInt8)(w:dY)(e:Ending)(w':dY):Prop:=
 ∃(a:Option dX) (n cap f:Nat) (code id:Int) (os:List jE),e=ρ (τ #[.agg #[ι κ code,ι κ id,σ a n cap],jm f])/\jc w' a n os/\n<=cap/\iY l=(code,id,os,f)/\eE w w'/\(∀j,eu (σ a n cap)=μ j->w.heap.size<=j/\j<w'.heap.size)/\kI a cap
theorem xR(s:ByteArray)(h3:3<=s.size)(heq:(s.size:Int)=(3:Int)+(2:Int)*(s[2].toNat:Int)):
 iY s.data.toList=if jS (s[0].toNat:Int) (s[1].toNat:Int) (mL (s.data.toList.drop 3))=0 then((s[0].toNat:Int),(s[1].toNat:Int),mL (s.data.toList.drop 3),0)else(0,0,[],4):=by
 have hl:s.data.toList.length=s.size:=gY;unfold iY;rw[nV s 0 eh,nV s 1 eh,nV s 2 eh,hl,af eh]
theorem BN {x y z:dZ} (X:Row w1 2 (σ ao k cp) k (iR ok))(Y:∀j,eu (σ ao k cp)=μ j->w.heap.size+2<=j)(hb:eE w w1):
 jc (((w1.setCell ⟨w.heap.size,0,ν⟩ x).setCell ⟨w.heap.size,1,ν⟩ y).setCell ⟨w.heap.size,2,ν⟩ z) ao k ok/\eE w (((w1.setCell ⟨w.heap.size,0,ν⟩ x).setCell ⟨w.heap.size,1,ν⟩ y).setCell ⟨w.heap.size,2,ν⟩ z):=by
 refine⟨Row.opts (X.keep gY (λj Z=> ?_)),((hb.setCell (Nat.le_refl _) _).setCell (Nat.le_refl _) _).setCell (Nat.le_refl _) _⟩;have:=Y j Z;rw[aq _ _ _ _ (by show j≠w.heap.size;omega),aq _ _ _ _ (by show j≠w.heap.size;omega),aq _ _ _ _ (by show j≠w.heap.size;omega)]
theorem CI(w:dY)(a b:Obj):((w.alloc a).alloc b).drew.heap[w.heap.size+1]? =μ b:=by
 have h:=aZ (w.alloc a) b;have e:(w.alloc a).heap.size=w.heap.size+1:=gY;rw[e]at h;exact h
theorem AF(w:dY)(a b:Obj):((w.alloc a).alloc b).drew.heap[w.heap.size]? =μ a:=by
 show((w.alloc a).alloc b).heap[w.heap.size]? =μ a;rw[aU (w.alloc a) b w.heap.size gY];exact aZ w a
theorem IV {ob:Obj} {g' jr:Nat} {c d:Int} {x y:Nat}
 (S:wr.heap[w.heap.size+1]? =μ (γ #[ι κ c,ι κ d,σ ao k cp] 37 (0,0)))
 (G:wr.heap[w.heap.size]? =μ (γ #[ι κ 0,ι κ 0,σ ν 0 0] 37 (0,0)))
 (_hrow:Row wr 2 (σ ao k cp) k (iR ok)) (Y:∀j,eu (σ ao k cp)=μ j->w.heap.size+2<=j) (V:eE w wr)
 (T:Row x1 2 (σ (μ ⟨g',0,ν⟩) (k+1) jr) (k+1) (iR ok++ [ι κ (ft.wrap (x:Int)),ι κ (ft.wrap (y:Int))]))
 (X:(wr.alloc ob).drew.grownBy x1 (eu (σ ao k cp))) (J:eu (σ ao k cp)=μ g' \/(wr.alloc ob).drew.heap.size<=g') (hx:x<2^8) (hy:y<2^8):
 Row (x1.setCell ⟨w.heap.size+1,2,ν⟩ (σ (μ ⟨g',0,ν⟩) (k+1) jr)) 2 (σ (μ ⟨g',0,ν⟩) (k+1) jr) (k+1) (iR (ok++ [((x:Int),(y:Int))]))/\
 (x1.setCell ⟨w.heap.size+1,2,ν⟩ (σ (μ ⟨g',0,ν⟩) (k+1) jr)).heap[w.heap.size+1]? =μ (γ #[ι κ c,ι κ d,σ (μ ⟨g',0,ν⟩) (k+1) jr] 37 (0,0))/\
 (x1.setCell ⟨w.heap.size+1,2,ν⟩ (σ (μ ⟨g',0,ν⟩) (k+1) jr)).heap[w.heap.size]? =μ (γ #[ι κ 0,ι κ 0,σ ν 0 0] 37 (0,0))/\
 (∀j,eu (σ (μ ⟨g',0,ν⟩) (k+1) jr)=μ j->w.heap.size+2<=j)/\eE w (x1.setCell ⟨w.heap.size+1,2,ν⟩ (σ (μ ⟨g',0,ν⟩) (k+1) jr)):=by
 have M:w.heap.size+1<wr.heap.size:=(ay.1 S).1;have k1:=rU (b:=w.heap.size+1) Y X eh M;have k0:=rU (b:=w.heap.size) Y X eh eh;have ZT:(wr.alloc ob).drew.heap.size=wr.heap.size+1:=by show(wr.alloc ob).heap.size=_;simp
 have OT:w.heap.size+2<=g':=by
  rcases J with h|h
  ·exact Y g' h
  ·omega
 have U:x1.heap[w.heap.size+1]? =μ (γ #[ι κ c,ι κ d,σ ao k cp] 37 (0,0)):=by rw[k1];exact S
 refine⟨?_,?_,?_,?_,?_⟩
 ·have ex:ft.wrap (x:Int)=(x:Int):=aX _ ⟨eh,eh⟩;have Q:ft.wrap (y:Int)=(y:Int):=aX _ ⟨eh,eh⟩;rw[ex,Q,<-mb ok ((x:Int),(y:Int))]at T;refine T.keep gY (λj Z=> ?_);have:g'=j:=by simpa[eu]using Z
  exact aq _ _ _ _ (by show j≠w.heap.size+1;omega)
 ·rw[bP x1 (w.heap.size+1) 2 _ 37 (0,0) _ U];exact cE x1 _ _ _ 37 (0,0) U
 ·rw[aq _ _ _ _ (by show w.heap.size≠w.heap.size+1;omega),k0];exact G
 ·intro j Z;have:g'=j:=by simpa[eu]using Z
  omega
 ·have E:eE w (wr.alloc ob).drew:=(V.alloc V.size _).drew;refine bz ?_ (by show w.heap.size<=w.heap.size+1;omega) _;refine E.grown X eh (λj Z=> ?_);have:=Y j Z;omega
theorem IW(s:ByteArray)(w:dY)(hs:s.size<=1000)(h3:3<=s.size)(heq:(s.size:Int)=(3:Int)+(2:Int)*(s[2].toNat:Int)):
 eW eX 184 #[.string s] w λe w'=>DW s.data.toList w e w':=by
 obtain⟨i0,hi,ox,nh,mO⟩:=aY TR;have hz:=TS;have g1:¬(s.size:Int)<3:=eh;have mR:=s[2].toNat_lt;have g2:((s.size:Int) !=(3:Int)+(2:Int)*(s[2].toNat:Int))=false:=by rw[heq];simp
 have HE:Hid _:=heq;clear heq;have b0:0<s.size:=eh;have b1:1<s.size:=eh;have b2:2<s.size:=eh;have yo:=s[0].toNat_lt;have Z:=s[1].toNat_lt;have z0:(0:Int)<(s.size:Int):=eh;have z1:(1:Int)<(s.size:Int):=eh
 go_in
 go_wp2
 go_region
 go_wp2
 go_loopw [5] (λi wr=>∃(k cp:Nat) (ao:Option dX) (ok:List jE),3+2*k<=s.size/\i=ι κ ((3+2*k:Nat):Int)/\ok.length=k/\mL (s.data.toList.drop 3)=ok++mL (s.data.toList.drop (3+2*k))/\Row wr 2 (σ ao k cp) k (iR ok)/\
  wr.heap[w.heap.size+1]? =μ (γ #[ι κ (s[0].toNat:Int),ι κ (s[1].toNat:Int),σ ao k cp] 37 (0,0))/\wr.heap[w.heap.size]? =μ (γ #[ι κ 0,ι κ 0,σ ν 0 0] 37 (0,0))/\
  (∀j,eu (σ ao k cp)=μ j->w.heap.size+2<=j)/\eE w wr)
  (λi _=>s.size-(eY i).toNat)
 case atStart=>
  refine⟨0,0,ν,[],eh,rfl,rfl,rfl,Row.nil _ _,?_,?_,λj Y=>by simp[eu]at Y,(((av _ _).alloc (Nat.le_refl _) _).alloc gY _).drew⟩
  ·exact CI w _ _
  ·exact AF w _ _
 case round=>
  obtain⟨k,cp,ao,ok,hk,rfl,iN,D,X,h,DV,G,iK⟩:=hrel;have hP:Hid _:=D;clear D;have cv:wr.cell? ⟨w.heap.size+1,2,ν⟩=μ (σ ao k cp):=ax wr _ 2 _ 37 (0,0) h;have fv:wr.frozen? ⟨w.heap.size+1,2,ν⟩=false:=bE wr _ 2 _ 37 h;have XJ:w.heap.size+1<wr.heap.size:=ag wr _ cv;have Q:Hid _:=h;have S:Hid _:=DV;clear h DV;by_cases kB:3+2*k<s.size
  ·have Gb:3+2*k+1<s.size:=by have:=HE.out;omega
   obtain⟨q,hq⟩:∃q,q=3+2*k:=⟨_,rfl⟩
   rw[<-hq]at kB Gb;have HQ:Hid _:=hq;have y0:(0:Int)<=(q:Int):=eh;have y1:(q:Int)<(s.size:Int):=eh;have y2:(q:Int)+1<(s.size:Int):=eh;have y3:(0:Int)<=(q:Int)+1:=eh;have yw:ft.wrap ((q:Int)+1)=(q:Int)+1:=aX _ ⟨eh,eh⟩;have hbq:=s[q].toNat_lt;have ajo:=s[q+1].toNat_lt;have m1:k+1<=maxLen:=by unfold maxLen;omega
   have bb1:(k+1)*16<=140737488355328:=eh;rw[<-hq];clear hq;have HP2:Hid (mL (s.data.toList.drop 3)=(ok++ [((s[q].toNat:Int),(s[q+1].toNat:Int))])++mL (s.data.toList.drop (3+2*(k+1)))):=by
    show mL (s.data.toList.drop 3)=_;rw[hP.out,<-HQ.out,BM s q kB,BM s (q+1) Gb];have T:q+1+1=3+2*(k+1):=by have:=HQ.out;omega
    rw[T];simp[mL]
   go_wp2
   go_region_law ((refine lU (by rfl) (.tmp 35) (.tmp 46) 35 (by rfl) 276 i0 (.agg #[ι κ 0,ι κ 0]) 2 16 underlying35 hi ox nh mO (by rfl) eA (σ ao k cp) k (iR ok) (by rfl) ((X.alloc _).drew) _ 1 1 [ι κ (ft.wrap (s[q].toNat:Int)),ι κ (ft.wrap (s[q+1].toNat:Int))] (by rfl) (by rfl) eA (AE _ _ _ _) (lK _ _ _ _) m1 bb1 ?_;intro g' jr x1 k8 A jF;have c1:=Ks G A cv;have f1:=Ga G A cv fv))
   all_goals have hS:=IV (c:=(s[0].toNat:Int)) (d:=(s[1].toNat:Int)) Q.out S.out X G iK k8 A jF s[q].toNat_lt s[q+1].toNat_lt
   all_goals clear k8 A jF c1 f1
   all_goals go_wp2_with(fail)
   all_goals go_roundw
   all_goals first
    |exact⟨k+1,jr,some ⟨g',0,none⟩,_,by have:=HQ.out;omega,by have:=HQ.out;go_num,by simp[iN],HP2.out,hS⟩
    |(simp[eY];omega)
  ·have J:3+2*k=s.size:=eh;have TU:mL (s.data.toList.drop 3)=ok:=by
    rw[hP.out,J,a9 (by show s.size<=s.size;omega)];simp[mL]
   have CG:=X.opts;have Da:=X.Tq;have c0:wr.cell? ⟨w.heap.size+1,0,ν⟩=μ (ι κ (s[0].toNat:Int)):=ax wr _ 0 _ 37 (0,0) Q.out;have c1:wr.cell? ⟨w.heap.size+1,1,ν⟩=μ (ι κ (s[1].toNat:Int)):=ax wr _ 1 _ 37 (0,0) Q.out;have V:=uf (s[0].toNat:Int) (s[1].toNat:Int) ao k cp ok wr eh Da CG;have HK:Hid _:=TU;clear hP TU J;by_cases hf:jS (s[0].toNat:Int) (s[1].toNat:Int) ok=0
   ·have E:jm 0=η:=rfl;rw[hf,E]at V;clear E;have HF:Hid _:=hf;clear hf;go_wp2_with(fail);refine V.mono ?_;rintro e w1 ⟨rfl,Z⟩;have d0:=(Z.cell (p:=⟨w.heap.size+1,0,ν⟩) XJ).trans c0;have d1:=(Z.cell (p:=⟨w.heap.size+1,1,ν⟩) XJ).trans c1;have d2:=(Z.cell (p:=⟨w.heap.size+1,2,ν⟩) XJ).trans cv;obtain⟨r0,r1,r2,r3⟩:=vR S.out Z;have vH:=gk iK Z;have U:Hid ((∀j,eu (σ ao k cp)=μ j->w.heap.size<=j/\j<w1.heap.size)/\kI ao cp):=⟨λj Y=>⟨by have:=G j Y;omega,(X.below Z).lt j Y⟩,λe=>by
     rcases X.2 with⟨T,_⟩|⟨g9,c9,T,_⟩
     ·simp at T;exact T.2.2
     ·rw[e]at T;simp at T⟩
    have M:=BN (x:=ι κ (s[0].toNat:Int)) (y:=ι κ (s[1].toNat:Int)) (z:=σ ao k cp) (X.below Z) G vH;have HV:Hid (iY s.data.toList=((s[0].toNat:Int),(s[1].toNat:Int),ok,0)):=by
     show iY s.data.toList=_;rw[xR s h3 HE.out,HK.out,ai HF.out]
    clear V Z c0 c1 cv X;go_wp2_with(fail);refine aF (v:=τ #[.agg #[ι κ (s[0].toNat:Int),ι κ (s[1].toNat:Int),σ ao k cp],η]) (by simp[results,results184,go_sem,r0,r1,r2]) rfl ?_;exact⟨ao,k,cp,0,_,_,ok,rfl,M.1,Da,HV.out,M.2,λj Y=>⟨(U.out.1 j Y).1,by simpa using(U.out.1 j Y).2⟩,U.out.2⟩
   ·have E:jm (jS (s[0].toNat:Int) (s[1].toNat:Int) ok)=.iface 128 (ι κ (jS (s[0].toNat:Int) (s[1].toNat:Int) ok:Int)):=by simp[jm,hf]
    rw[E]at V;clear E;have HF:Hid _:=hf;clear hf;have HV:Hid (iY s.data.toList=(0,0,[],4)):=by
     show iY s.data.toList=_;rw[xR s h3 HE.out,HK.out,af HF.out]
    generalize jS (s[0].toNat:Int) (s[1].toNat:Int) ok=ff at V;go_wp2_with(fail);refine V.mono ?_;rintro e w1 ⟨rfl,Z⟩;obtain⟨r0,r1,r2,r3⟩:=vR S.out Z;have vH:=gk iK Z;have M:=BN (ok:=[]) (ao:=ν) (k:=0) (cp:=0) (x:=ι κ 0) (y:=ι κ 0) (z:=σ ν 0 0) (Row.nil w1 2) (λj Y=>by simp[eu]at Y) vH;clear V Z c0 c1 cv X CG;go_wp2_with(fail);refine aF (v:=τ #[.agg #[ι κ 0,ι κ 0,σ ν 0 0],.iface 128 (ι κ 4)]) (by simp[results,results184,go_sem,r0,r1,r2]) rfl ?_;exact⟨ν,0,0,4,0,0,[],rfl,M.1,Nat.le_refl _,HV.out,M.2,λj Y=>by simp[eu]at Y,λ_=>rfl⟩
theorem BO(s:ByteArray)(w:dY)(hs:s.size<=1000)(h:iY s.data.toList=(0,0,[],4))(hb:s.size<3 \/ ∃T:3<=s.size,(s.size:Int)≠(3:Int)+(2:Int)*(s[2].toNat:Int)):
 eW eX 184 #[.string s] w λe w'=>DW s.data.toList w e w':=by
 have hz:=TS;have U:Hid _:=h;clear h;have Y:eE w (w.alloc (γ #[ι κ 0,ι κ 0,σ ν 0 0] 37)):=(av _ _).alloc (Nat.le_refl _) _;have V:jc (w.alloc (γ #[ι κ 0,ι κ 0,σ ν 0 0] 37)) ν 0 [] :=⟨rfl,.inl rfl⟩
 rcases hb with h1|⟨T,X⟩
 ·have g1:(s.size:Int)<3:=eh
  go_in
  go_wp2_with(fail);refine aF (v:=τ #[.agg #[ι κ 0,ι κ 0,σ ν 0 0],.iface 128 (ι κ 4)]) (by simp[results,results184,go_sem]) rfl ?_;exact⟨ν,0,0,4,0,0,[],rfl,V,Nat.le_refl _,U.out,Y,λj Z=>by simp[eu]at Z,λ_=>rfl⟩
 ·have g1:¬(s.size:Int)<3:=eh;have mR:=s[2].toNat_lt;have b2:2<s.size:=eh;have g2:((s.size:Int) !=(3:Int)+(2:Int)*(s[2].toNat:Int))=true:=by rw[bne_iff_ne];exact X
  clear X
  go_in
  go_wp2_with(fail);refine aF (v:=τ #[.agg #[ι κ 0,ι κ 0,σ ν 0 0],.iface 128 (ι κ 4)]) (by simp[results,results184,go_sem]) rfl ?_;exact⟨ν,0,0,4,0,0,[],rfl,V,Nat.le_refl _,U.out,Y,λj Z=>by simp[eu]at Z,λ_=>rfl⟩
theorem Ku(s:ByteArray)(w:dY)(hs:s.size<=1000):eW eX 184 #[.string s] w λe w'=>DW s.data.toList w e w':=by
 have hl:s.data.toList.length=s.size:=gY;by_cases Z:3<=s.size
 ·by_cases heq:(s.size:Int)=(3:Int)+(2:Int)*(s[2].toNat:Int)
  ·exact IW s w hs Z heq
  ·refine BO s w hs ?_ (.inr ⟨Z,heq⟩);unfold iY;rw[nV s 2 eh,hl,ai (.inr heq)]
 ·refine BO s w hs ?_ (.inl eh);unfold iY;rw[hl,ai (.inl eh)]
open Go.ChangeShapes Go.WideShapes Go.ChangeAt
theorem Qu {enc:ew×dZ->H} {d:DataW H} 
 (h:DataW.Trod enc eX W 0 (λ_=>true) true 35 (σ a n cap) d ps):
 ∃os:List jE,jc W a n os/\kI a cap/\n<=maxLen:=by
 obtain⟨fuel,hf⟩:=h;rcases dE underlying35 underlying276 gq rfl rfl gq gq hf with⟨hcs,_⟩|⟨x,len,cp,m',n',Y,X,D0,D1,P0,P1,hcs,_,hl,hm,J,_,hx⟩
 ·simp[fF]at hcs;obtain⟨rfl,rfl,rfl⟩:=hcs;exact⟨[],⟨rfl,.inl rfl⟩,λ_=>rfl,eA⟩
 ·simp[fF]at hcs;obtain⟨rfl,rfl,rfl⟩:=hcs;simp at J;have each:∀i,i<n->W.cell? (x.add (i*2))=μ (ι κ (eY (Y i)))/\W.cell? (x.add (i*2+1))=μ (ι κ (eY (X i))):=by
   intro i hi;obtain⟨q1,q2,U,T⟩:=hx i eh;obtain⟨k,f0,_,_⟩:=bh underlying3 U;obtain⟨n,f1,_,_⟩:=bh underlying3 T;simp at f0 f1;exact⟨by rw[q1,f0];rfl,by rw[q2,f1];rfl⟩
  refine⟨(List.range n).map (λi=>(eY (Y i),eY (X i))),⟨gY,?_⟩,λh=>by simp at h,eh⟩;by_cases S:n=0
  ·exact .inl S
  ·obtain⟨b,off,Z⟩:=x;have hc:=(each 0 eh).1;have Q:Z=ν:=by simpa[Addr.add]using db hc
   subst Q;refine .inr ⟨b,off,rfl,λj G=> ?_⟩;have M:j<n:=by simpa using G
   have V:=each j M;rw[m9,m9]at V;simpa[Nat.add_assoc]using V
open St
structure AV where
 kind:ByteArray
 a:Int
 b:Int
 c:Int
 d:Int
 s:ByteArray
 OV:Int
 pid:Int
 po:Option dX
 pn:Nat
 DX:Nat
 x:SV
instance:Inhabited AV:=⟨⟨fE,0,0,0,0,fE,0,0,ν,0,0,SV.zero⟩⟩
def AV.at_(v:AV)(w:dY)(b o:Nat):Prop:=
 w.cell? ⟨b,o,ν⟩=μ (.string v.kind)/\w.cell? ⟨b,o+1,ν⟩=μ (ι κ v.a)/\w.cell? ⟨b,o+2,ν⟩=μ (ι κ v.b)/\w.cell? ⟨b,o+3,ν⟩=μ (ι κ v.c)/\w.cell? ⟨b,o+4,ν⟩=μ (ι κ v.d)/\w.cell? ⟨b,o+5,ν⟩=μ (.string v.s)/\
 w.cell? ⟨b,o+6,ν⟩=μ (ι κ v.OV)/\w.cell? ⟨b,o+7,ν⟩=μ (ι κ v.pid)/\w.cell? ⟨b,o+8,ν⟩=μ (σ v.po v.pn v.DX)/\
 w.cell? ⟨b,o+9,ν⟩=μ (ι κ v.x.own)/\w.cell? ⟨b,o+10,ν⟩=μ (ι κ v.x.seq)/\w.cell? ⟨b,o+11,ν⟩=μ (σ v.x.a v.x.n v.x.cap)
structure DY(w:dY)(a:Option dX)(n:Nat)(V:Nat->AV)(E:Nat->List jE):Prop where
 row:n=0 \/ ∃b off,a=μ ⟨b,off,ν⟩/\∀j,j<n->(V j).at_ w b (off+j*12)
 opt:∀j,j<n->jc w (V j).x.a (V j).x.n (E j)/\kI (V j).x.a (V j).x.cap/\(V j).x.n<=maxLen/\(V j).pn<=maxLen
 pk:∀j,j<n->∃os:List jE,jc w (V j).po (V j).pn os/\kI (V j).po (V j).DX/\(V j).pn<=(V j).DX
theorem AV.at_.below {v:AV} {w':dY} {o:Nat} (h:v.at_ w b o)(hb:eE w w'):v.at_ w' b o:=by
 obtain⟨c0,c1,c2,c3,c4,X,U,Z,T,c9,V,Y⟩:=h;have l:=ag w _ c0;have k:∀i u,w.cell? ⟨b,i,ν⟩=μ u->w'.cell? ⟨b,i,ν⟩=μ u:=λi u S=>(hb.cell (p:=⟨b,i,ν⟩) l).trans S;exact⟨k _ _ c0,k _ _ c1,k _ _ c2,k _ _ c3,k _ _ c4,k _ _ X,k _ _ U,k _ _ Z,k _ _ T,k _ _ c9,k _ _ V,k _ _ Y⟩
theorem DY.below {w w':dY} {a:Option dX} {n:Nat} {V:Nat->AV} {E:Nat->List jE} (h:DY w a n V E)(hb:eE w w'):DY w' a n V E:=by
 refine⟨?_,λj Z=>⟨(h.opt j Z).1.below hb,(h.opt j Z).2⟩,λj Z=>by obtain⟨os,o1,o2⟩:=h.pk j Z;exact⟨os,o1.below hb,o2⟩⟩;rcases h.row with Y|⟨b,off,rfl,Y⟩
 ·exact .inl Y
 ·exact .inr ⟨b,off,rfl,λj Z=>(Y j Z).below hb⟩
theorem DZ {enc:ew×dZ->H} {m:Nat} {t e:ew} {y:DataW H×List MemPlace} (Z:eX.underlying t=μ (.slice e))
 (Y:DataW.trod enc eX W 0 (λ_=>true) true m t [v] =μ y):∃(a:Option dX) (n cap:Nat),v=σ a n cap/\n<=maxLen/\n<=cap:=by
 rcases dt Z Y with⟨hcs,_⟩|⟨a,len,cap,m',n',D,Pl,hcs,_,hl,hm,_,_,_⟩
 ·simp at hcs;subst hcs;exact⟨ν,0,0,rfl,eA,Nat.le_refl _⟩
 ·simp at hcs;subst hcs;exact⟨μ a,len,cap,rfl,eh,hl⟩
theorem Qv {enc:ew×dZ->H} {d:DataW H} 
 (h:DataW.Trod enc eX W 0 (λ_=>true) true 23 (σ a n cap) d ps):
 ∃(V:Nat->AV) (E:Nat->List jE),DY W a n V E/\n<=maxLen:=by
 obtain⟨fuel,hf⟩:=h;rcases dt underlying23 hf with⟨hcs,_⟩|⟨x,len,cp,m',n',D,Pl,hcs,_,hl,hm,Kl,_,hx⟩
 ·simp[fF]at hcs;obtain⟨rfl,rfl,rfl⟩:=hcs;exact⟨λ_=>default,λ_=>[],⟨.inl rfl,λj Z=>eh,λj Z=>eh⟩,eA⟩
 ·simp[fF]at hcs;obtain⟨rfl,rfl,rfl⟩:=hcs;simp at Kl;have ce:(eX).cellsOf 42=12:=gq;rw[ce]at hx;have each:∀i,i<n->∃q:AV×List jE,(∀b off,x=⟨b,off,ν⟩->q.1.at_ W b (off+i*12))/\(W.cell? (x.add (i*12))).isSome=true/\jc W q.1.x.a q.1.x.n q.2/\kI q.1.x.a q.1.x.cap/\q.1.x.n<=maxLen/\q.1.pn<=maxLen/\∃os:List jE,jc W q.1.po q.1.pn os/\kI q.1.po q.1.DX/\q.1.pn<=q.1.DX:=by
   intro i hi;obtain⟨cs',h1,h2⟩:=hx i eh;obtain⟨_,hlen,hcell⟩:=World.cells?_some h1;obtain⟨xs,k,hk,hxy,_,Qb,Y⟩:=cZ underlying42 h2
   match xs,Qb,cs',hlen with
   |[y0,y1,y2,y3,y4,y5,y6,y7],_,[v0,v1,v2,v3,v4,v5,v6,v7,v8,v9,v10,v11],_=>
    have g0:=Y 0 _ rfl;have g1:=Y 1 _ rfl;have g2:=Y 2 _ rfl;have g3:=Y 3 _ rfl;have g4:=Y 4 _ rfl;have g5:=Y 5 _ rfl;have g6:=Y 6 _ rfl;have g7:=Y 7 _ rfl;have ci:(eX).cellsOf 3=1:=gq;have ajr:(eX).cellsOf 9=1:=gq;have y:(eX).cellsOf 37=3:=gq;have cx3:(eX).cellsOf 40=3:=gq;have A:(eX).cellsOf 38=1:=gq;have cso:(eX).cellsOf 35=1:=gq;simp[ci,ajr,y,cx3]at g0 g1 g2 g3 g4 g5 g6 g7;obtain⟨s0,f0,_,_⟩:=dw underlying9 g0;obtain⟨i1,f1,_,_⟩:=bh underlying3 g1;obtain⟨i2,f2,_,_⟩:=bh underlying3 g2;obtain⟨i3,f3,_,_⟩:=bh underlying3 g3;obtain⟨i4,f4,_,_⟩:=bh underlying3 g4;obtain⟨s5,f5,_,_⟩:=dw underlying9 g5;obtain⟨xp,kp,_,_,_,ajs,U⟩:=cZ underlying37 g6;obtain⟨xq,kq,_,_,_,aju,X⟩:=cZ underlying40 g7
    match xp,ajs,xq,aju with
    |[p0,p1,p2],_,[z0,z1,z2],_=>
     have e0:=U 0 _ rfl;have e1:=U 1 _ rfl;have e2:=U 2 _ rfl;have e3:=X 0 _ rfl;have e4:=X 1 _ rfl;have e5:=X 2 _ rfl;simp[ci,A,cso]at e0 e1 e2 e3 e4 e5;obtain⟨i6,f6,_,_⟩:=bh underlying3 e0;obtain⟨i7,f7,_,_⟩:=bh underlying3 e1;obtain⟨pa,pn,DX,f8,hpn,M⟩:=DZ underlying35 e2;obtain⟨i9,f9,_,_⟩:=bh underlying3 e3;obtain⟨i10,Q,_,_⟩:=bh underlying3 e4;obtain⟨ea,en,ec,es,f11,eo,ez,em⟩:=ML e5;simp at f0 f1 f2 f3 f4 f5 f6 f7 f9 Q;subst f0 f1 f2 f3 f4 f5 f6 f7 f8 f9 Q f11;obtain⟨pos,J,po2,_⟩:=Qu (a:=pa) (n:=pn) (cap:=DX) (W:=W) ⟨_,e2⟩;have G:=hcell 0 eh;rw[Go.Deep.add_add]at G;refine⟨(⟨s0,i1,i2,i3,i4,s5,i6,i7,pa,pn,DX,⟨i9,i10,ea,en,ec⟩⟩,es),λb off he=> ?_,by rw[show i*12+0=i*12 by omega]at G;rw[G];rfl,eo,ez,em,hpn,pos,J,po2,M⟩;subst he;have c:=λj (Z:j<12)=>hcell j Z;simp only[m9]at c;have r:∀j,off+i*12+j=off+(i*12)+j:=λj=>rfl;exact⟨c 0 eh,c 1 eh,c 2 eh,c 3 eh,c 4 eh,c 5 eh,c 6 eh,c 7 eh,c 8 eh,c 9 eh,c 10 eh,c 11 eh⟩
  obtain⟨q,T⟩:=Go.Deep.choose_lt each;refine⟨λi=>(q i).1,λi=>(q i).2,⟨?_,λj Z=>⟨(T j Z).2.2.1,(T j Z).2.2.2.1,(T j Z).2.2.2.2.1,(T j Z).2.2.2.2.2.1⟩,λj Z=>(T j Z).2.2.2.2.2.2⟩,eh⟩;by_cases h0:n=0
  ·exact .inl h0
  ·obtain⟨b,off,S⟩:=x;obtain⟨u,hu⟩:=Option.isSome_iff_exists.1 (T 0 eh).2.1;have DQ:S=ν:=by simpa[Addr.add]using db hu
   subst DQ;exact .inr ⟨b,off,rfl,λj Z=>(T j Z).1 b off rfl⟩
theorem CK(c i:Int)(a:Option dX)(n cap:Nat)(w:dY):
 eW eX 65 #[.agg #[ι κ c,ι κ i,σ a n cap]] w λe w'=>e=ρ (.bool (decide ((n:Int)<=12)))/\eE w w':=by
 go_in
 go_wp2
 go_ret;exact⟨rfl,(av _ _).alloc (Nat.le_refl _) _⟩
theorem Gc(a:Option dX)(n cap:Nat)(V:Nat->AV)(E:Nat->List jE)(most:Int)(w:dY)(h:DY w a n V E)(hm:most<=1000):
 eW eX 16 #[σ a n cap,ι κ most] w λe w'=>(∃b:Bool,e=ρ (.bool b)/\(b=true->(n:Int)<=most/\∀j,j<n->(V j).x.n<=9/\(V j).pn<=12/\(V j).s.size<=200))/\eE w w':=by
 by_cases h0:most<(n:Int)
 ·go_in
  go_wp2
  go_ret;exact⟨⟨false,rfl,λh=>by cases h⟩,av _ _⟩
 go_in
 go_wp2
 go_loopw [5] (λi wr=>∃k:Nat,k<=n/\i=ι κ k/\(∀j,j<k->(V j).x.n<=9/\(V j).pn<=12/\(V j).s.size<=200)/\eE w wr) (λi _=>n-(eY i).toNat)
 case atStart=>exact⟨0,Nat.zero_le _,rfl,λj M=>eh,av _ _⟩
 case round=>
  obtain⟨k,hk,rfl,hA,T⟩:=hrel;have S:Hid _:=hA;clear hA;by_cases kB:k<n
  ·have nQ:(k:Int)<(n:Int):=eh;obtain⟨_,_,Y,U⟩:=h.opt k kB;rcases h.row with h1|⟨b,off,rfl,hcs⟩
   ·omega
   have X:Hid (∀W,eE w W->(V k).at_ W b (off+k*12)):=λW hW=>(hcs k kB).below hW;obtain⟨v,hv⟩:=gg (V k);rw[hv]at X Y U;have D:Hid _:=hv;obtain⟨vk,va,vb,vc,vd,vs,ZU,ZV,ZW,J,BP,vx⟩:=v;obtain⟨xo,xq,xa,xn,xc⟩:=vx;simp only at Y U;obtain⟨c0,c1,c2,c3,c4,c5,c6,c7,c8,c9,TV,XK⟩:=X.out wr T;simp only at c5 c6 c7 c8 XK;have Z:=CK ZU ZV ZW J BP wr;unfold maxLen at Y U;have A:Hid _:=T;clear hcs hv T c0 c1 c2 c3 c4 c9 TV;by_cases hs:200<(vs.size:Int)
   ·go_wp2
    go_ret;exact⟨⟨false,rfl,λh=>by cases h⟩,A.out⟩
   ·by_cases hp:(J:Int)<=12
    ·rw[dm hp]at Z;go_wp2_with(fail);refine Z.mono ?_;rintro e w1 ⟨rfl,k1⟩;have y:=gk A.out k1;obtain⟨_,_,_,_,_,_,_,_,_,_,_,G⟩:=X.out w1 y;simp only at G;have Q:Hid _:=y;clear Z k1 y c5 c6 c7 c8 XK;by_cases h9:9<(xn:Int)
     ·go_wp2
      go_ret;exact⟨⟨false,rfl,λh=>by cases h⟩,Q.out⟩
     ·go_wp2
      go_roundw
      case rel=>
       refine⟨k+1,eh,by go_num,λj M=> ?_,Q.out⟩;by_cases ZX:j=k
       ·rw[ZX,D.out];show xn<=9/\J<=12/\vs.size<=200;omega
       ·exact S.out j eh
      case measure=>simp[eY];omega
    ·rw[dc hp]at Z;go_wp2_with(fail);refine Z.mono ?_;rintro e w1 ⟨rfl,k1⟩;have Q:Hid _:=gk A.out k1;clear Z k1
     go_wp2
     go_ret;exact⟨⟨false,rfl,λh=>by cases h⟩,Q.out⟩
  ·have xP:¬(k:Int)<(n:Int):=eh
   go_wp2
   go_ret
   first|exact⟨.inr ⟨rfl,λj M=>S.out j eh⟩,T⟩|exact⟨⟨true,rfl,λ_=>⟨eh,λj M=>S.out j eh⟩⟩,T⟩|exact⟨.inr ⟨rfl,eh,λj M=>S.out j eh⟩,T⟩
theorem iX.drew {w:dY} {B:Nat} {C:Array dZ} {t:ew} (h:iX w B C t):iX w.drew B C t:=h
abbrev abl:=Int×Bool×Int
def zk(me f s:Int):abl:=if f=me then(0,false,0)else(f,s==me,4)
def iV(p:abl):abl:=if p.2.2<=1 then(0,false,0)else(p.1,p.2.1,p.2.2-1)
theorem D4(w:dY):(zeroValue 116).run eX w=.ok (.agg #[ι κ 0,.bool false,ι κ 0]) w:=gq
theorem GY(w:dY):(zeroValue 230).run eX w=.ok (.agg #[ι κ 0,ι κ 0]) w:=gq
theorem TW(a c me f s:Int)(b:Bool)(w:dY):eW eX 187 #[.agg #[ι κ a,.bool b,ι κ c],ι κ me,.agg #[ι κ f,ι κ s]] w λe w'=>
 e=ρ (.agg #[ι κ (zk me f s).1,.bool (zk me f s).2.1,ι κ (zk me f s).2.2])/\eE w w':=by
 have hz:=D4;have hb:∀(A B C:Array dZ) (t u v:ew),eE w (((w.alloc (γ A t)).alloc (γ B u)).alloc (γ C v)):=λA B C t u v=>((gW _ _).alloc gY _).alloc (by simp;omega) _;cases q:(f==me)
 ·have hv:zk me f s=(f,s==me,4):=by simp at q;simp[zk,q]
  rw[hv];clear hv
  go_in
  go_wp2
  refine aF (v:=.agg #[ι κ f,.bool (s==me),ι κ 4]) (by simp[results,results187,go_sem]) rfl ?_;exact⟨rfl,hb _ _ _ _ _ _⟩
 ·have hv:zk me f s=(0,false,0):=by simp at q;simp[zk,q]
  rw[hv];clear hv
  go_in
  go_wp2
  refine aF (v:=.agg #[ι κ 0,.bool false,ι κ 0]) (by simp[results,results187,go_sem]) rfl ?_;exact⟨rfl,hb _ _ _ _ _ _⟩
theorem TX(a c:Int)(b:Bool)(w:dY)(hc:0<=c)(S7:c<=100):eW eX 84 #[.agg #[ι κ a,.bool b,ι κ c]] w λe w'=>
 e=ρ (.agg #[ι κ (iV (a,b,c)).1,.bool (iV (a,b,c)).2.1,ι κ (iV (a,b,c)).2.2])/\eE w w':=by
 have hz:=D4;have hb:∀(A B:Array dZ) (t u:ew),eE w ((w.alloc (γ A t)).alloc (γ B u)):=λA B t u=>(gW _ _).alloc gY _;by_cases q:c<=1
 ·have hv:iV (a,b,c)=(0,false,0):=by simp[iV,q]
  rw[hv];clear hv
  go_in
  go_wp2
  refine aF (v:=.agg #[ι κ 0,.bool false,ι κ 0]) (by simp[results,results84,go_sem]) rfl ?_;exact⟨rfl,hb _ _ _ _⟩
 ·have hv:iV (a,b,c)=(a,b,c-1):=by simp[iV,q]
  rw[hv];clear hv
  go_in
  go_wp2
  refine aF (v:=.agg #[ι κ a,.bool b,ι κ (c-1)]) (by simp[results,results84,go_sem]) rfl ?_;exact⟨rfl,hb _ _ _ _⟩
theorem TY(a c me:Int)(b:Bool)(w:dY):eW eX 149 #[.agg #[ι κ a,.bool b,ι κ c],ι κ me] w λe w'=>
 e=ρ (.agg #[ι κ me,ι κ a])/\eE w w':=by
 have hz:=GY;have hb:∀(A B:Array dZ) (t u:ew),eE w ((w.alloc (γ A t)).alloc (γ B u)):=λA B t u=>(gW _ _).alloc gY _
 go_in
 go_wp2
 refine aF (v:=.agg #[ι κ me,ι κ a]) (by simp[results,results149,go_sem]) rfl ?_;exact⟨rfl,hb _ _ _ _⟩
open St (u8 pA)
theorem ZY(W:dY)(a b:Int)(X:0<=a)(Y:a<=255)(b0:0<=b)(b1:b<=255):(convert 140 9 (σ (μ ⟨W.heap.size,0,ν⟩) 2 2)).run eX (W.alloc (γ #[.int .u8 a,.int .u8 b] 5))=.ok (.string ⟨#[u8 a,u8 b]⟩) (W.alloc (γ #[.int .u8 a,.int .u8 b] 5)):=by
 have h:Row (W.alloc (γ #[.int .u8 a,.int .u8 b] 5)) 1 (σ (μ ⟨W.heap.size,0,ν⟩) 2 2) 2 (iO [u8 a,u8 b]):=by
  refine Row.made W 1 _ _ (0,0) 2 2 _ rfl rfl (Nat.le_refl _) eA (.inl rfl) ?_;intro j u Z;simp only[iO,eN,eO,pA a X Y,pA b b0 b1]at Z;simpa using Z
 exact Row.back h 140 9 5 underlying140 underlying5 underlying9
def ug(f s:Int):Bool:=decide (1<=f)&&decide (f<=6)&&decide (0<=s)&&decide (s<=6)
theorem MT(f s:Int):∀(Q:Prop),(¬1<=f->ug f s=false->Q)->(1<=f->¬f<=6->ug f s=false->Q)->(1<=f->f<=6->¬0<=s->ug f s=false->Q)->(1<=f->f<=6->0<=s->¬s<=6->ug f s=false->Q)->(1<=f->f<=6->0<=s->s<=6->ug f s=true->Q)->Q:=by
 intro Q q1 q2 U T S;by_cases Z:1<=f
 ·by_cases Y:f<=6
  ·by_cases X:0<=s
   ·by_cases V:s<=6
    ·exact S Z Y X V (by simp[ug,Z,Y,X,V])
    ·exact T Z Y X V (by simp[ug,V])
   ·exact U Z Y X (by simp[ug,X])
  ·exact q2 Z Y (by simp[ug,Y])
 ·exact q1 Z (by simp[ug,Z])
theorem xb(f s:Int)(w:dY):eW eX 196 #[.agg #[ι κ f,ι κ s]] w λe w'=>e=ρ (.bool (ug f s))/\eE w w':=by
 refine MT f s _ ?_ ?_ ?_ ?_ ?_
 all_goals
  intros
  rename_i hv
  rw[hv];clear hv
  go_in
  go_wp2
  go_ret;exact⟨by first|rfl|(simp;omega),gW _ _⟩
theorem Kv(f s:Int)(w:dY)(h1:1<=f)(h2:f<=6)(h3:0<=s)(h4:s<=6)(h:ug f s=true):eW eX 148 #[.agg #[ι κ f,ι κ s]] w λe w'=>e=ρ (τ #[.string ⟨#[u8 f,u8 s]⟩,η])/\eE w w':=by
 have Y:=xb f s (w.alloc (γ #[ι κ f,ι κ s] 230));rw[h]at Y;have V:=gW w (γ #[ι κ f,ι κ s] 230);have hA:=iX.new w #[ι κ f,ι κ s] 230;have vS:=λW=>ZY W f s eh eh eh eh;clear h
 go_in
 go_wp2_with(fail);refine Y.mono ?_;rintro e w1 ⟨rfl,k1⟩;have Z:=hA.below k1;have c0:w1.cell? ⟨w.heap.size,0,ν⟩=μ (ι κ f):=Z.cell 0;have c1:w1.cell? ⟨w.heap.size,1,ν⟩=μ (ι κ s):=Z.cell 1;have l1:w.heap.size<w1.heap.size:=Z.lt;have X:=gk V k1;clear hA Z Y k1
 go_wp2
 go_ret2
 exact⟨rfl,X.alloc X.size _⟩
def kG(l:List UInt8):Int×Int×Nat:=
 if l.length=2/\ug ((l.getD 0 0).toNat:Int) ((l.getD 1 0).toNat:Int)=true then(((l.getD 0 0).toNat:Int),((l.getD 1 0).toNat:Int),0)else(0,0,4)
theorem MU(s:ByteArray)(w:dY):eW eX 186 #[.string s] w λe w'=>e=ρ (τ #[.agg #[ι κ (kG s.data.toList).1,ι κ (kG s.data.toList).2.1],jm (kG s.data.toList).2.2])/\eE w w':=by
 have hz:=GY;have hl:s.data.toList.length=s.size:=gY;by_cases Y:s.size=2
 ·have b0:0<s.size:=eh;have b1:1<s.size:=eh;have z0:(0:Int)<(s.size:Int):=eh;have z1:(1:Int)<(s.size:Int):=eh;have yo:=s[0].toNat_lt;have kA:=s[1].toNat_lt;have h:((s.size:Int) !=2)=false:=by rw[Y];rfl
  have Q:eE w ((w.alloc (γ #[ι κ 0,ι κ 0] 230)).alloc (γ #[ι κ (s[0].toNat:Int),ι κ (s[1].toNat:Int)] 230)).drew:=jD ((gW _ _).alloc gY _);have G:=(iX.new w #[ι κ 0,ι κ 0] 230).below (gW (w.alloc (γ #[ι κ 0,ι κ 0] 230)) (γ #[ι κ (s[0].toNat:Int),ι κ (s[1].toNat:Int)] 230));have M:iX ((w.alloc (γ #[ι κ 0,ι κ 0] 230)).alloc (γ #[ι κ (s[0].toNat:Int),ι κ (s[1].toNat:Int)] 230)) (w.heap.size+1) #[ι κ (s[0].toNat:Int),ι κ (s[1].toNat:Int)] 230:=iX.F8 _ _ _ _ gY;have Z:Hid (kG s.data.toList=if ug (s[0].toNat:Int) (s[1].toNat:Int)=true then((s[0].toNat:Int),(s[1].toNat:Int),0)else(0,0,4)):=by
   show _=_;unfold kG;rw[nV s 0 b0,nV s 1 b1,hl];simp[Y]
  have HS:Hid _:=Y;clear Y hl
  go_in
  go_wp2
  go_region
  go_wp2_with(fail);obtain⟨D,X⟩:=gg (((w.alloc (γ #[ι κ 0,ι κ 0] 230)).alloc (γ #[ι κ (s[0].toNat:Int),ι κ (s[1].toNat:Int)] 230)).drew);have FN:iX D w.heap.size #[ι κ 0,ι κ 0] 230:=by rw[<-X];exact G
  have OL:iX D (w.heap.size+1) #[ι κ (s[0].toNat:Int),ι κ (s[1].toNat:Int)] 230:=by rw[<-X];exact M
  rw[X]at Q⊢;clear X G M;generalize s[0].toNat=x at*;generalize s[1].toNat=y at*;refine(xb (x:Int) (y:Int) _).mono ?_;rintro e V ⟨rfl,k2⟩;have U:=FN.below k2;have A:=OL.below k2;have E:V.cell? ⟨w.heap.size,0,ν⟩=μ (ι κ 0):=U.cell 0;have r1:V.cell? ⟨w.heap.size,1,ν⟩=μ (ι κ 0):=U.cell 1;have rf:=U.frozen;have rl:=U.lt;have x0:V.cell? ⟨w.heap.size+1,0,ν⟩=μ (ι κ (x:Int)):=A.cell 0;have x1:V.cell? ⟨w.heap.size+1,1,ν⟩=μ (ι κ (y:Int)):=A.cell 1;have J:=gk Q k2;cases T:ug (x:Int) (y:Int)
  ·have S:Hid (kG s.data.toList=(0,0,4)):=by show _=_;rw[Z.out,af (by simp[T])]
   clear Z T;go_wp2_with(fail);rw[S.out];refine aF (v:=τ #[.agg #[ι κ 0,ι κ 0],.iface 128 (ι κ 4)]) (by simp[results,results186,go_sem,E,r1]) rfl ?_;exact⟨rfl,(J.setCell (Nat.le_refl _) _).setCell (Nat.le_refl _) _⟩
  ·have S:Hid (kG s.data.toList=((x:Int),(y:Int),0)):=by show _=_;rw[Z.out,ai T]
   clear Z T;go_wp2_with(fail);rw[S.out];refine aF (v:=τ #[.agg #[ι κ (x:Int),ι κ (y:Int)],η]) (by simp[results,results186,go_sem,E,r1]) rfl ?_;exact⟨rfl,(J.setCell (Nat.le_refl _) _).setCell (Nat.le_refl _) _⟩
 ·have h:((s.size:Int) !=2)=true:=by rw[bne_iff_ne];omega
  have mP:=gW w (γ #[ι κ 0,ι κ 0] 230);have Z:Hid (kG s.data.toList=(0,0,4)):=by show _=_;unfold kG;rw[hl,af eh]
  clear Y hl
  go_in
  go_wp2_with(fail);rw[Z.out];refine aF (v:=τ #[.agg #[ι κ 0,ι κ 0],.iface 128 (ι κ 4)]) (by simp[results,results186,go_sem]) rfl ?_;exact⟨rfl,mP⟩
section
variable {P:Program}
theorem Gd(s:ByteArray):(fG (λb:UInt8=>eB fD (b.toNat:Int)) s.data).extract 0 s.size=fG (λb:UInt8=>eB fD (b.toNat:Int)) s.data:=by
 have hs:s.size=(fG (λb:UInt8=>eB fD (b.toNat:Int)) s.data).size:=by rw[dS];rfl
 rw[hs,Array.extract_size]
theorem vT(g:Nat):∀(vs:List dZ) (o:Nat) (w:dY),(w.setCells g o vs).heap.size=w.heap.size/\(w.setCells g o vs).os=w.os/\(w.setCells g o vs).tape=w.tape/\(w.setCells g o vs).output=w.output/\∀k,k≠g->(w.setCells g o vs).heap[k]? =w.heap[k]?
 |[],o,w=>⟨rfl,rfl,rfl,rfl,λ_ _=>rfl⟩
 |u::r,o,w=>by
  have h:=vT g r (o+1) (w.setCell ⟨g,o,ν⟩ u);have b1:Below 0 w (w.setCell ⟨g,o,ν⟩ u):=(av 0 w).setCell (Nat.zero_le _) _;exact⟨h.1.trans gY,h.2.1.trans b1.os,h.2.2.1.trans b1.tape,h.2.2.2.1.trans b1.output,λk Z=>(h.2.2.2.2 k Z).trans (aq _ _ _ k Z)⟩
theorem MV(l:List UInt8):∀u∈iO l,u.oneCell'=true:=by
 intro u Z;obtain⟨b,_,rfl⟩:=bJ.1 Z;rfl
theorem MW(s:ByteArray):(fG (λb:UInt8=>eB fD (b.toNat:Int)) s.data).toList=iO s.data.toList:=by simp[iO]
theorem Row.XL {xs:List dZ} (h:Row w 1 v n xs):v=σ ν 0 0/\n=0/\xs=[] \/ ∃g cap,v=σ (μ ⟨g,0,ν⟩) n cap/\g<w.heap.size/\n<=cap/\cap<=maxLen/\(∀(j:Nat) (u:dZ),xs[j]? =μ u->w.cell? ⟨g,j,ν⟩=μ u)/\(∀j,j<cap*1->(w.cell? ⟨g,j,ν⟩).isSome=true/\w.frozen? ⟨g,j,ν⟩=false):=by
 rcases h.2 with⟨Z,Y⟩|⟨g,cap,Z,V,U,X,S,T⟩
 ·exact .inl ⟨Z,Y,aI (by rw[h.1,Y])⟩
 ·exact .inr ⟨g,cap,Z,V,U,X,S,T⟩
theorem vU(w:dY)(t u ty e:ew)(i:TypeInfo)(z:dZ)(Q:P.underlying t=μ (.slice e))(S:P.underlying u=μ .string)(hi:P.info? e=μ i)(hz:i.zero=μ z)(rP:i.size=1)(vK:i.bytes=1)(MC:z.cells.size=1)
 (v:dZ) (n:Nat) (xs:List dZ) (X:Row w 1 v n xs) (s:ByteArray) (hs:s.size<=1000000) (hn:n<=1000000000):
 ∃v' w',(fH #[t,u] ty #[v,.string s]).run P w=.ok v' w'/\Row w' 1 v' (n+s.size) (xs++iO s.data.toList)/\w.grownBy w' v.ownBlock/\(v'.ownBlock=v.ownBlock \/ ∃k,v'.ownBlock=μ k/\w.heap.size<=k):=by
 have hsl:(iO s.data.toList).length=s.size:=by simp[qQ]
 have hex:=Gd s;rcases X.XL with⟨rfl,rfl,rfl⟩|⟨g,cap,rfl,hg,tX,FY,hcell,D⟩
 ·by_cases A:s.size=0
  ·have ajy:s.data.toList=[] :=aI (by simpa using A);refine⟨σ ν 0 0,w,?_,by rw[A,ajy];exact Row.nil _ _,⟨rfl,rfl,rfl,Nat.le_refl _,λ_ _ _=>rfl⟩,.inl rfl⟩;simp[fH,fI Q,fI S,sizeOf,typeInfo,hi,fJ,fK,A]
  ·have U:=run_append_nil_string (P:=P) (w:=w) t u ty e i z Q S hi hz s eh eh (by rw[vK];omega);have G:=grownCap_ge w s.size 0 e;refine⟨_,_,U,?_,⟨rfl,rfl,rfl,gY,λk Y _=>aU w.drew _ k Y⟩,.inr ⟨_,rfl,Nat.le_refl _⟩⟩;simp only[Nat.zero_add,List.nil_append];refine Row.made w.drew 1 e _ (0,0) s.size _ _ (by rw[hsl,Nat.mul_one]) ?_ G (dq _ _ _ _ (by unfold maxLen;omega)) (.inl rfl) (λj x Z=> ?_)
   ·rw[dx,size_zeroCells,MC,dS];have:s.data.size=s.size:=rfl;omega
   ·have V:j<s.size:=by rw[<-hsl];exact(aL.1 Z).1
    rw[cR (by rw[dS];exact V),<-Z,<-MW s,Array.getElem?_toList]
 ·by_cases U:n+s.size<=cap
  ·have T:∀j,j<(iO s.data.toList).length->(w.cell? ⟨g,0+n*1+j,ν⟩).isSome=true/\w.frozen? ⟨g,0+n*1+j,ν⟩=false:=λj Z=>D _ eh;have ki:=run_storeCells_cells (P:=P) g (0+n*1) (iO s.data.toList) 0 w (λj Z=>by rw[Nat.add_zero];exact(T j Z).1) (λj Z=>by rw[Nat.add_zero];exact(T j Z).2) (MV _);have B:=vT g (iO s.data.toList) (0+n*1) w;refine⟨σ (μ ⟨g,0,ν⟩) (n+s.size) cap,w.setCells g (0+n*1) (iO s.data.toList),?_,⟨by rw[aA,X.1,hsl];omega,.inr ⟨g,cap,rfl,by rw[B.1];exact hg,U,FY,λj x hx=> ?_,λj Z=> ?_⟩⟩,⟨B.2.1,B.2.2.1,B.2.2.2.1,by rw[B.1];exact Nat.le_refl _,λk _ Y=>B.2.2.2.2 k (λe=>Y (by simp[eu,e]))⟩,.inl rfl⟩
   ·simp[fH,fI Q,fI S,sizeOf,typeInfo,hi,rP,fJ,fK,U,hex,add_plain];have h:(storeCells ⟨g,n,ν⟩ (iO s.data.toList)).run P w=.ok () (w.setCells g n (iO s.data.toList)):=by simpa using ki
    have e8:List.map (λb:UInt8=>eB fD (b.toNat:Int)) s.data.toList=iO s.data.toList:=rfl;rw[e8,h];rfl
   ·rcases Nat.lt_or_ge j xs.length with Z|Z
    ·rw[bG Z]at hx;rw[bD g _ _ _ _ (λ_ _=>.inl (by show j<0+n*1;have:=X.1;omega))];exact hcell j x hx
    ·rw[bw Z]at hx;have V:j-xs.length<(iO s.data.toList).length:=(aL.1 hx).1;have:=bL g (iO s.data.toList) (0+n*1) w (λk Y=>(T k Y).1) (j-xs.length) V;have J:0+n*1+(j-xs.length)=j:=by have:=X.1;omega
     rw[J]at this;rw[this,<-hx,az V]
   ·rw[bY];refine⟨?_,(D j Z).2⟩;by_cases hq:n*1<=j/\j<n*1+(iO s.data.toList).length
    ·have:=bL g (iO s.data.toList) (0+n*1) w (λk Y=>(T k Y).1) (j-n*1) eh;have J:0+n*1+(j-n*1)=j:=eh;rw[J]at this;rw[this];rfl
    ·rw[bD g _ _ _ _ (λ_ _=>by show j<0+n*1 \/0+n*1+(iO s.data.toList).length<=j;omega)];exact(D j Z).1
  ·have OW:¬n+s.size<=cap:=U;have y:¬(9223372036854775807<((n:Int)+(s.size:Int))):=eh;have hcc:cap<n+s.size:=eh;have hnx:fL (n+s.size) cap<=281474976710656:=by have:=nextslicecap_le hcc;omega
   have M:¬(281474976710656<fL (n+s.size) cap*i.bytes):=by rw[vK];omega
   have qF:=run_loadCells_list (P:=P) (w:=w.drew) ⟨g,0,ν⟩ xs (λj x Z=>by rw[add_plain];exact hcell j x Z);have E:(loadCells ⟨g,0,ν⟩ (n*i.size)).run P w.drew=.ok xs.toArray w.drew:=by
    rw[rP,<-X.1];exact qF
   have G:=grownCap_ge w (n+s.size) cap e;refine⟨σ (μ ⟨w.heap.size,0,ν⟩) (n+s.size) (grownCap w (n+s.size) cap e),w.drew.alloc (γ (xs.toArray++(iO s.data.toList).toArray++Builtin.zeroCells z.cells (grownCap w (n+s.size) cap e-(n+s.size))) e),?_,?_,⟨rfl,rfl,rfl,gY,λk Y _=>aU w.drew _ k Y⟩,.inr ⟨_,rfl,Nat.le_refl _⟩⟩
   ·simp[fH,fI Q,fI S,sizeOf,typeInfo,zeroValue,hi,hz,fJ,OW,y,M,Question.forced,newRow,grownCap,fK,hex,E];congr 2;apply Array.ext';simp[iO]
   ·refine Row.made w.drew 1 e _ (0,0) (n+s.size) _ _ (by rw[aA,X.1,hsl];omega) ?_ G (dq _ _ _ _ (by unfold maxLen;omega)) (.inl rfl) (λj x Z=> ?_)
    ·rw[dx,dx,size_zeroCells,MC];have h1:xs.toArray.size=n:=by simpa using X.1
     have h2:(iO s.data.toList).toArray.size=s.size:=by simpa using hsl
     rw[h1,h2];omega
    ·have V:j<(xs++iO s.data.toList).length:=(aL.1 Z).1;rw[cR (by simpa using V),List.append_toArray,List.getElem?_toArray];exact Z
theorem tr(w:dY) {ops:Array Oper} {rest:List Oper} {o:Oper} {a:Act} {Q:Exit->Act->dY->Prop} (X:o.guard=ν)(sl x:Operand)(t u:ew)
 (E:o.op=.call {callee:=.builtin .append,args:= #[sl,x],argTypes:= #[t,u] })
 (e:ew) (i:TypeInfo) (z:dZ) (Y:P.underlying t=μ (.slice e)) (A:P.underlying u=μ .string) (hi:P.info? e=μ i) (S:i.zero=μ z) (U:i.size=1) (J:i.bytes=1) (y:z.cells.size=1)
 (v:dZ) (n:Nat) (xs:List dZ) (hs:a.eval sl=v) (G:Row w 1 v n xs) (s:ByteArray) (hx:a.eval x=.string s) (hsl:s.size<=1000000) (M:n<=1000000000)
 (h:∀v' w',Row w' 1 v' (n+s.size) (xs++iO s.data.toList)->w.grownBy w' v.ownBlock->(v'.ownBlock=v.ownBlock \/ ∃k,v'.ownBlock=μ k/\w.heap.size<=k)->wpList P ops Q rest (a.put o.dst v') w'):wpList P ops Q (o::rest) a w:=by
 refine wpList_plain X λK T=> ?_;obtain⟨v',w',D,V,Z,h4⟩:=vU (P:=P) w t u o.type e i z Y A hi S U J y v n xs G s hsl M;unfold Oper.wp execOp;simp only[E,resolve,invoke,builtin,Sem.run_bind,Sem.run_pure,Result.andThen_ok,List.map_toArray,eN,eO,hs,hx,D];exact T _ _ (h v' w' V Z h4)
