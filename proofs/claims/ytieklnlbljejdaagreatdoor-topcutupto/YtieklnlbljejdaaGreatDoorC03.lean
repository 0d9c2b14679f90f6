import Derived.Test.YtieklnlbljejdaaGreatDoorC02
open Go.Value renaming int → ι, slice → σ, pointer → π, tuple → τ, nilIface → η, ownBlock → eh
open Go.IntKind renaming i64 → κ
open Go.Ending renaming returned → ρ
open Go.Obj renaming cells → γ
open Option renaming none → ν, some → μ
open Go renaming World → dX, Calls → eX, Addr → dW, Value → dY, TypeId → eu
open Go.Proofs.Tryz renaming prog → eY
open Go.RowKit renaming intOf → eZ
open And renaming intro → e7
open List renaming range → fW
set_option maxRecDepth 100000
set_option maxHeartbeats 8000000
open Go.Proofs.Tryz
namespace Go.Proofs.YtieklnlbljejdaaGreatDoor
open Go.RowKit
variable {B:Nat} {os:List jJ} {v:Value} {w:World}
def yA(n:Int):Bool:=decide (0<=n)&&decide (n<=255)
theorem l5(n:Int)(w:dX):eX eY 226 #[ι κ n] w λe w'=>e=ρ (.bool (yA n))/\w=w':=by
 by_cases Z:0<=n
 ·by_cases Y:n<=255
  ·have hb:yA n=true:=by simp[yA,Z,Y]
   rw[hb];clear hb
   go_in
   go_wp2
   go_ret;exact⟨by first|rfl|(simp;omega),rfl⟩
  ·have hb:yA n=false:=by simp[yA,Y]
   rw[hb];clear hb
   go_in
   go_wp2
   go_ret;exact⟨by first|rfl|(simp;omega),rfl⟩
 ·have hb:yA n=false:=by simp[yA,Z]
  rw[hb];clear hb
  go_in
  go_wp2
  go_ret;exact⟨by first|rfl|(simp;omega),rfl⟩
theorem BU(k n K:Int)(bo:Nat)(w:dX)(Q6:bo<w.heap.size)(h:w.cell? ⟨bo,0,ν⟩=μ (ι κ K)):
 eX eY 243 #[.agg #[ι κ k,ι κ n],π (μ ⟨bo,0,ν⟩)] w λe w'=>e=ρ (.bool (k==K))/\eB w w':=by
 go_in
 go_wp2
 go_ret;exact⟨rfl,(au _ _).alloc (Nat.le_refl _) _⟩
theorem Q7(a:Option dW)(n cap:Nat)(os:List jJ)(K:Int)(bo:Nat)(w:dX)(hn:n<=1000000)(H:bo<w.heap.size)(h:w.cell? ⟨bo,0,ν⟩=μ (ι κ K))(U:jc w a n os):
 eX eY 254 #[σ a n cap,.func (.func 243) #[] #[π (μ ⟨bo,0,ν⟩)]] w λe w'=>∃r:Int,e=ρ (ι κ r)/\(decide (0<=r)=os.any (λo=>o.1==K))/\eB w w':=by
 go_in
 go_wp2
 go_loopw [8] (λi wr=>∃k:Nat,k<=n/\i=ι κ k/\(os.take k).any (λo=>o.1==K)=false/\eB w wr) (λi _=>n-(eZ i).toNat)
 case atStart=>exact⟨0,Nat.zero_le _,rfl,rfl,au _ _⟩
 case round=>
  obtain⟨k,hk,rfl,X,Y⟩:=hrel;have Z:Hid _:=X;clear X;by_cases u:k<n
  ·have A:=U.below Y;rcases A.2 with h0|⟨b,off,rfl,hc⟩
   ·omega
   have D:k<os.length:=by rw[U.1];exact u
   obtain⟨c1,c2⟩:=hc k D;have G:wr.cell? ⟨bo,0,ν⟩=μ (ι κ K):=(Y.cell (p:=⟨bo,0,ν⟩) H).trans h;have V:bo<wr.heap.size:=Nat.lt_of_lt_of_le H Y.size;have J:Hid (os.take (k+1)=os.take k++ [os[k]]):=aA D;have M:Hid (os[k] ∈os):=aF _;generalize os[k] =o at c1 c2 J M;clear hc;have nL:(k:Int)<(n:Int):=dZ;cases E:(o.1==K)
   ·go_wp2_with(fail);refine(BU o.1 o.2 K bo wr V G).mono ?_;rintro e w1 ⟨rfl,T⟩
    go_wp2
    go_roundw
    case rel=>exact⟨k+1,dZ,by go_num,by rw[J.out,List.any_append,Z.out];simp[E],gh Y T⟩
    case measure=>simp[eZ];omega
   ·go_wp2_with(fail);refine(BU o.1 o.2 K bo wr V G).mono ?_;rintro e w1 ⟨rfl,T⟩
    go_wp2
    go_ret;refine⟨_,rfl,?_,gh Y T⟩;have y:os.any (λo=>o.1==K)=true:=List.any_eq_true.mpr ⟨o,M.out,E⟩;rw[y];simp
  ·have j:os.take k=os:=aI (by rw[U.1];omega);rw[j]at Z
   go_wp2
   go_ret;exact⟨-1,rfl,by rw[Z.out];rfl,Y⟩
theorem Jd(a:Option dW)(n cap:Nat)(os:List jJ)(K:Int)(bo:Nat)(w:dX)(Y:n<=1000000)(Z:bo<w.heap.size)(h:w.cell? ⟨bo,0,ν⟩=μ (ι κ K))(X:jc w a n os):
 eX eY 242 #[σ a n cap,.func (.func 243) #[] #[π (μ ⟨bo,0,ν⟩)]] w λe w'=>e=ρ (.bool (os.any (λo=>o.1==K)))/\eB w w':=by
 go_in
 go_wp2_with(fail);refine(Q7 a n cap os K bo w Y Z h X).mono ?_;rintro e w1 ⟨r,rfl,V,hb⟩
 go_wp2
 go_ret;exact⟨by rw[<-V];rfl,hb⟩
def qe:List jJ->List jJ->Nat
 |_,[] =>0
 |seen,o::r=>if(yA o.1&&yA o.2)=false then 1 else if seen.any (λx=>x.1==o.1)=true then 3 else qe (seen++ [o]) r
theorem AY(a:Option dW)(n cap:Nat)(os:List jJ)(w:dX)(hn:n<=1000000)(KO:n<=cap)(D:jc w a n os):
 eX eY 227 #[σ a n cap] w λe w'=>e=ρ (ji (qe [] os))/\eB w w':=by
 go_in
 go_wp2
 go_loopw [7] (λi wr=>∃k:Nat,k<=n/\i=ι κ k/\qe [] os=qe (os.take k) (os.drop k)/\eB w wr) (λi _=>n-(eZ i).toNat)
 case atStart=>exact⟨0,Nat.zero_le _,rfl,rfl,au _ _⟩
 case round=>
  obtain⟨k,hk,rfl,j,T⟩:=hrel;have hF:Hid _:=j;clear j;by_cases kA:k<n
  ·have H:=D.below T;have h:=H.take k dZ;rcases H.2 with h0|⟨b,off,rfl,hc⟩
   ·omega
   have y:k<os.length:=by rw[D.1];exact kA
   obtain⟨c1,c2⟩:=hc k y;have u:Hid (os.take (k+1)=os.take k++ [os[k]]):=aA y;have V:Hid (os.drop k=os[k] ::os.drop (k+1)):=aR y;generalize os[k] =o at c1 c2 u V;clear hc;have nL:(k:Int)<(n:Int):=dZ;have J:eB w (wr.alloc (γ #[ι κ o.1,ι κ o.2] 276)):=T.alloc T.size _;have U:jc (wr.alloc (γ #[ι κ o.1,ι κ o.2] 276)) (μ ⟨b,off,ν⟩) k (os.take k):=h.below ((au _ _).alloc (Nat.le_refl _) _);have E:(wr.alloc (γ #[ι κ o.1,ι κ o.2] 276)).cell? ⟨wr.heap.size,0,ν⟩=μ (ι κ o.1):=aq wr #[ι κ o.1,ι κ o.2] 276 (0,0) 0;have M:=Jd (μ ⟨b,off,ν⟩) k cap (os.take k) o.1 wr.heap.size (wr.alloc (γ #[ι κ o.1,ι κ o.2] 276)) dZ gU E U;clear h U H;cases X:yA o.1
   ·have Y:Hid (qe [] os=1):=by
     show qe [] os=1;rw[hF.out,V.out,qe,ai (by simp[X])]
    go_wp2_with(fail);refine(l5 o.1 _).mono ?_;rintro e w1 ⟨rfl,rfl⟩;go_wp2_with(fail);rw[Y.out];go_ret;exact⟨rfl,J⟩
   ·cases G:yA o.2
    ·have Y:Hid (qe [] os=1):=by
      show qe [] os=1;rw[hF.out,V.out,qe,ai (by simp[G])]
     go_wp2_with(fail);refine(l5 o.1 _).mono ?_;rintro e w1 ⟨rfl,rfl⟩;go_wp2_with(fail);refine(l5 o.2 _).mono ?_;rintro e w1 ⟨rfl,rfl⟩;go_wp2_with(fail);rw[Y.out];go_ret;exact⟨rfl,J⟩
    ·cases Z:(os.take k).any (λx=>x.1==o.1)
     ·have Y:Hid (qe [] os=qe (os.take (k+1)) (os.drop (k+1))):=by
       show qe [] os=_;rw[hF.out,V.out,qe,af (by simp[X,G]),af (by simp[Z]),u.out]
      rw[Z]at M;clear Z;go_wp2_with(fail);refine(l5 o.1 _).mono ?_;rintro e w1 ⟨rfl,rfl⟩;go_wp2_with(fail);refine(l5 o.2 _).mono ?_;rintro e w1 ⟨rfl,rfl⟩;go_wp2_with(fail);refine M.mono ?_;rintro e w1 ⟨rfl,A⟩
      go_wp2
      go_roundw
      case rel=>exact⟨k+1,dZ,by go_num,Y.out,gh J A⟩
      case measure=>simp[eZ];omega
     ·have Y:Hid (qe [] os=3):=by
       show qe [] os=3;rw[hF.out,V.out,qe,af (by simp[X,G]),ai Z]
      rw[Z]at M;clear Z;go_wp2_with(fail);refine(l5 o.1 _).mono ?_;rintro e w1 ⟨rfl,rfl⟩;go_wp2_with(fail);refine(l5 o.2 _).mono ?_;rintro e w1 ⟨rfl,rfl⟩;go_wp2_with(fail);refine M.mono ?_;rintro e w1 ⟨rfl,A⟩;go_wp2_with(fail);rw[Y.out];go_ret;exact⟨rfl,gh J A⟩
  ·have Y:Hid (qe [] os=0):=by
    show qe [] os=0;have G0:os.drop k=[] :=a8 (by rw[D.1];omega);rw[hF.out,G0,qe]
   go_wp2_with(fail);rw[Y.out];go_ret;exact⟨rfl,T⟩
def jS(code id:Int)(os:List jJ):Nat:=
 if code<1 \/6<code \/yA id=false then 1
 else if 8<os.length then 2
 else if 5<=code/\0<os.length then 3
 else qe [] os
theorem uh(code id:Int)(a:Option dW)(n cap:Nat)(os:List jJ)(w:dX)(G:n<=1000000)(M:n<=cap)(U:jc w a n os):
 eX eY 209 #[.agg #[ι κ code,ι κ id,σ a n cap]] w λe w'=>e=ρ (ji (jS code id os))/\eB w w':=by
 have hl:=U.1;have Y:eB w (w.alloc (γ #[ι κ code,ι κ id,σ a n cap] 37)):=(au _ _).alloc (Nat.le_refl _) _;have T:=AY a n cap os (w.alloc (γ #[ι κ code,ι κ id,σ a n cap] 37)) G M (U.below Y);by_cases J:code<1
 ·have Z:Hid (jS code id os=1):=by show jS code id os=1;simp[jS,J]
  go_in
  go_wp2_with(fail);rw[Z.out];go_ret;exact⟨rfl,Y⟩
 ·by_cases H:6<code
  ·have Z:Hid (jS code id os=1):=by show jS code id os=1;simp[jS,H]
   go_in
   go_wp2_with(fail);rw[Z.out];go_ret;exact⟨rfl,Y⟩
  ·cases X:yA id
   ·have Z:Hid (jS code id os=1):=by show jS code id os=1;simp[jS,X]
    go_in
    go_wp2_with(fail);refine(l5 id _).mono ?_;rintro e w1 ⟨rfl,rfl⟩;go_wp2_with(fail);rw[Z.out];go_ret;exact⟨rfl,Y⟩
   ·by_cases h4:(8:Int)<(n:Int)
    ·have Z:Hid (jS code id os=2):=by
      show jS code id os=2;rw[jS,af (by simp[X];omega),ai dZ]
     go_in
     go_wp2_with(fail);refine(l5 id _).mono ?_;rintro e w1 ⟨rfl,rfl⟩;go_wp2_with(fail);rw[Z.out];go_ret;exact⟨rfl,Y⟩
    ·by_cases h5:5<=code
     ·by_cases h6:(0:Int)<(n:Int)
      ·have Z:Hid (jS code id os=3):=by
        show jS code id os=3;rw[jS,af (by simp[X];omega),af dZ,ai dZ]
       go_in
       go_wp2_with(fail);refine(l5 id _).mono ?_;rintro e w1 ⟨rfl,rfl⟩;go_wp2_with(fail);rw[Z.out];go_ret;exact⟨rfl,Y⟩
      ·have Z:Hid (jS code id os=qe [] os):=by
        show jS code id os=_;rw[jS,af (by simp[X];omega),af dZ,af dZ]
       go_in
       go_wp2_with(fail);refine(l5 id _).mono ?_;rintro e w1 ⟨rfl,rfl⟩;go_wp2_with(fail);refine T.mono ?_;rintro e w1 ⟨rfl,V⟩;go_wp2_with(fail);rw[Z.out];go_ret;exact⟨rfl,gh Y V⟩
     ·have Z:Hid (jS code id os=qe [] os):=by
       show jS code id os=_;rw[jS,af (by simp[X];omega),af dZ,af dZ]
      go_in
      go_wp2_with(fail);refine(l5 id _).mono ?_;rintro e w1 ⟨rfl,rfl⟩;go_wp2_with(fail);refine T.mono ?_;rintro e w1 ⟨rfl,V⟩;go_wp2_with(fail);rw[Z.out];go_ret;exact⟨rfl,gh Y V⟩
theorem AZ(a b:Option dW)(ca E n m:Nat)(os qs:List jJ)(w:dX)(J:jc w a n os)(hb:jc w b m qs)(hn:n<=1000000)(hm:m<=1000000):
 eX eY 230 #[σ a n ca,σ b m E] w λe w'=>e=ρ (.bool (decide (os=qs)))/\∃k,w'=w.drewN k:=by
 have hl:=J.1;have IW:=hb.1;by_cases G:n=m
 ·subst G;have heq:((n:Int) !=(n:Int))=false:=gU
  go_in
  go_wp2
  go_loopw [13] (λi wr=>∃k m:Nat,k<=n/\i=ι κ k/\os.take k=qs.take k/\wr=w.drewN m) (λi _=>n-(eZ i).toNat)
  case atStart=>exact⟨0,0,Nat.zero_le _,rfl,rfl,rfl⟩
  case round=>
   obtain⟨k,m,hk,rfl,M,rfl⟩:=hrel;have T:Hid _:=M;clear M;by_cases kA:k<n
   ·rcases J.2 with hA|⟨b1,o1,rfl,hA⟩
    ·omega
    rcases hb.2 with X|⟨b2,o2,rfl,X⟩
    ·omega
    obtain⟨c1,c2⟩:=hA k dZ;obtain⟨c3,c4⟩:=X k dZ;have V:Hid (os.take (k+1)=os.take k++ [os[k]'(by omega)]):=aA dZ;have U:Hid (qs.take (k+1)=qs.take k++ [qs[k]'(by omega)]):=aA dZ;have Y:Hid (os=qs->os[k]'(by omega)=qs[k]'(by omega)):=λh=>by subst h;rfl
    clear hA X;generalize os[k]'(by omega)=o at c1 c2 V Y;generalize qs[k]'(by omega)=q at c3 c4 U Y;have nL:(k:Int)<(n:Int):=dZ;cases q1:(o.1==q.1)
    ·have Z:Hid (decide (os=qs)=false):=by
      show _=_;rw[bK];intro h;have:=Y.out h;rw[this]at q1;simp at q1
     go_wp2
     go_quiet(fail)
     go_wp2_with(fail);rw[Z.out];go_ret;exact⟨rfl,_,drewN_drewN _ _ _⟩
    ·cases q2:(o.2==q.2)
     ·have Z:Hid (decide (os=qs)=false):=by
       show _=_;rw[bK];intro h;have:=Y.out h;rw[this]at q2;simp at q2
      go_wp2
      go_quiet(fail)
      go_wp2_with(fail);rw[Z.out];go_ret;exact⟨rfl,_,drewN_drewN _ _ _⟩
     ·have H:Hid (os.take (k+1)=qs.take (k+1)):=by
       show _=_;rw[V.out,U.out,T.out];simp at q1 q2;congr 2;exact aV q1 q2
      go_wp2
      go_quiet(fail)
      go_wp2
      go_roundw
      case rel=>exact⟨k+1,_,dZ,by go_num,H.out,rfl⟩
      case measure=>simp[eZ];omega
   ·have y:decide (os=qs)=true:=by
     have D:os.take k=os:=aI dZ;have A:qs.take k=qs:=aI dZ;have:=T.out;rw[D,A]at this;simp[this]
    go_wp2_with(fail);rw[y];go_ret;exact⟨rfl,m,rfl⟩
 ·have heq:((n:Int) !=(m:Int))=true:=by simp;omega
  have Z:decide (os=qs)=false:=by
   rw[bK];intro h;subst h;omega
  rw[Z]
  go_in
  go_wp2
  go_ret;exact⟨rfl,0,rfl⟩
def nW(s:LS)(ev:Int):LS:=qI (jh s.st ev).1 (s.next (jh s.st ev).2.1)
def pL(s:LS)(ev:Int)(zh:kN):List kN:=yk (jh s.st ev).1 (s.next (jh s.st ev).2.1) zh
theorem A1(s e:Int):(jh s e).1.length<=4:=by
 unfold jh;split;{simp}
 ·rename_i h
  exact(show∀e,e<12->∀s,s<10->(lp s e).1.length<=4 by decide+kernel) e.toNat dZ s.toNat dZ
theorem zv(B:Nat)(X:Nat->Prop)(s:LS)(v:dY)(ps:List PV)(p:PV)(ev:Int)(w:dX)(Y:jf w)(h:rH w B X s v ps)(hb:Bd s 100)(U:vA w X v p)(V:ps.length<=50)(hf:(jh s.st ev).2.2=0):
 eX eY 171 #[π (μ ⟨B,0,ν⟩),ι κ ev,.agg #[ι κ p.code,ι κ p.id,σ p.a p.n p.cap]] w λe w'=>e=ρ η/\nC w w' B X (nW s ev) v ps (pL s ev p.abs):=by
 have hl:=A1 s.st ev;unfold nW pL;obtain⟨D,nx,f,Z⟩:∃D nx f,jh s.st ev=(D,nx,f):=⟨_,_,_,rfl⟩
 rw[Z]at hf hl⊢;simp only at hf hl⊢;subst hf;exact TS B X s v ps p ev ⟨D.toArray⟩ nx w Y h hb U V Z (by show D.toArray.size<=4;simpa using hl)
def nt:List jJ->Int
 |[] =>255
 |o::r=>if o.1=1 then o.2 else nt r
theorem Nn(a:Option dW)(n cap:Nat)(os:List jJ)(w:dX)(hn:n<=1000000)(V:jc w a n os):
 eX eY 229 #[σ a n cap] w λe w'=>e=ρ (ι κ (nt os))/\eB w w':=by
 go_in
 go_wp2
 go_loopw [7] (λi wr=>∃k:Nat,k<=n/\i=ι κ k/\nt os=nt (os.drop k)/\eB w wr) (λi _=>n-(eZ i).toNat)
 case atStart=>exact⟨0,Nat.zero_le _,rfl,rfl,au _ _⟩
 case round=>
  obtain⟨k,hk,rfl,U,Y⟩:=hrel;have hF:Hid _:=U;clear U;by_cases G:k<n
  ·have J:=V.below Y;rcases J.2 with h0|⟨b,off,rfl,hc⟩
   ·omega
   have M:k<os.length:=by rw[V.1];exact G
   obtain⟨c1,c2⟩:=hc k M;have X:Hid (os.drop k=os[k] ::os.drop (k+1)):=aR M;generalize os[k] =o at c1 c2 X;clear hc;have nL:(k:Int)<(n:Int):=dZ;have T:=Y.alloc Y.size (γ #[ι κ o.1,ι κ o.2] 276);cases q1:(o.1==1)
   ·have Z:Hid (nt os=nt (os.drop (k+1))):=by
     show _=_;rw[hF.out,X.out,nt,af (by simpa using q1)]
    go_wp2
    go_roundw
    case rel=>exact⟨k+1,dZ,by go_num,Z.out,T⟩
    case measure=>simp[eZ];omega
   ·have Z:Hid (nt os=o.2):=by
     show _=_;rw[hF.out,X.out,nt,ai (by simpa using q1)]
    go_wp2_with(fail);rw[Z.out];go_ret;exact⟨rfl,T⟩
  ·have Z:Hid (nt os=255):=by
    show _=_;have H:os.drop k=[] :=a8 (by rw[V.1];omega);rw[hF.out,H,nt]
   go_wp2_with(fail);rw[Z.out];go_ret;exact⟨rfl,Y⟩
def LS.sized(s:LS)(os:List jJ):LS:=if 6<=s.st then {s with sz:=nt os}else s
theorem KP(B:Nat)(X:Nat->Prop)(s:LS)(v:dY)(ps:List PV)(id:Int)(a:Option dW)(n cap:Nat)(os:List jJ)(w:dX)(hT:jf w)(h:rH w B X s v ps)(hb:Bd s 100)(hn:ps.length<=50)
 (ho:jc w a n os) (uL:∀k,uH a n=μ k->¬X k/\v.ownBlock≠μ k/\k<w.heap.size) (ki:kJ a cap) (Aq:n<=1000) (m1:0<=s.nm) (m2:s.nm<=255) (hj:l9 s.nm os=(2,os)) (hf:(jh s.st 6).2.2=0):
 eX eY 211 #[π (μ ⟨B,0,ν⟩),.agg #[ι κ 1,ι κ id,σ a n cap]] w λe w'=>e=ρ η/\nC w w' B X ((nW s 6).sized os) v ps (pL s 6 (2,id,os)):=by
 have hk:=gT w (γ #[ι κ 1,ι κ id,σ a n cap] 37);have hA:=λj=>aq w #[ι κ 1,ι κ id,σ a n cap] 37 (0,0) j;have hl:=h.lk.lt;have X2:=h.row.lt;have T:=h.below hk;have hz:∀w:dX,(zeroValue 37).run eY w=.ok (.agg #[ι κ 0,ι κ 0,σ ν 0 0]) w:=λw=>gS;have Yo:=ho.1;obtain⟨U,j6⟩:=gg (w.alloc (γ #[ι κ 1,ι κ id,σ a n cap] 37));obtain⟨Z,hZ⟩:=gg (w.heap.size);have d1:U.cell? ⟨Z,1,ν⟩=μ (ι κ id):=by rw[<-j6,<-hZ];exact hA 1
 have d2:U.cell? ⟨Z,2,ν⟩=μ (σ a n cap):=by rw[<-j6,<-hZ];exact hA 2
 rw[j6]at T hk;have ym:B≠Z:=dZ;have hnz:v.ownBlock≠μ Z:=λe=>by have:=X2 Z e;omega
 have HW:Hid _:=j6;have HZ:Hid _:=hZ;clear hA j6 hZ hl;have c2:U.cell? ⟨B,2,ν⟩=μ (ι κ s.ns):=T.lk.cell 2;have c3:U.cell? ⟨B,3,ν⟩=μ (ι κ s.nm):=T.lk.cell 3;have XY:=T.lk.lt;have J6:Z<U.heap.size:=ag U _ d1;have Qs:=T.old;have vp:=T.self;have hJ:=GY s.ns s.nm a n cap os U.drew m1 m2 dZ ki (ho.below (jD hk));rw[hj]at hJ
 go_in
 go_wp2_with(fail);rw[HW.out,HZ.out]
 go_region_with(go_at_call 228;refine hJ.mono ?_;rintro e G ⟨u,rfl,hM⟩)
 all_goals
  obtain⟨a',n',jn,rfl,hP⟩:=IY (X:=X) (v:=v) 2 id hM (show os.length<=1000 by omega) Qs (λk hk3=>Nat.lt_of_lt_of_le (X2 k hk3) hk.size);have za:eB U G:=gh (jD (au _ _)) hM.below;have R2:=T.below za;have d1':G.cell? ⟨Z,1,ν⟩=μ (ι κ id):=(za.cell (p:=⟨Z,1,ν⟩) J6).trans d1;have d2':G.cell? ⟨Z,2,ν⟩=μ (σ a n cap):=(za.cell (p:=⟨Z,2,ν⟩) J6).trans d2;have Je:Z<G.heap.size:=ag G _ d1';have A:=gT G (γ #[ι κ 2,ι κ id,σ a' n' jn] 37);have D:=gh hk (gh za A);have R3:=R2.below A;have P3:=hP.kept vp (Kept.iT B v.ownBlock A) (λ_ e=>.inl e);have HC:=zv B X s v ps ⟨2,id,a',n',jn,os⟩ 6 _ (hT.below D) R3 hb P3 hn hf;have M:=(A.cell (p:=⟨Z,2,ν⟩) Je).trans d2';have zw:=ho.below D;have afu:Z<(G.alloc (γ #[ι κ 2,ι κ id,σ a' n' jn] 37)).heap.size:=ag _ _ M;clear hM hP R2 za c2 c3 d1 d2 T hJ R3 P3;go_wp2_with(fail);refine HC.mono ?_;rintro e E ⟨rfl,hW⟩;obtain⟨⟨v',qs,Y,Yp,hv4⟩,V⟩:=hW;have c6:E.cell? ⟨B,6,ν⟩=μ (ι κ (nW s 6).st):=Y.lk.cell 6;have z2:E.cell? ⟨Z,2,ν⟩=μ (σ a n cap):=(aj (a:=⟨Z,2,ν⟩) (V.block Z afu (λe=>ym e.symm) hnz)).trans M;have Xy:jc E a n os:=zw.OX (λk hk4=>by obtain⟨q1,q2,q3⟩:=uL k hk4;exact V.block k (Nat.lt_of_lt_of_le q3 D.size) (λe=>q1 (by rw[e];exact vp)) q2);have hl4:=Y.lk.lt;have apF:Z<E.heap.size:=ag E _ z2;have J:Kept w E B v.ownBlock:=(Kept.iT B v.ownBlock D).trans V (λi e=>.inl e);have hvv:∀g,v'.ownBlock=μ g->v.ownBlock=μ g \/w.heap.size<=g:=λg hg=>by
   rcases hv4 g hg with e|e
   {exact .inl e};{exact .inr (Nat.le_trans D.size e)}
  clear HC hv4 V zw M d2' d1' Je afu A D;obtain⟨s',H⟩:∃s',nW s 6=s':=⟨_,rfl⟩
  rw[H]at Y c6;have HS:Hid _:=H;clear H;by_cases h6:6<=s'.st
  ·go_wp2_with(fail);refine(Nn a n cap os E dZ Xy).mono ?_;rintro e w5 ⟨rfl,k5⟩;have y:=Y.below k5;have c7:w5.cell? ⟨B,7,ν⟩=μ (ι κ s'.sz):=y.lk.cell 7;have fz:∀j,w5.frozen? ⟨B,j,ν⟩=false:=y.lk.frozen;have hl5:=y.lk.lt;have HR6:Hid (rH (w5.setCell ⟨B,7,ν⟩ (ι κ (nt os))) B X {s' with sz:=nt os} v' (ps++qs)):=y.lq 7 _ _ rfl;have HK6:Hid (Kept w (w5.setCell ⟨B,7,ν⟩ (ι κ (nt os))) B v.ownBlock):=kM (J.trans (Kept.iT B v.ownBlock k5) (λi e=>.inl e)) 7 _;clear y Y J k5 Xy z2 c6
   go_wp2
   go_ret;rw[HS.out];have e6:s'.sized os={s' with sz:=nt os}:=by simp[LS.sized,h6]
   rw[e6];exact⟨rfl,⟨v',qs,HR6.out,Yp,hvv⟩,HK6.out⟩
  ·go_wp2
   go_ret;rw[HS.out];have e6:s'.sized os=s':=by unfold LS.sized;rw[af dZ]
   rw[e6];exact⟨rfl,⟨v',qs,Y,Yp,hvv⟩,J⟩
theorem Yq(B:Nat)(X:Nat->Prop)(s:LS)(v:dY)(ps:List PV)(w:dX)(h:rH w B X s v ps):
 eX eY 174 #[π (μ ⟨B,0,ν⟩)] w λe w'=>e=ρ v/\rH w' B X s (σ ν 0 0) [] /\Row w' 3 v ps.length (QB ps)/\(∀p∈ps,vA w' X v p)/\Kept w w' B ν:=by
 have hl:=h.lk.lt;have XZ:w.cell? ⟨B,11,ν⟩=μ v:=h.lk.cell 11;have fz:∀j,w.frozen? ⟨B,j,ν⟩=false:=h.lk.frozen;have Z:Kept w (w.setCell ⟨B,11,ν⟩ (σ ν 0 0)) B ν:=kM (Kept.refl w B _) 11 _;have T:Kept w (w.setCell ⟨B,11,ν⟩ (σ ν 0 0)) B v.ownBlock:=kM (Kept.refl w B _) 11 _;have J:Hid (rH (w.setCell ⟨B,11,ν⟩ (σ ν 0 0)) B X s (σ ν 0 0) []):=⟨h.lk.set 11 _,Row.nil _ 3,λg H=>by simp[eh]at H,h.self,λk V=>Nat.lt_of_lt_of_le (h.old k V) Z.size,λp U=>by simp at U⟩
 have M:Hid (Row (w.setCell ⟨B,11,ν⟩ (σ ν 0 0)) 3 v ps.length (QB ps)):=h.row.keep Z.size (λk Y=>ak _ _ _ k (λe=>h.ne (by rw[Y];exact congrArg μ e)));have HP:Hid (∀p∈ps,vA (w.setCell ⟨B,11,ν⟩ (σ ν 0 0)) X v p):=λp U=>(h.pk p U).kept h.self T (λ_ e=>.inl e);clear h T
 go_in
 go_wp2
 go_ret;exact⟨rfl,J.out,M.out,HP.out,Z⟩
theorem sH(w:dX):(zeroValue 37).run eY w=.ok (.agg #[ι κ 0,ι κ 0,σ ν 0 0]) w:=gS
theorem akm(ev:Int)(U:ev=0 \/ev=1 \/ev=2 \/ev=3)(B:Nat)(X:Nat->Prop)(s:LS)(v:dY)(ps:List PV)(w:dX)(Z:jf w)(h:rH w B X s v ps)(hb:Bd s 100)(V:ps.length<=50)(hf:(jh s.st ev).2.2=0):
 eX eY 120 #[π (μ ⟨B,0,ν⟩),ι κ ev] w λe w'=>e=ρ η/\nC w w' B X (nW s ev) v ps (pL s ev (0,0,[])):=by
 have hz:=sH;have hc:=zv B X s v ps ⟨0,0,ν,0,0,[]⟩ ev w Z h hb (qT _ _ _ _ _) V hf;clear h Z hb hf;rcases U with rfl|rfl|rfl|rfl
 all_goals
  go_in
  go_wp2_with(fail);refine hc.mono ?_;rintro e w1 ⟨rfl,Y⟩;clear hc
  go_wp2
  go_ret;exact⟨rfl,Y⟩
theorem Hl(B:Nat)(X:Nat->Prop)(s:LS)(v:dY)(ps:List PV)(w:dX)(h:rH w B X s v ps):
 eX eY 114 #[π (μ ⟨B,0,ν⟩)] w λe w'=>e=ρ (ι κ s.st)/\w=w':=by
 have hl:=h.lk.lt;have c6:w.cell? ⟨B,6,ν⟩=μ (ι κ s.st):=h.lk.cell 6;clear h
 go_in
 go_wp2
 go_ret;exact⟨rfl,rfl⟩
def kj(s:LS):LS:=if(decide (4<=s.st)&&decide (s.st<=8))=false then s else if 0<s.wt-1 then {s with wt:=s.wt-1}else if 0<s.lf then nW {s with wt:=s.wt-1} 4 else nW {s with wt:=s.wt-1} 5
def lO(s:LS):List kN:=if(decide (4<=s.st)&&decide (s.st<=8))=false then []else if 0<s.wt-1 then []else if 0<s.lf then pL {s with wt:=s.wt-1} 4 (0,0,[])else pL {s with wt:=s.wt-1} 5 (0,0,[])
theorem KQ:∀s:Nat,4<=s->s<=8->(lp s 4).2.2=0/\(lp s 5).2.2=0:=by
 intro s Z h2;exact(show∀s,s<9->4<=s->(lp s 4).2.2=0/\(lp s 5).2.2=0 by decide+kernel) s dZ Z
theorem UI(B:Nat)(X:Nat->Prop)(s:LS)(v:dY)(ps:List PV)(w:dX)(hT:jf w)(hB:B≠0)(Ts:v.ownBlock≠μ 0)(h:rH w B X s v ps)(hb:Bd s 100)(hn:ps.length<=50)(w1: -1000<=s.wt)(w2:s.wt<=1000):
 eX eY 147 #[π (μ ⟨B,0,ν⟩)] w λe w'=>e=ρ (τ #[])/\nC w w' B X (kj s) v ps (lO s):=by
 have hz:=sH;have hl:=h.lk.lt;have c6:w.cell? ⟨B,6,ν⟩=μ (ι κ s.st):=h.lk.cell 6;have c8:w.cell? ⟨B,8,ν⟩=μ (ι κ s.lf):=h.lk.cell 8;have c9:w.cell? ⟨B,9,ν⟩=μ (ι κ s.wt):=h.lk.cell 9;have fz:∀j,w.frozen? ⟨B,j,ν⟩=false:=h.lk.frozen;have T:=Qt s.st w;cases Z:(decide (4<=s.st)&&decide (s.st<=8))
 ·have Y:kj s=s:=by unfold kj;rw[ai Z]
  have V:lO s=[] :=by unfold lO;rw[ai Z]
  rw[Y,V];rw[Z]at T;have y:Hid (nC w w B X s v ps []):=nC.still h (Kept.refl _ _ _);clear h hb Y V Z
  go_in
  go_wp2_with(fail);refine T.mono ?_;rintro e w3 ⟨rfl,rfl⟩
  go_wp2
  first|go_end0|refine iK rfl rfl ?_
  exact⟨rfl,y.out⟩
 ·have M:rH (w.setCell ⟨B,9,ν⟩ (ι κ (s.wt-1))) B X {s with wt:=s.wt-1} v ps:=h.lq 9 _ _ rfl;have D:Kept w (w.setCell ⟨B,9,ν⟩ (ι κ (s.wt-1))) B v.ownBlock:=kM (Kept.refl _ _ _) 9 _;have G:=D.tab hT hB Ts;have E:Bd {s with wt:=s.wt-1} 100:=⟨hb.o1,hb.o2,hb.l1,hb.l2⟩
  have kd:4<=s.st/\s.st<=8:=by simpa using Z
  have A:(jh s.st 4).2.2=0/\(jh s.st 5).2.2=0:=by
   obtain⟨H,u⟩:∃H:Nat,s.st=H:=⟨s.st.toNat,dZ⟩
   rw[u];have:=KQ H dZ dZ;rw[show(4:Int)=((4:Nat):Int)from rfl,show(5:Int)=((5:Nat):Int)from rfl,nA H 4 dZ ew,nA H 5 dZ ew];exact this
  by_cases J:0<s.wt-1
  ·have Y:kj s={s with wt:=s.wt-1}:=by unfold kj;rw[af (by rw[Z];simp),ai J]
   have V:lO s=[] :=by unfold lO;rw[af (by rw[Z];simp),ai J]
   rw[Y,V];rw[Z]at T;have y:Hid (nC w _ B X _ v ps []):=nC.still M D;clear h M hb E Y V Z A kd G D
   go_in
   go_wp2_with(fail);refine T.mono ?_;rintro e w3 ⟨rfl,rfl⟩
   go_wp2
   first|go_end0|refine iK rfl rfl ?_
   exact⟨rfl,y.out⟩
  ·by_cases U:0<s.lf
   ·have Y:kj s=nW {s with wt:=s.wt-1} 4:=by unfold kj;rw[af (by rw[Z];simp),af J,ai U]
    have V:lO s=pL {s with wt:=s.wt-1} 4 (0,0,[]):=by unfold lO;rw[af (by rw[Z];simp),af J,ai U]
    rw[Y,V];rw[Z]at T;have hc:=zv B X {s with wt:=s.wt-1} v ps ⟨0,0,ν,0,0,[]⟩ 4 _ G M E (qT _ _ _ _ _) hn A.1;clear h M hb E Y V Z A kd G
    go_in
    go_wp2_with(fail);refine T.mono ?_;rintro e w3 ⟨rfl,rfl⟩;go_wp2_with(fail);refine hc.mono ?_;rintro e w4 ⟨rfl,hW⟩;clear hc
    go_wp2
    first|go_end0|refine iK rfl rfl ?_
    exact⟨rfl,hW.from D⟩
   ·have Y:kj s=nW {s with wt:=s.wt-1} 5:=by unfold kj;rw[af (by rw[Z];simp),af J,af U]
    have V:lO s=pL {s with wt:=s.wt-1} 5 (0,0,[]):=by unfold lO;rw[af (by rw[Z];simp),af J,af U]
    rw[Y,V];rw[Z]at T;have hc:=zv B X {s with wt:=s.wt-1} v ps ⟨0,0,ν,0,0,[]⟩ 5 _ G M E (qT _ _ _ _ _) hn A.2;clear h M hb E Y V Z A kd G
    go_in
    go_wp2_with(fail);refine T.mono ?_;rintro e w3 ⟨rfl,rfl⟩;go_wp2_with(fail);refine hc.mono ?_;rintro e w4 ⟨rfl,hW⟩;clear hc
    go_wp2
    first|go_end0|refine iK rfl rfl ?_
    exact⟨rfl,hW.from D⟩
def sY(s:LS)(ev:Int)(zh:kN):LS×List kN×Nat:=if(jh s.st ev).2.2=0 then(nW s ev,pL s ev zh,0)else(s,[],(jh s.st ev).2.2)
theorem tP {s:LS} {ev:Int} (zh:kN)(h:(jh s.st ev).2.2=0):sY s ev zh=(nW s ev,pL s ev zh,0):=by unfold sY;rw[ai h]
theorem wa {s:LS} {ev:Int} (zh:kN)(h:(jh s.st ev).2.2≠0):sY s ev zh=(s,[],(jh s.st ev).2.2):=by unfold sY;rw[af h]
theorem uj(B:Nat)(X:Nat->Prop)(s:LS)(v:dY)(ps:List PV)(p:PV)(ev:Int)(w:dX)(Y:jf w)(h:rH w B X s v ps)(hb:Bd s 100)(U:vA w X v p)(V:ps.length<=50):
 eX eY 171 #[π (μ ⟨B,0,ν⟩),ι κ ev,.agg #[ι κ p.code,ι κ p.id,σ p.a p.n p.cap]] w λe w'=>e=ρ (ji (sY s ev p.abs).2.2)/\nC w w' B X (sY s ev p.abs).1 v ps (sY s ev p.abs).2.1:=by
 by_cases hf:(jh s.st ev).2.2=0;{rw[tP _ hf];exact zv B X s v ps p ev w Y h hb U V hf}
 ·rw[wa _ hf];obtain⟨D,nx,f,Z⟩:∃D nx f,jh s.st ev=(D,nx,f):=⟨_,_,_,rfl⟩
  rw[Z]at hf⊢;refine(O2 B X s v ps p ev D nx f w Y h Z hf).mono ?_;rintro e w' ⟨rfl,hb⟩;exact⟨by simp only[ji];rw[af hf],nC.still (h.below hb) (Kept.iT B _ hb)⟩
theorem Np {mg:Int} (h:(l9 mg os).1=2):l9 mg os=(2,os):=by
 unfold l9 at*;split;{rename_i Z;rw[ai Z]at h;simp at h}
 ·rename_i Z
  rw[af Z]at h;split;{rename_i Y;rw[ai Y]at h;simp at h};{rfl}
def uk(s:LS)(id:Int)(os:List jJ):LS×List kN×Nat:=
 if(l9 s.nm os).1=2 then(if(sY s 6 (2,id,os)).2.2=0 then((sY s 6 (2,id,os)).1.sized os,(sY s 6 (2,id,os)).2.1,0)else sY s 6 (2,id,os))else sY s 7 ((l9 s.nm os).1,id,(l9 s.nm os).2)
theorem KR(mg:Int):∀os:List jJ,(rb mg os).length<=os.length
 |[] =>by simp[rb]
 |o::r=>by
  have ih:=KR mg r;have e:rb mg (o::r)=xM mg o++rb mg r:=by simp[rb]
  have h1:(xM mg o).length<=1:=by
   unfold xM;split;{simp};{split<;>simp}
  rw[e,az,cQ];omega
theorem Nq(mg:Int)(os:List jJ):(l9 mg os).2.length<=os.length:=by
 unfold l9;split;{exact cK _ _};{split;{exact KR mg os};{exact Nat.le_refl _}}
theorem Ea(B:Nat)(X:Nat->Prop)(s:LS)(v:dY)(ps:List PV)(id:Int)(a:Option dW)(n cap:Nat)(os:List jJ)(w:dX)(hT:jf w)(h:rH w B X s v ps)(hb:Bd s 100)(hn:ps.length<=50)
 (ho:jc w a n os) (ki:kJ a cap) (Aq:n<=1000) (m1:0<=s.nm) (m2:s.nm<=255) (Y:Int) (V:List jJ) (hj:l9 s.nm os=(Y,V)) (ev:Int) (vZ:Y=2/\ev=6/\(jh s.st 6).2.2≠0 \/Y≠2/\ev=7):
 eX eY 211 #[π (μ ⟨B,0,ν⟩),.agg #[ι κ 1,ι κ id,σ a n cap]] w λe w'=>e=ρ (ji (sY s ev (Y,id,V)).2.2)/\nC w w' B X (sY s ev (Y,id,V)).1 v ps (sY s ev (Y,id,V)).2.1:=by
 have G:=gT w (γ #[ι κ 1,ι κ id,σ a n cap] 37);have hA:=λj=>aq w #[ι κ 1,ι κ id,σ a n cap] 37 (0,0) j;have hl:=h.lk.lt;have X2:=h.row.lt;have T:=h.below G;have hz:∀w:dX,(zeroValue 37).run eY w=.ok (.agg #[ι κ 0,ι κ 0,σ ν 0 0]) w:=λw=>gS;have Yo:=ho.1;obtain⟨U,D⟩:=gg (w.alloc (γ #[ι κ 1,ι κ id,σ a n cap] 37));obtain⟨Z,hZ⟩:=gg (w.heap.size);have d1:U.cell? ⟨Z,1,ν⟩=μ (ι κ id):=by rw[<-D,<-hZ];exact hA 1
 have d2:U.cell? ⟨Z,2,ν⟩=μ (σ a n cap):=by rw[<-D,<-hZ];exact hA 2
 rw[D]at T G;have HW:Hid _:=D;have HZ:Hid _:=hZ;clear hA D hZ hl;have c2:U.cell? ⟨B,2,ν⟩=μ (ι κ s.ns):=T.lk.cell 2;have c3:U.cell? ⟨B,3,ν⟩=μ (ι κ s.nm):=T.lk.cell 3;have XY:=T.lk.lt;have J6:Z<U.heap.size:=ag U _ d1;have Qs:=T.old;have vp:=T.self;have hJ:=GY s.ns s.nm a n cap os U.drew m1 m2 dZ ki (ho.below (jD G));have yu:=Nq s.nm os;rw[hj]at hJ yu;simp only at hJ yu;have hlj:V.length<=1000:=dZ;clear yu hj;obtain⟨E,hE⟩:=gg (ji (sY s ev (Y,id,V)).2.2);obtain⟨S',J⟩:∃S',(sY s ev (Y,id,V)).1=S':=⟨_,rfl⟩
 obtain⟨O',M⟩:∃O',(sY s ev (Y,id,V)).2.1=O':=⟨_,rfl⟩
 rw[hE,J,M];have akn:Y=2/\ev=6/\(∃f:Nat,E=.iface 128 (ι κ (f:Int))) \/Y≠2/\ev=7:=by
  rcases vZ with⟨rfl,rfl,hf⟩|h7
  {refine .inl ⟨rfl,rfl,(jh s.st 6).2.2,?_⟩;rw[<-hE,wa _ hf];simp only[ji];rw[af hf]};{exact .inr h7}
 have y:Hid _:=e7 hE (e7 J M);clear vZ hE J M
 go_in
 go_wp2_with(fail);rw[HW.out,HZ.out]
 go_region_with(go_at_call 228;refine hJ.mono ?_;rintro e A ⟨u,rfl,hM⟩)
 all_goals
  obtain⟨a',n',jn,rfl,hP⟩:=IY (X:=X) (v:=v) Y id hM hlj Qs (λk hk3=>Nat.lt_of_lt_of_le (X2 k hk3) G.size);have za:eB U A:=gh (jD (au _ _)) hM.below;have R2:=T.below za;have d1':A.cell? ⟨Z,1,ν⟩=μ (ι κ id):=(za.cell (p:=⟨Z,1,ν⟩) J6).trans d1;have Je:Z<A.heap.size:=ag A _ d1';have Q8:=gT A (γ #[ι κ Y,ι κ id,σ a' n' jn] 37);have Xx:=gh G (gh za Q8);have R3:=R2.below Q8;have P3:=hP.kept vp (Kept.iT B v.ownBlock Q8) (λ_ e=>.inl e);have H:=uj B X s v ps ⟨Y,id,a',n',jn,V⟩ ev _ (hT.below Xx) R3 hb P3 hn;have Dl:PV.abs ⟨Y,id,a',n',jn,V⟩=(Y,id,V):=rfl;rw[Dl,y.out.1,y.out.2.1,y.out.2.2]at H;clear Dl y;clear hM hP R2 za c2 c3 d1 d2 T hJ R3 P3;rcases akn with⟨rfl,rfl,f,rfl⟩|⟨hc,rfl⟩
  ·go_wp2_with(fail);refine H.mono ?_;rintro e w4 ⟨rfl,hW⟩;clear H
   go_wp2
   go_ret;exact⟨rfl,hW.from (Kept.iT B v.ownBlock Xx)⟩
  ·have uM:(Y !=2)=true:=by simpa using hc
   clear hc;go_wp2_with(fail);refine H.mono ?_;rintro e w4 ⟨rfl,hW⟩;clear H
   go_wp2
   go_ret;exact⟨rfl,hW.from (Kept.iT B v.ownBlock Xx)⟩
theorem KS(B:Nat)(X:Nat->Prop)(s:LS)(v:dY)(ps:List PV)(id:Int)(a:Option dW)(n cap:Nat)(os:List jJ)(w:dX)(V:jf w)(h:rH w B X s v ps)(hb:Bd s 100)(U:ps.length<=50)
 (T:jc w a n os) (H:∀k,uH a n=μ k->¬X k/\v.ownBlock≠μ k/\k<w.heap.size) (M:kJ a cap) (Y:n<=1000) (m1:0<=s.nm) (m2:s.nm<=255):
 eX eY 211 #[π (μ ⟨B,0,ν⟩),.agg #[ι κ 1,ι κ id,σ a n cap]] w λe w'=>e=ρ (ji (uk s id os).2.2)/\nC w w' B X (uk s id os).1 v ps (uk s id os).2.1:=by
 by_cases Z:(l9 s.nm os).1=2
 ·have J:=Np Z;by_cases hf:(jh s.st 6).2.2=0
  ·have e:uk s id os=((nW s 6).sized os,pL s 6 (2,id,os),0):=by
    unfold uk;rw[ai Z,tP _ hf,ai rfl]
   rw[e];exact KP B X s v ps id a n cap os w V h hb U T H M Y m1 m2 J hf
  ·have e:uk s id os=sY s 6 (2,id,os):=by
    unfold uk;rw[ai Z,wa _ hf,af hf]
   rw[e];exact Ea B X s v ps id a n cap os w V h hb U T M Y m1 m2 2 os J 6 (.inl ⟨rfl,rfl,hf⟩)
 ·have e:uk s id os=sY s 7 ((l9 s.nm os).1,id,(l9 s.nm os).2):=by
   unfold uk;rw[af Z]
  rw[e];exact Ea B X s v ps id a n cap os w V h hb U T M Y m1 m2 _ _ rfl 7 (.inr ⟨Z,rfl⟩)
def LS.tell(s:LS)(code:Int)(os:List jJ):LS:=if 6<=s.st then {s with ns:=(oY code os (s.ns,s.nm)).1,nm:=(oY code os (s.ns,s.nm)).2}else s
def tQ(s:LS)(code id:Int)(os:List jJ):LS×List kN×Nat:=
 if id≠s.ow then(s,[],6)else if code=2 then(if os≠oy s.qs s.qm then(s,[],6)else sY s 8 (0,id,[]))else sY (s.tell code os) 9 (0,id,[])
theorem Nr(B:Nat)(X:Nat->Prop)(s:LS)(v:dY)(ps:List PV)(code id:Int)(a:Option dW)(n cap:Nat)(os:List jJ)(w:dX)(hT:jf w)(xj:B≠0)(Ts:v.ownBlock≠μ 0)(h:rH w B X s v ps)(hb:Bd s 100)(hn:ps.length<=50)
 (ho:jc w a n os) (Aq:n<=1000):
 eX eY 212 #[π (μ ⟨B,0,ν⟩),.agg #[ι κ code,ι κ id,σ a n cap]] w λe w'=>e=ρ (ji (tQ s code id os).2.2)/\nC w w' B X (tQ s code id os).1 v ps (tQ s code id os).2.1:=by
 have hk:=gT w (γ #[ι κ code,ι κ id,σ a n cap] 37);have hA:=λj=>aq w #[ι κ code,ι κ id,σ a n cap] 37 (0,0) j;have hl:=h.lk.lt;have H:=h.below hk;have hz:∀w:dX,(zeroValue 37).run eY w=.ok (.agg #[ι κ 0,ι κ 0,σ ν 0 0]) w:=λw=>gS;obtain⟨U,j6⟩:=gg (w.alloc (γ #[ι κ code,ι κ id,σ a n cap] 37));obtain⟨Z,hZ⟩:=gg (w.heap.size);have d0:U.cell? ⟨Z,0,ν⟩=μ (ι κ code):=by rw[<-j6,<-hZ];exact hA 0
 have d1:U.cell? ⟨Z,1,ν⟩=μ (ι κ id):=by rw[<-j6,<-hZ];exact hA 1
 have d2:U.cell? ⟨Z,2,ν⟩=μ (σ a n cap):=by rw[<-j6,<-hZ];exact hA 2
 rw[j6]at H hk;have HW:Hid _:=j6;have HZ:Hid _:=hZ;have HBZ:Hid (B≠Z):=by show B≠Z;omega
 clear hA j6 hZ hl;have c2:U.cell? ⟨B,2,ν⟩=μ (ι κ s.ns):=H.lk.cell 2;have c3:U.cell? ⟨B,3,ν⟩=μ (ι κ s.nm):=H.lk.cell 3;have c4:U.cell? ⟨B,4,ν⟩=μ (ι κ s.qs):=H.lk.cell 4;have c5:U.cell? ⟨B,5,ν⟩=μ (ι κ s.qm):=H.lk.cell 5;have c6:U.cell? ⟨B,6,ν⟩=μ (ι κ s.st):=H.lk.cell 6;have TR:U.cell? ⟨B,10,ν⟩=μ (ι κ s.ow):=H.lk.cell 10;have XY:=H.lk.lt;have G:Z<U.heap.size:=ag U _ d1;cases Tv:(id !=s.ow)
 ·have pU:id=s.ow:=by simpa using Tv
  cases h22:(code==2)
  ·have Nm:code≠2:=by simpa using h22
   have y:tQ s code id os=sY (s.tell code os) 9 (0,id,[]):=by
    unfold tQ;rw[af (by simpa using pU),af Nm]
   rw[y];clear y Nm pU;by_cases h6:6<=s.st
   ·have et:s.tell code os={s with ns:=(oY code os (s.ns,s.nm)).1,nm:=(oY code os (s.ns,s.nm)).2}:=by unfold LS.tell;rw[ai h6]
    rw[et];clear et;have hTo:=λ(W:dX) (hW:eB w W)=>TU s.ns s.nm code a n cap os W dZ (ho.below hW);generalize (oY code os (s.ns,s.nm)).1=ts at hTo⊢;generalize (oY code os (s.ns,s.nm)).2=tm at hTo⊢;obtain⟨E,hE⟩:=gg (ji (sY {s with ns:=ts,nm:=tm} 9 (0,id,[])).2.2);obtain⟨S',hS'⟩:∃S',(sY {s with ns:=ts,nm:=tm} 9 (0,id,[])).1=S':=⟨_,rfl⟩
    obtain⟨O',hO'⟩:∃O',(sY {s with ns:=ts,nm:=tm} 9 (0,id,[])).2.1=O':=⟨_,rfl⟩
    rw[hE,hS',hO'];have HE:Hid _:=e7 hE (e7 hS' hO');have HTo:Hid _:=hTo;clear hE hS' hO' hTo
    go_in
    go_wp2_with(fail);rw[HW.out,HZ.out]
    go_quiet(fail)
    go_wp2_with(fail);obtain⟨Y,D⟩:=gg (U.drewN nq);have V:eB U Y:=by rw[<-D];exact below_drewN (au _ _) _
    rw[D];have M:=H.below V;have e0:Y.cell? ⟨Z,0,ν⟩=μ (ι κ code):=(V.cell (p:=⟨Z,0,ν⟩) G).trans d0;have e1:Y.cell? ⟨Z,1,ν⟩=μ (ι κ id):=(V.cell (p:=⟨Z,1,ν⟩) G).trans d1;have e2:Y.cell? ⟨Z,2,ν⟩=μ (σ a n cap):=(V.cell (p:=⟨Z,2,ν⟩) G).trans d2;have f2:Y.cell? ⟨B,2,ν⟩=μ (ι κ s.ns):=M.lk.cell 2;have f3:Y.cell? ⟨B,3,ν⟩=μ (ι κ s.nm):=M.lk.cell 3;have afx:=M.lk.lt;have Je:Z<Y.heap.size:=ag Y _ e1;have T:=gh hk V;have HR2:Hid _:=M;have hC:=HTo.out Y.drew (jD T);clear d0 d1 d2 c2 c3 c4 c5 c6 TR H D V XY G M HTo
    go_region_with(go_at_call 231;refine hC.mono ?_;rintro e J ⟨rfl,b3⟩;have Q8:eB Y J:=gh (jD (au _ _)) b3;have R3:=HR2.out.below Q8;have g2:J.cell? ⟨B,2,ν⟩=μ (ι κ s.ns):=R3.lk.cell 2;have g3:J.cell? ⟨B,3,ν⟩=μ (ι κ s.nm):=R3.lk.cell 3;have gf:∀j,J.frozen? ⟨B,j,ν⟩=false:=R3.lk.frozen;have gl:=R3.lk.lt;have z1:J.cell? ⟨Z,1,ν⟩=μ (ι κ id):=(Q8.cell (p:=⟨Z,1,ν⟩) Je).trans e1)
    all_goals
     have R4:rH ((J.setCell ⟨B,2,ν⟩ (ι κ ts)).setCell ⟨B,3,ν⟩ (ι κ tm)) B X {s with ns:=ts,nm:=tm} v ps:=(R3.lq 2 _ {s with ns:=ts} rfl).lq 3 _ _ rfl;have K4:Kept w ((J.setCell ⟨B,2,ν⟩ (ι κ ts)).setCell ⟨B,3,ν⟩ (ι κ tm)) B v.ownBlock:=kM (kM (Kept.iT B _ (gh T Q8)) 2 _) 3 _;have A:=uj B X {s with ns:=ts,nm:=tm} v ps ⟨0,id,ν,0,0,[]⟩ 9 _ (K4.tab hT xj Ts) R4 ⟨hb.o1,hb.o2,hb.l1,hb.l2⟩ (qT _ _ _ _ _) hn;have Dl:PV.abs ⟨0,id,ν,0,0,[]⟩=(0,id,[]):=rfl;rw[Dl,HE.out.1,HE.out.2.1,HE.out.2.2]at A;clear Dl HE R4 R3 hC;have apK:Z<J.heap.size:=ag J _ z1;have ym:=HBZ.out;go_wp2_with(fail);refine A.mono ?_;rintro e w5 ⟨rfl,hW⟩;clear A
     go_wp2
     go_ret;exact⟨rfl,hW.from K4⟩
   ·have et:s.tell code os=s:=by unfold LS.tell;rw[af h6]
    rw[et];clear et
    go_in
    go_wp2_with(fail);rw[HW.out,HZ.out]
    go_quiet(fail)
    obtain⟨Y,D⟩:=gg (U.drewN nq);have V:eB U Y:=by rw[<-D];exact below_drewN (au _ _) _
    rw[D];have M:=H.below V;have e0:Y.cell? ⟨Z,0,ν⟩=μ (ι κ code):=(V.cell (p:=⟨Z,0,ν⟩) G).trans d0;have e1:Y.cell? ⟨Z,1,ν⟩=μ (ι κ id):=(V.cell (p:=⟨Z,1,ν⟩) G).trans d1;have f6:Y.cell? ⟨B,6,ν⟩=μ (ι κ s.st):=M.lk.cell 6;have afx:=M.lk.lt;have Je:Z<Y.heap.size:=ag Y _ e1;have T:=gh hk V;have A:=uj B X s v ps ⟨0,id,ν,0,0,[]⟩ 9 _ (hT.below T) M hb (qT _ _ _ _ _) hn;clear d0 d1 d2 c2 c3 c4 c5 c6 TR H D V XY G M;go_wp2_with(fail);refine A.mono ?_;rintro e w5 ⟨rfl,hW⟩;clear A
    go_wp2
    go_ret;exact⟨rfl,hW.from (Kept.iT B v.ownBlock T)⟩
  ·have Nm:code=2:=by simpa using h22
   subst Nm;have HID:Hid _:=pU;clear h22 pU
   go_in
   go_wp2_with(fail);rw[HW.out,HZ.out]
   go_quiet(fail)
   go_wp2_with(fail);obtain⟨Y,D⟩:=gg (U.drewN nq);have V:eB U Y:=by rw[<-D];exact below_drewN (au _ _) _
   rw[D];have M:=H.below V;have e0:Y.cell? ⟨Z,0,ν⟩=μ (ι κ 2):=(V.cell (p:=⟨Z,0,ν⟩) G).trans d0;have e1:Y.cell? ⟨Z,1,ν⟩=μ (ι κ id):=(V.cell (p:=⟨Z,1,ν⟩) G).trans d1;have e2:Y.cell? ⟨Z,2,ν⟩=μ (σ a n cap):=(V.cell (p:=⟨Z,2,ν⟩) G).trans d2;have f4:Y.cell? ⟨B,4,ν⟩=μ (ι κ s.qs):=M.lk.cell 4;have f5:Y.cell? ⟨B,5,ν⟩=μ (ι κ s.qm):=M.lk.cell 5;have afx:=M.lk.lt;have Je:Z<Y.heap.size:=ag Y _ e1;have T:=gh hk V;clear d0 d1 d2 c2 c3 c4 c5 c6 TR H D V XY G Tv
   go_region_with(first
    |(go_at_call 224;refine(Km s.qs s.qm _).mono ?_;rintro e J ⟨u,rfl,hM⟩;obtain⟨ua,uc,rfl,un,ul⟩:=hM.shape;have k3:=hM.below;have g2:J.cell? ⟨Z,2,none⟩=some (.slice a n cap):=(k3.cell (p:=⟨Z,2,none⟩) Je).trans e2)
    |(go_at_call 230;refine(AZ a ua cap uc n _ os (oy s.qs s.qm) J (ho.below (gh (jD T) k3)) hM.opts.2 dZ (by have:=GZ s.qs s.qm;omega)).mono ?_;rintro e w4 ⟨rfl,m4,rfl⟩))
   all_goals
    have k04:eB w (J.drewN m4):=below_drewN (gh (jD T) k3) m4;have k24:eB Y (J.drewN m4):=below_drewN (gh (jD (au _ _)) k3) m4;have R4:=M.below k24;have g1:(J.drewN m4).cell? ⟨Z,1,ν⟩=μ (ι κ id):=(k24.cell (p:=⟨Z,1,ν⟩) Je).trans e1;have apL:Z<(J.drewN m4).heap.size:=ag _ _ g1;have A:=uj B X s v ps ⟨0,id,ν,0,0,[]⟩ 8 _ (hT.below k04) R4 hb (qT _ _ _ _ _) hn;have HR4:Hid _:=R4;clear M R4 k24 hM;by_cases GV:os=oy s.qs s.qm
    ·have hd:decide (os=oy s.qs s.qm)=true:=by simp[GV]
     have y:tQ s 2 id os=sY s 8 (0,id,[]):=by
      unfold tQ;rw[af (by simpa using HID.out),ai rfl,af (by simpa using GV)]
     clear GV
     try rw[hd]
     go_wp2_with(fail);refine A.mono ?_;rintro e w5 ⟨rfl,hW⟩;clear A
     go_wp2
     go_ret;rw[y];exact⟨rfl,hW.from (Kept.iT B v.ownBlock k04)⟩
    ·have hd:decide (os=oy s.qs s.qm)=false:=by simp[GV]
     have y:tQ s 2 id os=(s,[],6):=by
      unfold tQ;rw[af (by simpa using HID.out),ai rfl,ai GV]
     clear GV A
     try rw[hd]
     go_wp2
     go_ret;rw[y];exact⟨rfl,nC.still HR4.out (Kept.iT B v.ownBlock k04)⟩
 ·have pU:id≠s.ow:=by simpa using Tv
  have y:tQ s code id os=(s,[],6):=by
   unfold tQ;rw[ai pU]
  rw[y];clear y pU
  go_in
  go_wp2_with(fail);rw[HW.out,HZ.out]
  go_quiet(fail)
  go_wp2
  go_ret;exact⟨rfl,nC.still (H.below (below_drewN (au _ _) _)) (Kept.iT B v.ownBlock (below_drewN hk _))⟩
def jK(s:LS)(p:kN):LS×List kN×Nat:=
 if jS p.1 p.2.1 p.2.2≠0 then(s,[],jS p.1 p.2.1 p.2.2)else if p.1=1 then uk s p.2.1 p.2.2 else if p.1=5 then sY s 10 (0,p.2.1,[])else if p.1=6 then sY s 11 (0,p.2.1,[])else tQ s p.1 p.2.1 p.2.2
theorem UJ(B:Nat)(X:Nat->Prop)(s:LS)(v:dY)(ps:List PV)(p:PV)(w:dX)(hT:jf w)(xj:B≠0)(Ts:v.ownBlock≠μ 0)(h:rH w B X s v ps)(hb:Bd s 100)(hn:ps.length<=50)(hp:vA w X v p)(m1:0<=s.nm)(m2:s.nm<=255):
 eX eY 185 #[π (μ ⟨B,0,ν⟩),.agg #[ι κ p.code,ι κ p.id,σ p.a p.n p.cap]] w λe w'=>e=ρ (ji (jK s p.abs).2.2)/\nC w w' B X (jK s p.abs).1 v ps (jK s p.abs).2.1:=by
 obtain⟨code,id,a,n,cap,os⟩:=p;obtain⟨H,ki,A,yu,uL⟩:=hp;simp only at H ki A yu;have D:∀k,uH a n=μ k->¬X k/\v.ownBlock≠μ k/\k<w.heap.size:=uL;have Dl:PV.abs ⟨code,id,a,n,cap,os⟩=(code,id,os):=rfl;rw[Dl];have G:=gT w (γ #[ι κ code,ι κ id,σ a n cap] 37);have hA:=λj=>aq w #[ι κ code,ι κ id,σ a n cap] 37 (0,0) j;have hC:=uh code id a n cap os _ dZ A (H.below G);have hz:∀w:dX,(zeroValue 37).run eY w=.ok (.agg #[ι κ 0,ι κ 0,σ ν 0 0]) w:=λw=>gS;obtain⟨Z,hZ⟩:=gg (w.heap.size);have V:∀j,(w.alloc (γ #[ι κ code,ι κ id,σ a n cap] 37)).cell? ⟨Z,j,ν⟩= #[ι κ code,ι κ id,σ a n cap][j]? :=by rw[<-hZ];exact hA
 have U:Z<(w.alloc (γ #[ι κ code,ι κ id,σ a n cap] 37)).heap.size:=by simp;omega
 have y:Hid _:=hZ;clear hA hZ uL Dl;by_cases E:jS code id os=0
 ·have e0:ji 0=η:=rfl;rw[E,e0]at hC;have main:∀(ev:Int),∀Y:dX,eB w Y->eX eY 171 #[π (μ ⟨B,0,ν⟩),ι κ ev,.agg #[ι κ 0,ι κ id,σ ν 0 0]] Y λe w'=>e=ρ (ji (sY s ev (0,id,[])).2.2)/\nC w w' B X (sY s ev (0,id,[])).1 v ps (sY s ev (0,id,[])).2.1:=by
   intro ev Y k;refine(uj B X s v ps ⟨0,id,ν,0,0,[]⟩ ev Y (hT.below k) (h.below k) hb (qT _ _ _ _ _) hn).mono ?_;rintro e w' ⟨rfl,T⟩;exact⟨rfl,T.from (Kept.iT B v.ownBlock k)⟩
  have J:jK s (code,id,os)=if code=1 then uk s id os else if code=5 then sY s 10 (0,id,[])else if code=6 then sY s 11 (0,id,[])else tQ s code id os:=by
   unfold jK;rw[af (by simpa using E)]
  rw[J];clear J E e0;by_cases u:code=1
  ·subst u;rw[ai rfl];have HH:∀Y:dX,eB w Y->eX eY 211 #[π (μ ⟨B,0,ν⟩),.agg #[ι κ 1,ι κ id,σ a n cap]] Y λe w'=>e=ρ (ji (uk s id os).2.2)/\nC w w' B X (uk s id os).1 v ps (uk s id os).2.1:=by
    intro Y k;refine(KS B X s v ps id a n cap os Y (hT.below k) (h.below k) hb hn (H.below k) (λj OW=>by obtain⟨q1,q2,q3⟩:=D j OW;exact⟨q1,q2,Nat.lt_of_lt_of_le q3 k.size⟩) ki dZ m1 m2).mono ?_;rintro e w' ⟨rfl,T⟩;exact⟨rfl,T.from (Kept.iT B v.ownBlock k)⟩
   clear main D h H
   go_in
   go_wp2_with(fail);refine hC.mono ?_;rintro e w1 ⟨rfl,k1⟩;have d0:w1.cell? ⟨Z,0,ν⟩=μ (ι κ 1):=(k1.cell (p:=⟨Z,0,ν⟩) U).trans (V 0);have d1:w1.cell? ⟨Z,1,ν⟩=μ (ι κ id):=(k1.cell (p:=⟨Z,1,ν⟩) U).trans (V 1);have d2:w1.cell? ⟨Z,2,ν⟩=μ (σ a n cap):=(k1.cell (p:=⟨Z,2,ν⟩) U).trans (V 2);have IV:Z<w1.heap.size:=ag w1 _ d0;have M:=HH w1 (gh G k1);clear hC V U HH;rw[y.out];go_wp2_with(fail);refine M.mono ?_;rintro e w2 ⟨rfl,T⟩;clear M
   go_wp2
   go_ret;exact⟨rfl,T⟩
  ·rw[af u];have b1:(code==1)=false:=by simpa using u
   by_cases h5:code=5
   ·subst h5;rw[ai rfl];clear D h H
    go_in
    go_wp2_with(fail);refine hC.mono ?_;rintro e w1 ⟨rfl,k1⟩;have d0:w1.cell? ⟨Z,0,ν⟩=μ (ι κ 5):=(k1.cell (p:=⟨Z,0,ν⟩) U).trans (V 0);have d1:w1.cell? ⟨Z,1,ν⟩=μ (ι κ id):=(k1.cell (p:=⟨Z,1,ν⟩) U).trans (V 1);have IV:Z<w1.heap.size:=ag w1 _ d0;have M:=main 10 w1 (gh G k1);clear hC V U main;rw[y.out];go_wp2_with(fail);refine M.mono ?_;rintro e w2 ⟨rfl,T⟩;clear M
    go_wp2
    go_ret;exact⟨rfl,T⟩
   ·rw[af h5];have b5:(code==5)=false:=by simpa using h5
    by_cases h6:code=6
    ·subst h6;rw[ai rfl];clear D h H
     go_in
     go_wp2_with(fail);refine hC.mono ?_;rintro e w1 ⟨rfl,k1⟩;have d0:w1.cell? ⟨Z,0,ν⟩=μ (ι κ 6):=(k1.cell (p:=⟨Z,0,ν⟩) U).trans (V 0);have d1:w1.cell? ⟨Z,1,ν⟩=μ (ι κ id):=(k1.cell (p:=⟨Z,1,ν⟩) U).trans (V 1);have IV:Z<w1.heap.size:=ag w1 _ d0;have M:=main 11 w1 (gh G k1);clear hC V U main;rw[y.out];go_wp2_with(fail);refine M.mono ?_;rintro e w2 ⟨rfl,T⟩;clear M
     go_wp2
     go_ret;exact⟨rfl,T⟩
    ·rw[af h6];have b6:(code==6)=false:=by simpa using h6
     have HH:∀Y:dX,eB w Y->eX eY 212 #[π (μ ⟨B,0,ν⟩),.agg #[ι κ code,ι κ id,σ a n cap]] Y λe w'=>e=ρ (ji (tQ s code id os).2.2)/\nC w w' B X (tQ s code id os).1 v ps (tQ s code id os).2.1:=by
      intro Y k;refine(Nr B X s v ps code id a n cap os Y (hT.below k) xj Ts (h.below k) hb hn (H.below k) dZ).mono ?_;rintro e w' ⟨rfl,T⟩;exact⟨rfl,T.from (Kept.iT B v.ownBlock k)⟩
     clear main D h H u h5 h6
     go_in
     go_wp2_with(fail);refine hC.mono ?_;rintro e w1 ⟨rfl,k1⟩;have d0:w1.cell? ⟨Z,0,ν⟩=μ (ι κ code):=(k1.cell (p:=⟨Z,0,ν⟩) U).trans (V 0);have d1:w1.cell? ⟨Z,1,ν⟩=μ (ι κ id):=(k1.cell (p:=⟨Z,1,ν⟩) U).trans (V 1);have d2:w1.cell? ⟨Z,2,ν⟩=μ (σ a n cap):=(k1.cell (p:=⟨Z,2,ν⟩) U).trans (V 2);have IV:Z<w1.heap.size:=ag w1 _ d0;have M:=HH w1 (gh G k1);clear hC V U HH;rw[y.out];go_wp2_with(fail);refine M.mono ?_;rintro e w2 ⟨rfl,T⟩;clear M
     go_wp2
     go_ret;exact⟨rfl,T⟩
 ·have J:jK s (code,id,os)=(s,[],jS code id os):=by
   unfold jK;rw[ai E]
  rw[J];have ee:ji (jS code id os)=.iface 128 (ι κ (jS code id os:Int)):=by simp only[ji];rw[af E]
  simp only[ee]at hC⊢;have HR:Hid (∀Y:dX,eB w Y->rH Y B X s v ps):=λY k=>h.below k;clear J E ee h H;generalize jS code id os=f at hC⊢
  go_in
  go_wp2_with(fail);refine hC.mono ?_;rintro e w1 ⟨rfl,k1⟩;clear hC
  go_wp2
  go_ret;exact⟨rfl,nC.still (HR.out _ (gh G k1)) (Kept.iT B v.ownBlock (gh G k1))⟩
def kY(s:LS)(ev:Int):LS×List kN×Nat:=if ev=0 \/ev=1 \/ev=2 \/ev=3 then sY s ev (0,0,[])else(s,[],1)
theorem aca(ev:Int)(B:Nat)(X:Nat->Prop)(s:LS)(v:dY)(ps:List PV)(w:dX)(Y:jf w)(h:rH w B X s v ps)(hb:Bd s 100)(T:ps.length<=50):
 eX eY 120 #[π (μ ⟨B,0,ν⟩),ι κ ev] w λe w'=>e=ρ (ji (kY s ev).2.2)/\nC w w' B X (kY s ev).1 v ps (kY s ev).2.1:=by
 have hz:=sH;have hc:=uj B X s v ps ⟨0,0,ν,0,0,[]⟩ ev w Y h hb (qT _ _ _ _ _) T;by_cases Z:ev=0 \/ev=1 \/ev=2 \/ev=3
 ·have e:kY s ev=sY s ev (0,0,[]):=by unfold kY;rw[ai Z]
  rw[e];clear h Y hb e;rcases Z with rfl|rfl|rfl|rfl
  all_goals
   go_in
   go_wp2_with(fail);refine hc.mono ?_;rintro e w1 ⟨rfl,U⟩;clear hc
   go_wp2
   go_ret;exact⟨rfl,U⟩
 ·have e:kY s ev=(s,[],1):=by unfold kY;rw[af Z]
  rw[e];have b0:(ev==0)=false:=by simp;omega
  have b1:(ev==1)=false:=by simp;omega
  have b2:(ev==2)=false:=by simp;omega
  have b3:(ev==3)=false:=by simp;omega
  have V:Hid (nC w w B X s v ps []):=nC.still h (Kept.refl _ _ _);clear hc h Y hb e Z
  go_in
  go_wp2
  go_ret;exact⟨rfl,V.out⟩
theorem Dm(x:Int):yA x=true↔0<=x/\x<=255:=by simp[yA]
def Ys:List UInt8->Int->Int
 |[],x=>x
 |c::r,x=>Ys r (if c=105 then 4 else if c=122 then 0 else if c=114 then x-1 else if c=116 then x-1 else x)
def Yu:List UInt8->Int->Int
 |[],x=>x
 |c::r,x=>Yu r (if c=105 then x else if c=122 then 3 else if c=114 then 3 else if c=116 then 3 else x)
theorem Hm:∀(L:List UInt8) (s:LS),0<=s.ow->s.ow<=255->(qI L s).st=s.st/\(qI L s).sz=s.sz/\(qI L s).fs=s.fs/\(qI L s).fm=s.fm/\(qI L s).ns=s.ns/\(qI L s).nm=s.nm/\(qI L s).lf=Ys L s.lf/\(qI L s).wt=Yu L s.wt/\0<=(qI L s).ow/\(qI L s).ow<=255
 |[],s,h1,h2=>⟨rfl,rfl,rfl,rfl,rfl,rfl,rfl,rfl,h1,h2⟩
 |c::r,s,h1,h2=>by
  have e:qI (c::r) s=qI r (pS c s):=rfl;have V:(pS c s).st=s.st/\(pS c s).sz=s.sz/\(pS c s).fs=s.fs/\(pS c s).fm=s.fm/\(pS c s).ns=s.ns/\(pS c s).nm=s.nm/\(pS c s).lf=(if c=105 then 4 else if c=122 then 0 else if c=114 then s.lf-1 else if c=116 then s.lf-1 else s.lf)/\(pS c s).wt=(if c=105 then s.wt else if c=122 then 3 else if c=114 then 3 else if c=116 then 3 else s.wt)/\0<=(pS c s).ow/\(pS c s).ow<=255:=by
   by_cases c1:c=105;{subst c1;exact⟨rfl,rfl,rfl,rfl,rfl,rfl,rfl,rfl,h1,h2⟩}
   ·by_cases c2:c=122;{subst c2;exact⟨rfl,rfl,rfl,rfl,rfl,rfl,rfl,rfl,h1,h2⟩}
    ·by_cases c3:c=114;{subst c3;exact⟨rfl,rfl,rfl,rfl,rfl,rfl,rfl,rfl,by show 0<=(s.ow+1) %256;omega,by show(s.ow+1) %256<=255;omega⟩}
     ·by_cases c4:c=116;{subst c4;exact⟨rfl,rfl,rfl,rfl,rfl,rfl,rfl,rfl,by show 0<=(s.ow+1) %256;omega,by show(s.ow+1) %256<=255;omega⟩}
      ·have X:pS c s=s:=by simp[pS,c1,c2,c3,c4]
       rw[X,af c1,af c2,af c3,af c4,af c1,af c2,af c3,af c4];exact⟨rfl,rfl,rfl,rfl,rfl,rfl,rfl,rfl,h1,h2⟩
  obtain⟨U,T,p3,M,J,H,G,E,D,Z⟩:=V;obtain⟨q1,q2,A,y,u,q6,j,h,q9,Y⟩:=Hm r (pS c s) D Z;rw[e];exact⟨q1.trans U,q2.trans T,A.trans p3,y.trans M,u.trans J,q6.trans H,by rw[j,G];rfl,by rw[h,E];rfl,q9,Y⟩
def xP(st lf wt:Int):Bool:=decide (0<=st)&&decide (st<=9)&&decide (0<=lf)&&decide (lf<=4)&& (!(decide (st=7)||decide (st=9))||decide (lf=4))&&decide (0<=wt)&&decide (wt<=3)&& (!(decide (4<=st)&&decide (st<=8))||decide (1<=wt))
theorem sJ(st lf wt:Int):xP st lf wt=true↔(0<=st/\st<=9/\0<=lf/\lf<=4/\(st=7 \/st=9->lf=4)/\0<=wt/\wt<=3/\(4<=st/\st<=8->1<=wt)):=by
 simp only[xP,Bool.and_eq_true,Bool.or_eq_true,Bool.not_eq_true',decide_eq_true_eq,decide_eq_false_iff_not,Bool.or_eq_false_iff,Bool.and_eq_false_iff];constructor;{rintro⟨⟨⟨⟨⟨⟨⟨a,b⟩,c⟩,d⟩,e⟩,f⟩,g⟩,h⟩;exact⟨a,b,c,d,dZ,f,g,dZ⟩};{rintro⟨a,b,c,d,e,f,g,h⟩;exact⟨⟨⟨⟨⟨⟨⟨a,b⟩,c⟩,d⟩,dZ⟩,f⟩,g⟩,dZ⟩}
theorem acb:((fW 12).all λe=>(fW 10).all λs=>(fW 5).all λl=>(fW 4).all λt=> !(e !=4&&e !=5&&xP (s:Int) (l:Int) (t:Int)&& ((lp s e).2.2==0))||xP (lp s e).2.1 (Ys (lp s e).1 (l:Int)) (Yu (lp s e).1 (t:Int)))=true:=by decide+kernel
theorem UK(e:Nat)(T:e<12)(s:Nat)(hs:s<10)(l:Nat)(hl:l<5)(t:Nat)(M:t<4)(h:e≠4/\e≠5/\xP (s:Int) (l:Int) (t:Int)=true/\(lp s e).2.2=0):xP (lp s e).2.1 (Ys (lp s e).1 (l:Int)) (Yu (lp s e).1 (t:Int))=true:=by
 have Z:=aZ.1 (aZ.1 (aZ.1 (aZ.1 acb e (aP.2 T)) s (aP.2 hs)) l (aP.2 hl)) t (aP.2 M);obtain⟨Y,X,V,U⟩:=h;have b4:(e !=4)=true:=by simpa using Y
 have b5:(e !=5)=true:=by simpa using X
 have b7:((lp s e).2.2==0)=true:=by simpa using U
 rw[b4,b5,V,b7]at Z;simpa using Z
theorem KU:∀s:Nat,s<10->∀l:Nat,l<5->(4<=s/\s<=8/\1<=l/\xP (s:Int) (l:Int) 1=true)->xP (lp s 4).2.1 (Ys (lp s 4).1 (l:Int)) (Yu (lp s 4).1 0)=true:=by decide+kernel
theorem KW:∀s:Nat,s<10->(4<=s/\s<=8/\xP (s:Int) 0 1=true)->xP (lp s 5).2.1 (Ys (lp s 5).1 0) (Yu (lp s 5).1 0)=true:=by decide+kernel
structure Av(s:LS):Prop where
 ok:xP s.st s.lf s.wt=true
 o1:0<=s.ow
 o2:s.ow<=255
 m1:0<=s.nm
 m2:s.nm<=255
 f1:0<=s.fm
 f2:s.fm<=255
theorem Av.bd {s:LS} (h:Av s):Bd s 100:=by
 obtain⟨a,b,c,d,_⟩:=(sJ _ _ _).1 h.ok;exact⟨h.o1,h.o2,dZ,dZ⟩
theorem Av.wt {s:LS} (h:Av s):0<=s.wt/\s.wt<=3:=by
 obtain⟨_,_,_,_,_,a,b,_⟩:=(sJ _ _ _).1 h.ok;exact⟨a,b⟩
theorem yB {s:LS} (h1:0<=s.ow)(h2:s.ow<=255)(m1:0<=s.nm)(m2:s.nm<=255)(f1:0<=s.fm)(f2:s.fm<=255)(ev:Int)(Z:xP (jh s.st ev).2.1 (Ys (jh s.st ev).1 s.lf) (Yu (jh s.st ev).1 s.wt)=true):Av (nW s ev):=by
 unfold nW;obtain⟨D,nx,f,U⟩:∃D nx f,jh s.st ev=(D,nx,f):=⟨_,_,_,rfl⟩
 rw[U]at Z⊢;simp only at Z⊢;have T:(s.next nx).st=nx/\(s.next nx).lf=s.lf/\(s.next nx).wt=s.wt/\(s.next nx).ow=s.ow/\(s.next nx).fm=s.fm/\((s.next nx).nm=s.nm \/(s.next nx).nm=s.fm):=by
  unfold LS.next;split;{exact⟨rfl,rfl,rfl,rfl,rfl,.inr rfl⟩};{exact⟨rfl,rfl,rfl,rfl,rfl,.inl rfl⟩}
 obtain⟨n1,M,n3,n4,X,n6⟩:=T;obtain⟨q1,_,_,V,_,q6,J,H,G,Y⟩:=Hm D (s.next nx) dZ dZ;refine⟨by rw[q1,J,H,n1,M,n3];exact Z,G,Y,?_,?_,by rw[V,X];exact f1,by rw[V,X];exact f2⟩;{rw[q6];rcases n6 with e|e<;>rw[e] <;>assumption};{rw[q6];rcases n6 with e|e<;>rw[e] <;>assumption}
theorem Av.ev {s:LS} (h:Av s)(e:Nat)(Z:e<12)(U:e≠4)(T:e≠5)(zh:kN):Av (sY s e zh).1:=by
 by_cases hf:(jh s.st e).2.2=0
 ·rw[tP _ hf];obtain⟨a,b,c,d,_,f,g,_⟩:=(sJ _ _ _).1 h.ok;refine yB h.o1 h.o2 h.m1 h.m2 h.f1 h.f2 e ?_;have V:=h.ok;obtain⟨st,Y⟩:∃st:Nat,s.st=st:=⟨s.st.toNat,dZ⟩
  obtain⟨l,hl⟩:∃l:Nat,s.lf=l:=⟨s.lf.toNat,dZ⟩
  obtain⟨t,X⟩:∃t:Nat,s.wt=t:=⟨s.wt.toNat,dZ⟩
  rw[Y]at hf;rw[nA st e dZ Z]at hf;rw[Y,hl,X,nA st e dZ Z];rw[Y,hl,X]at V;exact UK e Z st dZ l dZ t dZ ⟨U,T,V,hf⟩
 ·rw[wa _ hf];exact h
theorem Av.kY {s:LS} (h:Av s)(ev:Int):Av (kY s ev).1:=by
 unfold Go.Proofs.YtieklnlbljejdaaGreatDoor.kY;split
 ·rename_i Z
  rcases Z with rfl|rfl|rfl|rfl
  {exact h.ev 0 ew ew ew _};{exact h.ev 1 ew ew ew _};{exact h.ev 2 ew ew ew _};{exact h.ev 3 ew ew ew _}
 ·exact h
theorem Av.tick {s:LS} (h:Av s):Av (kj s):=by
 obtain⟨a,b,c,d,G,f,g,H⟩:=(sJ _ _ _).1 h.ok;unfold kj;by_cases J:4<=s.st/\s.st<=8
 ·rw[af (by simp;omega)];by_cases V:0<s.wt-1;{rw[ai V];exact⟨(sJ _ _ _).2 ⟨a,b,c,d,G,by show 0<=s.wt-1;omega,by show s.wt-1<=3;omega,λ_=>by show 1<=s.wt-1;omega⟩,h.o1,h.o2,h.m1,h.m2,h.f1,h.f2⟩}
  ·rw[af V];have U:s.wt=1:=by have:=H J;omega
   have T:s.wt-1=0:=dZ;have Y:=h.ok;obtain⟨st,X⟩:∃st:Nat,s.st=st:=⟨s.st.toNat,dZ⟩
   obtain⟨l,hl⟩:∃l:Nat,s.lf=l:=⟨s.lf.toNat,dZ⟩
   by_cases Z:0<s.lf;{rw[ai Z];refine yB (s:={s with wt:=s.wt-1}) h.o1 h.o2 h.m1 h.m2 h.f1 h.f2 4 ?_;show xP (jh s.st 4).2.1 (Ys (jh s.st 4).1 s.lf) (Yu (jh s.st 4).1 (s.wt-1))=true;rw[T,X,hl,show(4:Int)=((4:Nat):Int)from rfl,nA st 4 dZ ew];rw[X,hl,U]at Y;exact KU st dZ l dZ ⟨dZ,dZ,dZ,Y⟩};{rw[af Z];refine yB (s:={s with wt:=s.wt-1}) h.o1 h.o2 h.m1 h.m2 h.f1 h.f2 5 ?_;show xP (jh s.st 5).2.1 (Ys (jh s.st 5).1 s.lf) (Yu (jh s.st 5).1 (s.wt-1))=true;have M:s.lf=0:=dZ;rw[T,X,M,show(5:Int)=((5:Nat):Int)from rfl,nA st 5 dZ ew];rw[X,M,U]at Y;exact KW st dZ ⟨dZ,dZ,Y⟩}
 ·rw[ai (by simp;omega)];exact h
theorem Eb:∀(os seen:List jJ),qe seen os=0->∀o∈os,yA o.1=true/\yA o.2=true
 |[],_,_=>λo Y=>by simp at Y
 |o::r,seen,h=>by
  unfold qe at h;split at h;{simp at h}
  ·rename_i Z
   split at h;{simp at h}
   ·intro x hx;rcases aO.1 hx with rfl|hx
    {simpa using Z};{exact Eb r (seen++ [o]) h x hx}
theorem KX {code id:Int} (h:jS code id os=0):∀o∈os,yA o.1=true/\yA o.2=true:=by
 unfold jS at h;split at h;{simp at h};{split at h;{simp at h};{split at h;{simp at h};{exact Eb os [] h}}}
theorem Pu(code:Int):∀(os:List jJ) (p:Int×Int),(∀o∈os,yA o.1=true/\yA o.2=true)->0<=p.2->p.2<=255->0<=(oY code os p).2/\(oY code os p).2<=255
 |[],_,_,h1,h2=>⟨h1,h2⟩
 |o::r,p,hb,h1,h2=>by
  have e:oY code (o::r) p=oY code r (j7 code p o):=rfl;rw[e];have Y:=(Dm o.2).1 (hb o gU).2;have Z:0<=(j7 code p o).2/\(j7 code p o).2<=255:=by
   unfold j7;split;{split;{exact⟨h1,h2⟩};{split;{exact⟨Int.le_refl _,show(0:Int)<=255 by decide⟩};{exact⟨h1,h2⟩}}};{split;{split;{exact⟨h1,h2⟩};{split;{exact Y};{exact⟨h1,h2⟩}}};{exact⟨h1,h2⟩}}
  exact Pu code r _ (λx hx=>hb x (by simp[hx])) Z.1 Z.2
theorem Av.sized {s:LS} (h:Av s)(os:List jJ):Av (s.sized os):=by
 unfold LS.sized;split;{exact⟨h.ok,h.o1,h.o2,h.m1,h.m2,h.f1,h.f2⟩};{exact h}
theorem Av.jK {s:LS} (h:Av s)(p:kN):Av (jK s p).1:=by
 unfold Go.Proofs.YtieklnlbljejdaaGreatDoor.jK;split;{exact h}
 ·rename_i X
  have Z:jS p.1 p.2.1 p.2.2=0:=by simpa using X
  split;{unfold uk;split;{split;{exact(h.ev 6 ew ew ew _).sized _};{exact h.ev 6 ew ew ew _}};{exact h.ev 7 ew ew ew _}}
  ·split;{exact h.ev 10 ew ew ew _}
   ·split;{exact h.ev 11 ew ew ew _}
    ·unfold tQ;split;{exact h}
     ·split;{split;{exact h};{exact h.ev 8 ew ew ew _}}
      ·have Y:Av (s.tell p.1 p.2.2):=by
        unfold LS.tell;split;{have:=Pu p.1 p.2.2 (s.ns,s.nm) (KX Z) h.m1 h.m2;exact⟨h.ok,h.o1,h.o2,this.1,this.2,h.f1,h.f2⟩};{exact h}
       exact Y.ev 9 ew ew ew _
open St
theorem CV(c i:Int)(a:Option dW)(n cap:Nat)(w:dX):
 eX eY 65 #[.agg #[ι κ c,ι κ i,σ a n cap]] w λe w'=>e=ρ (.bool (decide ((n:Int)<=12)))/\eB w w':=by
 go_in
 go_wp2
 go_ret;exact⟨rfl,(au _ _).alloc (Nat.le_refl _) _⟩
theorem Gq(a:Option dW)(n cap:Nat)(V:Nat->AV)(E:Nat->List jJ)(most:Int)(w:dX)(h:Pc w a n V E)(hm:most<=1000):
 eX eY 16 #[σ a n cap,ι κ most] w λe w'=>(∃b:Bool,e=ρ (.bool b)/\(b=true->(n:Int)<=most/\∀j,j<n->(V j).x.n<=9/\(V j).pn<=12/\(V j).s.size<=200))/\eB w w':=by
 by_cases h0:most<(n:Int)
 ·go_in
  go_wp2
  go_ret;exact⟨⟨false,rfl,λh=>by cases h⟩,au _ _⟩
 go_in
 go_wp2
 go_loopw [5] (λi wr=>∃k:Nat,k<=n/\i=ι κ k/\(∀j,j<k->(V j).x.n<=9/\(V j).pn<=12/\(V j).s.size<=200)/\eB w wr) (λi _=>n-(eZ i).toNat)
 case atStart=>exact⟨0,Nat.zero_le _,rfl,λj H=>dZ,au _ _⟩
 case round=>
  obtain⟨k,hk,rfl,hA,T⟩:=hrel;have J:Hid _:=hA;clear hA;by_cases kA:k<n
  ·have nL:(k:Int)<(n:Int):=dZ;obtain⟨_,_,U,X⟩:=h.opt k kA;rcases h.row with h1|⟨b,off,rfl,hcs⟩
   {omega};have Y:Hid (∀W,eB w W->(V k).at_ W b (off+k*12)):=λW hW=>(hcs k kA).below hW;obtain⟨v,hv⟩:=gg (V k);rw[hv]at Y U X;have D:Hid _:=hv;obtain⟨vk,va,vb,vc,vd,vs,vpc,vpi,vpo,A,BV,vx⟩:=v;obtain⟨xo,xq,xa,xn,xc⟩:=vx;simp only at U X;obtain⟨c0,c1,c2,c3,c4,c5,c6,c7,c8,c9,TR,XZ⟩:=Y.out wr T;simp only at c5 c6 c7 c8 XZ;have Z:=CV vpc vpi vpo A BV wr;unfold maxLen at U X;have G:Hid _:=T;clear hcs hv T c0 c1 c2 c3 c4 c9 TR;by_cases hs:200<(vs.size:Int)
   ·go_wp2
    go_ret;exact⟨⟨false,rfl,λh=>by cases h⟩,G.out⟩
   ·by_cases hp:(A:Int)<=12
    ·rw[bX hp]at Z;go_wp2_with(fail);refine Z.mono ?_;rintro e w1 ⟨rfl,k1⟩;have kE:=gh G.out k1;obtain⟨_,_,_,_,_,_,_,_,_,_,_,y⟩:=Y.out w1 kE;simp only at y;have M:Hid _:=kE;clear Z k1 kE c5 c6 c7 c8 XZ;by_cases h9:9<(xn:Int)
     ·go_wp2
      go_ret;exact⟨⟨false,rfl,λh=>by cases h⟩,M.out⟩
     ·go_wp2
      go_roundw
      case rel=>
       refine⟨k+1,dZ,by go_num,λj H=> ?_,M.out⟩;by_cases u:j=k;{rw[u,D.out];show xn<=9/\A<=12/\vs.size<=200;omega};{exact J.out j dZ}
      case measure=>simp[eZ];omega
    ·rw[b9 hp]at Z;go_wp2_with(fail);refine Z.mono ?_;rintro e w1 ⟨rfl,k1⟩;have M:Hid _:=gh G.out k1;clear Z k1
     go_wp2
     go_ret;exact⟨⟨false,rfl,λh=>by cases h⟩,M.out⟩
  ·have xL:¬(k:Int)<(n:Int):=dZ
   go_wp2
   go_ret
   first|exact⟨.inr ⟨rfl,λj H=>J.out j dZ⟩,T⟩|exact⟨⟨true,rfl,λ_=>⟨dZ,λj H=>J.out j dZ⟩⟩,T⟩|exact⟨.inr ⟨rfl,dZ,λj H=>J.out j dZ⟩,T⟩
theorem iX.drew {w:dX} {B:Nat} {C:Array dY} {t:eu} (h:iX w B C t):iX w.drew B C t:=h
abbrev acd:=Int×Bool×Int
def zy(me f s:Int):acd:=if f=me then(0,false,0)else(f,s==me,4)
def iW(p:acd):acd:=if p.2.2<=1 then(0,false,0)else(p.1,p.2.1,p.2.2-1)
theorem Ec(w:dX):(zeroValue 116).run eY w=.ok (.agg #[ι κ 0,.bool false,ι κ 0]) w:=gS
theorem Hn(w:dX):(zeroValue 230).run eY w=.ok (.agg #[ι κ 0,ι κ 0]) w:=gS
theorem UL(a c me f s:Int)(b:Bool)(w:dX):eX eY 187 #[.agg #[ι κ a,.bool b,ι κ c],ι κ me,.agg #[ι κ f,ι κ s]] w λe w'=>
 e=ρ (.agg #[ι κ (zy me f s).1,.bool (zy me f s).2.1,ι κ (zy me f s).2.2])/\eB w w':=by
 have hz:=Ec;have hb:∀(A B C:Array dY) (t u v:eu),eB w (((w.alloc (γ A t)).alloc (γ B u)).alloc (γ C v)):=λA B C t u v=>((gT _ _).alloc gU _).alloc (by simp;omega) _;cases q:(f==me)
 ·have hv:zy me f s=(f,s==me,4):=by simp at q;simp[zy,q]
  rw[hv];clear hv
  go_in
  go_wp2
  refine aE (v:=.agg #[ι κ f,.bool (s==me),ι κ 4]) (by simp[results,results187,go_sem]) rfl ?_;exact⟨rfl,hb _ _ _ _ _ _⟩
 ·have hv:zy me f s=(0,false,0):=by simp at q;simp[zy,q]
  rw[hv];clear hv
  go_in
  go_wp2
  refine aE (v:=.agg #[ι κ 0,.bool false,ι κ 0]) (by simp[results,results187,go_sem]) rfl ?_;exact⟨rfl,hb _ _ _ _ _ _⟩
theorem UM(a c:Int)(b:Bool)(w:dX)(hc:0<=c)(Nm:c<=100):eX eY 84 #[.agg #[ι κ a,.bool b,ι κ c]] w λe w'=>
 e=ρ (.agg #[ι κ (iW (a,b,c)).1,.bool (iW (a,b,c)).2.1,ι κ (iW (a,b,c)).2.2])/\eB w w':=by
 have hz:=Ec;have hb:∀(A B:Array dY) (t u:eu),eB w ((w.alloc (γ A t)).alloc (γ B u)):=λA B t u=>(gT _ _).alloc gU _;by_cases q:c<=1
 ·have hv:iW (a,b,c)=(0,false,0):=by simp[iW,q]
  rw[hv];clear hv
  go_in
  go_wp2
  refine aE (v:=.agg #[ι κ 0,.bool false,ι κ 0]) (by simp[results,results84,go_sem]) rfl ?_;exact⟨rfl,hb _ _ _ _⟩
 ·have hv:iW (a,b,c)=(a,b,c-1):=by simp[iW,q]
  rw[hv];clear hv
  go_in
  go_wp2
  refine aE (v:=.agg #[ι κ a,.bool b,ι κ (c-1)]) (by simp[results,results84,go_sem]) rfl ?_;exact⟨rfl,hb _ _ _ _⟩
theorem UN(a c me:Int)(b:Bool)(w:dX):eX eY 149 #[.agg #[ι κ a,.bool b,ι κ c],ι κ me] w λe w'=>
 e=ρ (.agg #[ι κ me,ι κ a])/\eB w w':=by
 have hz:=Hn;have hb:∀(A B:Array dY) (t u:eu),eB w ((w.alloc (γ A t)).alloc (γ B u)):=λA B t u=>(gT _ _).alloc gU _
 go_in
 go_wp2
 refine aE (v:=.agg #[ι κ me,ι κ a]) (by simp[results,results149,go_sem]) rfl ?_;exact⟨rfl,hb _ _ _ _⟩
open St (u8 pB)
theorem aaB(W:dX)(a b:Int)(Y:0<=a)(X:a<=255)(b0:0<=b)(b1:b<=255):(convert 140 9 (σ (μ ⟨W.heap.size,0,ν⟩) 2 2)).run eY (W.alloc (γ #[.int .u8 a,.int .u8 b] 5))=.ok (.string ⟨#[u8 a,u8 b]⟩) (W.alloc (γ #[.int .u8 a,.int .u8 b] 5)):=by
 have h:Row (W.alloc (γ #[.int .u8 a,.int .u8 b] 5)) 1 (σ (μ ⟨W.heap.size,0,ν⟩) 2 2) 2 (iP [u8 a,u8 b]):=by
  refine Row.made W 1 _ _ (0,0) 2 2 _ rfl rfl (Nat.le_refl _) ew (.inl rfl) ?_;intro j u Z;simp only[iP,List.map_cons,List.map_nil,pB a Y X,pB b b0 b1]at Z;simpa using Z
 exact Row.back h 140 9 5 underlying140 underlying5 underlying9
def um(f s:Int):Bool:=decide (1<=f)&&decide (f<=6)&&decide (0<=s)&&decide (s<=6)
theorem Nt(f s:Int):∀(Q:Prop),(¬1<=f->um f s=false->Q)->(1<=f->¬f<=6->um f s=false->Q)->(1<=f->f<=6->¬0<=s->um f s=false->Q)->(1<=f->f<=6->0<=s->¬s<=6->um f s=false->Q)->(1<=f->f<=6->0<=s->s<=6->um f s=true->Q)->Q:=by
 intro Q q1 q2 U T M;by_cases Z:1<=f;{by_cases Y:f<=6;{by_cases X:0<=s;{by_cases V:s<=6;{exact M Z Y X V (by simp[um,Z,Y,X,V])};{exact T Z Y X V (by simp[um,V])}};{exact U Z Y X (by simp[um,X])}};{exact q2 Z Y (by simp[um,Y])}};{exact q1 Z (by simp[um,Z])}
theorem xt(f s:Int)(w:dX):eX eY 196 #[.agg #[ι κ f,ι κ s]] w λe w'=>e=ρ (.bool (um f s))/\eB w w':=by
 refine Nt f s _ ?_ ?_ ?_ ?_ ?_
 all_goals
  intros
  rename_i hv
  rw[hv];clear hv
  go_in
  go_wp2
  go_ret;exact⟨by first|rfl|(simp;omega),gT _ _⟩
theorem KY(f s:Int)(w:dX)(h1:1<=f)(h2:f<=6)(h3:0<=s)(h4:s<=6)(h:um f s=true):eX eY 148 #[.agg #[ι κ f,ι κ s]] w λe w'=>e=ρ (τ #[.string ⟨#[u8 f,u8 s]⟩,η])/\eB w w':=by
 have Y:=xt f s (w.alloc (γ #[ι κ f,ι κ s] 230));rw[h]at Y;have V:=gT w (γ #[ι κ f,ι κ s] 230);have hA:=iX.new w #[ι κ f,ι κ s] 230;have wi:=λW=>aaB W f s dZ dZ dZ dZ;clear h
 go_in
 go_wp2_with(fail);refine Y.mono ?_;rintro e w1 ⟨rfl,k1⟩;have Z:=hA.below k1;have c0:w1.cell? ⟨w.heap.size,0,ν⟩=μ (ι κ f):=Z.cell 0;have c1:w1.cell? ⟨w.heap.size,1,ν⟩=μ (ι κ s):=Z.cell 1;have l1:w.heap.size<w1.heap.size:=Z.lt;have X:=gh V k1;clear hA Z Y k1
 go_wp2
 go_ret2
 exact⟨rfl,X.alloc X.size _⟩
def kG(l:List UInt8):Int×Int×Nat:=
 if l.length=2/\um ((l.getD 0 0).toNat:Int) ((l.getD 1 0).toNat:Int)=true then(((l.getD 0 0).toNat:Int),((l.getD 1 0).toNat:Int),0)else(0,0,4)
theorem Nu(s:ByteArray)(w:dX):eX eY 186 #[.string s] w λe w'=>e=ρ (τ #[.agg #[ι κ (kG s.data.toList).1,ι κ (kG s.data.toList).2.1],ji (kG s.data.toList).2.2])/\eB w w':=by
 have hz:=Hn;have hl:s.data.toList.length=s.size:=gU;by_cases Y:s.size=2
 ·have b0:0<s.size:=dZ;have b1:1<s.size:=dZ;have z0:(0:Int)<(s.size:Int):=dZ;have z1:(1:Int)<(s.size:Int):=dZ;have xh:=s[0].toNat_lt;have kE:=s[1].toNat_lt;have g2:((s.size:Int) !=2)=false:=by rw[Y];rfl
  have D:eB w ((w.alloc (γ #[ι κ 0,ι κ 0] 230)).alloc (γ #[ι κ (s[0].toNat:Int),ι κ (s[1].toNat:Int)] 230)).drew:=jD ((gT _ _).alloc gU _);have H:=(iX.new w #[ι κ 0,ι κ 0] 230).below (gT (w.alloc (γ #[ι κ 0,ι κ 0] 230)) (γ #[ι κ (s[0].toNat:Int),ι κ (s[1].toNat:Int)] 230));have G:iX ((w.alloc (γ #[ι κ 0,ι κ 0] 230)).alloc (γ #[ι κ (s[0].toNat:Int),ι κ (s[1].toNat:Int)] 230)) (w.heap.size+1) #[ι κ (s[0].toNat:Int),ι κ (s[1].toNat:Int)] 230:=iX.Gf _ _ _ _ gU;have Z:Hid (kG s.data.toList=if um (s[0].toNat:Int) (s[1].toNat:Int)=true then((s[0].toNat:Int),(s[1].toNat:Int),0)else(0,0,4)):=by
   show _=_;unfold kG;rw[nV s 0 b0,nV s 1 b1,hl];simp[Y]
  have HS:Hid _:=Y;clear Y hl
  go_in
  go_wp2
  go_region
  go_wp2_with(fail);obtain⟨J,U⟩:=gg (((w.alloc (γ #[ι κ 0,ι κ 0] 230)).alloc (γ #[ι κ (s[0].toNat:Int),ι κ (s[1].toNat:Int)] 230)).drew);have j:iX J w.heap.size #[ι κ 0,ι κ 0] 230:=by rw[<-U];exact H
  have h:iX J (w.heap.size+1) #[ι κ (s[0].toNat:Int),ι κ (s[1].toNat:Int)] 230:=by rw[<-U];exact G
  rw[U]at D⊢;clear U H G;generalize s[0].toNat=x at*;generalize s[1].toNat=y at*;refine(xt (x:Int) (y:Int) _).mono ?_;rintro e T ⟨rfl,k2⟩;have X:=j.below k2;have u:=h.below k2;have A:T.cell? ⟨w.heap.size,0,ν⟩=μ (ι κ 0):=X.cell 0;have r1:T.cell? ⟨w.heap.size,1,ν⟩=μ (ι κ 0):=X.cell 1;have rf:=X.frozen;have rl:=X.lt;have x0:T.cell? ⟨w.heap.size+1,0,ν⟩=μ (ι κ (x:Int)):=u.cell 0;have x1:T.cell? ⟨w.heap.size+1,1,ν⟩=μ (ι κ (y:Int)):=u.cell 1;have E:=gh D k2;cases V:um (x:Int) (y:Int)
  ·have M:Hid (kG s.data.toList=(0,0,4)):=by show _=_;rw[Z.out,af (by simp[V])]
   clear Z V;go_wp2_with(fail);rw[M.out];refine aE (v:=τ #[.agg #[ι κ 0,ι κ 0],.iface 128 (ι κ 4)]) (by simp[results,results186,go_sem,A,r1]) rfl ?_;exact⟨rfl,(E.setCell (Nat.le_refl _) _).setCell (Nat.le_refl _) _⟩
  ·have M:Hid (kG s.data.toList=((x:Int),(y:Int),0)):=by show _=_;rw[Z.out,ai V]
   clear Z V;go_wp2_with(fail);rw[M.out];refine aE (v:=τ #[.agg #[ι κ (x:Int),ι κ (y:Int)],η]) (by simp[results,results186,go_sem,A,r1]) rfl ?_;exact⟨rfl,(E.setCell (Nat.le_refl _) _).setCell (Nat.le_refl _) _⟩
 ·have g2:((s.size:Int) !=2)=true:=by rw[bne_iff_ne];omega
  have mQ:=gT w (γ #[ι κ 0,ι κ 0] 230);have Z:Hid (kG s.data.toList=(0,0,4)):=by show _=_;unfold kG;rw[hl,af dZ]
  clear Y hl
  go_in
  go_wp2_with(fail);rw[Z.out];refine aE (v:=τ #[.agg #[ι κ 0,ι κ 0],.iface 128 (ι κ 4)]) (by simp[results,results186,go_sem]) rfl ?_;exact⟨rfl,mQ⟩
section
variable {P:Program}
end
section
variable {P:Program} {md:Region.Mode} {ops:Array Oper} {Q:Exit->Act->World->Prop} {S:World->Prop}
theorem jo(i:Nat)(d:Option Tmp) {oi:Oper} {fuel:Nat} {listed:Array Bool} {a:Act} (hi:ops[i]? =μ oi)(hd:oi.dst=d)
 (hs:Region.noSelect ops=true) (hf:Region.free md ops listed i=true) (X:(Region.ready md ops listed).contains i=true)
 (Z:∀c a w,Q (.panic c) (a.put d v) w->Q (.panic c) a w) (V:Region.wanted oi (yielded ops a.tmps)=true) (hy:∀w,S w->(execOp a.eval oi).run P w=.ok (.value v) w) (Y:S w)
 (h:wpAnyH P md ops Q S fuel (listed.setIfInBounds i true) (a.put d v) w):wpAnyH P md ops Q S (fuel+1) listed a w:=by
 subst hd;exact wpAnyH_take hi hs hf X Z (Or.inl ⟨V,hy⟩) Y h
end
theorem uo {x:dX} {o:Obj} {C:Array dY} {t:eu} (h:iX w B C t)(Z:(w.alloc o).drew.grownBy x v.ownBlock)(hv:v.ownBlock≠μ B):iX x B C t:=by
 refine h.keep ?_;rw[Z.block B (by show B<(w.alloc o).heap.size;have:=h.lt;simp;omega) (λe=>hv e.symm)];exact aU w o B h.lt
theorem UO(w:dX):(zeroValue 254).run eY w=.ok (.agg #[ι κ 0,ι κ 0,ι κ 0,ι κ 0,ι κ 0,ι κ 0,ι κ 0,ι κ 0,ι κ 0,ι κ 0,ι κ 0,σ ν 0 0]) w:=gS
theorem CW(w:dX)(o:Obj):(w.alloc o).heap[w.heap.size]? =μ o:=aY w o
theorem Yv(S M:Int)(w:dX)(Y:¬S<40)(X:¬255<S)(V:¬M<1)(U:¬255<M):
 eX eY 119 #[ι κ S,ι κ M] w λe w'=>∃B,e=ρ (τ #[π (μ ⟨B,0,ν⟩),η])/\Lk w' B (TM S M S M 0 0 0 255 0 0 0 (σ ν 0 0))/\w.heap.size<=B/\eB w w':=by
 have hz:=ze;have hzl:=UO;have T:=abB S M w Y X V U;clear Y X V U
 go_in
 go_wp2_with(fail);refine T.mono ?_;rintro e w1 ⟨rfl,hb⟩;have hs:=hb.size;have D:=(hb.alloc hb.size (γ #[ι κ S,ι κ M] 252))
 have J:=gh D (gT _ (γ (TM S M S M 0 0 0 255 0 0 0 (σ ν 0 0)) 254));have Z:=CW (w1.alloc (γ #[ι κ S,ι κ M] 252)) (γ (TM S M S M 0 0 0 255 0 0 0 (σ ν 0 0)) 254);have E:(w1.alloc (γ #[ι κ S,ι κ M] 252)).heap.size=w1.heap.size+1:=gU;rw[E]at Z;have G:Hid _:=Z;have H:Hid _:=J;clear Z J T
 go_wp2
 go_ret2
 exact⟨w1.heap.size+1,rfl,G.out,dZ,H.out⟩
theorem rH.rest {s:LS} (h:Lk w B (s.c (σ ν 0 0))):rH w B (λk=>k<w.heap.size) s (σ ν 0 0) [] :=
 ⟨h,Row.nil _ 3,λg Z=>by simp[eh]at Z,h.lt,λ_ Y=>Y,λp X=>by simp at X⟩
def Nv(S M:Int):LS:=⟨S,M,S,M,0,0,0,255,0,0,0⟩
theorem Ee(S M:Int):(kY {Nv S M with st:=1} 0).2.2=0/\(kY {Nv S M with st:=1} 0).1.st=6/\(kY {Nv S M with st:=1} 0).2.1.length=1:=⟨gS,gS,gS⟩
theorem rH.far {w':dX} {M:Nat} {X:Nat->Prop} {s:LS} {ps:List PV} (h:rH w B X s v ps)(k:Kept w w' M ν)(U:X M)(G:B≠M):rH w' B X s v ps:=by
 have hb:∀j,j<w.heap.size->j≠M->w'.heap[j]? =w.heap[j]? :=λj Z J=>k.block j Z J gU;refine⟨h.lk.keep (hb B h.lk.lt G),h.row.keep k.size (λj Z=>hb j (h.row.lt j Z) (λe=>h.own j Z (by rw[e];exact U))),h.own,h.self,λj Z=>Nat.lt_of_lt_of_le (h.old j Z) k.size,λp H=> ?_⟩;obtain⟨o,z,l,f,fr⟩:=h.pk p H;exact⟨o.OX (λj Z=>by obtain⟨Y,_,V⟩:=fr j Z;exact hb j V (λe=>Y (by rw[e];exact U))),z,l,f,λj Z=>by obtain⟨Y,T,V⟩:=fr j Z;exact⟨Y,T,Nat.lt_of_lt_of_le V k.size⟩⟩
theorem Ef:∀(L:List UInt8) (s:LS) (a:kN),(yk L s a).length<=L.length
 |[],_,_=>Nat.le_refl _
 |c::r,s,a=>by
  have e:yk (c::r) s a=Gg c s a++yk r (pS c s) a:=rfl;have h1:=Ef r (pS c s) a;have h2:=Kq c s a;rw[e,az,cQ];omega
theorem tE(s:LS)(ev:Int)(a:kN):(sY s ev a).2.1.length<=4:=by
 by_cases hf:(jh s.st ev).2.2=0;{rw[tP _ hf];have h1:=Ef (jh s.st ev).1 (s.next (jh s.st ev).2.1) a;have h2:=A1 s.st ev;show(pL s ev a).length<=4;unfold pL;omega};{rw[wa _ hf];simp}
theorem zA(s:LS)(ev:Int):(kY s ev).2.1.length<=4:=by
 unfold kY;split;{exact tE _ _ _};{simp}
theorem Ho(s:LS):(lO s).length<=4:=by
 have hc:∀(s:LS) (ev:Int),(pL s ev (0,0,[])).length<=4:=λs ev=>by
  have h1:=Ef (jh s.st ev).1 (s.next (jh s.st ev).2.1) (0,0,[]);have h2:=A1 s.st ev;unfold pL;omega
 unfold lO;split;{simp};{split;{simp};{split;{exact hc _ _};{exact hc _ _}}}
theorem Hp(s:LS)(p:kN):(jK s p).2.1.length<=4:=by
 unfold jK;split;{simp};{split;{unfold uk;split;{split;{exact tE _ _ _};{exact tE _ _ _}};{exact tE _ _ _}};{split;{exact tE _ _ _};{split;{exact tE _ _ _};{unfold tQ;split;{simp};{split;{split;{simp};{exact tE _ _ _}};{exact tE _ _ _}}}}}}
theorem Q9(B:Nat)(l code id:Int)(a:Option dW)(n cap:Nat)(w:dX)(h1:(l==105)=false)(h2:(l==122)=false)(h3:(l==114)=false)(h4:(l==116)=false)(h5:(l==97)=false)(h6:(l==110)=false)(h7:(l==107)=false):
 eX eY 208 #[π (μ ⟨B,0,ν⟩),.int .u8 l,.agg #[ι κ code,ι κ id,σ a n cap]] w λe w'=>e=ρ (τ #[])/\eB w w':=by
 have hb:=gT w (γ #[ι κ code,ι κ id,σ a n cap] 37)
 go_in
 go_wp2
 first|go_end0|refine iK rfl rfl ?_
 exact⟨rfl,hb⟩
theorem Nw(B:Nat)(fs fm ns nm qs qm sz lf wt ow code id:Int)(v:dY)(a:Option dW)(n cap:Nat)(w:dX)(hT:jf w)(h:Lk w B (TM fs fm ns nm qs qm 0 sz lf wt ow v)):
 eX eY 171 #[π (μ ⟨B,0,ν⟩),ι κ 2,.agg #[ι κ code,ι κ id,σ a n cap]] w λe w'=>e=ρ η/\Lk w' B (TM fs fm fs fm qs qm 1 255 lf wt ow v)/\w.grownBy w' (μ B):=by
 have H:=gT w (γ #[ι κ code,ι κ id,σ a n cap] 37);have hA:=λj=>aq w #[ι κ code,ι κ id,σ a n cap] 37 (0,0) j;have h0:=h.below H;have Tr:=hT.below H;have E:=IU 0 2 [115] 1 0 (by decide+kernel) _ Tr;have e0:ji 0=η:=rfl;rw[e0]at E;have hl:=h.lt;have G:w.cell? ⟨B,6,ν⟩=μ (ι κ 0):=h.cell 6
 go_in
 go_wp2_with(fail);refine E.mono ?_;rintro e w1 ⟨rfl,m1,rfl⟩;obtain⟨Y,T⟩:=gg ((w.alloc (γ #[ι κ code,ι κ id,σ a n cap] 37)).drewN m1);obtain⟨Z,J⟩:=gg (w.heap.size);have d0:Y.cell? ⟨Z,0,ν⟩=μ (ι κ code):=by rw[<-T,<-J];exact hA 0
 have d1:Y.cell? ⟨Z,1,ν⟩=μ (ι κ id):=by rw[<-T,<-J];exact hA 1
 have d2:Y.cell? ⟨Z,2,ν⟩=μ (σ a n cap):=by rw[<-T,<-J];exact hA 2
 have V:Lk Y B (TM fs fm ns nm qs qm 0 sz lf wt ow v):=by rw[<-T];exact h0
 have kD:w.grownBy Y (μ B):=by rw[<-T];exact sy B (below_drewN H m1)
 rw[T,J];have X:B≠Z:=dZ;clear E T J hA h0 Tr H h G hl e0 hT;have XY:=V.lt;have c0:Y.cell? ⟨B,0,ν⟩=μ (ι κ fs):=V.cell 0;have c1:Y.cell? ⟨B,1,ν⟩=μ (ι κ fm):=V.cell 1;have c2:Y.cell? ⟨B,2,ν⟩=μ (ι κ ns):=V.cell 2;have c3:Y.cell? ⟨B,3,ν⟩=μ (ι κ nm):=V.cell 3;have G:Y.cell? ⟨B,6,ν⟩=μ (ι κ 0):=V.cell 6;have c7:Y.cell? ⟨B,7,ν⟩=μ (ι κ sz):=V.cell 7;have fz:∀j,Y.frozen? ⟨B,j,ν⟩=false:=V.frozen;have H2:Hid (Lk ((((Y.setCell ⟨B,6,ν⟩ (ι κ 1)).setCell ⟨B,2,ν⟩ (ι κ fs)).setCell ⟨B,3,ν⟩ (ι κ fm)).setCell ⟨B,7,ν⟩ (ι κ 255)) B (TM fs fm fs fm qs qm 1 255 lf wt ow v)):=((((V.set 6 _).set 2 _).set 3 _).set 7 _)
 have u:Hid (w.grownBy ((((Y.setCell ⟨B,6,ν⟩ (ι κ 1)).setCell ⟨B,2,ν⟩ (ι κ fs)).setCell ⟨B,3,ν⟩ (ι κ fm)).setCell ⟨B,7,ν⟩ (ι κ 255)) (μ B)):=(pw (pw (pw (pw kD 6 _) 2 _) 3 _) 7 _)
 have D:Hid (((((Y.setCell ⟨B,6,ν⟩ (ι κ 1)).setCell ⟨B,2,ν⟩ (ι κ fs)).setCell ⟨B,3,ν⟩ (ι κ fm)).setCell ⟨B,7,ν⟩ (ι κ 255)).cell? ⟨Z,0,ν⟩=μ (ι κ code)):=by show _=_;rw[aM _ _ _ _ X,aM _ _ _ _ X,aM _ _ _ _ X,aM _ _ _ _ X];exact d0
 have A:Hid (((((Y.setCell ⟨B,6,ν⟩ (ι κ 1)).setCell ⟨B,2,ν⟩ (ι κ fs)).setCell ⟨B,3,ν⟩ (ι κ fm)).setCell ⟨B,7,ν⟩ (ι κ 255)).cell? ⟨Z,1,ν⟩=μ (ι κ id)):=by show _=_;rw[aM _ _ _ _ X,aM _ _ _ _ X,aM _ _ _ _ X,aM _ _ _ _ X];exact d1
 have y:Hid (((((Y.setCell ⟨B,6,ν⟩ (ι κ 1)).setCell ⟨B,2,ν⟩ (ι κ fs)).setCell ⟨B,3,ν⟩ (ι κ fm)).setCell ⟨B,7,ν⟩ (ι κ 255)).cell? ⟨Z,2,ν⟩=μ (σ a n cap)):=by show _=_;rw[aM _ _ _ _ X,aM _ _ _ _ X,aM _ _ _ _ X,aM _ _ _ _ X];exact d2
 go_wp2_with(fail);obtain⟨U,M⟩:=gg ((((Y.setCell ⟨B,6,ν⟩ (ι κ 1)).setCell ⟨B,2,ν⟩ (ι κ fs)).setCell ⟨B,3,ν⟩ (ι κ fm)).setCell ⟨B,7,ν⟩ (ι κ 255));have h2:Lk U B (TM fs fm fs fm qs qm 1 255 lf wt ow v):=by rw[<-M];exact H2.out
 have BL:w.grownBy U (μ B):=by rw[<-M];exact u.out
 have d0:U.cell? ⟨Z,0,ν⟩=μ (ι κ code):=by rw[<-M];exact D.out
 have d1:U.cell? ⟨Z,1,ν⟩=μ (ι κ id):=by rw[<-M];exact A.out
 have d2:U.cell? ⟨Z,2,ν⟩=μ (σ a n cap):=by rw[<-M];exact y.out
 rw[M];clear H2 u D A y M fz XY G V kD c0 c1 c2 c3 c7;have J6:Z<U.heap.size:=ag U _ d0;refine ch 2 ?_;rw[bR]
 go_wp2
 go_region_with(go_at_call 208;refine(Q9 B 115 code id a n cap _ ew ew ew ew ew ew ew).mono ?_;rintro e V0 ⟨rfl,k0⟩)
 all_goals
  have L0:=(h2.drew).below k0;have g0:=BN BL (BN (sy B (jD (au _ _))) (sy B k0));go_wp2_with(fail);rw[bR]
  go_wp2
  go_ret;exact⟨rfl,L0,g0⟩
theorem UQ(B:Nat)(fs fm ns nm qs qm sz lf wt ow:Int)(v:dY)(w:dX)(Z:jf w)(h:Lk w B (TM fs fm ns nm qs qm 0 sz lf wt ow v)):
 eX eY 120 #[π (μ ⟨B,0,ν⟩),ι κ 2] w λe w'=>e=ρ η/\Lk w' B (TM fs fm fs fm qs qm 1 255 lf wt ow v)/\w.grownBy w' (μ B):=by
 have hz:=sH;have hc:=Nw B fs fm ns nm qs qm sz lf wt ow 0 0 v ν 0 0 w Z h;clear h Z
 go_in
 go_wp2_with(fail);refine hc.mono ?_;rintro e w1 ⟨rfl,Y,X⟩
 go_wp2
 go_ret;exact⟨rfl,Y,X⟩
