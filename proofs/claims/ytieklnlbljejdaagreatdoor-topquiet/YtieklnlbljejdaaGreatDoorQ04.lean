import Derived.Test.YtieklnlbljejdaaGreatDoorQ03
open Go.Value renaming int → ι, slice → σ, pointer → π, tuple → τ, nilIface → η
open Go.IntKind renaming i64 → κ
open Go.Ending renaming returned → ρ
open Go.Obj renaming cells → γ
open Option renaming none → ν, some → μ
open Go renaming World → dR, Calls → eT, Addr → dQ, Value → dT, TypeId → dW
open Go.Proofs.Tryz renaming prog → eU
open Go.RowKit renaming intOf → eV
open Go.Obj renaming cells → fP
open Go.Value renaming int → dY, ownBlock → dV
open Go.IntKind renaming u8 → ft, i64 → fh
open List renaming length_cons → eM, map_cons → eE, map_nil → eF
open ByteArray renaming empty → fF
set_option maxRecDepth 100000
set_option maxHeartbeats 8000000
open Go.Proofs.Tryz
namespace Go.Proofs.YtieklnlbljejdaaGreatDoor
open Go.RowKit
variable {ao:Option Addr} {cp j k lo:Nat} {o:Obj} {ok:List jG} {u v:Value} {w w1 wr x1:World}
def xI(n:Int):Bool:=decide (0<=n)&&decide (n<=255)
theorem lE(n:Int)(w:dR):eT eU 226 #[ι κ n] w λe w'=>e=ρ (.bool (xI n))/\w=w':=by
 by_cases Z:0<=n
 ·by_cases Y:n<=255
  ·have hb:xI n=true:=by simp[xI,Z,Y]
   rw[hb];clear hb
   go_in
   go_wp2
   go_ret;exact⟨by first|rfl|(simp;omega),rfl⟩
  ·have hb:xI n=false:=by simp[xI,Y]
   rw[hb];clear hb
   go_in
   go_wp2
   go_ret;exact⟨by first|rfl|(simp;omega),rfl⟩
 ·have hb:xI n=false:=by simp[xI,Z]
  rw[hb];clear hb
  go_in
  go_wp2
  go_ret;exact⟨by first|rfl|(simp;omega),rfl⟩
theorem AU(k n K:Int)(bo:Nat)(w:dR)(OZ:bo<w.heap.size)(h:w.cell? ⟨bo,0,ν⟩=μ (ι κ K)):
 eT eU 243 #[.agg #[ι κ k,ι κ n],π (μ ⟨bo,0,ν⟩)] w λe w'=>e=ρ (.bool (k==K))/\eh w w':=by
 go_in
 go_wp2
 go_ret;exact⟨rfl,(au _ _).alloc (Nat.le_refl _) _⟩
theorem O0(a:Option dQ)(n cap:Nat)(os:List jG)(K:Int)(bo:Nat)(w:dR)(hn:n<=1000000)(T:bo<w.heap.size)(h:w.cell? ⟨bo,0,ν⟩=μ (ι κ K))(U:iU w a n os):
 eT eU 254 #[σ a n cap,.func (.func 243) #[] #[π (μ ⟨bo,0,ν⟩)]] w λe w'=>∃r:Int,e=ρ (ι κ r)/\(decide (0<=r)=os.any (λo=>o.1==K))/\eh w w':=by
 go_in
 go_wp2
 go_loopw [8] (λi wr=>∃k:Nat,k<=n/\i=ι κ k/\(os.take k).any (λo=>o.1==K)=false/\eh w wr) (λi _=>n-(eV i).toNat)
 case atStart=>exact⟨0,Nat.zero_le _,rfl,rfl,au _ _⟩
 case round=>
  obtain⟨k,hk,rfl,J,Z⟩:=hrel;have X:Hid _:=J;clear J;by_cases y:k<n
  ·have A:=U.below Z;rcases A.2 with h0|⟨b,off,rfl,hc⟩
   ·omega
   have D:k<os.length:=by rw[U.1];exact y
   obtain⟨c1,c2⟩:=hc k D;have Q:wr.cell? ⟨bo,0,ν⟩=μ (ι κ K):=(Z.cell (p:=⟨bo,0,ν⟩) T).trans h;have Y:bo<wr.heap.size:=Nat.lt_of_lt_of_le T Z.size;have G:Hid (os.take (k+1)=os.take k++ [os[k]]):=ay D;have M:Hid (os[k] ∈os):=aK _;generalize os[k] =o at c1 c2 G M;clear hc;have m8:(k:Int)<(n:Int):=dU;cases H:(o.1==K)
   ·go_wp2_with(fail);refine(AU o.1 o.2 K bo wr Y Q).mono ?_;rintro e w1 ⟨rfl,V⟩
    go_wp2
    go_roundw
    case rel=>exact⟨k+1,dU,by go_num,by rw[G.out,List.any_append,X.out];simp[H],fY Z V⟩
    case measure=>simp[eV];omega
   ·go_wp2_with(fail);refine(AU o.1 o.2 K bo wr Y Q).mono ?_;rintro e w1 ⟨rfl,V⟩
    go_wp2
    go_ret;refine⟨_,rfl,?_,fY Z V⟩;have h1:os.any (λo=>o.1==K)=true:=List.any_eq_true.mpr ⟨o,M.out,H⟩;rw[h1];simp
  ·have yv:os.take k=os:=aG (by rw[U.1];omega);rw[yv]at X
   go_wp2
   go_ret;exact⟨-1,rfl,by rw[X.out];rfl,Z⟩
theorem G8(a:Option dQ)(n cap:Nat)(os:List jG)(K:Int)(bo:Nat)(w:dR)(X:n<=1000000)(Y:bo<w.heap.size)(h:w.cell? ⟨bo,0,ν⟩=μ (ι κ K))(Z:iU w a n os):
 eT eU 242 #[σ a n cap,.func (.func 243) #[] #[π (μ ⟨bo,0,ν⟩)]] w λe w'=>e=ρ (.bool (os.any (λo=>o.1==K)))/\eh w w':=by
 go_in
 go_wp2_with(fail);refine(O0 a n cap os K bo w X Y h Z).mono ?_;rintro e w1 ⟨r,rfl,V,hb⟩
 go_wp2
 go_ret;exact⟨by rw[<-V];rfl,hb⟩
def pD:List jG->List jG->Nat
 |_,[] =>0
 |seen,o::r=>if(xI o.1&&xI o.2)=false then 1 else if seen.any (λx=>x.1==o.1)=true then 3 else pD (seen++ [o]) r
theorem zQ(a:Option dQ)(n cap:Nat)(os:List jG)(w:dR)(hn:n<=1000000)(Ji:n<=cap)(D:iU w a n os):
 eT eU 227 #[σ a n cap] w λe w'=>e=ρ (jb (pD [] os))/\eh w w':=by
 go_in
 go_wp2
 go_loopw [7] (λi wr=>∃k:Nat,k<=n/\i=ι κ k/\pD [] os=pD (os.take k) (os.drop k)/\eh w wr) (λi _=>n-(eV i).toNat)
 case atStart=>exact⟨0,Nat.zero_le _,rfl,rfl,au _ _⟩
 case round=>
  obtain⟨k,hk,rfl,Nd,Q⟩:=hrel;have hF:Hid _:=Nd;clear Nd;by_cases ka:k<n
  ·have J:=D.below Q;have V:=J.take k dU;rcases J.2 with h0|⟨b,off,rfl,hc⟩
   ·omega
   have A:k<os.length:=by rw[D.1];exact ka
   obtain⟨c1,c2⟩:=hc k A;have HT:Hid (os.take (k+1)=os.take k++ [os[k]]):=ay A;have U:Hid (os.drop k=os[k] ::os.drop (k+1)):=aO A;generalize os[k] =o at c1 c2 HT U;clear hc;have m8:(k:Int)<(n:Int):=dU;have M:eh w (wr.alloc (γ #[ι κ o.1,ι κ o.2] 276)):=Q.alloc Q.size _;have h:iU (wr.alloc (γ #[ι κ o.1,ι κ o.2] 276)) (μ ⟨b,off,ν⟩) k (os.take k):=V.below ((au _ _).alloc (Nat.le_refl _) _);have H:(wr.alloc (γ #[ι κ o.1,ι κ o.2] 276)).cell? ⟨wr.heap.size,0,ν⟩=μ (ι κ o.1):=aj wr #[ι κ o.1,ι κ o.2] 276 (0,0) 0;have T:=G8 (μ ⟨b,off,ν⟩) k cap (os.take k) o.1 wr.heap.size (wr.alloc (γ #[ι κ o.1,ι κ o.2] 276)) dU gO H h;clear V h J;cases X:xI o.1
   ·have Y:Hid (pD [] os=1):=by
     show pD [] os=1;rw[hF.out,U.out,pD,ag (by simp[X])]
    go_wp2_with(fail);refine(lE o.1 _).mono ?_;rintro e w1 ⟨rfl,rfl⟩;go_wp2_with(fail);rw[Y.out];go_ret;exact⟨rfl,M⟩
   ·cases y:xI o.2
    ·have Y:Hid (pD [] os=1):=by
      show pD [] os=1;rw[hF.out,U.out,pD,ag (by simp[y])]
     go_wp2_with(fail);refine(lE o.1 _).mono ?_;rintro e w1 ⟨rfl,rfl⟩;go_wp2_with(fail);refine(lE o.2 _).mono ?_;rintro e w1 ⟨rfl,rfl⟩;go_wp2_with(fail);rw[Y.out];go_ret;exact⟨rfl,M⟩
    ·cases Z:(os.take k).any (λx=>x.1==o.1)
     ·have Y:Hid (pD [] os=pD (os.take (k+1)) (os.drop (k+1))):=by
       show pD [] os=_;rw[hF.out,U.out,pD,ae (by simp[X,y]),ae (by simp[Z]),HT.out]
      rw[Z]at T;clear Z;go_wp2_with(fail);refine(lE o.1 _).mono ?_;rintro e w1 ⟨rfl,rfl⟩;go_wp2_with(fail);refine(lE o.2 _).mono ?_;rintro e w1 ⟨rfl,rfl⟩;go_wp2_with(fail);refine T.mono ?_;rintro e w1 ⟨rfl,G⟩
      go_wp2
      go_roundw
      case rel=>exact⟨k+1,dU,by go_num,Y.out,fY M G⟩
      case measure=>simp[eV];omega
     ·have Y:Hid (pD [] os=3):=by
       show pD [] os=3;rw[hF.out,U.out,pD,ae (by simp[X,y]),ag Z]
      rw[Z]at T;clear Z;go_wp2_with(fail);refine(lE o.1 _).mono ?_;rintro e w1 ⟨rfl,rfl⟩;go_wp2_with(fail);refine(lE o.2 _).mono ?_;rintro e w1 ⟨rfl,rfl⟩;go_wp2_with(fail);refine T.mono ?_;rintro e w1 ⟨rfl,G⟩;go_wp2_with(fail);rw[Y.out];go_ret;exact⟨rfl,fY M G⟩
  ·have Y:Hid (pD [] os=0):=by
    show pD [] os=0;have Fw:os.drop k=[] :=aZ (by rw[D.1];omega);rw[hF.out,Fw,pD]
   go_wp2_with(fail);rw[Y.out];go_ret;exact⟨rfl,Q⟩
def jJ(code id:Int)(os:List jG):Nat:=
 if code<1 \/6<code \/xI id=false then 1
 else if 8<os.length then 2
 else if 5<=code/\0<os.length then 3
 else pD [] os
theorem tD(code id:Int)(a:Option dQ)(n cap:Nat)(os:List jG)(w:dR)(H:n<=1000000)(J:n<=cap)(U:iU w a n os):
 eT eU 209 #[.agg #[ι κ code,ι κ id,σ a n cap]] w λe w'=>e=ρ (jb (jJ code id os))/\eh w w':=by
 have hl:=U.1;have Y:eh w (w.alloc (γ #[ι κ code,ι κ id,σ a n cap] 37)):=(au _ _).alloc (Nat.le_refl _) _;have T:=zQ a n cap os (w.alloc (γ #[ι κ code,ι κ id,σ a n cap] 37)) H J (U.below Y);by_cases M:code<1
 ·have Z:Hid (jJ code id os=1):=by show jJ code id os=1;simp[jJ,M]
  go_in
  go_wp2_with(fail);rw[Z.out];go_ret;exact⟨rfl,Y⟩
 ·by_cases Q:6<code
  ·have Z:Hid (jJ code id os=1):=by show jJ code id os=1;simp[jJ,Q]
   go_in
   go_wp2_with(fail);rw[Z.out];go_ret;exact⟨rfl,Y⟩
  ·cases X:xI id
   ·have Z:Hid (jJ code id os=1):=by show jJ code id os=1;simp[jJ,X]
    go_in
    go_wp2_with(fail);refine(lE id _).mono ?_;rintro e w1 ⟨rfl,rfl⟩;go_wp2_with(fail);rw[Z.out];go_ret;exact⟨rfl,Y⟩
   ·by_cases h4:(8:Int)<(n:Int)
    ·have Z:Hid (jJ code id os=2):=by
      show jJ code id os=2;rw[jJ,ae (by simp[X];omega),ag dU]
     go_in
     go_wp2_with(fail);refine(lE id _).mono ?_;rintro e w1 ⟨rfl,rfl⟩;go_wp2_with(fail);rw[Z.out];go_ret;exact⟨rfl,Y⟩
    ·by_cases h5:5<=code
     ·by_cases h6:(0:Int)<(n:Int)
      ·have Z:Hid (jJ code id os=3):=by
        show jJ code id os=3;rw[jJ,ae (by simp[X];omega),ae dU,ag dU]
       go_in
       go_wp2_with(fail);refine(lE id _).mono ?_;rintro e w1 ⟨rfl,rfl⟩;go_wp2_with(fail);rw[Z.out];go_ret;exact⟨rfl,Y⟩
      ·have Z:Hid (jJ code id os=pD [] os):=by
        show jJ code id os=_;rw[jJ,ae (by simp[X];omega),ae dU,ae dU]
       go_in
       go_wp2_with(fail);refine(lE id _).mono ?_;rintro e w1 ⟨rfl,rfl⟩;go_wp2_with(fail);refine T.mono ?_;rintro e w1 ⟨rfl,V⟩;go_wp2_with(fail);rw[Z.out];go_ret;exact⟨rfl,fY Y V⟩
     ·have Z:Hid (jJ code id os=pD [] os):=by
       show jJ code id os=_;rw[jJ,ae (by simp[X];omega),ae dU,ae dU]
      go_in
      go_wp2_with(fail);refine(lE id _).mono ?_;rintro e w1 ⟨rfl,rfl⟩;go_wp2_with(fail);refine T.mono ?_;rintro e w1 ⟨rfl,V⟩;go_wp2_with(fail);rw[Z.out];go_ret;exact⟨rfl,fY Y V⟩
theorem Ch(x:Int):xI x=true↔0<=x/\x<=255:=by simp[xI]
open Plain
theorem X7:(eU.info? 5).map (λi=>(i.zero,i.size,i.bytes))=μ (μ (.int .u8 0),1,1):=gL
theorem Jj(s:ByteArray)(w:dR)(hs:s.size<=60):
 eT eU 197 #[.string s] w λe w'=>e=ρ (τ #[.string ⟨(kF s.data.toList).toArray⟩,η])/\eh w w':=by
 obtain⟨i0,hi,od,mK,mL⟩:=aY X7;have hle:¬(60:Int)<(s.size:Int):=dU;have hsl:=Plain.Ld s.data.toList;obtain⟨cap,C,fr,acP,iQ⟩:=EJ (P:=eU) (w.alloc (γ #[.int .u8 126] 5)) 9 140 5 s underlying9 underlying140 underlying5 (by unfold maxLen;omega);have qX:(w.alloc (γ #[.int .u8 126] 5)).heap.size=w.heap.size+1:=gO;rw[qX]at iQ;obtain⟨L,hL⟩:∃L,L=ld s.data.toList:=⟨_,rfl⟩
 have hLl:L.length=s.size+2:=by rw[hL,mR];rfl
 go_in
 go_wp2_with(first
  |(go_at_call 210;refine(Nc _ _ ?hx).mono ?_;(case hx=>unfold maxLen;omega);rintro e w' ⟨rfl,rfl⟩)
  |(at_builtin;go_must(refine iB _ rfl (.tmp 16) (.tmp 22) 140 rfl 5 i0 (.int .u8 0) 1 1 underlying140 hi od mK mL rfl dX (.slice (some ⟨w.heap.size+1,0,none⟩) s.size cap) s.size (iH s.data.toList) rfl ?r1 _ 2 2 (iH [IZ s.data.toList,I0 s.data.toList]) rfl rfl dX ?c1 ?c2 ?c3 ?c4 ?_)))
 case r1=>exact(iQ.alloc _).drew
 case c1=>
  intro j u hu;rw[add_plain,World.cell?_drew];have h2:=aj ((w.alloc (fP #[dY ft 126] 5)).alloc (fP C 5 fr)) #[dY ft (↑(sum s.data.toList) %256),dY ft (↑(sum s.data.toList)/256)] 5 (0,0) j;have h3:((w.alloc (fP #[dY ft 126] 5)).alloc (fP C 5 fr)).heap.size=w.heap.size+1+1:=gO;rw[h3]at h2;rw[h2,<-Fk,<-Fm];simpa[iH]using hu
 case c2=>intro u hu;simp[iH]at hu;rcases hu with rfl|rfl<;>rfl
 case c3=>unfold maxLen;omega
 case c4=>omega
 intro g1 BG w1 AW ke jv;have xH:eh w w1:=by
  refine Below.grown ?_ ke ?_ ?_
  ·exact((((au _ _).alloc (Nat.le_refl _) _).alloc gO _).alloc (by simp;omega) _).drew
  ·simp;omega
  ·intro k hk;simp[dV]at hk;omega
 have Jk:w.heap.size<g1:=by
  rcases jv with h|h
  ·simp[dV]at h;omega
  ·omega
 have tC:Row w1 1 (σ (μ ⟨w.heap.size,0,ν⟩) 1 1) 1 (iH [126]):=by
  refine Row.kept (row:=μ (w.heap.size+1)) ?q1 ke ?q2
  case q1=>exact(((Row.made w 1 5 #[.int .u8 126] (0,0) 1 1 (iH [126]) rfl rfl (Nat.le_refl _) dX (.inl rfl) (by simp[iH])).alloc _).alloc _).drew
  case q2=>
   intro k hk;have uk:w.heap.size=k:=by simpa[dV]using hk
   intro e;have e':w.heap.size+1=k:=by simpa using e
   omega
 have hS:Row w1 1 (σ (μ ⟨g1,0,ν⟩) (s.size+2) BG) (s.size+2) (iH L):=by
  rw[hL,ld,la];exact AW
 clear AW ke jv iQ acP
 go_wp2
 go_loopw [5,25] (λv i wr=>∃(k g cp:Nat) (E:List UInt8),E=126::rI (L.take k)/\k<=L.length/\i=ι κ k/\v=σ (μ ⟨g,0,ν⟩) E.length cp/\Row wr 1 v E.length (iH E)/\
  Row wr 1 (σ (μ ⟨g1,0,ν⟩) (s.size+2) BG) (s.size+2) (iH L)/\w.heap.size<=g/\g≠g1/\eh w wr)
  (λ_ i _=>L.length-(eV i).toNat)
 case atStart=>exact⟨0,w.heap.size,1,[126],rfl,Nat.zero_le _,rfl,rfl,tC,hS,Nat.le_refl _,dU,xH⟩
 case round=>
  obtain⟨k,g,cp,E,LD,hk,rfl,rfl,G,M,II,Sy,H⟩:=hrel;have Nw:E.length<=1+2*62:=by
   have h1:=yy (L.take k);have h2:(L.take k).length<=62:=by simp;omega
   rw[LD];simp only[eM];omega
  have HE:Hid _:=LD;clear LD;clear tC hS xH;have m1:E.length+1<=maxLen:=by unfold maxLen;omega
  have m2:E.length+2<=maxLen:=by unfold maxLen;omega
  have b1:(E.length+1)*1<=140737488355328:=dU;have b2:(E.length+2)*1<=140737488355328:=dU;by_cases ka:k<L.length
  ·have hcell:=M.cell k _ (xy L k ka);have hx:=XO L[k];have HN:Hid (126::rI (L.take (k+1))=E++BH L[k]):=by
    have:L.take (k+1)=L.take k++ [L[k]] :=ay ka;rw[HE.out,this,OG];rfl
   have HC:Hid (qY L[k] =true↔_):=OH L[k];obtain⟨c,hc⟩:∃c,c=L[k] :=⟨_,rfl⟩
   rw[<-hc]at hcell hx HN HC;clear hc;have hT:∀(U:qY c=true) (A D:Nat) (Z:dR),Row Z 1 (σ (μ ⟨A,0,ν⟩) (E.length+2) D) (E.length+2) (iH E++ [.int .u8 125,.int .u8 ((c^^^32).toNat:Int)])->
    Row Z 1 (σ (μ ⟨A,0,ν⟩) (126::rI (L.take (k+1))).length D) (126::rI (L.take (k+1))).length (iH (126::rI (L.take (k+1))))/\(126::rI (L.take (k+1))).length=E.length+2:=by
    intro U A D Z hr;rw[HN.out];have e1:BH c=[125,c^^^32] :=by simp[BH,U]
    rw[e1];refine⟨?_,gO⟩;rw[la,az];exact hr
   have hO:∀(U:¬qY c=true) (A D:Nat) (Z:dR),Row Z 1 (σ (μ ⟨A,0,ν⟩) (E.length+1) D) (E.length+1) (iH E++ [.int .u8 (c.toNat:Int)])->
    Row Z 1 (σ (μ ⟨A,0,ν⟩) (126::rI (L.take (k+1))).length D) (126::rI (L.take (k+1))).length (iH (126::rI (L.take (k+1))))/\(126::rI (L.take (k+1))).length=E.length+1:=by
    intro U A D Z hr;rw[HN.out];have e1:BH c=[c] :=by simp[BH,U]
    rw[e1];refine⟨?_,gO⟩;rw[la,az];exact hr
   by_cases h1:((c.toNat:Int)==126)=true
   ·have U:qY c=true:=HC.out.mpr (.inl (by simpa using h1));go_wp2_with(at_builtin;go_must(refine iB _ rfl (.tmp 39) (.tmp 42) 140 rfl 5 i0 (.int .u8 0) 1 1 underlying140 hi od mK mL rfl dX _ E.length (iH E) rfl (G.alloc _) _ 2 2 [.int .u8 125,.int .u8 ((c^^^32).toNat:Int)] rfl rfl dX (oY _ _ _ _) (lF _ _ _ _) m2 b2 ?_));intro T cap2 Z X Y V;obtain⟨y,J⟩:=hT U T cap2 Z X;have R:=uX Y V M II Sy H;have Q:Hid _:=J;clear J Y V X G M H hcell hx
    go_wp2
    go_roundw
    case rel=>exact⟨k+1,T,cap2,_,rfl,dU,by go_num,by rw[Q.out],by rw[<-Q.out];exact y,R.1,R.2.1,R.2.2.1,R.2.2.2⟩
    case measure=>simp[eV];omega
   ·have vp:((c.toNat:Int)==126)=false:=by simpa using h1
    by_cases h2:((c.toNat:Int)==125)=true
    ·have U:qY c=true:=HC.out.mpr (.inr (.inl (by simpa using h2)));go_wp2_with(at_builtin;go_must(refine iB _ rfl (.tmp 39) (.tmp 42) 140 rfl 5 i0 (.int .u8 0) 1 1 underlying140 hi od mK mL rfl dX _ E.length (iH E) rfl (G.alloc _) _ 2 2 [.int .u8 125,.int .u8 ((c^^^32).toNat:Int)] rfl rfl dX (oY _ _ _ _) (lF _ _ _ _) m2 b2 ?_));intro T cap2 Z X Y V;obtain⟨y,J⟩:=hT U T cap2 Z X;have R:=uX Y V M II Sy H;have Q:Hid _:=J;clear J Y V X G M H hcell hx
     go_wp2
     go_roundw
     case rel=>exact⟨k+1,T,cap2,_,rfl,dU,by go_num,by rw[Q.out],by rw[<-Q.out];exact y,R.1,R.2.1,R.2.2.1,R.2.2.2⟩
     case measure=>simp[eV];omega
    ·have zP:((c.toNat:Int)==125)=false:=by simpa using h2
     by_cases h3:(c.toNat:Int)<32
     ·have U:qY c=true:=HC.out.mpr (.inr (.inr h3));go_wp2_with(at_builtin;go_must(refine iB _ rfl (.tmp 39) (.tmp 42) 140 rfl 5 i0 (.int .u8 0) 1 1 underlying140 hi od mK mL rfl dX _ E.length (iH E) rfl (G.alloc _) _ 2 2 [.int .u8 125,.int .u8 ((c^^^32).toNat:Int)] rfl rfl dX (oY _ _ _ _) (lF _ _ _ _) m2 b2 ?_));intro T cap2 Z X Y V;obtain⟨y,J⟩:=hT U T cap2 Z X;have R:=uX Y V M II Sy H;have Q:Hid _:=J;clear J Y V X G M H hcell hx
      go_wp2
      go_roundw
      case rel=>exact⟨k+1,T,cap2,_,rfl,dU,by go_num,by rw[Q.out],by rw[<-Q.out];exact y,R.1,R.2.1,R.2.2.1,R.2.2.2⟩
      case measure=>simp[eV];omega
     ·have U:¬qY c=true:=by
       rw[HC.out];simp at vp zP;omega
      go_wp2_with(at_builtin;go_must(refine iB _ rfl (.tmp 44) (.tmp 46) 140 rfl 5 i0 (.int .u8 0) 1 1 underlying140 hi od mK mL rfl dX _ E.length (iH E) rfl (G.alloc _) _ 1 1 [.int .u8 (c.toNat:Int)] rfl rfl dX (oX _ _ _) (wu _ _) m1 b1 ?_));intro T cap2 Z X Y V;obtain⟨y,J⟩:=hO U T cap2 Z X;have R:=uX Y V M II Sy H;have Q:Hid _:=J;clear J Y V X G M H hcell hx
      go_wp2
      go_roundw
      case rel=>exact⟨k+1,T,cap2,_,rfl,dU,by go_num,by rw[Q.out],by rw[<-Q.out];exact y,R.1,R.2.1,R.2.2.1,R.2.2.2⟩
      case measure=>simp[eV];omega
  ·go_wp2_with(at_builtin;go_must(refine iB _ rfl (.tmp 49) (.tmp 50) 140 rfl 5 i0 (.int .u8 0) 1 1 underlying140 hi od mK mL rfl dX _ E.length (iH E) rfl (G.alloc _) _ 1 1 [.int .u8 126] rfl rfl dX (oX _ _ _) (wu _ _) m1 b1 ?_));intro T cap2 Z X Y V;have R:=uX Y V M II Sy H;have Vg:k=L.length:=dU;have hF:kF s.data.toList=E++ [126] :=by
    rw[HE.out,Vg,aG (Nat.le_refl _),hL];rfl
   have X8:(convert 140 9 (σ (μ ⟨T,0,ν⟩) (E.length+1) cap2)).run eU Z=.ok (.string ⟨(E++ [126]).toArray⟩) Z:=by
    refine Row.back (n:=E.length+1) ?_ 140 9 5 underlying140 underlying5 underlying9;rw[la];exact X
   clear X Y V G M H;have HF:Hid _:=hF;clear hF Vg
   go_wp2
   go_ret2
   exact⟨by rw[HF.out];rfl,R.2.2.2⟩
theorem Nx(s:ByteArray)(w:dR)(hs:60<s.size)(Z:s.size<=maxLen):
 eT eU 197 #[.string s] w λe w'=>e=ρ (τ #[.string fF,.iface 128 (ι κ 2)])/\w=w':=by
 unfold maxLen at Z;have hle:(60:Int)<(s.size:Int):=dU
 go_in
 go_wp2
 go_ret2
 exact⟨rfl,rfl⟩
def jO(x:Int):UInt8:=UInt8.ofNat x.toNat
theorem mV(x:Int)(h0:0<=x)(h1:x<=255):((jO x).toNat:Int)=x:=by
 unfold jO;rw[UInt8.toNat_ofNat_of_lt' (by show x.toNat<256;omega)];omega
def AX(os:List jG):List UInt8:=os.flatMap λo=>[jO o.1,jO o.2]
def lR(code id:Int)(os:List jG):List UInt8:=jO code::jO id::jO os.length::AX os
theorem LG(os:List jG)(o:jG):AX (os++ [o])=AX os++ [jO o.1,jO o.2] :=by simp[AX]
theorem rh(os:List jG):(AX os).length=2*os.length:=by
 induction os with
 |nil=>rfl
 |cons o r ih=>simp only[AX,List.flatMap_cons,List.length_append,eM,List.length_nil]at ih⊢;omega
theorem Da:∀(r seen:List jG),pD seen r=0->∀o∈r,xI o.1=true/\xI o.2=true
 |[],_,_,o,Z=>by simp at Z
 |x::r,seen,h,o,Z=>by
  unfold pD at h;split at h
  ·simp at h
  ·rename_i Y
   split at h
   ·simp at h
   ·rcases aQ.mp Z with rfl|Z
    ·simpa using Y
    ·exact Da r _ h o Z
theorem LH {code id:Int} {os:List jG} (h:jJ code id os=0):1<=code/\code<=6/\(0<=id/\id<=255)/\os.length<=8/\(5<=code->os.length=0)/\pD [] os=0:=by
 unfold jJ at h;split at h
 ·simp at h
 ·rename_i h1
  split at h
  ·simp at h
  ·split at h
   ·simp at h
   ·have Z:xI id=true:=by cases hq:xI id<;>simp_all
    exact⟨dU,dU,(Ch id).mp Z,dU,dU,h⟩
theorem Jl(code id:Int)(a:Option dQ)(n cap:Nat)(os:List jG)(w:dR)(T:n<=1000000)(U:n<=cap)(V:iU w a n os)(hf:jJ code id os≠0):
 eT eU 175 #[.agg #[ι κ code,ι κ id,σ a n cap]] w λe w'=>e=ρ (τ #[.string fF,jb (jJ code id os)])/\eh w w':=by
 have X:eh w (w.alloc (γ #[ι κ code,ι κ id,σ a n cap] 37)):=(au _ _).alloc (Nat.le_refl _) _;have Z:=tD code id a n cap os (w.alloc (γ #[ι κ code,ι κ id,σ a n cap] 37)) T U (V.below X);generalize jJ code id os=f at hf Z;have Y:jb f=.iface 128 (ι κ (f:Int)):=by simp[jb,hf]
 rw[Y]at Z⊢;clear Y
 go_in
 go_wp2_with(fail);refine Z.mono ?_;rintro e w1 ⟨rfl,Q⟩
 go_wp2
 go_ret2
 exact⟨rfl,fY X Q⟩
theorem G9(code id:Int)(a:Option dQ)(n cap:Nat)(os:List jG)(w:dR)(Ji:n<=cap)(ho:iU w a n os)(hf:jJ code id os=0):
 eT eU 175 #[.agg #[ι κ code,ι κ id,σ a n cap]] w λe w'=>e=ρ (τ #[.string ⟨(lR code id os).toArray⟩,η])/\eh w w':=by
 obtain⟨i0,hi,od,mK,mL⟩:=aY X7;obtain⟨p1,p2,⟨p3,p4⟩,p5,p6,p7⟩:=LH hf;have m9:=Da os [] p7;have hl:=ho.1;have M:eh w (w.alloc (γ #[ι κ code,ι κ id,σ a n cap] 37)):=(au _ _).alloc (Nat.le_refl _) _;have H:=tD code id a n cap os (w.alloc (γ #[ι κ code,ι κ id,σ a n cap] 37)) dU Ji (ho.below M);have e0:jb 0=η:=rfl;rw[hf,e0]at H;clear e0 p6 p7 hf;have Sz:∀w1:dR,Below (w.alloc (γ #[ι κ code,ι κ id,σ a n cap] 37)).heap.size (w.alloc (γ #[ι κ code,ι κ id,σ a n cap] 37)) w1->
  w1.cell? ⟨w.heap.size,0,ν⟩=μ (ι κ code)/\w1.cell? ⟨w.heap.size,1,ν⟩=μ (ι κ id)/\w1.cell? ⟨w.heap.size,2,ν⟩=μ (σ a n cap):=by
  intro w1 hb;have X:w.heap.size<(w.alloc (γ #[ι κ code,ι κ id,σ a n cap] 37)).heap.size:=gO;have hA:=λj=>aj w #[ι κ code,ι κ id,σ a n cap] 37 (0,0) j;exact⟨(hb.cell (p:=⟨w.heap.size,0,ν⟩) X).trans (hA 0),(hb.cell (p:=⟨w.heap.size,1,ν⟩) X).trans (hA 1),(hb.cell (p:=⟨w.heap.size,2,ν⟩) X).trans (hA 2)⟩
 go_in
 go_wp2_with(fail);refine H.mono ?_;rintro e w1 ⟨rfl,T⟩;obtain⟨q0,q1,q2⟩:=Sz w1 T;have D:=fY M T;have X:w.heap.size<w1.heap.size:=by
  have:=T.size;simp at this;omega
 clear Sz T H M;go_wp2_with(fail);have tC:Row (w1.alloc (γ #[.int .u8 code,.int .u8 id,.int .u8 (n:Int)] 5)) 1 (σ (μ ⟨w1.heap.size,0,ν⟩) 3 3) 3 (iH [jO code,jO id,jO os.length]):=by
  refine Row.made w1 1 5 _ (0,0) 3 3 _ rfl rfl (Nat.le_refl _) dX (.inl rfl) ?_;intro j u hu;simp only[iH,eE,eF,mV code dU dU,mV id p3 p4,hl,mV (n:Int) dU dU]at hu;simpa using hu
 have xH:eh w (w1.alloc (γ #[.int .u8 code,.int .u8 id,.int .u8 (n:Int)] 5)):=D.alloc D.size _
 go_loopw [5,27] (λv i wr=>∃(k g cp:Nat) (E:List UInt8),E=jO code::jO id::jO os.length::AX (os.take k)/\k<=n/\i=ι κ k/\v=σ (μ ⟨g,0,ν⟩) E.length cp/\Row wr 1 v E.length (iH E)/\
  w.heap.size<=g/\eh w wr)
  (λ_ i _=>n-(eV i).toNat)
 case atStart=>exact⟨0,w1.heap.size,3,_,rfl,Nat.zero_le _,rfl,rfl,tC,D.size,xH⟩
 case round=>
  obtain⟨k,g,cp,E,G,hk,rfl,rfl,V,II,Z⟩:=hrel;have Nw:E.length<=19:=by
   have h1:=rh (os.take k);have h2:(os.take k).length<=8:=by simp;omega
   rw[G];simp only[eM];omega
  have HE:Hid _:=G;have HL:Hid _:=hl;clear G tC xH hl;have m2:E.length+2<=maxLen:=by unfold maxLen;omega
  have b2:(E.length+2)*1<=140737488355328:=dU;by_cases ka:k<n
  ·have zB:=ho.below Z;rcases zB.2 with h0|⟨b,off,rfl,hc⟩
   ·omega
   have pX:k<os.length:=by rw[HL.out];exact ka
   obtain⟨c1,c2⟩:=hc k pX;obtain⟨a1,y⟩:=m9 os[k] (aK _);have HT:Hid (os.take (k+1)=os.take k++ [os[k]]):=ay pX;generalize os[k] =o at c1 c2 HT a1 y;obtain⟨o1a,J⟩:=(Ch o.1).mp a1;obtain⟨Q,o2b⟩:=(Ch o.2).mp y;clear hc a1 y zB;have m8:(k:Int)<(n:Int):=dU;have X9:eh w (wr.alloc (γ #[ι κ o.1,ι κ o.2] 276)):=Z.alloc Z.size _;have Y:Row (wr.alloc (γ #[ι κ o.1,ι κ o.2] 276)) 1 (σ (μ ⟨g,0,ν⟩) E.length cp) E.length (iH E):=V.alloc _;go_wp2_with(at_builtin;go_must(refine iB _ rfl (.tmp 31) (.tmp 38) 140 rfl 5 i0 (.int .u8 0) 1 1 underlying140 hi od mK mL rfl dX _ E.length (iH E) rfl (Y.alloc _) _ 2 2 [.int .u8 o.1,.int .u8 o.2] rfl rfl dX ?hcc (lF _ _ _ _) m2 b2 ?_))
   case hcc=>
    have:=oY (wr.alloc (γ #[ι κ o.1,ι κ o.2] 276)) (.int .u8 o.1) (.int .u8 o.2) 5;simpa using this
   intro U cap2 w2 rB rL kI;have uH:μ g=μ U \/(wr.alloc (γ #[ι κ o.1,ι κ o.2] 276)).heap.size+1<=U:=by
    rcases kI with h|h
    ·exact .inl h
    ·exact .inr (by simp;omega)
   have R:=Fe rL uH II X9;have tE:Row w2 1 (σ (μ ⟨U,0,ν⟩) (E.length+2) cap2) (E++ [jO o.1,jO o.2]).length (iH (E++ [jO o.1,jO o.2])):=by
    rw[la,az];simp only[iH,eE,eF,mV o.1 o1a J,mV o.2 Q o2b];exact rB
   have HN:Hid (E++ [jO o.1,jO o.2] =jO code::jO id::jO os.length::AX (os.take (k+1))):=by
    show E++ [jO o.1,jO o.2] =_;rw[HE.out,HT.out,LG];rfl
   have A:Hid ((E++ [jO o.1,jO o.2]).length=E.length+2):=by show(E++ [jO o.1,jO o.2]).length=E.length+2;simp
   clear rB rL kI uH V Z X9 Y
   go_wp2
   go_roundw
   case rel=>exact⟨k+1,U,cap2,_,HN.out,dU,by go_num,by rw[A.out],tE,R.1,R.2⟩
   case measure=>simp[eV];omega
  ·have X8:(convert 140 9 (σ (μ ⟨g,0,ν⟩) E.length cp)).run eU wr=.ok (.string ⟨E.toArray⟩) wr:=Row.back V 140 9 5 underlying140 underlying5 underlying9;have HF:Hid (lR code id os=E):=by
    show lR code id os=E;have yv:os.take k=os:=aG (by rw[HL.out];omega);rw[HE.out,yv];rfl
   clear V;go_wp2_with(fail);rw[HF.out]
   go_ret2
   exact⟨rfl,Z⟩
theorem SA:(eU.info? 276).map (λi=>(i.zero,i.size,i.bytes))=μ (μ (.agg #[ι κ 0,ι κ 0]),2,16):=gL
theorem SB(w:dR):(zeroValue 37).run eU w=.ok (.agg #[ι κ 0,ι κ 0,σ ν 0 0]) w:=gL
theorem zR(w:dR)(x y:dT)(t:dW):∀(j:Nat) (u:dT),[x,y][j]? =μ u->(w.alloc (γ #[x,y] t)).drew.cell? ((⟨w.heap.size,0,ν⟩:dQ).add j)=μ u:=λj u Z=>oY w x y t j u Z
theorem rj {b:Nat} (Y:∀k,v.ownBlock=μ k->lo+2<=k)(X:(wr.alloc o).drew.grownBy x1 v.ownBlock)(hb:b<lo+2)(Z:b<wr.heap.size):x1.heap[b]? =wr.heap[b]? :=by
 rw[X.block b (by show b<(wr.alloc o).heap.size;simp;omega) (λe=>by have:=Y b e.symm;omega)];exact aT wr o b Z
theorem Jm(Y:∀k,v.ownBlock=μ k->lo+2<=k)(X:(wr.alloc o).drew.grownBy x1 v.ownBlock)(hc:wr.cell? ⟨lo+1,j,ν⟩=μ u):x1.cell? ⟨lo+1,j,ν⟩=μ u:=by
 have Z:lo+1<wr.heap.size:=af wr _ hc;rw[ai (w:=wr) (a:=⟨lo+1,j,ν⟩) (rj (b:=lo+1) Y X dU Z)];exact hc
theorem ES(Y:∀k,v.ownBlock=μ k->lo+2<=k)(X:(wr.alloc o).drew.grownBy x1 v.ownBlock)(hc:wr.cell? ⟨lo+1,j,ν⟩=μ u)(hf:wr.frozen? ⟨lo+1,j,ν⟩=false):x1.frozen? ⟨lo+1,j,ν⟩=false:=by
 have Z:lo+1<wr.heap.size:=af wr _ hc;rw[aJ (w:=wr) (a:=⟨lo+1,j,ν⟩) (rj (b:=lo+1) Y X dU Z)];exact hf
def l7:List UInt8->List jG
 |k::n::r=>((k.toNat:Int),(n.toNat:Int))::l7 r
 |_=>[]
theorem AY(s:ByteArray)(k:Nat)(h:k<s.size):s.data.toList.drop k=s[k] ::s.data.toList.drop (k+1):=by
 rw[aO (by simpa using h)];rfl
theorem vr(Y:wr.heap[w.heap.size]? =μ (γ #[ι κ 0,ι κ 0,σ ν 0 0] 37 (0,0)))(hb:eh wr w1):
 w1.cell? ⟨w.heap.size,0,ν⟩=μ (ι κ 0)/\w1.cell? ⟨w.heap.size,1,ν⟩=μ (ι κ 0)/\w1.cell? ⟨w.heap.size,2,ν⟩=μ (σ ν 0 0)/\∀j,w1.frozen? ⟨w.heap.size,j,ν⟩=false:=by
 have X:w.heap.size<wr.heap.size:=(aw.1 Y).1;have Z:w1.heap[w.heap.size]? =μ (γ #[ι κ 0,ι κ 0,σ ν 0 0] 37 (0,0)):=by rw[hb.block _ X];exact Y
 exact⟨ax w1 _ 0 _ 37 (0,0) Z,ax w1 _ 1 _ 37 (0,0) Z,ax w1 _ 2 _ 37 (0,0) Z,λj=>bu w1 _ j _ 37 Z⟩
def iM(l:List UInt8):Int×Int×List jG×Nat:=
 if l.length<3 \/(l.length:Int)≠(3:Int)+(2:Int)*((l.getD 2 0).toNat:Int)then(0,0,[],4)
 else if jJ ((l.getD 0 0).toNat:Int) ((l.getD 1 0).toNat:Int) (l7 (l.drop 3))=0 then(((l.getD 0 0).toNat:Int),((l.getD 1 0).toNat:Int),l7 (l.drop 3),0)
 else(0,0,[],4)
def Dc(l:List UInt8)(w:dR)(e:Ending)(w':dR):Prop:=
 ∃(a:Option dQ) (n cap f:Nat) (code id:Int) (os:List jG),e=ρ (τ #[.agg #[ι κ code,ι κ id,σ a n cap],jb f])/\iU w' a n os/\n<=cap/\iM l=(code,id,os,f)/\eh w w'/\(∀j,dV (σ a n cap)=μ j->w.heap.size<=j/\j<w'.heap.size)/\kt a cap
theorem xb(s:ByteArray)(h3:3<=s.size)(heq:(s.size:Int)=(3:Int)+(2:Int)*(s[2].toNat:Int)):
 iM s.data.toList=if jJ (s[0].toNat:Int) (s[1].toNat:Int) (l7 (s.data.toList.drop 3))=0 then((s[0].toNat:Int),(s[1].toNat:Int),l7 (s.data.toList.drop 3),0)else(0,0,[],4):=by
 have hl:s.data.toList.length=s.size:=gO;unfold iM;rw[nu s 0 dU,nu s 1 dU,nu s 2 dU,hl,ae dU]
theorem AZ {x y z:dT} (Y:Row w1 2 (σ ao k cp) k (iO ok))(Z:∀j,dV (σ ao k cp)=μ j->w.heap.size+2<=j)(hb:eh w w1):
 iU (((w1.setCell ⟨w.heap.size,0,ν⟩ x).setCell ⟨w.heap.size,1,ν⟩ y).setCell ⟨w.heap.size,2,ν⟩ z) ao k ok/\eh w (((w1.setCell ⟨w.heap.size,0,ν⟩ x).setCell ⟨w.heap.size,1,ν⟩ y).setCell ⟨w.heap.size,2,ν⟩ z):=by
 refine⟨Row.opts (Y.keep gO (λj X=> ?_)),((hb.setCell (Nat.le_refl _) _).setCell (Nat.le_refl _) _).setCell (Nat.le_refl _) _⟩;have:=Z j X;rw[aq _ _ _ _ (by show j≠w.heap.size;omega),aq _ _ _ _ (by show j≠w.heap.size;omega),aq _ _ _ _ (by show j≠w.heap.size;omega)]
theorem BM(w:dR)(a b:Obj):((w.alloc a).alloc b).drew.heap[w.heap.size+1]? =μ b:=by
 have h:=aW (w.alloc a) b;have e:(w.alloc a).heap.size=w.heap.size+1:=gO;rw[e]at h;exact h
theorem zS(w:dR)(a b:Obj):((w.alloc a).alloc b).drew.heap[w.heap.size]? =μ a:=by
 show((w.alloc a).alloc b).heap[w.heap.size]? =μ a;rw[aT (w.alloc a) b w.heap.size gO];exact aW w a
theorem Ha {ob:Obj} {g' jn:Nat} {c d:Int} {x y:Nat}
 (U:wr.heap[w.heap.size+1]? =μ (γ #[ι κ c,ι κ d,σ ao k cp] 37 (0,0)))
 (J:wr.heap[w.heap.size]? =μ (γ #[ι κ 0,ι κ 0,σ ν 0 0] 37 (0,0)))
 (_hrow:Row wr 2 (σ ao k cp) k (iO ok)) (Y:∀j,dV (σ ao k cp)=μ j->w.heap.size+2<=j) (Q:eh w wr)
 (V:Row x1 2 (σ (μ ⟨g',0,ν⟩) (k+1) jn) (k+1) (iO ok++ [ι κ (fh.wrap (x:Int)),ι κ (fh.wrap (y:Int))]))
 (X:(wr.alloc ob).drew.grownBy x1 (dV (σ ao k cp))) (H:dV (σ ao k cp)=μ g' \/(wr.alloc ob).drew.heap.size<=g') (hx:x<2^8) (hy:y<2^8):
 Row (x1.setCell ⟨w.heap.size+1,2,ν⟩ (σ (μ ⟨g',0,ν⟩) (k+1) jn)) 2 (σ (μ ⟨g',0,ν⟩) (k+1) jn) (k+1) (iO (ok++ [((x:Int),(y:Int))]))/\
 (x1.setCell ⟨w.heap.size+1,2,ν⟩ (σ (μ ⟨g',0,ν⟩) (k+1) jn)).heap[w.heap.size+1]? =μ (γ #[ι κ c,ι κ d,σ (μ ⟨g',0,ν⟩) (k+1) jn] 37 (0,0))/\
 (x1.setCell ⟨w.heap.size+1,2,ν⟩ (σ (μ ⟨g',0,ν⟩) (k+1) jn)).heap[w.heap.size]? =μ (γ #[ι κ 0,ι κ 0,σ ν 0 0] 37 (0,0))/\
 (∀j,dV (σ (μ ⟨g',0,ν⟩) (k+1) jn)=μ j->w.heap.size+2<=j)/\eh w (x1.setCell ⟨w.heap.size+1,2,ν⟩ (σ (μ ⟨g',0,ν⟩) (k+1) jn)):=by
 have M:w.heap.size+1<wr.heap.size:=(aw.1 U).1;have k1:=rj (b:=w.heap.size+1) Y X dU M;have k0:=rj (b:=w.heap.size) Y X dU dU;have RS:(wr.alloc ob).drew.heap.size=wr.heap.size+1:=by show(wr.alloc ob).heap.size=_;simp
 have Jk:w.heap.size+2<=g':=by
  rcases H with h|h
  ·exact Y g' h
  ·omega
 have T:x1.heap[w.heap.size+1]? =μ (γ #[ι κ c,ι κ d,σ ao k cp] 37 (0,0)):=by rw[k1];exact U
 refine⟨?_,?_,?_,?_,?_⟩
 ·have ex:fh.wrap (x:Int)=(x:Int):=aP _ ⟨dU,dU⟩;have G:fh.wrap (y:Int)=(y:Int):=aP _ ⟨dU,dU⟩;rw[ex,G,<-mH ok ((x:Int),(y:Int))]at V;refine V.keep gO (λj Z=> ?_);have:g'=j:=by simpa[dV]using Z
  exact aq _ _ _ _ (by show j≠w.heap.size+1;omega)
 ·rw[bD x1 (w.heap.size+1) 2 _ 37 (0,0) _ T];exact cz x1 _ _ _ 37 (0,0) T
 ·rw[aq _ _ _ _ (by show w.heap.size≠w.heap.size+1;omega),k0];exact J
 ·intro j Z;have:g'=j:=by simpa[dV]using Z
  omega
 ·have D:eh w (wr.alloc ob).drew:=(Q.alloc Q.size _).drew;refine bq ?_ (by show w.heap.size<=w.heap.size+1;omega) _;refine D.grown X dU (λj Z=> ?_);have:=Y j Z;omega
theorem Hc(s:ByteArray)(w:dR)(hs:s.size<=1000)(h3:3<=s.size)(heq:(s.size:Int)=(3:Int)+(2:Int)*(s[2].toNat:Int)):
 eT eU 184 #[.string s] w λe w'=>Dc s.data.toList w e w':=by
 obtain⟨i0,hi,od,mK,mL⟩:=aY SA;have hz:=SB;have g1:¬(s.size:Int)<3:=dU;have lN:=s[2].toNat_lt;have g2:((s.size:Int) !=(3:Int)+(2:Int)*(s[2].toNat:Int))=false:=by rw[heq];simp
 have HE:Hid _:=heq;clear heq;have b0:0<s.size:=dU;have b1:1<s.size:=dU;have b2:2<s.size:=dU;have xH:=s[0].toNat_lt;have Z:=s[1].toNat_lt;have z0:(0:Int)<(s.size:Int):=dU;have z1:(1:Int)<(s.size:Int):=dU
 go_in
 go_wp2
 go_region
 go_wp2
 go_loopw [5] (λi wr=>∃(k cp:Nat) (ao:Option dQ) (ok:List jG),3+2*k<=s.size/\i=ι κ ((3+2*k:Nat):Int)/\ok.length=k/\l7 (s.data.toList.drop 3)=ok++l7 (s.data.toList.drop (3+2*k))/\Row wr 2 (σ ao k cp) k (iO ok)/\
  wr.heap[w.heap.size+1]? =μ (γ #[ι κ (s[0].toNat:Int),ι κ (s[1].toNat:Int),σ ao k cp] 37 (0,0))/\wr.heap[w.heap.size]? =μ (γ #[ι κ 0,ι κ 0,σ ν 0 0] 37 (0,0))/\
  (∀j,dV (σ ao k cp)=μ j->w.heap.size+2<=j)/\eh w wr)
  (λi _=>s.size-(eV i).toNat)
 case atStart=>
  refine⟨0,0,ν,[],dU,rfl,rfl,rfl,Row.nil _ _,?_,?_,λj Y=>by simp[dV]at Y,(((au _ _).alloc (Nat.le_refl _) _).alloc gO _).drew⟩
  ·exact BM w _ _
  ·exact zS w _ _
 case round=>
  obtain⟨k,cp,ao,ok,hk,rfl,iF,J,X,Jn,Db,Q,iG⟩:=hrel;have hP:Hid _:=J;clear J;have cv:wr.cell? ⟨w.heap.size+1,2,ν⟩=μ (σ ao k cp):=ax wr _ 2 _ 37 (0,0) Jn;have fv:wr.frozen? ⟨w.heap.size+1,2,ν⟩=false:=bu wr _ 2 _ 37 Jn;have VU:w.heap.size+1<wr.heap.size:=af wr _ cv;have Zs:Hid _:=Jn;have Zu:Hid _:=Db;clear Jn Db;by_cases ka:3+2*k<s.size
  ·have EM:3+2*k+1<s.size:=by have:=HE.out;omega
   obtain⟨q,h⟩:∃q,q=3+2*k:=⟨_,rfl⟩
   rw[<-h]at ka EM;have A:Hid _:=h;have y0:(0:Int)<=(q:Int):=dU;have y1:(q:Int)<(s.size:Int):=dU;have y2:(q:Int)+1<(s.size:Int):=dU;have y3:(0:Int)<=(q:Int)+1:=dU;have yw:fh.wrap ((q:Int)+1)=(q:Int)+1:=aP _ ⟨dU,dU⟩;have hbq:=s[q].toNat_lt;have ahe:=s[q+1].toNat_lt;have m1:k+1<=maxLen:=by unfold maxLen;omega
   have bb1:(k+1)*16<=140737488355328:=dU;rw[<-h];clear h;have HP2:Hid (l7 (s.data.toList.drop 3)=(ok++ [((s[q].toNat:Int),(s[q+1].toNat:Int))])++l7 (s.data.toList.drop (3+2*(k+1)))):=by
    show l7 (s.data.toList.drop 3)=_;rw[hP.out,<-A.out,AY s q ka,AY s (q+1) EM];have U:q+1+1=3+2*(k+1):=by have:=A.out;omega
    rw[U];simp[l7]
   go_wp2
   go_region_law ((refine lv (by rfl) (.tmp 35) (.tmp 46) 35 (by rfl) 276 i0 (.agg #[ι κ 0,ι κ 0]) 2 16 underlying35 hi od mK mL (by rfl) dX (σ ao k cp) k (iO ok) (by rfl) ((X.alloc _).drew) _ 1 1 [ι κ (fh.wrap (s[q].toNat:Int)),ι κ (fh.wrap (s[q+1].toNat:Int))] (by rfl) (by rfl) dX (zR _ _ _ _) (lF _ _ _ _) m1 bb1 ?_;intro g' jn x1 kQ D jv;have c1:=Jm Q D cv;have f1:=ES Q D cv fv))
   all_goals have hS:=Ha (c:=(s[0].toNat:Int)) (d:=(s[1].toNat:Int)) Zs.out Zu.out X Q iG kQ D jv s[q].toNat_lt s[q+1].toNat_lt
   all_goals clear kQ D jv c1 f1
   all_goals go_wp2_with(fail)
   all_goals go_roundw
   all_goals first
    |exact⟨k+1,jn,some ⟨g',0,none⟩,_,by have:=A.out;omega,by have:=A.out;go_num,by simp[iF],HP2.out,hS⟩
    |(simp[eV];omega)
  ·have H:3+2*k=s.size:=dU;have SC:l7 (s.data.toList.drop 3)=ok:=by
    rw[hP.out,H,aZ (by show s.size<=s.size;omega)];simp[l7]
   have BJ:=X.opts;have Ce:=X.Rm;have c0:wr.cell? ⟨w.heap.size+1,0,ν⟩=μ (ι κ (s[0].toNat:Int)):=ax wr _ 0 _ 37 (0,0) Zs.out;have c1:wr.cell? ⟨w.heap.size+1,1,ν⟩=μ (ι κ (s[1].toNat:Int)):=ax wr _ 1 _ 37 (0,0) Zs.out;have V:=tD (s[0].toNat:Int) (s[1].toNat:Int) ao k cp ok wr dU Ce BJ;have HK:Hid _:=SC;clear hP SC H;by_cases hf:jJ (s[0].toNat:Int) (s[1].toNat:Int) ok=0
   ·have M:jb 0=η:=rfl;rw[hf,M]at V;clear M;have HF:Hid _:=hf;clear hf;go_wp2_with(fail);refine V.mono ?_;rintro e w1 ⟨rfl,Z⟩;have d0:=(Z.cell (p:=⟨w.heap.size+1,0,ν⟩) VU).trans c0;have d1:=(Z.cell (p:=⟨w.heap.size+1,1,ν⟩) VU).trans c1;have d2:=(Z.cell (p:=⟨w.heap.size+1,2,ν⟩) VU).trans cv;obtain⟨r0,r1,r2,r3⟩:=vr Zu.out Z;have uV:=fY iG Z;have T:Hid ((∀j,dV (σ ao k cp)=μ j->w.heap.size<=j/\j<w1.heap.size)/\kt ao cp):=⟨λj Y=>⟨by have:=Q j Y;omega,(X.below Z).lt j Y⟩,λe=>by
     rcases X.2 with⟨U,_⟩|⟨g9,c9,U,_⟩
     ·simp at U;exact U.2.2
     ·rw[e]at U;simp at U⟩
    have G:=AZ (x:=ι κ (s[0].toNat:Int)) (y:=ι κ (s[1].toNat:Int)) (z:=σ ao k cp) (X.below Z) Q uV;have HV:Hid (iM s.data.toList=((s[0].toNat:Int),(s[1].toNat:Int),ok,0)):=by
     show iM s.data.toList=_;rw[xb s h3 HE.out,HK.out,ag HF.out]
    clear V Z c0 c1 cv X;go_wp2_with(fail);refine aE (v:=τ #[.agg #[ι κ (s[0].toNat:Int),ι κ (s[1].toNat:Int),σ ao k cp],η]) (by simp[results,results184,go_sem,r0,r1,r2]) rfl ?_;exact⟨ao,k,cp,0,_,_,ok,rfl,G.1,Ce,HV.out,G.2,λj Y=>⟨(T.out.1 j Y).1,by simpa using(T.out.1 j Y).2⟩,T.out.2⟩
   ·have M:jb (jJ (s[0].toNat:Int) (s[1].toNat:Int) ok)=.iface 128 (ι κ (jJ (s[0].toNat:Int) (s[1].toNat:Int) ok:Int)):=by simp[jb,hf]
    rw[M]at V;clear M;have HF:Hid _:=hf;clear hf;have HV:Hid (iM s.data.toList=(0,0,[],4)):=by
     show iM s.data.toList=_;rw[xb s h3 HE.out,HK.out,ae HF.out]
    generalize jJ (s[0].toNat:Int) (s[1].toNat:Int) ok=ff at V;go_wp2_with(fail);refine V.mono ?_;rintro e w1 ⟨rfl,Z⟩;obtain⟨r0,r1,r2,r3⟩:=vr Zu.out Z;have uV:=fY iG Z;have G:=AZ (ok:=[]) (ao:=ν) (k:=0) (cp:=0) (x:=ι κ 0) (y:=ι κ 0) (z:=σ ν 0 0) (Row.nil w1 2) (λj Y=>by simp[dV]at Y) uV;clear V Z c0 c1 cv X BJ;go_wp2_with(fail);refine aE (v:=τ #[.agg #[ι κ 0,ι κ 0,σ ν 0 0],.iface 128 (ι κ 4)]) (by simp[results,results184,go_sem,r0,r1,r2]) rfl ?_;exact⟨ν,0,0,4,0,0,[],rfl,G.1,Nat.le_refl _,HV.out,G.2,λj Y=>by simp[dV]at Y,λ_=>rfl⟩
theorem A1(s:ByteArray)(w:dR)(hs:s.size<=1000)(h:iM s.data.toList=(0,0,[],4))(hb:s.size<3 \/ ∃T:3<=s.size,(s.size:Int)≠(3:Int)+(2:Int)*(s[2].toNat:Int)):
 eT eU 184 #[.string s] w λe w'=>Dc s.data.toList w e w':=by
 have hz:=SB;have X:Hid _:=h;clear h;have V:eh w (w.alloc (γ #[ι κ 0,ι κ 0,σ ν 0 0] 37)):=(au _ _).alloc (Nat.le_refl _) _;have U:iU (w.alloc (γ #[ι κ 0,ι κ 0,σ ν 0 0] 37)) ν 0 [] :=⟨rfl,.inl rfl⟩
 rcases hb with h1|⟨T,Y⟩
 ·have g1:(s.size:Int)<3:=dU
  go_in
  go_wp2_with(fail);refine aE (v:=τ #[.agg #[ι κ 0,ι κ 0,σ ν 0 0],.iface 128 (ι κ 4)]) (by simp[results,results184,go_sem]) rfl ?_;exact⟨ν,0,0,4,0,0,[],rfl,U,Nat.le_refl _,X.out,V,λj Z=>by simp[dV]at Z,λ_=>rfl⟩
 ·have g1:¬(s.size:Int)<3:=dU;have lN:=s[2].toNat_lt;have b2:2<s.size:=dU;have g2:((s.size:Int) !=(3:Int)+(2:Int)*(s[2].toNat:Int))=true:=by rw[dM];exact Y
  clear Y
  go_in
  go_wp2_with(fail);refine aE (v:=τ #[.agg #[ι κ 0,ι κ 0,σ ν 0 0],.iface 128 (ι κ 4)]) (by simp[results,results184,go_sem]) rfl ?_;exact⟨ν,0,0,4,0,0,[],rfl,U,Nat.le_refl _,X.out,V,λj Z=>by simp[dV]at Z,λ_=>rfl⟩
theorem Jo(s:ByteArray)(w:dR)(hs:s.size<=1000):eT eU 184 #[.string s] w λe w'=>Dc s.data.toList w e w':=by
 have hl:s.data.toList.length=s.size:=gO;by_cases Z:3<=s.size
 ·by_cases heq:(s.size:Int)=(3:Int)+(2:Int)*(s[2].toNat:Int)
  ·exact Hc s w hs Z heq
  ·refine A1 s w hs ?_ (.inr ⟨Z,heq⟩);unfold iM;rw[nu s 2 dU,hl,ag (.inr heq)]
 ·refine A1 s w hs ?_ (.inl dU);unfold iM;rw[hl,ag (.inl dU)]
open St
def vt(H:Nat->HP):Nat->List HP
 |0=>[]
 |n+1=>if 0<(H n).far then vt H n++ [H n]else vt H n
theorem vu(H:Nat->HP):∀n,(vt H n).length<=n
 |0=>Nat.le_refl _
 |n+1=>by
  have:=vu H n;simp only[vt];split
  ·simp;omega
  ·omega
def Q6(L:List HP):List dT:=L.flatMap λh=>[ι κ h.dst,ι κ h.far,ι κ h.uF]
theorem SD(L:List HP)(h:HP):Q6 (L++ [h])=Q6 L++ [ι κ h.dst,ι κ h.far,ι κ h.uF] :=by simp[Q6]
theorem Ny:∀(L:List HP) (j:Nat) (h:HP),L[j]? =μ h->(Q6 L)[j*3]? =μ (ι κ h.dst)/\(Q6 L)[j*3+1]? =μ (ι κ h.far)/\(Q6 L)[j*3+2]? =μ (ι κ h.uF)
 |[],j,s,h=>by simp at h
 |x::l,0,s,h=>by
  have:x=s:=by simpa using h
  subst this;exact⟨rfl,rfl,rfl⟩
 |x::l,j+1,s,h=>by
  have Y:l[j]? =μ s:=by simpa using h
  obtain⟨a,b,c⟩:=Ny l j s Y;have e:Q6 (x::l)=ι κ x.dst::ι κ x.far::ι κ x.uF::Q6 l:=rfl;have Z:(j+1)*3=j*3+3:=dU;have V:(j+1)*3+1=j*3+1+3:=dU;have X:(j+1)*3+2=j*3+2+3:=dU;rw[e,V,X,Z];simp only[List.getElem?_cons_succ];exact⟨a,b,c⟩
theorem Row.hs {L:List HP} (h:Row w 3 v L.length (Q6 L)):∃a cap,v=σ a L.length cap/\Sh w a L.length L:=by
 rcases h.2 with⟨rfl,e⟩|⟨g,cap,rfl,_⟩
 ·rw[e];exact⟨ν,0,rfl,⟨e,.inl rfl⟩⟩
 ·refine⟨_,cap,rfl,⟨rfl,.inr ⟨g,0,rfl,λj s e=> ?_⟩⟩⟩;obtain⟨a,b,c⟩:=Ny L j s e;rw[show 0+j*3=j*3 by omega];exact⟨Row.cell h _ _ a,Row.cell h _ _ b,Row.cell h _ _ c⟩
theorem Hd(w:dR)(x y z:dT)(t:dW)(g:Nat)(Y:w.heap.size=g):∀(j:Nat) (u:dT),[x,y,z][j]? =μ u->(w.alloc (γ #[x,y,z] t)).cell? ((⟨g,0,ν⟩:dQ).add j)=μ u:=by
 subst Y;intro j u Z;rw[add_plain,aj];simpa using Z
theorem Zv(x y z:Int):∀u∈ [dY .i64 x,dY .i64 y,dY .i64 z],u.oneCell'=true:=by simp[Value.oneCell']
theorem VW:(eU.info? 98).map (λi=>(i.zero,i.size,i.bytes))=μ (μ (.agg #[ι κ 0,ι κ 0,ι κ 0]),3,24):=gL
theorem SE(H:Nat->HP)(B:Nat)(w:dR)(hB:jc w B (hC H) 259):
 eT eU 166 #[π (μ ⟨B,0,ν⟩)] w λe w'=>∃a cap,e=ρ (σ a (vt H 7).length cap)/\HsN w w' a (vt H 7).length (vt H 7)/\eh w w':=by
 obtain⟨i0,hi,od,mK,mL⟩:=aY VW
 go_in
 go_wp2
 go_loopw [3,8] (λs v wr=>∃n:Nat,n<=7/\v=ι κ n/\Row wr 3 s (vt H n).length (Q6 (vt H n))/\(∀g,s.ownBlock=μ g->w.heap.size<=g)/\eh w wr) (λ_ v _=>7-(eV v).toNat)
 case atStart=>exact⟨0,dU,rfl,Row.nil _ _,λg y=>by simp[dV]at y,au _ _⟩
 case round=>
  obtain⟨n,hn,rfl,G,J,Y⟩:=hrel;have HL:Hid _:=vu H n;have X:Hid (vt H (n+1)=if 0<(H n).far then vt H n++ [H n]else vt H n):=rfl;by_cases VQ:n<7
  ·have Sn:(n:Int)<7:=dU;obtain⟨p0,p1,p2⟩:=G5 H n VQ;have Z:=hB.below Y;have c0:=(Z.cell (n*3)).trans p0;have c1:=(Z.cell (n*3+1)).trans p1;have c2:=(Z.cell (n*3+2)).trans p2;clear p0 p1 p2 Z;obtain⟨p,hp⟩:=fW (H n);rw[hp]at c0 c1 c2 X;clear hp;obtain⟨pd,pf,T⟩:=p;simp only at c0 c1 c2 X;have Zj:=Y.alloc Y.size (γ #[ι κ pd,ι κ pf,ι κ T] 98);have V:Hid _:=Zj;have hws:Hid (w.heap.size<=wr.heap.size):=Y.size;have M:=G.alloc (γ #[ι κ pd,ι κ pf,ι κ T] 98);have Zw:Hid _:=J;by_cases hf:0<pf
   ·rw[ag hf]at X;obtain⟨L,D⟩:=fW (vt H n);rw[D]at X HL M;have hLl:L.length<=n:=HL.out;clear D G J Y Zj;go_wp2_with(at_builtin;go_must(refine iB _ rfl (.tmp 16) (.tmp 18) 94 rfl 98 i0 (.agg #[ι κ 0,ι κ 0,ι κ 0]) 3 24 underlying94 hi od mK mL rfl dX u3 L.length (Q6 L) rfl (M.alloc _) _ 1 1 [ι κ pd,ι κ pf,ι κ T] rfl rfl dX (Hd _ _ _ _ _ _ gO) (Zv _ _ _) (by unfold maxLen;omega) dU ?_));intro g' jn w3 tE Q uH;have h:Hid (Row w3 3 (σ (μ ⟨g',0,ν⟩) (L.length+1) jn) (L++ [(⟨pd,pf,T⟩:HP)]).length (Q6 (L++ [(⟨pd,pf,T⟩:HP)]))):=by
     show Row _ _ _ _ _;rw[SD,az];exact tE
    have U:eh w ((wr.alloc (γ #[ι κ pd,ι κ pf,ι κ T] 98)).alloc (γ #[ι κ pd,ι κ pf,ι κ T] 98)):=Below.alloc V.out V.out.size _;have KX:Hid (eh w w3):=⟨Q.os.trans U.os,Q.tape.trans U.tape,Q.output.trans U.output,Nat.le_trans U.size Q.size,λi hi=>(Q.block i (Nat.lt_of_lt_of_le hi U.size) (λe=>by have:=Zw.out i e.symm;omega)).trans (U.block i hi)⟩
    have A:Hid (∀g,dV (σ (μ ⟨g',0,ν⟩) (L.length+1) jn)=μ g->w.heap.size<=g):=by
     intro g y;have SF:g'=g:=by simpa[dV]using y
     subst SF;rcases uH with e|e
     ·exact Zw.out _ e
     ·have:=hws.out;omega
    clear tE Q uH U M c0 c1 c2
    go_wp2
    go_roundw
    case rel=>exact⟨n+1,dU,by go_num,by rw[X.out];exact h.out,A.out,KX.out⟩
    case measure=>simp[eV];omega
   ·rw[ae hf]at X;have HR2:Hid _:=M;clear G J Y Zj M
    go_wp2
    go_roundw
    case rel=>exact⟨n+1,dU,by go_num,by rw[X.out];exact HR2.out,Zw.out,V.out⟩
    case measure=>simp[eV];omega
  ·have Sn:¬(n:Int)<7:=dU;have jm:n=7:=dU;subst jm;obtain⟨a,cap,rfl,hR⟩:=Row.hs G;have HR:Hid (HsN w wr a (vt H 7).length (vt H 7)):=⟨hR,λx e=>by subst e;exact J _ rfl⟩
   clear hR G J
   go_wp2
   go_ret
   first|exact⟨a,cap,rfl,HR.out,Y⟩|exact⟨a,⟨cap,rfl⟩,HR.out,Y⟩
def qq(C:mU)(r:Nat):Nat->Nat->HP
 |0=>nI C r 7
 |k+1=>Q5 C r (qq C r k) 7
def yD(C:mU)(r:Nat):List HP:=vt (qq C r 6) 7
theorem A2 {C:mU} (r:Nat)(hC:∀x y,0<=C x y/\C x y<=20):∀k,qZ (qq C r k) (20+980*k)
 |0=>λn=>by
  simp only[qq,nI];have:=hC r n;split
  ·simp only;omega
  ·simp[HP.zero]
 |k+1=>λn=>by
  have:=(A2 r hC k).go (r:=r) hC 7 n;simp only[qq];push_cast at this⊢;omega
theorem Jp {C:mU} (hC:∀x y,0<=C x y/\C x y<=20):∀x y,0<=oG C x y/\oG C x y<=20:=by
 intro x y;have:=hC x y;simp only[oG];split<;>omega
theorem SG(a:Option dQ)(n cap:Nat)(S:Nat->SV)(E:Nat->List jG)(r:Nat)(w:dR)(h:qQ w a n S E)(hn:n<=1000)(iF:∀j,j<n->oD (S j).own (S j).seq (E j)=0)(kQ:1<=r)(hr6:r<=6):
 eT eU 116 #[σ a n cap,ι κ (r:Int)] w λe w'=>∃b c,e=ρ (σ b (yD (oG (lI S E n)) r).length c)/\HsN w w' b (yD (oG (lI S E n)) r).length (yD (oG (lI S E n)) r)/\eh w w':=by
 have htl:=OV a n cap S E w h hn iF;have hz:=zM;have mL:=Jd;have I7:=Jp (AQ S E n iF);have HRG:Hid _:=I7;have r1:¬(r:Int)<1:=dU;have r2:¬6<(r:Int):=dU;obtain⟨Z,hZ⟩:=fW (gC (λ_ _=>0));obtain⟨T,G⟩:=fW (hC (λ_=>HP.zero));have zs:Z.size=49:=by rw[<-hZ];exact pC _
 have zs2:T.size=21:=by rw[<-G];exact sD _
 rw[hZ]at hz;rw[G]at mL;clear hZ G I7 iF
 go_in
 go_wp2_with(fail);refine htl.mono ?_;rintro e w1 ⟨rfl,k1⟩;have Cf:=Sm (lI S E n) w1;obtain⟨C,hCe⟩:=fW (oG (lI S E n));rw[hCe]at Cf HRG;have HCe:Hid _:=hCe;clear htl hCe;go_wp2_with(fail);refine Cf.mono ?_;rintro e U ⟨rfl,k2⟩;have lN:=fY k1 k2;clear Cf k1 k2;have gs:(gC C).size=49:=pC _;have g1:(gC C).all (·.oneCell')=true:=LA _;have uG:(eU.info? 256).map (·.size)=μ (gC C).size:=by rw[gs];exact wy
 have qX:Z.size=(gC C).size:=by rw[gs,zs]
 have y:jc (U.alloc (γ Z 256)) U.heap.size Z 256:=jc.new _ _ _;have EG:jc ((U.alloc (γ Z 256)).setRow U.heap.size (gC C)) U.heap.size (gC C) 256:=y.setRow;have Hb3:Hid (eh w ((U.alloc (γ Z 256)).setRow U.heap.size (gC C))):=oe (lN.alloc lN.size _) lN.size _;have Nu:=OY C r dU ((U.alloc (γ Z 256)).setRow U.heap.size (gC C));have FA:Hid _:=EG;have Hs2:Hid _:=lN.size;clear lN;go_wp2_with(first
  |refine nA _ rfl (.tmp 5) 256 rfl U.heap.size (gC C) _ _ rfl EG underlying256 uG ?_
  |refine lP _ rfl (.tmp 5) (.tmp 15) 256 rfl U.heap.size Z (gC C) rfl rfl y qX uG g1 ?_)
 refine Nu.mono ?_;rintro e V ⟨rfl,k3⟩;have yj:=jc.below FA.out k3;have qO:=fY Hb3.out k3;obtain⟨X,KW⟩:=fW (U.heap.size);have HsX:Hid (w.heap.size<=X):=by show _<=_;rw[<-KW];exact Hs2.out
 rw[KW]at yj;rw[KW];have D:Hid (X<V.heap.size):=yj.lt;clear Nu y EG FA Hb3 k3 Hs2 KW uG qX;obtain⟨F,hF⟩:=fW (hC (nI C r 7));have fs:F.size=21:=by rw[<-hF];exact sD _
 have f1:F.all (·.oneCell')=true:=by rw[<-hF];exact Sf _
 have Vh:(eU.info? 259).map (·.size)=μ F.size:=by rw[fs];exact G6
 have acW:T.size=F.size:=by rw[fs,zs2]
 rw[hF];have y:jc (V.alloc (γ T 259)) V.heap.size T 259:=jc.new _ _ _;have hY4:jc ((V.alloc (γ T 259)).setRow V.heap.size F) V.heap.size F 259:=y.setRow;have hX4:jc ((V.alloc (γ T 259)).setRow V.heap.size F) X (gC C) 256:=(yj.below (gN _ _)).Sd (by have:=D.out;omega);have Q:Hid (eh w ((V.alloc (γ T 259)).setRow V.heap.size F)):=oe (qO.alloc qO.size _) qO.size _;have J:Hid (jc ((V.alloc (γ T 259)).setRow V.heap.size F) V.heap.size (hC (qq C r 0)) 259):=by show jc _ _ (hC (nI C r 7)) _;rw[hF];exact hY4
 have M:Hid _:=hX4;have HS3:Hid _:=qO.size;clear qO hF yj;go_wp2_with(first
  |refine lP _ rfl (.tmp 6) (.tmp 18) 259 rfl V.heap.size T F rfl rfl y acW Vh f1 ?_)
 obtain⟨Y,OW⟩:=fW (V.heap.size);rw[OW]at J M Q D HS3;rw[OW];clear OW y hY4 hX4 Vh acW fs f1;obtain⟨W4,um⟩:=fW ((V.alloc (γ T 259)).setRow Y F);rw[um]at J M Q;rw[um];clear um;have HRF:=A2 r HRG.out;have ahm:Hid _:=HRF;clear HRF
 go_loopw [19] (λv wr=>∃k:Nat,k<=6/\v=ι κ k/\jc wr X (gC C) 256/\jc wr Y (hC (qq C r k)) 259/\eh w wr) (λv _=>6-(eV v).toNat)
 case atStart=>exact⟨0,dU,rfl,M.out,J.out,Q.out⟩
 case round=>
  clear M J Q;obtain⟨k,hk,rfl,hX,hY,iG⟩:=hrel;by_cases hk6:k<6
  ·have ahn:(k:Int)<6:=dU;have uG:(eU.info? 256).map (·.size)=μ (gC C).size:=by rw[gs];exact wy
   have hgo:=Ss C r dU (qq C r k) Y (20+980*k) wr hY HRG.out (ahm.out k) dU;have HX:Hid _:=hX;have H:Hid _:=iG;clear hY iG;go_wp2_with(first
    |refine nA _ rfl (.tmp 5) 256 rfl X (gC C) _ _ rfl hX underlying256 uG ?_)
   refine hgo.mono ?_;rintro e w5 ⟨rfl,hY5,Zx⟩;have hXl:=jc.lt HX.out;have HX5:Hid (jc w5 X (gC C) 256):=jc.keep HX.out (Zx.block X hXl (λe=>by have:=D.out;simp at e;omega));have HY5:Hid _:=hY5;have Zq:Hid (eh w w5):=⟨Zx.os.trans H.out.os,Zx.tape.trans H.out.tape,Zx.output.trans H.out.output,Nat.le_trans H.out.size Zx.size,λi hi=>(Zx.block i (Nat.lt_of_lt_of_le hi H.out.size) (λe=>by have:=HS3.out;simp at e;omega)).trans (H.out.block i hi)⟩
   clear hgo hY5 Zx hX uG
   go_wp2
   go_roundw
   case rel=>exact⟨k+1,dU,by go_num,HX5.out,HY5.out,Zq.out⟩
   case measure=>simp[eV];omega
  ·have ahn:¬(k:Int)<6:=dU;have hke:k=6:=dU;have A:=SE (qq C r k) Y wr hY;have HL:Hid (vt (qq C r k) 7=yD (oG (lI S E n)) r):=by show _=_;rw[HCe.out,hke];rfl
   rw[HL.out]at A;clear hX hY hke HL;go_wp2_with(fail);refine A.mono ?_;rintro e w5 ⟨ra,rc,rfl,hR,k5⟩;have HR:Hid (HsN w w5 ra (yD (oG (lI S E n)) r).length (yD (oG (lI S E n)) r)):=⟨hR.r,λx e=>Nat.le_trans iG.size (hR.nw x e)⟩
   have H:Hid _:=fY iG k5;clear A hR k5 iG
   go_wp2
   go_ret
   first|exact⟨_,_,rfl,HR.out,H.out⟩|exact⟨_,⟨_,rfl⟩,HR.out,H.out⟩
theorem jc.drew {w:dR} {B:Nat} {C:Array dT} {t:dW} (h:jc w B C t):jc w.drew B C t:=h
abbrev Zy:=Int×Bool×Int
def yE(me f s:Int):Zy:=if f=me then(0,false,0)else(f,s==me,4)
def iL(p:Zy):Zy:=if p.2.2<=1 then(0,false,0)else(p.1,p.2.1,p.2.2-1)
theorem yF(w:dR):(zeroValue 116).run eU w=.ok (.agg #[ι κ 0,.bool false,ι κ 0]) w:=gL
theorem FC(w:dR):(zeroValue 230).run eU w=.ok (.agg #[ι κ 0,ι κ 0]) w:=gL
theorem SH(a c me f s:Int)(b:Bool)(w:dR):eT eU 187 #[.agg #[ι κ a,.bool b,ι κ c],ι κ me,.agg #[ι κ f,ι κ s]] w λe w'=>
 e=ρ (.agg #[ι κ (yE me f s).1,.bool (yE me f s).2.1,ι κ (yE me f s).2.2])/\eh w w':=by
 have hz:=yF;have hb:∀(A B C:Array dT) (t u v:dW),eh w (((w.alloc (γ A t)).alloc (γ B u)).alloc (γ C v)):=λA B C t u v=>((gN _ _).alloc gO _).alloc (by simp;omega) _;cases q:(f==me)
 ·have hv:yE me f s=(f,s==me,4):=by simp at q;simp[yE,q]
  rw[hv];clear hv
  go_in
  go_wp2
  refine aE (v:=.agg #[ι κ f,.bool (s==me),ι κ 4]) (by simp[results,results187,go_sem]) rfl ?_;exact⟨rfl,hb _ _ _ _ _ _⟩
 ·have hv:yE me f s=(0,false,0):=by simp at q;simp[yE,q]
  rw[hv];clear hv
  go_in
  go_wp2
  refine aE (v:=.agg #[ι κ 0,.bool false,ι κ 0]) (by simp[results,results187,go_sem]) rfl ?_;exact⟨rfl,hb _ _ _ _ _ _⟩
theorem SI(a c:Int)(b:Bool)(w:dR)(hc:0<=c)(FD:c<=100):eT eU 84 #[.agg #[ι κ a,.bool b,ι κ c]] w λe w'=>
 e=ρ (.agg #[ι κ (iL (a,b,c)).1,.bool (iL (a,b,c)).2.1,ι κ (iL (a,b,c)).2.2])/\eh w w':=by
 have hz:=yF;have hb:∀(A B:Array dT) (t u:dW),eh w ((w.alloc (γ A t)).alloc (γ B u)):=λA B t u=>(gN _ _).alloc gO _;by_cases q:c<=1
 ·have hv:iL (a,b,c)=(0,false,0):=by simp[iL,q]
  rw[hv];clear hv
  go_in
  go_wp2
  refine aE (v:=.agg #[ι κ 0,.bool false,ι κ 0]) (by simp[results,results84,go_sem]) rfl ?_;exact⟨rfl,hb _ _ _ _⟩
 ·have hv:iL (a,b,c)=(a,b,c-1):=by simp[iL,q]
  rw[hv];clear hv
  go_in
  go_wp2
  refine aE (v:=.agg #[ι κ a,.bool b,ι κ (c-1)]) (by simp[results,results84,go_sem]) rfl ?_;exact⟨rfl,hb _ _ _ _⟩
theorem SJ(a c me:Int)(b:Bool)(w:dR):eT eU 149 #[.agg #[ι κ a,.bool b,ι κ c],ι κ me] w λe w'=>
 e=ρ (.agg #[ι κ me,ι κ a])/\eh w w':=by
 have hz:=FC;have hb:∀(A B:Array dT) (t u:dW),eh w ((w.alloc (γ A t)).alloc (γ B u)):=λA B t u=>(gN _ _).alloc gO _
 go_in
 go_wp2
 refine aE (v:=.agg #[ι κ me,ι κ a]) (by simp[results,results149,go_sem]) rfl ?_;exact⟨rfl,hb _ _ _ _⟩
open St (u8 oP)
theorem Ya(W:dR)(a b:Int)(Y:0<=a)(X:a<=255)(b0:0<=b)(b1:b<=255):(convert 140 9 (σ (μ ⟨W.heap.size,0,ν⟩) 2 2)).run eU (W.alloc (γ #[.int .u8 a,.int .u8 b] 5))=.ok (.string ⟨#[u8 a,u8 b]⟩) (W.alloc (γ #[.int .u8 a,.int .u8 b] 5)):=by
 have h:Row (W.alloc (γ #[.int .u8 a,.int .u8 b] 5)) 1 (σ (μ ⟨W.heap.size,0,ν⟩) 2 2) 2 (iH [u8 a,u8 b]):=by
  refine Row.made W 1 _ _ (0,0) 2 2 _ rfl rfl (Nat.le_refl _) dX (.inl rfl) ?_;intro j u Z;simp only[iH,eE,eF,oP a Y X,oP b b0 b1]at Z;simpa using Z
 exact Row.back h 140 9 5 underlying140 underlying5 underlying9
def tF(f s:Int):Bool:=decide (1<=f)&&decide (f<=6)&&decide (0<=s)&&decide (s<=6)
theorem LJ(f s:Int):∀(Q:Prop),(¬1<=f->tF f s=false->Q)->(1<=f->¬f<=6->tF f s=false->Q)->(1<=f->f<=6->¬0<=s->tF f s=false->Q)->(1<=f->f<=6->0<=s->¬s<=6->tF f s=false->Q)->(1<=f->f<=6->0<=s->s<=6->tF f s=true->Q)->Q:=by
 intro Q q1 q2 U M T;by_cases Z:1<=f
 ·by_cases Y:f<=6
  ·by_cases X:0<=s
   ·by_cases V:s<=6
    ·exact T Z Y X V (by simp[tF,Z,Y,X,V])
    ·exact M Z Y X V (by simp[tF,V])
   ·exact U Z Y X (by simp[tF,X])
  ·exact q2 Z Y (by simp[tF,Y])
 ·exact q1 Z (by simp[tF,Z])
theorem wA(f s:Int)(w:dR):eT eU 196 #[.agg #[ι κ f,ι κ s]] w λe w'=>e=ρ (.bool (tF f s))/\eh w w':=by
 refine LJ f s _ ?_ ?_ ?_ ?_ ?_
 all_goals
  intros
  rename_i hv
  rw[hv];clear hv
  go_in
  go_wp2
  go_ret;exact⟨by first|rfl|(simp;omega),gN _ _⟩
theorem Jq(f s:Int)(w:dR)(h1:1<=f)(h2:f<=6)(h3:0<=s)(h4:s<=6)(h:tF f s=true):eT eU 148 #[.agg #[ι κ f,ι κ s]] w λe w'=>e=ρ (τ #[.string ⟨#[u8 f,u8 s]⟩,η])/\eh w w':=by
 have Y:=wA f s (w.alloc (γ #[ι κ f,ι κ s] 230));rw[h]at Y;have V:=gN w (γ #[ι κ f,ι κ s] 230);have hA:=jc.new w #[ι κ f,ι κ s] 230;have uI:=λW=>Ya W f s dU dU dU dU;clear h
 go_in
 go_wp2_with(fail);refine Y.mono ?_;rintro e w1 ⟨rfl,k1⟩;have Z:=hA.below k1;have c0:w1.cell? ⟨w.heap.size,0,ν⟩=μ (ι κ f):=Z.cell 0;have c1:w1.cell? ⟨w.heap.size,1,ν⟩=μ (ι κ s):=Z.cell 1;have l1:w.heap.size<w1.heap.size:=Z.lt;have X:=fY V k1;clear hA Z Y k1
 go_wp2
 go_ret2
 exact⟨rfl,X.alloc X.size _⟩
def kg(l:List UInt8):Int×Int×Nat:=
 if l.length=2/\tF ((l.getD 0 0).toNat:Int) ((l.getD 1 0).toNat:Int)=true then(((l.getD 0 0).toNat:Int),((l.getD 1 0).toNat:Int),0)else(0,0,4)
theorem LK(s:ByteArray)(w:dR):eT eU 186 #[.string s] w λe w'=>e=ρ (τ #[.agg #[ι κ (kg s.data.toList).1,ι κ (kg s.data.toList).2.1],jb (kg s.data.toList).2.2])/\eh w w':=by
 have hz:=FC;have hl:s.data.toList.length=s.size:=gO;by_cases Y:s.size=2
 ·have b0:0<s.size:=dU;have b1:1<s.size:=dU;have z0:(0:Int)<(s.size:Int):=dU;have z1:(1:Int)<(s.size:Int):=dU;have xH:=s[0].toNat_lt;have j7:=s[1].toNat_lt;have g2:((s.size:Int) !=2)=false:=by rw[Y];rfl
  have J:eh w ((w.alloc (γ #[ι κ 0,ι κ 0] 230)).alloc (γ #[ι κ (s[0].toNat:Int),ι κ (s[1].toNat:Int)] 230)).drew:=jt ((gN _ _).alloc gO _);have G:=(jc.new w #[ι κ 0,ι κ 0] 230).below (gN (w.alloc (γ #[ι κ 0,ι κ 0] 230)) (γ #[ι κ (s[0].toNat:Int),ι κ (s[1].toNat:Int)] 230));have h:jc ((w.alloc (γ #[ι κ 0,ι κ 0] 230)).alloc (γ #[ι κ (s[0].toNat:Int),ι κ (s[1].toNat:Int)] 230)) (w.heap.size+1) #[ι κ (s[0].toNat:Int),ι κ (s[1].toNat:Int)] 230:=jc.IP _ _ _ _ gO;have Z:Hid (kg s.data.toList=if tF (s[0].toNat:Int) (s[1].toNat:Int)=true then((s[0].toNat:Int),(s[1].toNat:Int),0)else(0,0,4)):=by
   show _=_;unfold kg;rw[nu s 0 b0,nu s 1 b1,hl];simp[Y]
  have HS:Hid _:=Y;clear Y hl
  go_in
  go_wp2
  go_region
  go_wp2_with(fail);obtain⟨H,U⟩:=fW (((w.alloc (γ #[ι κ 0,ι κ 0] 230)).alloc (γ #[ι κ (s[0].toNat:Int),ι κ (s[1].toNat:Int)] 230)).drew);have Yb:jc H w.heap.size #[ι κ 0,ι κ 0] 230:=by rw[<-U];exact G
  have Nh:jc H (w.heap.size+1) #[ι κ (s[0].toNat:Int),ι κ (s[1].toNat:Int)] 230:=by rw[<-U];exact h
  rw[U]at J⊢;clear U G h;generalize s[0].toNat=x at*;generalize s[1].toNat=y at*;refine(wA (x:Int) (y:Int) _).mono ?_;rintro e X ⟨rfl,k2⟩;have T:=Yb.below k2;have A:=Nh.below k2;have M:X.cell? ⟨w.heap.size,0,ν⟩=μ (ι κ 0):=T.cell 0;have r1:X.cell? ⟨w.heap.size,1,ν⟩=μ (ι κ 0):=T.cell 1;have rf:=T.frozen;have rl:=T.lt;have x0:X.cell? ⟨w.heap.size+1,0,ν⟩=μ (ι κ (x:Int)):=A.cell 0;have x1:X.cell? ⟨w.heap.size+1,1,ν⟩=μ (ι κ (y:Int)):=A.cell 1;have D:=fY J k2;cases V:tF (x:Int) (y:Int)
  ·have Q:Hid (kg s.data.toList=(0,0,4)):=by show _=_;rw[Z.out,ae (by simp[V])]
   clear Z V;go_wp2_with(fail);rw[Q.out];refine aE (v:=τ #[.agg #[ι κ 0,ι κ 0],.iface 128 (ι κ 4)]) (by simp[results,results186,go_sem,M,r1]) rfl ?_;exact⟨rfl,(D.setCell (Nat.le_refl _) _).setCell (Nat.le_refl _) _⟩
  ·have Q:Hid (kg s.data.toList=((x:Int),(y:Int),0)):=by show _=_;rw[Z.out,ag V]
   clear Z V;go_wp2_with(fail);rw[Q.out];refine aE (v:=τ #[.agg #[ι κ (x:Int),ι κ (y:Int)],η]) (by simp[results,results186,go_sem,M,r1]) rfl ?_;exact⟨rfl,(D.setCell (Nat.le_refl _) _).setCell (Nat.le_refl _) _⟩
 ·have g2:((s.size:Int) !=2)=true:=by rw[dM];omega
  have mb:=gN w (γ #[ι κ 0,ι κ 0] 230);have Z:Hid (kg s.data.toList=(0,0,4)):=by show _=_;unfold kg;rw[hl,ae dU]
  clear Y hl
  go_in
  go_wp2_with(fail);rw[Z.out];refine aE (v:=τ #[.agg #[ι κ 0,ι κ 0],.iface 128 (ι κ 4)]) (by simp[results,results186,go_sem]) rfl ?_;exact⟨rfl,mb⟩
theorem He(a b:Option dQ)(n ca Q:Nat)(L:List HP)(w:dR)(X:Sh w a n L)(J:Sh w b n L)(hn:n<=1000):
 eT eU 46 #[σ a n ca,σ b n Q] w λe w'=>e=ρ (.bool true)/\eh w w':=by
 have hl:=X.len
 go_in
 go_wp2
 go_loopw [5] (λi wr=>∃k:Nat,k<=n/\i=ι κ k/\eh w wr) (λi _=>n-(eV i).toNat)
 case atStart=>exact⟨0,Nat.zero_le _,rfl,au _ _⟩
 case round=>
  obtain⟨k,hk,rfl,Z⟩:=hrel;by_cases ka:k<n
  ·have m8:(k:Int)<(n:Int):=dU;have r1:=(X.below Z).row;have H:=(J.below Z).row;rcases r1 with T|⟨b1,o1,rfl,V⟩
   ·omega
   rcases H with T|⟨b2,o2,rfl,U⟩
   ·omega
   have Y:L[k]? =μ (L[k]'(by omega)):=aA dU;obtain⟨c0,c1,c2⟩:=V k _ Y;obtain⟨d0,d1,d2⟩:=U k _ Y;generalize L[k]'(by omega)=p at c0 c1 c2 d0 d1 d2 Y;obtain⟨pd,pf,px⟩:=p;simp only at c0 c1 c2 d0 d1 d2;clear V U Y;have M:Hid _:=Z;clear Z
   go_wp2
   go_quiet(fail)
   go_wp2
   go_roundw
   case rel=>exact⟨k+1,dU,by go_num,below_drewN M.out _⟩
   case measure=>simp[eV];omega
  ·have yt:¬(k:Int)<(n:Int):=dU
   go_wp2
   go_ret;exact⟨rfl,Z⟩
