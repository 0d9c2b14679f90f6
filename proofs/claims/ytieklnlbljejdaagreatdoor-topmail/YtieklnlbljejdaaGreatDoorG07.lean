import Derived.Test.YtieklnlbljejdaaGreatDoorG02
import Derived.Test.YtieklnlbljejdaaGreatDoorG06
open Go.Value renaming int → ι, slice → σ, pointer → π, tuple → τ, nilIface → η
open Go.IntKind renaming i64 → κ
open Go.Ending renaming returned → ρ
open Go.Obj renaming cells → γ
open Option renaming none → ν, some → μ
open Go renaming World → eB, Calls → fj, Addr → eA, Value → eD
open Go.Proofs.Tryz renaming prog → fk
open Go.RowKit renaming intOf → ft
set_option maxRecDepth 100000
set_option maxHeartbeats 8000000
namespace Go.Proofs.YtieklnlbljejdaaGreatDoor
open Go.RowKit
variable {ev:Int} {v:Value} {w:World}
def wV(n:Int):Bool:=decide (0<=n)&&decide (n<=255)
theorem lK(n:Int)(w:eB):fj fk 226 #[ι κ n] w λe w'=>e=ρ (.bool (wV n))/\w=w':=by
 by_cases h0:0<=n
 ·by_cases h1:n<=255
  ·have hb:wV n=true:=by simp[wV,h0,h1]
   rw[hb];clear hb
   go_in
   go_wp2
   go_ret;exact⟨by first|rfl|(simp;omega),rfl⟩
  ·have hb:wV n=false:=by simp[wV,h1]
   rw[hb];clear hb
   go_in
   go_wp2
   go_ret;exact⟨by first|rfl|(simp;omega),rfl⟩
 ·have hb:wV n=false:=by simp[wV,h0]
  rw[hb];clear hb
  go_in
  go_wp2
  go_ret;exact⟨by first|rfl|(simp;omega),rfl⟩
theorem zT(k n K:Int)(bo:Nat)(w:eB)(NY:bo<w.heap.size)(h:w.cell? ⟨bo,0,ν⟩=μ (ι κ K)):
 fj fk 243 #[.agg #[ι κ k,ι κ n],π (μ ⟨bo,0,ν⟩)] w λe w'=>e=ρ (.bool (k==K))/\eN w w':=by
 go_in
 go_wp2
 go_ret;exact⟨rfl,(au _ _).alloc (Nat.le_refl _) _⟩
theorem NZ(a:Option eA)(n cap:Nat)(os:List j2)(K:Int)(bo:Nat)(w:eB)(hn:n<=1000000)(NY:bo<w.heap.size)(h:w.cell? ⟨bo,0,ν⟩=μ (ι κ K))(ho:jm w a n os):
 fj fk 254 #[σ a n cap,.func (.func 243) #[] #[π (μ ⟨bo,0,ν⟩)]] w λe w'=>∃r:Int,e=ρ (ι κ r)/\(decide (0<=r)=os.any (λo=>o.1==K))/\eN w w':=by
 go_in
 go_wp2
 go_loopw [8] (λi wr=>∃k:Nat,k<=n/\i=ι κ k/\(os.take k).any (λo=>o.1==K)=false/\eN w wr) (λi _=>n-(ft i).toNat)
 case atStart=>exact⟨0,Nat.zero_le _,rfl,rfl,au _ _⟩
 case round=>
  obtain⟨k,hk,rfl,WI,ja⟩:=hrel;have Yi:Hid _:=WI;clear WI;by_cases kH:k<n
  ·have Dz:=ho.below ja;rcases Dz.2 with h0|⟨b,off,rfl,hc⟩
   ·omega
   have pK:k<os.length:=by rw[ho.1];exact kH
   obtain⟨c1,c2⟩:=hc k pK;have hK:wr.cell? ⟨bo,0,ν⟩=μ (ι κ K):=(ja.cell (p:=⟨bo,0,ν⟩) NY).trans h;have abq:bo<wr.heap.size:=Nat.lt_of_lt_of_le NY ja.size;have HT:Hid (os.take (k+1)=os.take k++ [os[k]]):=ax pK;have HM:Hid (os[k] ∈os):=aE _;generalize os[k] =o at c1 c2 HT HM;clear hc;have nG:(k:Int)<(n:Int):=eE;cases hq:(o.1==K)
   ·go_wp2_with(fail);refine(zT o.1 o.2 K bo wr abq hK).mono ?_;rintro e w1 ⟨rfl,kt⟩
    go_wp2
    go_roundw
    case rel=>exact⟨k+1,eE,by go_num,by rw[HT.out,List.any_append,Yi.out];simp[hq],iA ja kt⟩
    case measure=>simp[ft];omega
   ·go_wp2_with(fail);refine(zT o.1 o.2 K bo wr abq hK).mono ?_;rintro e w1 ⟨rfl,kt⟩
    go_wp2
    go_ret;refine⟨_,rfl,?_,iA ja kt⟩;have h1:os.any (λo=>o.1==K)=true:=List.any_eq_true.mpr ⟨o,HM.out,hq⟩;rw[h1];simp
  ·have wa:os.take k=os:=aK (by rw[ho.1];omega);rw[wa]at Yi
   go_wp2
   go_ret;exact⟨-1,rfl,by rw[Yi.out];rfl,ja⟩
theorem FR(a:Option eA)(n cap:Nat)(os:List j2)(K:Int)(bo:Nat)(w:eB)(hn:n<=1000000)(NY:bo<w.heap.size)(h:w.cell? ⟨bo,0,ν⟩=μ (ι κ K))(ho:jm w a n os):
 fj fk 242 #[σ a n cap,.func (.func 243) #[] #[π (μ ⟨bo,0,ν⟩)]] w λe w'=>e=ρ (.bool (os.any (λo=>o.1==K)))/\eN w w':=by
 go_in
 go_wp2_with(fail);refine(NZ a n cap os K bo w hn NY h ho).mono ?_;rintro e w1 ⟨r,rfl,hr,hb⟩
 go_wp2
 go_ret;exact⟨by rw[<-hr];rfl,hb⟩
def pA:List j2->List j2->Nat
 |_,[] =>0
 |seen,o::r=>if(wV o.1&&wV o.2)=false then 1 else if seen.any (λx=>x.1==o.1)=true then 3 else pA (seen++ [o]) r
theorem yV(a:Option eA)(n cap:Nat)(os:List j2)(w:eB)(hn:n<=1000000)(Ib:n<=cap)(ho:jm w a n os):
 fj fk 227 #[σ a n cap] w λe w'=>e=ρ (jy (pA [] os))/\eN w w':=by
 go_in
 go_wp2
 go_loopw [7] (λi wr=>∃k:Nat,k<=n/\i=ι κ k/\pA [] os=pA (os.take k) (os.drop k)/\eN w wr) (λi _=>n-(ft i).toNat)
 case atStart=>exact⟨0,Nat.zero_le _,rfl,rfl,au _ _⟩
 case round=>
  obtain⟨k,hk,rfl,Mp,ja⟩:=hrel;have hF:Hid _:=Mp;clear Mp;by_cases kH:k<n
  ·have Dz:=ho.below ja;have abr:=Dz.take k eE;rcases Dz.2 with h0|⟨b,off,rfl,hc⟩
   ·omega
   have pK:k<os.length:=by rw[ho.1];exact kH
   obtain⟨c1,c2⟩:=hc k pK;have HT:Hid (os.take (k+1)=os.take k++ [os[k]]):=ax pK;have HD:Hid (os.drop k=os[k] ::os.drop (k+1)):=aR pK;generalize os[k] =o at c1 c2 HT HD;clear hc;have nG:(k:Int)<(n:Int):=eE;have l7:eN w (wr.alloc (γ #[ι κ o.1,ι κ o.2] 276)):=ja.alloc ja.size _;have WJ:jm (wr.alloc (γ #[ι κ o.1,ι κ o.2] 276)) (μ ⟨b,off,ν⟩) k (os.take k):=abr.below ((au _ _).alloc (Nat.le_refl _) _);have hcK:(wr.alloc (γ #[ι κ o.1,ι κ o.2] 276)).cell? ⟨wr.heap.size,0,ν⟩=μ (ι κ o.1):=aq wr #[ι κ o.1,ι κ o.2] 276 (0,0) 0;have kP:=FR (μ ⟨b,off,ν⟩) k cap (os.take k) o.1 wr.heap.size (wr.alloc (γ #[ι κ o.1,ι κ o.2] 276)) eE iC hcK WJ;clear abr WJ Dz;cases hq1:wV o.1
   ·have HE:Hid (pA [] os=1):=by
     show pA [] os=1;rw[hF.out,HD.out,pA,ag (by simp[hq1])]
    go_wp2_with(fail);refine(lK o.1 _).mono ?_;rintro e w1 ⟨rfl,rfl⟩;go_wp2_with(fail);rw[HE.out];go_ret;exact⟨rfl,l7⟩
   ·cases QW:wV o.2
    ·have HE:Hid (pA [] os=1):=by
      show pA [] os=1;rw[hF.out,HD.out,pA,ag (by simp[QW])]
     go_wp2_with(fail);refine(lK o.1 _).mono ?_;rintro e w1 ⟨rfl,rfl⟩;go_wp2_with(fail);refine(lK o.2 _).mono ?_;rintro e w1 ⟨rfl,rfl⟩;go_wp2_with(fail);rw[HE.out];go_ret;exact⟨rfl,l7⟩
    ·cases hq3:(os.take k).any (λx=>x.1==o.1)
     ·have HE:Hid (pA [] os=pA (os.take (k+1)) (os.drop (k+1))):=by
       show pA [] os=_;rw[hF.out,HD.out,pA,ae (by simp[hq1,QW]),ae (by simp[hq3]),HT.out]
      rw[hq3]at kP;clear hq3;go_wp2_with(fail);refine(lK o.1 _).mono ?_;rintro e w1 ⟨rfl,rfl⟩;go_wp2_with(fail);refine(lK o.2 _).mono ?_;rintro e w1 ⟨rfl,rfl⟩;go_wp2_with(fail);refine kP.mono ?_;rintro e w1 ⟨rfl,kt⟩
      go_wp2
      go_roundw
      case rel=>exact⟨k+1,eE,by go_num,HE.out,iA l7 kt⟩
      case measure=>simp[ft];omega
     ·have HE:Hid (pA [] os=3):=by
       show pA [] os=3;rw[hF.out,HD.out,pA,ae (by simp[hq1,QW]),ag hq3]
      rw[hq3]at kP;clear hq3;go_wp2_with(fail);refine(lK o.1 _).mono ?_;rintro e w1 ⟨rfl,rfl⟩;go_wp2_with(fail);refine(lK o.2 _).mono ?_;rintro e w1 ⟨rfl,rfl⟩;go_wp2_with(fail);refine kP.mono ?_;rintro e w1 ⟨rfl,kt⟩;go_wp2_with(fail);rw[HE.out];go_ret;exact⟨rfl,iA l7 kt⟩
  ·have HE:Hid (pA [] os=0):=by
    show pA [] os=0;have Mm:os.drop k=[] :=aX (by rw[ho.1];omega);rw[hF.out,Mm,pA]
   go_wp2_with(fail);rw[HE.out];go_ret;exact⟨rfl,ja⟩
def jW(code id:Int)(os:List j2):Nat:=
 if code<1 \/6<code \/wV id=false then 1
 else if 8<os.length then 2
 else if 5<=code/\0<os.length then 3
 else pA [] os
theorem sN(code id:Int)(a:Option eA)(n cap:Nat)(os:List j2)(w:eB)(hn:n<=1000000)(Ib:n<=cap)(ho:jm w a n os):
 fj fk 209 #[.agg #[ι κ code,ι κ id,σ a n cap]] w λe w'=>e=ρ (jy (jW code id os))/\eN w w':=by
 have hl:=ho.1;have l7:eN w (w.alloc (γ #[ι κ code,ι κ id,σ a n cap] 37)):=(au _ _).alloc (Nat.le_refl _) _;have kP:=yV a n cap os (w.alloc (γ #[ι κ code,ι κ id,σ a n cap] 37)) hn Ib (ho.below l7);by_cases h1:code<1
 ·have HE:Hid (jW code id os=1):=by show jW code id os=1;simp[jW,h1]
  go_in
  go_wp2_with(fail);rw[HE.out];go_ret;exact⟨rfl,l7⟩
 ·by_cases h2:6<code
  ·have HE:Hid (jW code id os=1):=by show jW code id os=1;simp[jW,h2]
   go_in
   go_wp2_with(fail);rw[HE.out];go_ret;exact⟨rfl,l7⟩
  ·cases h3:wV id
   ·have HE:Hid (jW code id os=1):=by show jW code id os=1;simp[jW,h3]
    go_in
    go_wp2_with(fail);refine(lK id _).mono ?_;rintro e w1 ⟨rfl,rfl⟩;go_wp2_with(fail);rw[HE.out];go_ret;exact⟨rfl,l7⟩
   ·by_cases h4:(8:Int)<(n:Int)
    ·have HE:Hid (jW code id os=2):=by
      show jW code id os=2;rw[jW,ae (by simp[h3];omega),ag eE]
     go_in
     go_wp2_with(fail);refine(lK id _).mono ?_;rintro e w1 ⟨rfl,rfl⟩;go_wp2_with(fail);rw[HE.out];go_ret;exact⟨rfl,l7⟩
    ·by_cases h5:5<=code
     ·by_cases h6:(0:Int)<(n:Int)
      ·have HE:Hid (jW code id os=3):=by
        show jW code id os=3;rw[jW,ae (by simp[h3];omega),ae eE,ag eE]
       go_in
       go_wp2_with(fail);refine(lK id _).mono ?_;rintro e w1 ⟨rfl,rfl⟩;go_wp2_with(fail);rw[HE.out];go_ret;exact⟨rfl,l7⟩
      ·have HE:Hid (jW code id os=pA [] os):=by
        show jW code id os=_;rw[jW,ae (by simp[h3];omega),ae eE,ae eE]
       go_in
       go_wp2_with(fail);refine(lK id _).mono ?_;rintro e w1 ⟨rfl,rfl⟩;go_wp2_with(fail);refine kP.mono ?_;rintro e w1 ⟨rfl,kt⟩;go_wp2_with(fail);rw[HE.out];go_ret;exact⟨rfl,iA l7 kt⟩
     ·have HE:Hid (jW code id os=pA [] os):=by
       show jW code id os=_;rw[jW,ae (by simp[h3];omega),ae eE,ae eE]
      go_in
      go_wp2_with(fail);refine(lK id _).mono ?_;rintro e w1 ⟨rfl,rfl⟩;go_wp2_with(fail);refine kP.mono ?_;rintro e w1 ⟨rfl,kt⟩;go_wp2_with(fail);rw[HE.out];go_ret;exact⟨rfl,iA l7 kt⟩
theorem yW(a b:Option eA)(ca cb n m:Nat)(os qs:List j2)(w:eB)(ha:jm w a n os)(hb:jm w b m qs)(hn:n<=1000000)(hm:m<=1000000):
 fj fk 230 #[σ a n ca,σ b m cb] w λe w'=>e=ρ (.bool (decide (os=qs)))/\∃k,w'=w.drewN k:=by
 have hl:=ha.1;have FC:=hb.1;by_cases Mr:n=m
 ·subst Mr;have heq:((n:Int) !=(n:Int))=false:=iC
  go_in
  go_wp2
  go_loopw [13] (λi wr=>∃k m:Nat,k<=n/\i=ι κ k/\os.take k=qs.take k/\wr=w.drewN m) (λi _=>n-(ft i).toNat)
  case atStart=>exact⟨0,0,Nat.zero_le _,rfl,rfl,rfl⟩
  case round=>
   obtain⟨k,m,hk,rfl,hT,rfl⟩:=hrel;have HT:Hid _:=hT;clear hT;by_cases kH:k<n
   ·rcases ha.2 with hA|⟨b1,o1,rfl,hA⟩
    ·omega
    rcases hb.2 with hB|⟨b2,o2,rfl,hB⟩
    ·omega
    obtain⟨c1,c2⟩:=hA k eE;obtain⟨c3,c4⟩:=hB k eE;have H1:Hid (os.take (k+1)=os.take k++ [os[k]'(by omega)]):=ax eE;have H2:Hid (qs.take (k+1)=qs.take k++ [qs[k]'(by omega)]):=ax eE;have H3:Hid (os=qs->os[k]'(by omega)=qs[k]'(by omega)):=λh=>by subst h;rfl
    clear hA hB;generalize os[k]'(by omega)=o at c1 c2 H1 H3;generalize qs[k]'(by omega)=q at c3 c4 H2 H3;have nG:(k:Int)<(n:Int):=eE;cases q1:(o.1==q.1)
    ·have jV:Hid (decide (os=qs)=false):=by
      show _=_;rw[bE];intro h;have:=H3.out h;rw[this]at q1;simp at q1
     go_wp2
     go_quiet(fail)
     go_wp2_with(fail);rw[jV.out];go_ret;exact⟨rfl,_,drewN_drewN _ _ _⟩
    ·cases q2:(o.2==q.2)
     ·have jV:Hid (decide (os=qs)=false):=by
       show _=_;rw[bE];intro h;have:=H3.out h;rw[this]at q2;simp at q2
      go_wp2
      go_quiet(fail)
      go_wp2_with(fail);rw[jV.out];go_ret;exact⟨rfl,_,drewN_drewN _ _ _⟩
     ·have HE:Hid (os.take (k+1)=qs.take (k+1)):=by
       show _=_;rw[H1.out,H2.out,HT.out];simp at q1 q2;congr 2;exact bu q1 q2
      go_wp2
      go_quiet(fail)
      go_wp2
      go_roundw
      case rel=>exact⟨k+1,_,eE,by go_num,HE.out,rfl⟩
      case measure=>simp[ft];omega
   ·have sO:decide (os=qs)=true:=by
     have h1:os.take k=os:=aK eE;have h2:qs.take k=qs:=aK eE;have:=HT.out;rw[h1,h2]at this;simp[this]
    go_wp2_with(fail);rw[sO];go_ret;exact⟨rfl,m,rfl⟩
 ·have heq:((n:Int) !=(m:Int))=true:=by simp;omega
  have jV:decide (os=qs)=false:=by
   rw[bE];intro h;subst h;omega
  rw[jV]
  go_in
  go_wp2
  go_ret;exact⟨rfl,0,rfl⟩
def nJ(s:LS)(ev:Int):LS:=ph (jt s.st ev).1 (s.next (jt s.st ev).2.1)
def oV(s:LS)(ev:Int)(xM:kZ):List kZ:=wM (jt s.st ev).1 (s.next (jt s.st ev).2.1) xM
theorem yX(s e:Int):(jt s e).1.length<=4:=by
 unfold jt;split
 ·simp
 ·rename_i h
  exact(show∀e,e<12->∀s,s<10->(lh s e).1.length<=4 by decide+kernel) e.toNat eE s.toNat eE
theorem xR(B:Nat)(X:Nat->Prop)(s:LS)(v:eD)(ps:List PV)(p:PV)(ev:Int)(w:eB)(hT:jo w)(h:qB w B X s v ps)(hb:Bd s 100)(hp:um w X v p)(hn:ps.length<=50)(hf:(jt s.st ev).2.2=0):
 fj fk 171 #[π (μ ⟨B,0,ν⟩),ι κ ev,.agg #[ι κ p.code,ι κ p.id,σ p.a p.n p.cap]] w λe w'=>e=ρ η/\m8 w w' B X (nJ s ev) v ps (oV s ev p.abs):=by
 have hl:=yX s.st ev;unfold nJ oV;obtain⟨D,nx,f,hR⟩:∃D nx f,jt s.st ev=(D,nx,f):=⟨_,_,_,rfl⟩
 rw[hR]at hf hl⊢;simp only at hf hl⊢;subst hf;exact Qy B X s v ps p ev ⟨D.toArray⟩ nx w hT h hb hp hn hR (by show D.toArray.size<=4;simpa using hl)
def mY:List j2->Int
 |[] =>255
 |o::r=>if o.1=1 then o.2 else mY r
theorem Kn(a:Option eA)(n cap:Nat)(os:List j2)(w:eB)(hn:n<=1000000)(ho:jm w a n os):
 fj fk 229 #[σ a n cap] w λe w'=>e=ρ (ι κ (mY os))/\eN w w':=by
 go_in
 go_wp2
 go_loopw [7] (λi wr=>∃k:Nat,k<=n/\i=ι κ k/\mY os=mY (os.drop k)/\eN w wr) (λi _=>n-(ft i).toNat)
 case atStart=>exact⟨0,Nat.zero_le _,rfl,rfl,au _ _⟩
 case round=>
  obtain⟨k,hk,rfl,Mp,ja⟩:=hrel;have hF:Hid _:=Mp;clear Mp;by_cases kH:k<n
  ·have Dz:=ho.below ja;rcases Dz.2 with h0|⟨b,off,rfl,hc⟩
   ·omega
   have pK:k<os.length:=by rw[ho.1];exact kH
   obtain⟨c1,c2⟩:=hc k pK;have HD:Hid (os.drop k=os[k] ::os.drop (k+1)):=aR pK;generalize os[k] =o at c1 c2 HD;clear hc;have nG:(k:Int)<(n:Int):=eE;have l7:=ja.alloc ja.size (γ #[ι κ o.1,ι κ o.2] 276);cases q1:(o.1==1)
   ·have HE:Hid (mY os=mY (os.drop (k+1))):=by
     show _=_;rw[hF.out,HD.out,mY,ae (by simpa using q1)]
    go_wp2
    go_roundw
    case rel=>exact⟨k+1,eE,by go_num,HE.out,l7⟩
    case measure=>simp[ft];omega
   ·have HE:Hid (mY os=o.2):=by
     show _=_;rw[hF.out,HD.out,mY,ag (by simpa using q1)]
    go_wp2_with(fail);rw[HE.out];go_ret;exact⟨rfl,l7⟩
  ·have HE:Hid (mY os=255):=by
    show _=_;have Mm:os.drop k=[] :=aX (by rw[ho.1];omega);rw[hF.out,Mm,mY]
   go_wp2_with(fail);rw[HE.out];go_ret;exact⟨rfl,ja⟩
def LS.sized(s:LS)(os:List j2):LS:=if 6<=s.st then {s with sz:=mY os}else s
theorem Ic(B:Nat)(X:Nat->Prop)(s:LS)(v:eD)(ps:List PV)(id:Int)(a:Option eA)(n cap:Nat)(os:List j2)(w:eB)(hT:jo w)(h:qB w B X s v ps)(hb:Bd s 100)(hn:ps.length<=50)
 (ho:jm w a n os) (tQ:∀k,tM a n=μ k->¬X k/\v.ownBlock≠μ k/\k<w.heap.size) (kj:kM a cap) (AE:n<=1000) (m1:0<=s.nm) (m2:s.nm<=255) (hj:lV s.nm os=(2,os)) (hf:(jt s.st 6).2.2=0):
 fj fk 211 #[π (μ ⟨B,0,ν⟩),.agg #[ι κ 1,ι κ id,σ a n cap]] w λe w'=>e=ρ η/\m8 w w' B X ((nJ s 6).sized os) v ps (oV s 6 (2,id,os)):=by
 have hk:=iB w (γ #[ι κ 1,ι κ id,σ a n cap] 37);have hA:=λj=>aq w #[ι κ 1,ι κ id,σ a n cap] 37 (0,0) j;have hl:=h.lk.lt;have UG:=h.row.lt;have h1:=h.below hk;have hz:∀w:eB,(zeroValue 37).run fk w=.ok (.agg #[ι κ 0,ι κ 0,σ ν 0 0]) w:=λw=>gT;have UT:=ho.1;obtain⟨W1,ke⟩:=gH (w.alloc (γ #[ι κ 1,ι κ id,σ a n cap] 37));obtain⟨Z,hZ⟩:=gH (w.heap.size);have d1:W1.cell? ⟨Z,1,ν⟩=μ (ι κ id):=by rw[<-ke,<-hZ];exact hA 1
 have d2:W1.cell? ⟨Z,2,ν⟩=μ (σ a n cap):=by rw[<-ke,<-hZ];exact hA 2
 rw[ke]at h1 hk;have wN:B≠Z:=eE;have hnz:v.ownBlock≠μ Z:=λe=>by have:=UG Z e;omega
 have HW:Hid _:=ke;have HZ:Hid _:=hZ;clear hA ke hZ hl;have c2:W1.cell? ⟨B,2,ν⟩=μ (ι κ s.ns):=h1.lk.cell 2;have c3:W1.cell? ⟨B,3,ν⟩=μ (ι κ s.nm):=h1.lk.cell 3;have UE:=h1.lk.lt;have G0:Z<W1.heap.size:=af W1 _ d1;have Nt:=h1.old;have zU:=h1.self;have hJ:=Eh s.ns s.nm a n cap os W1.drew m1 m2 eE kj (ho.below (jO hk));rw[hj]at hJ
 go_in
 go_wp2_with(fail);rw[HW.out,HZ.out]
 go_region_with(go_at_call 228;refine hJ.mono ?_;rintro e w2 ⟨u,rfl,hM⟩)
 all_goals
  obtain⟨a',n',jL,rfl,hP⟩:=FE (X:=X) (v:=v) 2 id hM (show os.length<=1000 by omega) Nt (λk XY=>Nat.lt_of_lt_of_le (UG k XY) hk.size);have xH:eN W1 w2:=iA (jO (au _ _)) hM.below;have R2:=h1.below xH;have Yj:w2.cell? ⟨Z,1,ν⟩=μ (ι κ id):=(xH.cell (p:=⟨Z,1,ν⟩) G0).trans d1;have d2':w2.cell? ⟨Z,2,ν⟩=μ (σ a n cap):=(xH.cell (p:=⟨Z,2,ν⟩) G0).trans d2;have FU:Z<w2.heap.size:=af w2 _ Yj;have N0:=iB w2 (γ #[ι κ 2,ι κ id,σ a' n' jL] 37);have Uc:=iA hk (iA xH N0);have R3:=R2.below N0;have P3:=hP.kept zU (Kept.je B v.ownBlock N0) (λ_ e=>.inl e);have HC:=xR B X s v ps ⟨2,id,a',n',jL,os⟩ 6 _ (hT.below Uc) R3 hb P3 hn hf;have Yk:=(N0.cell (p:=⟨Z,2,ν⟩) FU).trans d2';have xS:=ho.below Uc;have abt:Z<(w2.alloc (γ #[ι κ 2,ι κ id,σ a' n' jL] 37)).heap.size:=af _ _ Yk;clear hM hP R2 xH c2 c3 d1 d2 h1 hJ R3 P3;go_wp2_with(fail);refine HC.mono ?_;rintro e w4 ⟨rfl,hW⟩;obtain⟨⟨v',qs,hR4,UU,hv4⟩,hK4⟩:=hW;have c6:w4.cell? ⟨B,6,ν⟩=μ (ι κ (nJ s 6).st):=hR4.lk.cell 6;have z2:w4.cell? ⟨Z,2,ν⟩=μ (σ a n cap):=(ai (a:=⟨Z,2,ν⟩) (hK4.block Z abt (λe=>wN e.symm) hnz)).trans Yk;have Ud:jm w4 a n os:=xS.Md (λk hk4=>by obtain⟨q1,q2,q3⟩:=tQ k hk4;exact hK4.block k (Nat.lt_of_lt_of_le q3 Uc.size) (λe=>q1 (by rw[e];exact zU)) q2);have hl4:=hR4.lk.lt;have akF:Z<w4.heap.size:=af w4 _ z2;have Ym:Kept w w4 B v.ownBlock:=(Kept.je B v.ownBlock Uc).trans hK4 (λi e=>.inl e);have hvv:∀g,v'.ownBlock=μ g->v.ownBlock=μ g \/w.heap.size<=g:=λg hg=>by
   rcases hv4 g hg with e|e
   ·exact .inl e
   ·exact .inr (Nat.le_trans Uc.size e)
  clear HC hv4 hK4 xS Yk d2' Yj FU abt N0 Uc;obtain⟨s',hs'⟩:∃s',nJ s 6=s':=⟨_,rfl⟩
  rw[hs']at hR4 c6;have HS:Hid _:=hs';clear hs';by_cases h6:6<=s'.st
  ·go_wp2_with(fail);refine(Kn a n cap os w4 eE Ud).mono ?_;rintro e w5 ⟨rfl,k5⟩;have R5:=hR4.below k5;have c7:w5.cell? ⟨B,7,ν⟩=μ (ι κ s'.sz):=R5.lk.cell 7;have fz:∀j,w5.frozen? ⟨B,j,ν⟩=false:=R5.lk.frozen;have hl5:=R5.lk.lt;have HR6:Hid (qB (w5.setCell ⟨B,7,ν⟩ (ι κ (mY os))) B X {s' with sz:=mY os} v' (ps++qs)):=R5.ll 7 _ _ rfl;have HK6:Hid (Kept w (w5.setCell ⟨B,7,ν⟩ (ι κ (mY os))) B v.ownBlock):=kI (Ym.trans (Kept.je B v.ownBlock k5) (λi e=>.inl e)) 7 _;clear R5 hR4 Ym k5 Ud z2 c6
   go_wp2
   go_ret;rw[HS.out];have e6:s'.sized os={s' with sz:=mY os}:=by simp[LS.sized,h6]
   rw[e6];exact⟨rfl,⟨v',qs,HR6.out,UU,hvv⟩,HK6.out⟩
  ·go_wp2
   go_ret;rw[HS.out];have e6:s'.sized os=s':=by unfold LS.sized;rw[ae eE]
   rw[e6];exact⟨rfl,⟨v',qs,hR4,UU,hvv⟩,Ym⟩
theorem UW(B:Nat)(X:Nat->Prop)(s:LS)(v:eD)(ps:List PV)(w:eB)(h:qB w B X s v ps):
 fj fk 174 #[π (μ ⟨B,0,ν⟩)] w λe w'=>e=ρ v/\qB w' B X s (σ ν 0 0) [] /\Row w' 3 v ps.length (NI ps)/\(∀p∈ps,um w' X v p)/\Kept w w' B ν:=by
 have hl:=h.lk.lt;have UF:w.cell? ⟨B,11,ν⟩=μ v:=h.lk.cell 11;have fz:∀j,w.frozen? ⟨B,j,ν⟩=false:=h.lk.frozen;have hk:Kept w (w.setCell ⟨B,11,ν⟩ (σ ν 0 0)) B ν:=kI (Kept.refl w B _) 11 _;have sg:Kept w (w.setCell ⟨B,11,ν⟩ (σ ν 0 0)) B v.ownBlock:=kI (Kept.refl w B _) 11 _;have HR:Hid (qB (w.setCell ⟨B,11,ν⟩ (σ ν 0 0)) B X s (σ ν 0 0) []):=⟨h.lk.set 11 _,Row.nil _ 3,λg hg=>by simp[Value.ownBlock]at hg,h.self,λk hk4=>Nat.lt_of_lt_of_le (h.old k hk4) hk.size,λp hp=>by simp at hp⟩
 have HO:Hid (Row (w.setCell ⟨B,11,ν⟩ (σ ν 0 0)) 3 v ps.length (NI ps)):=h.row.keep hk.size (λk XY=>ak _ _ _ k (λe=>h.ne (by rw[XY];exact congrArg μ e)));have HP:Hid (∀p∈ps,um (w.setCell ⟨B,11,ν⟩ (σ ν 0 0)) X v p):=λp hp=>(h.pk p hp).kept h.self sg (λ_ e=>.inl e);clear h sg
 go_in
 go_wp2
 go_ret;exact⟨rfl,HR.out,HO.out,HP.out,hk⟩
theorem ry(w:eB):(zeroValue 37).run fk w=.ok (.agg #[ι κ 0,ι κ 0,σ ν 0 0]) w:=gT
theorem afB(ev:Int)(wW:ev=0 \/ev=1 \/ev=2 \/ev=3)(B:Nat)(X:Nat->Prop)(s:LS)(v:eD)(ps:List PV)(w:eB)(hT:jo w)(h:qB w B X s v ps)(hb:Bd s 100)(hn:ps.length<=50)(hf:(jt s.st ev).2.2=0):
 fj fk 120 #[π (μ ⟨B,0,ν⟩),ι κ ev] w λe w'=>e=ρ η/\m8 w w' B X (nJ s ev) v ps (oV s ev (0,0,[])):=by
 have hz:=ry;have hc:=xR B X s v ps ⟨0,0,ν,0,0,[]⟩ ev w hT h hb (qk _ _ _ _ _) hn hf;clear h hT hb hf;rcases wW with rfl|rfl|rfl|rfl
 all_goals
  go_in
  go_wp2_with(fail);refine hc.mono ?_;rintro e w1 ⟨rfl,hW⟩;clear hc
  go_wp2
  go_ret;exact⟨rfl,hW⟩
theorem Es(B:Nat)(X:Nat->Prop)(s:LS)(v:eD)(ps:List PV)(w:eB)(h:qB w B X s v ps):
 fj fk 114 #[π (μ ⟨B,0,ν⟩)] w λe w'=>e=ρ (ι κ s.st)/\w=w':=by
 have hl:=h.lk.lt;have c6:w.cell? ⟨B,6,ν⟩=μ (ι κ s.st):=h.lk.cell 6;clear h
 go_in
 go_wp2
 go_ret;exact⟨rfl,rfl⟩
def kE(s:LS):LS:=if(decide (4<=s.st)&&decide (s.st<=8))=false then s else if 0<s.wt-1 then {s with wt:=s.wt-1}else if 0<s.lf then nJ {s with wt:=s.wt-1} 4 else nJ {s with wt:=s.wt-1} 5
def mI(s:LS):List kZ:=if(decide (4<=s.st)&&decide (s.st<=8))=false then []else if 0<s.wt-1 then []else if 0<s.lf then oV {s with wt:=s.wt-1} 4 (0,0,[])else oV {s with wt:=s.wt-1} 5 (0,0,[])
theorem Ie:∀s:Nat,4<=s->s<=8->(lh s 4).2.2=0/\(lh s 5).2.2=0:=by
 intro s h1 h2;exact(show∀s,s<9->4<=s->(lh s 4).2.2=0/\(lh s 5).2.2=0 by decide+kernel) s eE h1
theorem QX(B:Nat)(X:Nat->Prop)(s:LS)(v:eD)(ps:List PV)(w:eB)(hT:jo w)(hB:B≠0)(UX:v.ownBlock≠μ 0)(h:qB w B X s v ps)(hb:Bd s 100)(hn:ps.length<=50)(w1: -1000<=s.wt)(w2:s.wt<=1000):
 fj fk 147 #[π (μ ⟨B,0,ν⟩)] w λe w'=>e=ρ (τ #[])/\m8 w w' B X (kE s) v ps (mI s):=by
 have hz:=ry;have hl:=h.lk.lt;have c6:w.cell? ⟨B,6,ν⟩=μ (ι κ s.st):=h.lk.cell 6;have c8:w.cell? ⟨B,8,ν⟩=μ (ι κ s.lf):=h.lk.cell 8;have c9:w.cell? ⟨B,9,ν⟩=μ (ι κ s.wt):=h.lk.cell 9;have fz:∀j,w.frozen? ⟨B,j,ν⟩=false:=h.lk.frozen;have Ue:=Nu s.st w;cases ht:(decide (4<=s.st)&&decide (s.st<=8))
 ·have e1:kE s=s:=by unfold kE;rw[ag ht]
  have e2:mI s=[] :=by unfold mI;rw[ag ht]
  rw[e1,e2];rw[ht]at Ue;have HW:Hid (m8 w w B X s v ps []):=m8.still h (Kept.refl _ _ _);clear h hb e1 e2 ht
  go_in
  go_wp2_with(fail);refine Ue.mono ?_;rintro e w3 ⟨rfl,rfl⟩
  go_wp2
  first|go_end0|refine aj (ar rfl _ _ _) rfl ?_
  exact⟨rfl,HW.out⟩
 ·have h2:qB (w.setCell ⟨B,9,ν⟩ (ι κ (s.wt-1))) B X {s with wt:=s.wt-1} v ps:=h.ll 9 _ _ rfl;have sg:Kept w (w.setCell ⟨B,9,ν⟩ (ι κ (s.wt-1))) B v.ownBlock:=kI (Kept.refl _ _ _) 9 _;have UY:=sg.tab hT hB UX;have mf:Bd {s with wt:=s.wt-1} 100:=⟨hb.o1,hb.o2,hb.l1,hb.l2⟩
  have kD:4<=s.st/\s.st<=8:=by simpa using ht
  have wW:(jt s.st 4).2.2=0/\(jt s.st 5).2.2=0:=by
   obtain⟨P7,Yn⟩:∃P7:Nat,s.st=P7:=⟨s.st.toNat,eE⟩
   rw[Yn];have:=Ie P7 eE eE;rw[show(4:Int)=((4:Nat):Int)from rfl,show(5:Int)=((5:Nat):Int)from rfl,m7 P7 4 eE eH,m7 P7 5 eE eH];exact this
  by_cases hw:0<s.wt-1
  ·have e1:kE s={s with wt:=s.wt-1}:=by unfold kE;rw[ae (by rw[ht];simp),ag hw]
   have e2:mI s=[] :=by unfold mI;rw[ae (by rw[ht];simp),ag hw]
   rw[e1,e2];rw[ht]at Ue;have HW:Hid (m8 w _ B X _ v ps []):=m8.still h2 sg;clear h h2 hb mf e1 e2 ht wW kD UY sg
   go_in
   go_wp2_with(fail);refine Ue.mono ?_;rintro e w3 ⟨rfl,rfl⟩
   go_wp2
   first|go_end0|refine aj (ar rfl _ _ _) rfl ?_
   exact⟨rfl,HW.out⟩
  ·by_cases Yo:0<s.lf
   ·have e1:kE s=nJ {s with wt:=s.wt-1} 4:=by unfold kE;rw[ae (by rw[ht];simp),ae hw,ag Yo]
    have e2:mI s=oV {s with wt:=s.wt-1} 4 (0,0,[]):=by unfold mI;rw[ae (by rw[ht];simp),ae hw,ag Yo]
    rw[e1,e2];rw[ht]at Ue;have hc:=xR B X {s with wt:=s.wt-1} v ps ⟨0,0,ν,0,0,[]⟩ 4 _ UY h2 mf (qk _ _ _ _ _) hn wW.1;clear h h2 hb mf e1 e2 ht wW kD UY
    go_in
    go_wp2_with(fail);refine Ue.mono ?_;rintro e w3 ⟨rfl,rfl⟩;go_wp2_with(fail);refine hc.mono ?_;rintro e w4 ⟨rfl,hW⟩;clear hc
    go_wp2
    first|go_end0|refine aj (ar rfl _ _ _) rfl ?_
    exact⟨rfl,hW.from sg⟩
   ·have e1:kE s=nJ {s with wt:=s.wt-1} 5:=by unfold kE;rw[ae (by rw[ht];simp),ae hw,ae Yo]
    have e2:mI s=oV {s with wt:=s.wt-1} 5 (0,0,[]):=by unfold mI;rw[ae (by rw[ht];simp),ae hw,ae Yo]
    rw[e1,e2];rw[ht]at Ue;have hc:=xR B X {s with wt:=s.wt-1} v ps ⟨0,0,ν,0,0,[]⟩ 5 _ UY h2 mf (qk _ _ _ _ _) hn wW.2;clear h h2 hb mf e1 e2 ht wW kD UY
    go_in
    go_wp2_with(fail);refine Ue.mono ?_;rintro e w3 ⟨rfl,rfl⟩;go_wp2_with(fail);refine hc.mono ?_;rintro e w4 ⟨rfl,hW⟩;clear hc
    go_wp2
    first|go_end0|refine aj (ar rfl _ _ _) rfl ?_
    exact⟨rfl,hW.from sg⟩
def rN(s:LS)(ev:Int)(xM:kZ):LS×List kZ×Nat:=if(jt s.st ev).2.2=0 then(nJ s ev,oV s ev xM,0)else(s,[],(jt s.st ev).2.2)
theorem sv {s:LS} (xM:kZ)(h:(jt s.st ev).2.2=0):rN s ev xM=(nJ s ev,oV s ev xM,0):=by unfold rN;rw[ag h]
theorem uJ {s:LS} (xM:kZ)(h:(jt s.st ev).2.2≠0):rN s ev xM=(s,[],(jt s.st ev).2.2):=by unfold rN;rw[ae h]
theorem sP(B:Nat)(X:Nat->Prop)(s:LS)(v:eD)(ps:List PV)(p:PV)(ev:Int)(w:eB)(hT:jo w)(h:qB w B X s v ps)(hb:Bd s 100)(hp:um w X v p)(hn:ps.length<=50):
 fj fk 171 #[π (μ ⟨B,0,ν⟩),ι κ ev,.agg #[ι κ p.code,ι κ p.id,σ p.a p.n p.cap]] w λe w'=>e=ρ (jy (rN s ev p.abs).2.2)/\m8 w w' B X (rN s ev p.abs).1 v ps (rN s ev p.abs).2.1:=by
 by_cases hf:(jt s.st ev).2.2=0
 ·rw[sv _ hf];exact xR B X s v ps p ev w hT h hb hp hn hf
 ·rw[uJ _ hf];obtain⟨D,nx,f,hR⟩:∃D nx f,jt s.st ev=(D,nx,f):=⟨_,_,_,rfl⟩
  rw[hR]at hf⊢;refine(Ml B X s v ps p ev D nx f w hT h hR hf).mono ?_;rintro e w' ⟨rfl,hb⟩;exact⟨by simp only[jy];rw[ae hf],m8.still (h.below hb) (Kept.je B _ hb)⟩
theorem Ko {mg:Int} {os:List j2} (h:(lV mg os).1=2):lV mg os=(2,os):=by
 unfold lV at*;split
 ·rename_i h1;rw[ag h1]at h;simp at h
 ·rename_i h1
  rw[ae h1]at h;split
  ·rename_i h2;rw[ag h2]at h;simp at h
  ·rfl
def sQ(s:LS)(id:Int)(os:List j2):LS×List kZ×Nat:=
 if(lV s.nm os).1=2 then(if(rN s 6 (2,id,os)).2.2=0 then((rN s 6 (2,id,os)).1.sized os,(rN s 6 (2,id,os)).2.1,0)else rN s 6 (2,id,os))else rN s 7 ((lV s.nm os).1,id,(lV s.nm os).2)
theorem Ig(mg:Int):∀os:List j2,(qp mg os).length<=os.length
 |[] =>by simp[qp]
 |o::r=>by
  have ih:=Ig mg r;have e:qp mg (o::r)=vX mg o++qp mg r:=by simp[qp]
  have h1:(vX mg o).length<=1:=by
   unfold vX;split
   ·simp
   ·split<;>simp
  rw[e,aA,de];omega
theorem Kp(mg:Int)(os:List j2):(lV mg os).2.length<=os.length:=by
 unfold lV;split
 ·exact cK _ _
 ·split
  ·exact Ig mg os
  ·exact Nat.le_refl _
theorem B0(B:Nat)(X:Nat->Prop)(s:LS)(v:eD)(ps:List PV)(id:Int)(a:Option eA)(n cap:Nat)(os:List j2)(w:eB)(hT:jo w)(h:qB w B X s v ps)(hb:Bd s 100)(hn:ps.length<=50)
 (ho:jm w a n os) (kj:kM a cap) (AE:n<=1000) (m1:0<=s.nm) (m2:s.nm<=255) (cj:Int) (lj:List j2) (hj:lV s.nm os=(cj,lj)) (ev:Int) (wW:cj=2/\ev=6/\(jt s.st 6).2.2≠0 \/cj≠2/\ev=7):
 fj fk 211 #[π (μ ⟨B,0,ν⟩),.agg #[ι κ 1,ι κ id,σ a n cap]] w λe w'=>e=ρ (jy (rN s ev (cj,id,lj)).2.2)/\m8 w w' B X (rN s ev (cj,id,lj)).1 v ps (rN s ev (cj,id,lj)).2.1:=by
 have hk:=iB w (γ #[ι κ 1,ι κ id,σ a n cap] 37);have hA:=λj=>aq w #[ι κ 1,ι κ id,σ a n cap] 37 (0,0) j;have hl:=h.lk.lt;have UG:=h.row.lt;have h1:=h.below hk;have hz:∀w:eB,(zeroValue 37).run fk w=.ok (.agg #[ι κ 0,ι κ 0,σ ν 0 0]) w:=λw=>gT;have UT:=ho.1;obtain⟨W1,ke⟩:=gH (w.alloc (γ #[ι κ 1,ι κ id,σ a n cap] 37));obtain⟨Z,hZ⟩:=gH (w.heap.size);have d1:W1.cell? ⟨Z,1,ν⟩=μ (ι κ id):=by rw[<-ke,<-hZ];exact hA 1
 have d2:W1.cell? ⟨Z,2,ν⟩=μ (σ a n cap):=by rw[<-ke,<-hZ];exact hA 2
 rw[ke]at h1 hk;have HW:Hid _:=ke;have HZ:Hid _:=hZ;clear hA ke hZ hl;have c2:W1.cell? ⟨B,2,ν⟩=μ (ι κ s.ns):=h1.lk.cell 2;have c3:W1.cell? ⟨B,3,ν⟩=μ (ι κ s.nm):=h1.lk.cell 3;have UE:=h1.lk.lt;have G0:Z<W1.heap.size:=af W1 _ d1;have Nt:=h1.old;have zU:=h1.self;have hJ:=Eh s.ns s.nm a n cap os W1.drew m1 m2 eE kj (ho.below (jO hk));have uo:=Kp s.nm os;rw[hj]at hJ uo;simp only at hJ uo;have hlj:lj.length<=1000:=eE;clear uo hj;obtain⟨E,hE⟩:=gH (jy (rN s ev (cj,id,lj)).2.2);obtain⟨S',Yp⟩:∃S',(rN s ev (cj,id,lj)).1=S':=⟨_,rfl⟩
 obtain⟨O',Yq⟩:∃O',(rN s ev (cj,id,lj)).2.1=O':=⟨_,rfl⟩
 rw[hE,Yp,Yq];have afC:cj=2/\ev=6/\(∃f:Nat,E=.iface 128 (ι κ (f:Int))) \/cj≠2/\ev=7:=by
  rcases wW with⟨rfl,rfl,hf⟩|h7
  ·refine .inl ⟨rfl,rfl,(jt s.st 6).2.2,?_⟩;rw[<-hE,uJ _ hf];simp only[jy];rw[ae hf]
  ·exact .inr h7
 have HE:Hid _:=And.intro hE (And.intro Yp Yq);clear wW hE Yp Yq
 go_in
 go_wp2_with(fail);rw[HW.out,HZ.out]
 go_region_with(go_at_call 228;refine hJ.mono ?_;rintro e w2 ⟨u,rfl,hM⟩)
 all_goals
  obtain⟨a',n',jL,rfl,hP⟩:=FE (X:=X) (v:=v) cj id hM hlj Nt (λk XY=>Nat.lt_of_lt_of_le (UG k XY) hk.size);have xH:eN W1 w2:=iA (jO (au _ _)) hM.below;have R2:=h1.below xH;have Yj:w2.cell? ⟨Z,1,ν⟩=μ (ι κ id):=(xH.cell (p:=⟨Z,1,ν⟩) G0).trans d1;have FU:Z<w2.heap.size:=af w2 _ Yj;have N0:=iB w2 (γ #[ι κ cj,ι κ id,σ a' n' jL] 37);have Uc:=iA hk (iA xH N0);have R3:=R2.below N0;have P3:=hP.kept zU (Kept.je B v.ownBlock N0) (λ_ e=>.inl e);have HC:=sP B X s v ps ⟨cj,id,a',n',jL,lj⟩ ev _ (hT.below Uc) R3 hb P3 hn;have DE:PV.abs ⟨cj,id,a',n',jL,lj⟩=(cj,id,lj):=rfl;rw[DE,HE.out.1,HE.out.2.1,HE.out.2.2]at HC;clear DE HE;clear hM hP R2 xH c2 c3 d1 d2 h1 hJ R3 P3;rcases afC with⟨rfl,rfl,f,rfl⟩|⟨hc,rfl⟩
  ·go_wp2_with(fail);refine HC.mono ?_;rintro e w4 ⟨rfl,hW⟩;clear HC
   go_wp2
   go_ret;exact⟨rfl,hW.from (Kept.je B v.ownBlock Uc)⟩
  ·have wj:(cj !=2)=true:=by simpa using hc
   clear hc;go_wp2_with(fail);refine HC.mono ?_;rintro e w4 ⟨rfl,hW⟩;clear HC
   go_wp2
   go_ret;exact⟨rfl,hW.from (Kept.je B v.ownBlock Uc)⟩
theorem Ih(B:Nat)(X:Nat->Prop)(s:LS)(v:eD)(ps:List PV)(id:Int)(a:Option eA)(n cap:Nat)(os:List j2)(w:eB)(hT:jo w)(h:qB w B X s v ps)(hb:Bd s 100)(hn:ps.length<=50)
 (ho:jm w a n os) (tQ:∀k,tM a n=μ k->¬X k/\v.ownBlock≠μ k/\k<w.heap.size) (kj:kM a cap) (AE:n<=1000) (m1:0<=s.nm) (m2:s.nm<=255):
 fj fk 211 #[π (μ ⟨B,0,ν⟩),.agg #[ι κ 1,ι κ id,σ a n cap]] w λe w'=>e=ρ (jy (sQ s id os).2.2)/\m8 w w' B X (sQ s id os).1 v ps (sQ s id os).2.1:=by
 by_cases hj:(lV s.nm os).1=2
 ·have Mc:=Ko hj;by_cases hf:(jt s.st 6).2.2=0
  ·have e:sQ s id os=((nJ s 6).sized os,oV s 6 (2,id,os),0):=by
    unfold sQ;rw[ag hj,sv _ hf,ag rfl]
   rw[e];exact Ic B X s v ps id a n cap os w hT h hb hn ho tQ kj AE m1 m2 Mc hf
  ·have e:sQ s id os=rN s 6 (2,id,os):=by
    unfold sQ;rw[ag hj,uJ _ hf,ae hf]
   rw[e];exact B0 B X s v ps id a n cap os w hT h hb hn ho kj AE m1 m2 2 os Mc 6 (.inl ⟨rfl,rfl,hf⟩)
 ·have e:sQ s id os=rN s 7 ((lV s.nm os).1,id,(lV s.nm os).2):=by
   unfold sQ;rw[ae hj]
  rw[e];exact B0 B X s v ps id a n cap os w hT h hb hn ho kj AE m1 m2 _ _ rfl 7 (.inr ⟨hj,rfl⟩)
theorem Ba(x:Int):wV x=true↔0<=x/\x<=255:=by simp[wV]
section
variable {P:Program}
end
section
variable {P:Program} {md:Region.Mode} {ops:Array Oper} {Q:Exit->Act->World->Prop} {S:World->Prop}
theorem jq(i:Nat)(d:Option Tmp) {oi:Oper} {fuel:Nat} {listed:Array Bool} {a:Act} (hi:ops[i]? =μ oi)(hd:oi.dst=d)
 (hs:Region.noSelect ops=true) (hf:Region.free md ops listed i=true) (hr:(Region.ready md ops listed).contains i=true)
 (hQ:∀c a w,Q (.panic c) (a.put d v) w->Q (.panic c) a w) (hw:Region.wanted oi (yielded ops a.tmps)=true) (hy:∀w,S w->(execOp a.eval oi).run P w=.ok (.value v) w) (hS:S w)
 (h:wpAnyH P md ops Q S fuel (listed.setIfInBounds i true) (a.put d v) w):wpAnyH P md ops Q S (fuel+1) listed a w:=by
 subst hd;exact wpAnyH_take hi hs hf hr hQ (Or.inl ⟨hw,hy⟩) hS h
end
theorem sS {x:eB} {o:Obj} {B:Nat} {C:Array eD} {t:TypeId} (h:jr w B C t)(hg:(w.alloc o).drew.grownBy x v.ownBlock)(hv:v.ownBlock≠μ B):jr x B C t:=by
 refine h.keep ?_;rw[hg.block B (by show B<(w.alloc o).heap.size;have:=h.lt;simp;omega) (λe=>hv e.symm)];exact aT w o B h.lt
end Go.Proofs.YtieklnlbljejdaaGreatDoor
