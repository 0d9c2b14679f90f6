import Derived.Test.YtieklnlbljejdaaGreatDoorV06
open Go.Value renaming int → ι, slice → σ, pointer → π, tuple → τ, nilIface → η, bool → jD, ownBlock → fD
open Go.IntKind renaming i64 → κ
open Go.Ending renaming returned → ρ
open Go.Obj renaming cells → γ
open Option renaming none → ν, some → μ, map_some → jC
open List renaming mem_filter → jt, append_nil → jm, range → gw, mem_cons → jw, not_mem_nil → jx, length_cons → fU, mem_singleton → jz, range_succ → jA, map_cons → fN, sum_cons → jB
open Prod renaming fst → ju, snd → jv
open Go renaming World → fA, Calls → gb
open Go.Proofs.Tryz renaming prog → gg
open Go.RowKit renaming intOf → gj
open Go.Instr renaming makeSlice → jq
set_option maxRecDepth 100000
set_option maxHeartbeats 8000000
set_option linter.defProp false
open Go.Proofs.Tryz
namespace Go.Proofs.YtieklnlbljejdaaGreatDoor
open Go.RowKit St
namespace Rt
variable {B C D N c d i k p:Nat} {L s:LS} {S:List (Int×List UInt8)} {T U:List (Nat×Nat)} {code g g' id x:Int} {l:List UInt8} {ps:List (List UInt8)} {up:Bool} {α:Type}
structure GN(y:jQ):Prop where
 ends:∀c d,c<y.nc->d<2->rb (y.C c).jU ((y.R ((y.C c).e d).1).P ((y.C c).e d).2)
 off:∀c d,c<y.nc->d<2->(y.C c).jU=false->(y.C c).on d=[]
structure Ends(y:jQ):Prop where
 ds:∀c d c' d',c<y.nc->d<2->c'<y.nc->d'<2->(y.C c).e d=(y.C c').e d'->c=c'/\d=d'
 p3:∀c d,c<y.nc->d<2->((y.C c).e d).2<3
 rn:∀i,(y.R i).n=3 \/y.n<=i
 en:∀c d,c<y.nc->d<2->((y.C c).e d).1<y.n
def ll.pI {y:jQ} (h:ll y D k):Ends y:=⟨h.ds,λc d hc hd=>(h.en c d hc hd).2,λi=>by
 by_cases e:i<y.n;{exact .inl (h.rn i e).1}
 ·exact .inr fC,λc d hc hd=>(h.en c d hc hd).1⟩
def GN.alike {y y':jQ} (h:GN y)(Y:y'.nc=y.nc)(hC:∀c<y.nc,(y'.C c).e=(y.C c).e/\(y'.C c).jU=(y.C c).jU/\((y.C c).jU=false->∀d<2,(y'.C c).on d=[]))
 (Z:∀i p,lQ (y.R i) (y'.R i) p):GN y':=by
  refine⟨λc d hc hd=> ?_,λc d hc hd hf=> ?_⟩;{rw[Y]at hc;rw[(hC c hc).1,(hC c hc).2.1];exact(h.ends c d hc hd).congr (Z _ _).1 (Z _ _).2};rw[Y]at hc;rw[(hC c hc).2.1]at hf;exact(hC c hc).2.2 hf d hd
def JH {y:jQ} (h:GN y)(c d:Nat)(hc:c<y.nc):GN (y.mY c d):=by
 obtain⟨s1,Q,s3,s4,Y⟩:=oJ y c d;refine h.alike Q (λx hx=>⟨(Y x).1,(Y x).2,λhf e Z=> ?_⟩) (λi p=> ?_);{(show(if x=c then(y.C c).put d _ else y.C x).on e=[]);by_cases ex:x=c;{rw[ag ex];subst ex;unfold sE.put;rw[af (by simp[hf])];exact h.off x e hx Z hf};rw[af ex];exact h.off x e hx Z hf};unfold lQ;rw[CK];split<;>exact⟨rfl,rfl⟩
def JI {y:jQ} (h:GN y):∀k≤y.nc,GN (y.lH k)
 |0,_=>h
 |k+1,hk=>by
  have Y:=JI h k fC;have Z:(y.lH k).nc=y.nc:=(lI y k).2.1;exact JH (JH Y k 0 (by rw[Z];omega)) k 1 (by show k<(y.lH k).nc;rw[Z];omega)
def GN.gather {y:jQ} (h:GN y):GN y.gather:=by
 unfold jQ.gather;have Y:=JI h y.nc (aj _);obtain⟨e1,Q,e3,Z⟩:=pP (y.lH y.nc) y.n;refine Y.alike Q (λc hc=>⟨by rw[Z],by rw[Z],λhf d hd=>by rw[Z];exact Y.off c d hc hd hf⟩) (λi p=> ?_);rw[(yx (y.lH y.nc) i y.n).1];split<;>exact⟨rfl,rfl⟩
def GN.kG {y:jQ} (h:GN y)(i:Nat)(r:jO)(Z:∀c d,c<y.nc->d<2->((y.C c).e d).1=i->rb (y.C c).jU ((y.R i).P ((y.C c).e d).2)->rb (y.C c).jU (r.P ((y.C c).e d).2)):GN (y.kG i r):=by
 refine⟨λc d hc hd=> ?_,h.off⟩;show rb (y.C c).jU ((kK y.R i r ((y.C c).e d).1).P ((y.C c).e d).2);by_cases e:((y.C c).e d).1=i;{rw[e,jd];exact Z c d hc hd e (by have:=h.ends c d hc hd;rw[e]at this;exact this)};rw[iw _ _ e];exact h.ends c d hc hd
def GN.j6 {y:jQ} (h:GN y)(Q:Ends y)(qo:∀i p,i<y.n->p<3->(∀c d,c<y.nc->d<2->(y.C c).e d≠(i,p))->Idle ((y.R i).P p))(i:Nat)(hi:i<y.n):GN (y.kG i (y.R i).tick):=by
 classical
 have xK:(y.R i).n=3:=(Q.rn i).resolve_right fC
 obtain⟨U,E⟩:∃U:Nat->Bool,∀c d,c<y.nc->d<2->((y.C c).e d).1=i->U ((y.C c).e d).2=(y.C c).jU:=by
  refine⟨λp=>if h:∃c d,c<y.nc/\d<2/\(y.C c).e d=(i,p)then(y.C h.choose).jU else false,λc d hc hd Z=> ?_⟩;have hex:∃c' d',c'<y.nc/\d'<2/\(y.C c').e d'=(i,((y.C c).e d).2):=⟨c,d,hc,hd,by rw[<-Z]⟩
  show(if h:∃c' d',c'<y.nc/\d'<2/\(y.C c').e d'=(i,((y.C c).e d).2)then(y.C h.choose).jU else false)=_;rw[dif_pos hex];obtain⟨d',kY,lL,j⟩:=hex.choose_spec;have:=(Q.ds _ _ _ _ kY lL hc hd (j.trans (by rw[<-Z]))).1;rw[this]
 have hP:∀p<3,rb (U p) ((y.R i).P p) \/ ∀c d,c<y.nc->d<2->(y.C c).e d≠(i,p):=λp _=>by
  by_cases hex:∃c d,c<y.nc/\d<2/\(y.C c).e d=(i,p)
  {obtain⟨c,d,hc,hd,Z⟩:=hex;refine .inl ?_;have Y:=h.ends c d hc hd;have H:=E c d hc hd (by rw[Z]);rw[Z]at Y H;rw[H];exact Y};exact .inr λc d hc hd Z=>hex ⟨c,d,hc,hd,Z⟩
 obtain⟨V,A⟩:∃V:Nat->Bool,V=λp=>if h:∃c d,c<y.nc/\d<2/\(y.C c).e d=(i,p)then U p else false:=⟨_,rfl⟩
 have M:∀p<3,rb (V p) ((y.R i).P p):=λp u=>by
  rw[A];show rb (if h:∃c d,c<y.nc/\d<2/\(y.C c).e d=(i,p)then U p else false) _;by_cases hex:∃c d,c<y.nc/\d<2/\(y.C c).e d=(i,p)
  {rw[dif_pos hex];refine(hP p u).resolve_right (λhn=> ?_);obtain⟨c,d,hc,hd,Z⟩:=hex;exact hn c d hc hd Z};rw[dif_neg hex];have G:=qo i p hi u (λc d hc hd Z=>hex ⟨c,d,hc,hd,Z⟩);exact⟨by simpa using G.st,λe=>absurd (by rw[G.pe];rfl) e⟩
 have ht:=(GL (r:=y.R i) (U:=V) 3 M).1;refine h.kG i _ (λc d hc hd Z _=> ?_);have J:=Q.p3 c d hc hd;have Y:=ht ((y.C c).e d).2 J;have hex:∃c' d',c'<y.nc/\d'<2/\(y.C c').e d'=(i,((y.C c).e d).2):=⟨c,d,hc,hd,by rw[<-Z]⟩
 have hv:V ((y.C c).e d).2=(y.C c).jU:=by
  rw[A];show(if h:∃c' d',c'<y.nc/\d'<2/\(y.C c').e d'=(i,((y.C c).e d).2)then U ((y.C c).e d).2 else false)=_;rw[dif_pos hex];exact E c d hc hd Z
 rw[hv]at Y;show rb _ (((y.R i).j5 (y.R i).n).P _);rw[xK];exact Y
def GN.ky {y:jQ} (h:GN y)(A:Ends y)(c d k:Nat)(hc:c<y.nc)(hd:d<2):GN (y.ky c d k):=by
 have E:GN (y.nj c {y.C c with on:=kK (y.C c).on d (((y.C c).on d).drop k)}):=by
  refine h.alike rfl (λx hx=> ?_) (λi p=>lQ.refl _ _);(show(if x=c then _ else y.C x).e=_/\(if x=c then _ else y.C x).jU=_/\(_->∀d'<2,(if x=c then _ else y.C x).on d'=[]));by_cases e:x=c;{rw[ag e];subst e;refine⟨rfl,rfl,λhf d' Z=> ?_⟩;(show kK (y.C x).on d _ d'=[]);by_cases J:d'=d;{subst J;rw[jd,h.off x d' hx Z hf];simp};rw[iw _ _ J];exact h.off x d' hx Z hf};rw[af e];exact⟨rfl,rfl,λhf d' Z=>h.off x d' hx Z hf⟩
 have H:∀x,((y.nj c {y.C c with on:=kK (y.C c).on d (((y.C c).on d).drop k)}).C x).e=(y.C x).e/\((y.nj c {y.C c with on:=kK (y.C c).on d (((y.C c).on d).drop k)}).C x).jU=(y.C x).jU:=λx=>by
  show(if x=c then _ else y.C x).e=_/\(if x=c then _ else y.C x).jU=_;by_cases e:x=c;{rw[ag e];subst e;exact⟨rfl,rfl⟩};rw[af e];exact⟨rfl,rfl⟩
 refine E.kG _ _ (λx d' hx Z G M=> ?_);rw[(H x).1]at G M⊢;rw[(H x).2]at M⊢;have u:x<y.nc:=hx;have Y:rb (y.C x).jU ((y.R ((y.C c).e (1-d)).1).P ((y.C x).e d').2):=M;by_cases Q:(y.C c).jU=true
 ·have hu:P7 ((y.R ((y.C c).e (1-d)).1).P ((y.C c).e (1-d)).2):=by
   have:=h.ends c (1-d) hc fC;rw[Q]at this;exact rb.up.1 this
  obtain⟨a,b⟩:=Up ((y.C c).e (1-d)).2 (((y.C c).on d).take k) hu;by_cases e:((y.C x).e d').2=((y.C c).e (1-d)).2;{have:=(A.ds x d' c (1-d) u Z hc fC (by rw[dg];exact⟨G,e⟩)).1;rw[e,this,Q];exact rb.up.2 a};exact Y.congr (b _ e).1 (b _ e).2
 have hf:(y.C c).jU=false:=by simpa using Q
 rw[h.off c d hc hd hf];have:=Yk (y.R ((y.C c).e (1-d)).1) ((y.C c).e (1-d)).2 ((y.C x).e d').2;rw[List.take_nil];exact Y.congr this.1 this.2
def GN.lD {y:jQ} (h:GN y)(hE:Ends y)(c:Nat)(up:Bool)(hc:c<y.nc)(hu:(y.C c).jU= !up):GN (y.lD c up):=by
 obtain⟨Z,E⟩:=fH ((y.C c).e 0);obtain⟨Y,G⟩:=fH ((y.C c).e 1)
 have kf:Z≠Y:=λe=>by
  have:=(hE.ds c 0 c 1 hc fC hc fC (by rw[E,G,e])).2;omega
 have h0:=h.ends c 0 hc fC;have h1:=h.ends c 1 hc fC;rw[E,hu]at h0;rw[G,hu]at h1;obtain⟨a0,_,b0⟩:=ze Z.2 h0;obtain⟨Q,wP⟩:∃Q:sE,Q={y.C c with jU:=up,on:=λ_=>[] }:=⟨_,rfl⟩
 have H:Q.e=(y.C c).e:=by rw[wP]
 have cbi:Q.jU=up:=by rw[wP]
 have cbo:∀d,Q.on d=[] :=λd=>by rw[wP]
 have hf:∀(z:jQ) (d:Nat) (e:Nat×Nat),(z.C c).e d=e->z.oH c d up=z.kG e.1 ((z.R e.1).jT e.2 up).1:=by
  intro z d e he;unfold jQ.oH;rw[he]
 have A:(y.nj c Q).C c=Q:=jd _ _ _
 have hp:y.lD c up=((y.nj c Q).kG Z.1 ((y.R Z.1).jT Z.2 up).1).kG Y.1 ((kK y.R Z.1 ((y.R Z.1).jT Z.2 up).1 Y.1).jT Y.2 up).1:=by
  unfold jQ.lD;rw[<-wP,hf (y.nj c Q) 0 Z (by rw[A,H,E]),hf _ 1 Y (by show((y.nj c Q).C c).e 1=Y;rw[A,H,G])];rfl
 obtain⟨r1,mQ⟩:=fH (kK y.R Z.1 ((y.R Z.1).jT Z.2 up).1 Y.1)
 have J:∀p,(Y.1,p)≠Z->lQ (y.R Y.1) r1 p:=λp pX=>by
  rw[<-mQ];by_cases e:Y.1=Z.1;{rw[e,jd];exact b0 p (λM=>pX (by rw[dg];exact⟨e,M⟩))};rw[iw _ _ e];exact lQ.refl _ _
 have afm:rb (!up) (r1.P Y.2):=h1.congr (J Y.2 (λe=>kf e.symm)).1 (J Y.2 (λe=>kf e.symm)).2;obtain⟨a1,_,b1⟩:=ze Y.2 afm;rw[hp,mQ]
 have aiO:∀i p,rb up ((kK (kK y.R Z.1 ((y.R Z.1).jT Z.2 up).1) Y.1 (r1.jT Y.2 up).1 i).P p) \/((i,p)≠Z/\(i,p)≠Y):=λi p=>by
  by_cases x1:(i,p)=Y;{left;rw[<-x1]at a1⊢;rw[jd];exact a1};by_cases x0:(i,p)=Z
  ·left;by_cases e:i=Y.1
   ·rw[e,jd];have j:p≠Y.2:=λM=>x1 (by rw[dg];exact⟨e,M⟩)
    have hr:r1.P p=((y.R Z.1).jT Z.2 up).1.P Z.2:=by
     rw[<-mQ,<-e,<-x0,jd]
    exact(a0.congr (by rw[hr]) (by rw[hr]):rb up (r1.P p)).congr (b1 p j).1 (b1 p j).2
   rw[iw _ _ e,<-x0,jd];rw[<-x0]at a0;exact a0
  exact .inr ⟨x0,x1⟩
 have lA:∀i p,(i,p)≠Z->(i,p)≠Y->lQ (y.R i) (kK (kK y.R Z.1 ((y.R Z.1).jT Z.2 up).1) Y.1 (r1.jT Y.2 up).1 i) p:=λi p x0 x1=>by
  by_cases e:i=Y.1;{subst e;rw[jd];exact(J p x0).trans (b1 p (λM=>x1 (by rw[dg];exact⟨rfl,M⟩)))};rw[iw _ _ e];by_cases e':i=Z.1;{subst e';rw[jd];exact b0 p (λM=>x0 (by rw[dg];exact⟨rfl,M⟩))};rw[iw _ _ e'];exact lQ.refl _ _
 refine⟨λx d hx hd=> ?_,λx d hx hd hf=> ?_⟩;{show rb ((if x=c then Q else y.C x):sE).jU ((kK (kK y.R Z.1 ((y.R Z.1).jT Z.2 up).1) Y.1 (r1.jT Y.2 up).1 (((if x=c then Q else y.C x):sE).e d).1).P (((if x=c then Q else y.C x):sE).e d).2);have xG:x<y.nc:=hx;by_cases e:x=c;{rw[ag e,H,cbi];refine(aiO _ _).resolve_right (λhn=> ?_);have:d=0 \/d=1:=fC;obtain rfl|rfl:=this;{exact hn.1 E};exact hn.2 G};rw[af e];have n0:(y.C x).e d≠Z:=λM=>e (hE.ds x d c 0 xG hd hc fC (by rw[E];exact M)).1;have n1:(y.C x).e d≠Y:=λM=>e (hE.ds x d c 1 xG hd hc fC (by rw[G];exact M)).1;have:=lA ((y.C x).e d).1 ((y.C x).e d).2 n0 n1;exact(h.ends x d xG hd).congr this.1 this.2};have u:((if x=c then Q else y.C x):sE).jU=false:=hf;(show((if x=c then Q else y.C x):sE).on d=[]);by_cases e:x=c;{rw[ag e];exact cbo d};rw[af e]at u⊢;exact h.off x d hx hd u
def Ends.lD {y:jQ} (h:Ends y)(c:Nat)(up:Bool):Ends (y.lD c up):=by
 obtain⟨g1,J,g3,g4,Q⟩:=rB y c up;refine⟨λa d a' d' Z hd Y G e=> ?_,λa d Z hd=> ?_,λi=> ?_,λa d Z hd=> ?_⟩;{rw[(Q a).1,(Q a').1]at e;rw[J]at Z Y;exact h.ds a d a' d' Z hd Y G e};{rw[(Q a).1];rw[J]at Z;exact h.p3 a d Z hd}
 ·have H:∀(x:jQ) (d:Nat),(∀i,(x.R i).n=3 \/x.n<=i)->∀i,((x.oH c d up).R i).n=3 \/(x.oH c d up).n<=i:=λx d hx i=>by
   show(kK x.R ((x.C c).e d).1 _ i).n=3 \/x.n<=i;by_cases e:i=((x.C c).e d).1;{rw[e,jd,(kR.jT _ _ up).n];exact hx _};rw[iw _ _ e];exact hx i
  unfold jQ.lD;obtain⟨M,E⟩:∃M:sE,M={y.C c with jU:=up,on:=λ_=>[] }:=⟨_,rfl⟩
  rw[<-E];exact H _ 1 (H (y.nj c M) 0 h.rn) i
 rw[(Q a).1,g1];rw[J]at Z;exact h.en a d Z hd
def GN.kX(up:Bool):∀(l:List Nat) {y:jQ},GN y->Ends y->l.Nodup->(∀c∈l,c<y.nc/\(y.C c).jU= !up)->GN (y.kX up l)/\Ends (y.kX up l)/\∀x,((y.kX up l).C x).jU=if x∈l then up else(y.C x).jU
 |[],y,h,hE,_,_=>⟨h,hE,λx=>by simp[jQ.kX]⟩
 |c::l,y,h,hE,zf,hl=>by
  obtain⟨g1,J,g3,g4,M⟩:=rB y c up;have hc:=hl c gZ;have Q:=bE.1 zf;obtain⟨a,b,d⟩:=GN.kX up l (h.lD hE c up hc.1 hc.2) (hE.lD c up) Q.2 (λx hx=>by
   have H:x≠c:=λe=>Q.1 (e▸hx);rw[J,(M x).2,af H];exact hl x (by simp[hx]))
  refine⟨a,b,λx=> ?_⟩;show(((y.lD c up).kX up l).C x).jU=_;rw[d x,(M x).2];by_cases Z:x∈l;{rw[ag Z,ag (by simp[Z])]};{by_cases Y:x=c;{rw[af Z,ag Y,ag (by simp[Y])]};{rw[af Z,af Y,af (by simp[Z,Y])]}}
def GN.restart {y:jQ} {D:Nat} (h:GN y)(jR:ll y D 0)(i:Int):GN (y.restart i).1/\∀x<y.nc,((y.restart i).1.C x).jU=(y.C x).jU:=by
 unfold jQ.restart;split;{exact⟨h,λ_ _=>rfl⟩};rename_i hi;obtain⟨k,hk⟩:=fH ((i-1).toNat);rw[hk];obtain⟨l,hl⟩:=fH (y.nt k);rw[hl]
 have Q:∀c,c∈l↔c<y.nc/\(y.C c).jU=true/\(((y.C c).e 0).1=k \/((y.C c).e 1).1=k):=λc=>by
  rw[<-hl];unfold jQ.nt;simp[jt]
 have E:l.Nodup:=by
  rw[<-hl];exact dX dR cB
 obtain⟨a,b,d⟩:=GN.kX false l h jR.pI E (λc hc=>⟨((Q c).1 hc).1,((Q c).1 hc).2.1⟩);obtain⟨s1,M,s3,s4,G⟩:=oU false l y;obtain⟨Z,vS⟩:=fH (y.kX false l);rw[vS]at a b d s1 M s3 s4 G⊢
 have A:GN (Z.kG k (kZ i 3 (y.ms k))):=by
  refine a.kG k _ (λc e hc he heq _=> ?_);have kY:c<y.nc:=by rw[M]at hc;exact hc
  have hf:(Z.C c).jU=false:=by
   rw[d c];by_cases Y:c∈l;{rw[ag Y]};rw[af Y];by_cases H:(y.C c).jU=true;{exfalso;rw[G c]at heq;refine Y ((Q c).2 ⟨kY,H,?_⟩);have:e=0 \/e=1:=fC;obtain rfl|rfl:=this;{exact .inl heq};exact .inr heq};simpa using H
  rw[hf];have J:=sU i (y.ms k) ((Z.C c).e e).2;exact⟨by simpa using J.st,λe=>absurd (by rw[J.pe];rfl) e⟩
 have b2:Ends (Z.kG k (kZ i 3 (y.ms k))):=⟨b.ds,b.p3,λj=>by
  show(kK Z.R k _ j).n=3 \/Z.n<=j;by_cases e:j=k;{rw[e,jd];exact .inl rfl}
  ·rw[iw _ _ e];exact b.rn j,b.en⟩
 obtain⟨u,_,d3⟩:=GN.kX true l A b2 E (λc hc=>⟨by show c<Z.nc;rw[M];exact((Q c).1 hc).1,by show(Z.C c).jU=_;rw[d c,ag hc];rfl⟩);refine⟨u.gather,λx hx=> ?_⟩;rw[((mB _).2.2.2 x).2,d3 x];show(if x∈l then true else(Z.C x).jU)=_;rw[d x];by_cases Y:x∈l;{rw[ag Y,((Q x).1 Y).2.1]};rw[af Y,af Y]
def GN.jT {y:jQ} {D:Nat} (h:GN y)(Y:ll y D 0)(i:Int)(up:Bool):GN (y.jT i up).1/\∀x,((y.jT i up).1.C x).jU=if(x:Int)=i/\x<y.nc then up else(y.C x).jU:=by
 unfold jQ.jT;split;{rename_i hi;exact⟨h,λx=>by rw[af fC]⟩};rename_i hi;split;{rename_i Z;refine⟨h,λx=> ?_⟩;split;{rename_i hx;have:x=i.toNat:=fC;rw[this,Z]};rfl};rename_i Z;refine⟨(h.lD Y.pI i.toNat up fC (by cases hv:(y.C i.toNat).jU<;>cases up<;>simp_all)).gather,λx=> ?_⟩;rw[((mB _).2.2.2 x).2,((rB y i.toNat up).2.2.2.2 x).2];by_cases e:x=i.toNat;{rw[ag e,ag fC]};rw[af e,af fC]
def GN.tick {y:jQ} {D:Nat} (h:GN y)(Z:ll y D 0)(i:Int):GN (y.tick i).1/\∀x,((y.tick i).1.C x).jU=(y.C x).jU:=by
 unfold jQ.tick;split;{exact⟨h,λ_=>rfl⟩};exact⟨(h.j6 Z.pI Z.idle (i-1).toNat fC).gather,λx=>((mB _).2.2.2 x).2⟩
def GM(y:jQ)(c d k x:Nat):((y.ky c d k).C x).jU=(y.C x).jU:=by
 show((if x=c then _ else y.C x):sE).jU=_;by_cases e:x=c;{rw[ag e];subst e;rfl};rw[af e]
def GN.j7 {y:jQ} {D:Nat} (h:GN y)(Z:ll y D 0)(i d m:Int):GN (y.j7 i d m).1/\∀x,((y.j7 i d m).1.C x).jU=(y.C x).jU:=by
 unfold jQ.j7;split;{exact⟨h,λ_=>rfl⟩};exact⟨(h.ky Z.pI _ _ _ fC fC).gather,λx=>by rw[((mB _).2.2.2 x).2,GM]⟩
def GN.send {y:jQ} (h:GN y)(f t:Int)(tx:List UInt8):GN (y.send f t tx).1/\∀x,((y.send f t tx).1.C x).jU=(y.C x).jU:=by
 unfold jQ.send;split;{exact⟨h,λ_=>rfl⟩};split;{exact⟨h,λ_=>rfl⟩};refine⟨GN.gather (h.kG _ _ (λc d hc hd he Z=> ?_)),λx=>((mB _).2.2.2 x).2⟩
 have:∀(r:jO) (p:Nat),lQ r (lF r t tx).1 p:=λr p=>by
  unfold lF;split;{exact lQ.refl r p};exact lQ.send r (t,8,tx) p
 exact Z.congr (this _ _).1 (this _ _).2
def GN.j5 {y:jQ} {D:Nat} (h:GN y)(Y:ll y D 0)(Z:D<=800000000):∀q≤6,GN (y.j5 q)
 |0,_=>h
 |q+1,hq=>((GN.j5 h Y Z q fC).tick (Y.j5 Z q fC) ((q:Int)+1)).1
def GN.k9 {y:jQ} {D:Nat} (h:GN y)(Q:ll y D 0)(Y:D<=890000000):∀q≤9,GN (y.k9 q)
 |0,_=>h
 |q+1,hq=>by
  have Z:=Q.k9 Y q fC;have M:=GN.k9 h Q Y q fC;exact((M.j7 Z (q:Int) 0 2000).1.j7 (Z.j7 fC (q:Int) 0 2000) (q:Int) 1 2000).1
def GN.turns {y:jQ} {D:Nat} (h:GN y)(Z:ll y D 0)(Y:D<=810000000):∀t≤12,GN (y.turns t)
 |0,_=>h
 |t+1,ht=>(GN.turns h Z Y t fC).k9 (Z.turns Y t fC) fC y.nc Z.c9
def GN.round {y:jQ} {D:Nat} (h:GN y)(Z:ll y D 0)(Y:D<=800000000):GN y.round:=
 (h.j5 Z Y y.n Z.n6).turns (Z.j5 Y y.n Z.n6) (by have:=Z.n6;omega) 12 (aj _)
def CS(v:AV):Bool:=v.kind.toList==[112,108,117,103]
def GN.act {y:jQ} (h:GN y)(Z:ll y D 0)(M:D<=800000000)(v:AV):GN (uv y v)/\∀x<y.nc,((uv y v).C x).jU=if CS v=true/\(x:Int)=v.a then v.b==1 else(y.C x).jU:=by
 unfold uv;by_cases k1:(v.kind.toList==[112,108,117,103])=true;{rw[ag k1];obtain⟨a,b⟩:=h.jT Z v.a (v.b==1);refine⟨a,λx hx=> ?_⟩;rw[b x];have Y:CS v=true:=k1;by_cases e:(x:Int)=v.a;{rw[ag ⟨e,hx⟩,ag ⟨Y,e⟩]};rw[af (λh=>e h.1),af (λh=>e h.2)]};rw[af k1];have Y:∀x:Nat,¬(CS v=true/\(x:Int)=v.a):=λx e=>k1 e.1;have J:∀z:jQ,(GN z/\∀x<y.nc,(z.C x).jU=(y.C x).jU)->GN z/\∀x<y.nc,(z.C x).jU=if CS v=true/\(x:Int)=v.a then v.b==1 else(y.C x).jU:=λz Q=>⟨Q.1,λx hx=>by rw[af (Y x)];exact Q.2 x hx⟩
 apply J;split;{obtain⟨a,b⟩:=h.tick Z v.a;exact⟨a,λx _=>b x⟩};split;{obtain⟨a,b⟩:=h.j7 Z v.a v.b v.c;exact⟨a,λx _=>b x⟩};split;{exact h.restart Z v.a};split;{obtain⟨a,b⟩:=h.send v.a v.b v.s.data.toList;exact⟨a,λx _=>b x⟩};split;{exact⟨h.round Z M,λx _=>((mC y).2.2.2 x).2⟩};exact⟨h,λ_ _=>rfl⟩
def GO(many:Nat)(L:List qM):GN (la many L):=by
 refine⟨λc d _ _=> ?_,λc d _ _ _=>rfl⟩;have Z:=sU (((((la many L).C c).e d).1:Int)+1) (qY L (((la many L).C c).e d).1) (((la many L).C c).e d).2;have Y:((la many L).R (((la many L).C c).e d).1).P (((la many L).C c).e d).2=(kZ (((((la many L).C c).e d).1:Int)+1) 3 (qY L (((la many L).C c).e d).1)).P (((la many L).C c).e d).2:=rfl;rw[Y];exact⟨by rw[show((la many L).C c).jU=false from rfl,af fF];exact Z.st,λe=>absurd (by
  show((kZ _ 3 _).P _).pe.who=0;rw[Z.pe];rfl) e⟩
def zO(p:List UInt8):Prop:=1<=p.length/\p.length<=60
def Frames(l:List UInt8)(ps:List (List UInt8)):Prop:=l=ps.flatMap Plain.mW/\∀p∈ps,zO p
def ny:l7:=([],false,false)
def Frames.nil:Frames [] [] :=⟨rfl,λ_ h=>by simp at h⟩
def Frames.snoc(h:Frames l ps) {p:List UInt8} (Q:zO p):Frames (l++Plain.mW p) (ps++ [p]):=by
 obtain⟨Z,Y⟩:=h;refine⟨by rw[Z];simp,λq M=> ?_⟩;obtain e|e:=aA.1 M;{exact Y q e};rw[az.1 e];exact Q
def rL:∀(ps:List (List UInt8)),(∀p∈ps,zO p)->l5 ny (ps.flatMap Plain.mW)=(ps,0,ny)
 |[],_=>rfl
 |p::ps,h=>by
  have e:(p::ps).flatMap Plain.mW=Plain.mW p++ps.flatMap Plain.mW:=gZ;have Z:l5 ny (Plain.mW p)=([p],0,ny):=OZ p (h p gZ).2;rw[e,tK,Z];simp only;rw[rL ps (λq Y=>h q (by simp[Y]))];rfl
structure oV(r r':jO):Prop where
 rd:∀p,(r'.P p).rd=(r.P p).rd
 out:∀p ps,Frames (r.P p).out ps->∃qs,Frames (r'.P p).out (ps++qs)
def oV.refl(r:jO):oV r r:=⟨λ_=>rfl,λ_ ps h=>⟨[],by simpa using h⟩⟩
def oV.trans {a b c:jO} (h:oV a b)(g:oV b c):oV a c:=by
 refine⟨λp=>(g.rd p).trans (h.rd p),λp ps Q=> ?_⟩;obtain⟨q1,Z⟩:=h.out p ps Q;obtain⟨q2,Y⟩:=g.out p _ Z;exact⟨q1++q2,by rw[<-aK];exact Y⟩
def oV.zB {r r':jO} (h:r'.P=r.P):oV r r':=⟨λ_=>by rw[h],λ_ ps Z=>⟨[],by rw[h];simpa using Z⟩⟩
structure ux(p q:kB):Prop where
 rd:q.rd=p.rd
 out:∀ps,Frames p.out ps->∃qs,Frames q.out (ps++qs)
def ux.refl(p:kB):ux p p:=⟨rfl,λps h=>⟨[],by simpa using h⟩⟩
def ux.trans {a b c:kB} (h:ux a b)(g:ux b c):ux a c:=by
 refine⟨g.rd.trans h.rd,λps Q=> ?_⟩;obtain⟨q1,Z⟩:=h.out ps Q;obtain⟨q2,Y⟩:=g.out _ Z;exact⟨q1++q2,by rw[<-aK];exact Y⟩
def ux.put(p:kB)(c:UInt8)(s:List UInt8):ux p (p.put c s):=by
 unfold kB.put;split;{exact ux.refl p};split;{rename_i h;exact⟨rfl,λps Z=>⟨[c::s],Z.snoc ⟨gZ,by simpa using h⟩⟩⟩};exact ux.refl p
def ux.say:∀(l:List mH) (p:kB),ux p (p.say l)
 |[],p=>ux.refl p
 |q::r,p=>by
  refine ux.trans ?_ (ux.say r _);split;{exact ux.put _ _ _};{exact ux.refl p}
def ux.mA:∀(l:List (Int×PS)) (p:kB),ux p (p.mA l)
 |[],p=>ux.refl p
 |q::r,p=>(ux.put p 83 (tI q.1 q.2.1 q.2.2)).trans (ux.mA r _)
def ux.aiP(p:kB)(L:LS)(l:List mH):ux p (({p with L:=L}:kB).say l):=by
 have h:ux p ({p with L:=L}:kB):=⟨rfl,λps h=>⟨[],by simpa using h⟩⟩
 exact h.trans (ux.say l _)
def ux.tick(p:kB):ux p p.tick:=ux.aiP p _ _
def ux.packet(p:kB)(s:List UInt8):ux p (p.packet s):=by
 unfold kB.packet;simp only;split;{exact ux.aiP p _ _};exact ux.refl p
def oV.jW(r:jO)(i:Nat) {q:kB} (h:ux (r.P i) q):oV r (r.jW i q):=by
 refine⟨λp=> ?_,λp ps Z=> ?_⟩;{show(m8 r.P i q p).rd=_;by_cases e:p=i;{subst e;rw[kJ];exact h.rd};rw[kC _ _ e]};show∃qs,Frames (m8 r.P i q p).out (ps++qs);by_cases e:p=i;{subst e;rw[kJ];exact h.out ps Z};rw[kC _ _ e];exact⟨[],by simpa using Z⟩
def oV.meet(r:jO)(i:Nat)(q:mX):oV r (r.meet i q):=by
 refine⟨λp=> ?_,λp ps Z=>⟨[],?_⟩⟩;{rw[(oI r i q).2.2.2];by_cases e:p=i;{subst e;rw[kJ]};rw[kC _ _ e]};rw[(oI r i q).2.2.2];by_cases e:p=i;{subst e;rw[kJ];simpa using Z};rw[kC _ _ e];simpa using Z
def oV.send(r:jO)(t:wK):oV r (r.send t):=by
 unfold jO.send;split;{exact oV.zB rfl};split;{exact oV.zB rfl};exact oV.jW _ _ (ux.put _ _ _)
def oV.state(r:jO)(i:Nat)(l:List UInt8):oV r (kj r i l):=by
 unfold kj;simp only;split;{exact oV.refl r};split;{exact oV.zB (qy _ _).2.2.2};split;{exact⟨λp=>(oV.jW _ i (ux.put _ _ _)).rd p,λp ps Z=>(oV.jW _ i (ux.put _ _ _)).out p ps Z⟩};exact oV.zB rfl
def oV.take(r:jO)(i:Nat)(c:UInt8)(s:List UInt8):oV r (r.take i c s):=by
 rw[mZ]
 have Z:oV r (lE r i c s):=by
  unfold lE;split;{exact oV.jW _ _ (ux.packet _ _)};exact oV.refl r
 split;{exact Z.trans (oV.meet _ _ _)};refine Z.trans ?_;unfold nL;split;{split;{exact oV.meet _ _ _};exact oV.refl _};split;{exact oV.state _ _ _};split;{unfold lV;simp only;split<;>exact oV.zB rfl};split;{unfold sT;split;{exact oV.send _ _};exact oV.refl _};exact oV.refl _
def oV.takes:∀(l:List (List UInt8)) (r:jO) (i:Nat),oV r (r.takes i l)
 |[],r,_=>oV.refl r
 |t::l,r,i=>by
  refine oV.trans ?_ (oV.takes l _ i);cases t with
  |nil=>exact oV.refl r
  |cons c s=>exact oV.take r i c s
def oV.jZ(r:jO)(i:Nat):oV r (r.jZ i):=by
 rw[mO];have Z:oV r (j6 r i):=oV.jW _ _ (ux.tick _);split;{exact Z.trans (oV.meet _ _ _)};refine Z.trans ((oV.meet _ i (jP ((j6 r i).P i).pe)).trans ?_);unfold oa;simp only;refine oV.jW _ i ?_;split;{exact(ux.put _ _ _).trans (ux.mA _ _)};exact ux.put _ _ _
def oV.j5(r:jO):∀q,oV r (r.j5 q)
 |0=>oV.refl r
 |q+1=>(oV.j5 r q).trans (oV.jZ _ _)
def oV.lF(r:jO)(t:Int)(tx:List UInt8):oV r (lF r t tx).1:=by
 unfold Rt.lF;split;{exact oV.refl r};exact oV.send r (t,8,tx)
def JJ(r:jO)(i:Nat)(l:List UInt8):((r.recv i l).P i).rd=(l5 (r.P i).rd l).2.2/\(∀p,p≠i->((r.recv i l).P p).rd=(r.P p).rd)/\∀p ps,Frames (r.P p).out ps->∃qs,Frames ((r.recv i l).P p).out (ps++qs):=by
 unfold jO.recv;simp only;have h:=oV.takes (l5 (r.P i).rd l).1 (r.jW i {r.P i with rd:=(l5 (r.P i).rd l).2.2}) i
 have Z:∀p,((r.jW i {r.P i with rd:=(l5 (r.P i).rd l).2.2}).P p).out=(r.P p).out:=λp=>by
  show(m8 r.P i _ p).out=_;by_cases e:p=i;{subst e;rw[kJ]};rw[kC _ _ e]
 refine⟨?_,λp Y=> ?_,λp ps hf=>h.out p ps (by rw[Z];exact hf)⟩;{rw[h.rd];show(m8 r.P i _ i).rd=_;rw[kJ]};rw[h.rd];show(m8 r.P i _ p).rd=_;rw[kC _ _ Y]
def JK {r:jO} (i:Nat)(h:rb (!up) (r.P i)):(((r.jT i up).1.P i).rd=ny)/\(∀p,p≠i->((r.jT i up).1.P p).rd=(r.P p).rd)/\∀p ps,Frames (r.P p).out ps->∃qs,Frames ((r.jT i up).1.P p).out (ps++qs):=by
 have M:(mV (r.P i).L (if up=true then 0 else 1)).2.2=0:=by
  cases up;{exact(vG (rb.up.1 h).1).1};exact(FY (by simpa using h.st)).1
 have e:(r.P i).jT up=(({r.P i with L:=(mV (r.P i).L (if up=true then 0 else 1)).1,rd:=([],false,false)}:kB).say (mV (r.P i).L (if up=true then 0 else 1)).2.1,0):=by
  unfold kB.jT;simp only;rw[af (by simp[M])]
 unfold jO.jT;rw[e];simp only;rw[af gZ];obtain⟨x,hx⟩:=fH (({r.P i with L:=(mV (r.P i).L (if up=true then 0 else 1)).1,rd:=([],false,false)}:kB).say (mV (r.P i).L (if up=true then 0 else 1)).2.1);have Y:ux {r.P i with L:=(mV (r.P i).L (if up=true then 0 else 1)).1,rd:=([],false,false)} x:=by rw[<-hx];exact ux.say _ _
 rw[hx];have Z:=oV.meet (r.jW i x) i nobody;refine⟨?_,λp G=> ?_,λp ps hf=> ?_⟩;{rw[Z.rd];show(m8 r.P i x i).rd=_;rw[kJ,Y.rd];rfl};{rw[Z.rd];show(m8 r.P i x p).rd=_;rw[kC _ _ G]};by_cases Q:p=i;{subst Q;obtain⟨q1,J⟩:=Y.out ps hf;obtain⟨q2,H⟩:=Z.out p (ps++q1) (by show Frames (m8 r.P p x p).out _;rw[kJ];exact J);exact⟨q1++q2,by rw[<-aK];exact H⟩};exact Z.out p ps (by show Frames (m8 r.P i x p).out _;rw[kC _ _ Q];exact hf)
def lq(y:jQ)(c d:Nat):l7:=((y.R ((y.C c).e (1-d)).1).P ((y.C c).e (1-d)).2).rd
structure kF(y:jQ):Prop where
 q:∀c d,c<y.nc->d<2->(l5 (lq y c d) ((y.C c).on d)).2=(0,ny)/\∀p∈(l5 (lq y c d) ((y.C c).on d)).1,zO p
 o:∀i p,∃ps,Frames ((y.R i).P p).out ps
def kF.mY {y:jQ} (h:kF y)(c d:Nat)(_hc:c<y.nc):kF (y.mY c d):=by
 have E:∀i p,(((y.mY c d).R i).P p).rd=((y.R i).P p).rd:=λi p=>by
  rw[CK];split<;>rfl
 have A:∀x,((y.mY c d).C x).e=(y.C x).e:=λx=>((oJ y c d).2.2.2.2 x).1
 have j:∀x e,lq (y.mY c d) x e=lq y x e:=λx e=>by
  unfold lq;rw[A,E]
 refine⟨λx e hx G=> ?_,λi p=> ?_⟩
 ·have xG:x<y.nc:=hx;rw[j]
  have zA:((y.mY c d).C x).on e=(y.C x).on e \/(x=c/\e=d/\((y.mY c d).C x).on e=(y.C x).on e++((y.R ((y.C c).e d).1).P ((y.C c).e d).2).out):=by
   show((if x=c then(y.C c).put d _ else y.C x):sE).on e=_ \/(x=c/\e=d/\((if x=c then(y.C c).put d _ else y.C x):sE).on e=_);by_cases ex:x=c;{rw[ag ex];subst ex;unfold sE.put;split;{show kK (y.C x).on d _ e=_ \/(x=x/\e=d/\kK (y.C x).on d _ e=_);by_cases ed:e=d;{subst ed;rw[jd];exact .inr ⟨rfl,rfl,rfl⟩};rw[iw _ _ ed];exact .inl rfl};exact .inl rfl};rw[af ex];exact .inl rfl
  obtain⟨J,H⟩:=h.q x e xG G;obtain Q|⟨_,_,Q⟩:=zA;{rw[Q];exact⟨J,H⟩};obtain⟨ps,Y,Z⟩:=h.o ((y.C c).e d).1 ((y.C c).e d).2;rw[Q,tK,J,Y,rL ps Z];refine⟨rfl,λp u=> ?_⟩;obtain M|M:=aA.1 u;{exact H p M};exact Z p M
 rw[CK];split;{exact⟨[],Frames.nil⟩};exact h.o i p
def kF.lH {y:jQ} (h:kF y):∀k≤y.nc,kF (y.lH k)
 |0,_=>h
 |k+1,hk=>by
  have Y:=kF.lH h k fC;have Z:(y.lH k).nc=y.nc:=(lI y k).2.1;exact(Y.mY k 0 (by rw[Z];omega)).mY k 1 (by show k<(y.lH k).nc;rw[Z];omega)
def kF.gather {y:jQ} (h:kF y):kF y.gather:=by
 unfold jQ.gather;have Y:=h.lH y.nc (aj _);obtain⟨e1,M,e3,Z⟩:=pP (y.lH y.nc) y.n
 have Q:∀i,(((y.lH y.nc).oM y.n).R i).P=((y.lH y.nc).R i).P:=λi=>by
  rw[(yx (y.lH y.nc) i y.n).1];split<;>rfl
 refine⟨λc d hc hd=> ?_,λi p=>by rw[Q];exact Y.o i p⟩
 have hf:lq ((y.lH y.nc).oM y.n) c d=lq (y.lH y.nc) c d:=by
  unfold lq;rw[Z,Q]
 rw[hf,Z];exact Y.q c d (by rw[M]at hc;exact hc) hd
def kF.kG {y:jQ} (h:kF y)(i:Nat) {r:jO} (Z:oV (y.R i) r):kF (y.kG i r):=by
 refine⟨λc d hc hd=> ?_,λj p=> ?_⟩
 ·have hf:lq (y.kG i r) c d=lq y c d:=by
   show((kK y.R i r ((y.C c).e (1-d)).1).P ((y.C c).e (1-d)).2).rd=((y.R ((y.C c).e (1-d)).1).P ((y.C c).e (1-d)).2).rd;by_cases e:((y.C c).e (1-d)).1=i;{rw[e,jd];exact Z.rd _};rw[iw _ _ e]
  rw[hf];exact h.q c d hc hd
 show∃ps,Frames ((kK y.R i r j).P p).out ps;by_cases e:j=i;{subst e;rw[jd];obtain⟨ps,Q⟩:=h.o j p;obtain⟨qs,Y⟩:=Z.out p ps Q;exact⟨_,Y⟩};rw[iw _ _ e];exact h.o j p
def kF.ky {y:jQ} (h:kF y)(hE:Ends y)(c d k:Nat)(hc:c<y.nc)(hd:d<2):kF (y.ky c d k):=by
 obtain⟨i,hi⟩:=fH (((y.C c).e (1-d)).1);obtain⟨p,H⟩:=fH (((y.C c).e (1-d)).2);obtain⟨r1,r2,r3⟩:=JJ (y.R i) p (((y.C c).on d).take k);have Z:∀x,((y.ky c d k).C x).e=(y.C x).e:=λx=>((tN y c d k).2.2.2 x).1
 have J:∀j,(y.ky c d k).R j=kK y.R i ((y.R i).recv p (((y.C c).on d).take k)) j:=λj=>by
  unfold jQ.ky;rw[hi,H];rfl
 have zA:∀x e,((y.ky c d k).C x).on e=if x=c/\e=d then((y.C c).on d).drop k else(y.C x).on e:=λx e=>by
  show((if x=c then {y.C c with on:=kK (y.C c).on d (((y.C c).on d).drop k)}else y.C x):sE).on e=_;by_cases ex:x=c;{rw[ag ex];show kK (y.C c).on d _ e=_;by_cases ed:e=d;{rw[ed,jd,ag ⟨ex,rfl⟩]};rw[iw _ _ ed,af (λh=>ed h.2),ex]};rw[af ex,af (λh=>ex h.1)]
 refine⟨λx e hx he=> ?_,λj s=> ?_⟩
 ·have xG:x<y.nc:=hx;rw[zA];by_cases Y:x=c/\e=d
  ·obtain⟨rfl,rfl⟩:=Y;rw[ag ⟨rfl,rfl⟩]
   have hf:lq (y.ky x e k) x e=(l5 (lq y x e) (((y.C x).on e).take k)).2.2:=by
    unfold lq;rw[Z,J,hi,H,jd];exact r1
   obtain⟨M,A⟩:=h.q x e hc hd;have E:=tK (lq y x e) (((y.C x).on e).take k) (((y.C x).on e).drop k);rw[da]at E;rw[E]at M A;rw[hf];refine⟨?_,λq G=>A q (aA.2 (.inr G))⟩;have ha:=congrArg ju M;have u:=congrArg jv M;simp only at ha u;exact bq (by show _=0;omega) u
  rw[af Y];have kf:(y.C x).e (1-e)≠(i,p):=λe2=>Y (by
   have:=hE.ds x (1-e) c (1-d) xG fC hc fC (by rw[e2,<-hi,<-H]);exact⟨this.1,fC⟩)
  have hf:lq (y.ky c d k) x e=lq y x e:=by
   unfold lq;rw[Z,J];by_cases Q:((y.C x).e (1-e)).1=i;{rw[Q,jd];exact r2 _ (λe4=>kf (by rw[dg];exact⟨Q,e4⟩))};rw[iw _ _ Q]
  rw[hf];exact h.q x e xG he
 rw[J];by_cases e:j=i;{subst e;rw[jd];obtain⟨ps,wL⟩:=h.o j s;obtain⟨qs,G⟩:=r3 s ps wL;exact⟨_,G⟩};rw[iw _ _ e];exact h.o j s
def kF.lD {y:jQ} (h:kF y)(hG:GN y)(hE:Ends y)(c:Nat)(up:Bool)(hc:c<y.nc)(hu:(y.C c).jU= !up):kF (y.lD c up):=by
 obtain⟨Z,E⟩:=fH ((y.C c).e 0);obtain⟨Y,G⟩:=fH ((y.C c).e 1)
 have kf:Z≠Y:=λe=>by
  have:=(hE.ds c 0 c 1 hc fC hc fC (by rw[E,G,e])).2;omega
 have h0:=hG.ends c 0 hc fC;have h1:=hG.ends c 1 hc fC;rw[E,hu]at h0;rw[G,hu]at h1;obtain⟨Q,wP⟩:∃Q:sE,Q={y.C c with jU:=up,on:=λ_=>[] }:=⟨_,rfl⟩
 have M:Q.e=(y.C c).e:=by rw[wP]
 have cbo:∀d,Q.on d=[] :=λd=>by rw[wP]
 have hf:∀(z:jQ) (d:Nat) (e:Nat×Nat),(z.C c).e d=e->z.oH c d up=z.kG e.1 ((z.R e.1).jT e.2 up).1:=by
  intro z d e he;unfold jQ.oH;rw[he]
 have u:(y.nj c Q).C c=Q:=jd _ _ _
 have hp:y.lD c up=((y.nj c Q).kG Z.1 ((y.R Z.1).jT Z.2 up).1).kG Y.1 ((kK y.R Z.1 ((y.R Z.1).jT Z.2 up).1 Y.1).jT Y.2 up).1:=by
  unfold jQ.lD;rw[<-wP,hf (y.nj c Q) 0 Z (by rw[u,M,E]),hf _ 1 Y (by show((y.nj c Q).C c).e 1=Y;rw[u,M,G])];rfl
 obtain⟨r1,mQ⟩:=fH (kK y.R Z.1 ((y.R Z.1).jT Z.2 up).1 Y.1);obtain⟨a1,a2,a3⟩:=JK Z.2 h0;obtain⟨_,_,b0⟩:=ze Z.2 h0
 have afm:rb (!up) (r1.P Y.2):=by
  rw[<-mQ];by_cases e:Y.1=Z.1;{rw[e,jd];have hp2:Y.2≠Z.2:=λA=>kf (by rw[dg];exact⟨e.symm,A.symm⟩);rw[e]at h1;exact h1.congr (b0 _ hp2).1 (b0 _ hp2).2};rw[iw _ _ e];exact h1
 obtain⟨c1,c2,c3⟩:=JK Y.2 afm;rw[hp,mQ];obtain⟨R2,Hz⟩:=fH (kK (kK y.R Z.1 ((y.R Z.1).jT Z.2 up).1) Y.1 (r1.jT Y.2 up).1)
 have Vy:∀i p,((R2 i).P p).rd=if(i,p)=Z \/(i,p)=Y then ny else((y.R i).P p).rd:=λi p=>by
  rw[<-Hz];by_cases x1:i=Y.1;{rw[x1,jd];by_cases y1:p=Y.2;{rw[y1,ag (.inr rfl)];exact c1};rw[c2 p y1,<-mQ];by_cases x0:Y.1=Z.1;{rw[x0,jd];by_cases H:p=Z.2;{rw[H,ag (.inl rfl)];exact a1};rw[a2 p H,af];rintro(e|e);{exact H (congrArg jv e)};exact y1 (congrArg jv e)};rw[iw _ _ x0,af];rintro(e|e);{exact x0 (by have J:=congrArg ju e;exact J)};exact y1 (congrArg jv e)};rw[iw _ _ x1];by_cases x0:i=Z.1;{rw[x0,jd];by_cases H:p=Z.2;{rw[H,ag (.inl rfl)];exact a1};rw[a2 p H,af];rintro(e|e);{exact H (congrArg jv e)};exact x1 (x0.trans (by have J:=congrArg ju e;exact J))};rw[iw _ _ x0,af];rintro(e|e);{exact x0 (by have J:=congrArg ju e;exact J)};exact x1 (by have J:=congrArg ju e;exact J)
 have Iv:∀i p,∃ps,Frames ((R2 i).P p).out ps:=λi p=>by
  rw[<-Hz]
  have hA:∀j s,∃ps,Frames ((kK y.R Z.1 ((y.R Z.1).jT Z.2 up).1 j).P s).out ps:=λj s=>by
   by_cases x0:j=Z.1;{rw[x0,jd];obtain⟨ps,wL⟩:=h.o Z.1 s;obtain⟨qs,hq⟩:=a3 s ps wL;exact⟨_,hq⟩};rw[iw _ _ x0];exact h.o j s
  by_cases x1:i=Y.1;{rw[x1,jd];obtain⟨ps,wL⟩:=hA Y.1 p;rw[mQ]at wL;obtain⟨qs,hq⟩:=c3 p ps wL;exact⟨_,hq⟩};rw[iw _ _ x1];exact hA i p
 refine⟨λx d hx hd=> ?_,λi p=> ?_⟩
 ·have xG:x<y.nc:=hx;show(l5 (((kK (kK y.R Z.1 ((y.R Z.1).jT Z.2 up).1) Y.1 (r1.jT Y.2 up).1 ((((if x=c then Q else y.C x):sE).e (1-d)).1)).P (((if x=c then Q else y.C x):sE).e (1-d)).2).rd) (((if x=c then Q else y.C x):sE).on d)).2=(0,ny)/\∀p∈(l5 (((kK (kK y.R Z.1 ((y.R Z.1).jT Z.2 up).1) Y.1 (r1.jT Y.2 up).1 ((((if x=c then Q else y.C x):sE).e (1-d)).1)).P (((if x=c then Q else y.C x):sE).e (1-d)).2).rd) (((if x=c then Q else y.C x):sE).on d)).1,zO p;rw[Hz,Vy];by_cases e:x=c
  ·rw[ag e,M,cbo]
   have tW:(((y.C c).e (1-d)).1,((y.C c).e (1-d)).2)=Z \/(((y.C c).e (1-d)).1,((y.C c).e (1-d)).2)=Y:=by
    have:d=0 \/d=1:=fC;obtain rfl|rfl:=this;{exact .inr G};exact .inl E
   rw[ag tW];exact⟨rfl,λp hp=>by simp[l5]at hp⟩
  rw[af e]
  have n0:¬((((y.C x).e (1-d)).1,((y.C x).e (1-d)).2)=Z \/(((y.C x).e (1-d)).1,((y.C x).e (1-d)).2)=Y):=by
   rintro(A|A);{exact e (hE.ds x (1-d) c 0 xG fC hc fC (by rw[E];exact A)).1};exact e (hE.ds x (1-d) c 1 xG fC hc fC (by rw[G];exact A)).1
  rw[af n0];exact h.q x d xG hd
 show∃ps,Frames ((kK (kK y.R Z.1 ((y.R Z.1).jT Z.2 up).1) Y.1 (r1.jT Y.2 up).1 i).P p).out ps;rw[Hz];exact Iv i p
def kF.kX(up:Bool):∀(l:List Nat) {y:jQ},kF y->GN y->Ends y->l.Nodup->(∀c∈l,c<y.nc/\(y.C c).jU= !up)->kF (y.kX up l)
 |[],_,h,_,_,_,_=>h
 |c::l,y,h,hG,hE,zf,hl=>by
  obtain⟨g1,Y,g3,g4,Q⟩:=rB y c up;have hc:=hl c gZ;have Z:=bE.1 zf;exact kF.kX up l (h.lD hG hE c up hc.1 hc.2) (hG.lD hE c up hc.1 hc.2) (hE.lD c up) Z.2 (λx hx=>by
   have M:x≠c:=λe=>Z.1 (e▸hx);rw[Y,(Q x).2,af M];exact hl x (by simp[hx]))
def kF.anew {y:jQ} (h:kF y)(Y:GN y)(i:Nat)(id:Int)(m:Nat->Int)(hf:∀c d,c<y.nc->d<2->((y.C c).e d).1=i->(y.C c).jU=false):kF (y.kG i (kZ id 3 m)):=by
 refine⟨λc d hc hd=> ?_,λj p=> ?_⟩;{have Z:c<y.nc:=hc;show(l5 (((kK y.R i (kZ id 3 m) ((y.C c).e (1-d)).1).P ((y.C c).e (1-d)).2).rd) ((y.C c).on d)).2=(0,ny)/\∀p∈(l5 (((kK y.R i (kZ id 3 m) ((y.C c).e (1-d)).1).P ((y.C c).e (1-d)).2).rd) ((y.C c).on d)).1,zO p;by_cases e:((y.C c).e (1-d)).1=i;{rw[e,jd,Y.off c d Z hd (hf c (1-d) Z fC e)];exact⟨rfl,λp Q=>by simp[l5]at Q⟩};rw[iw _ _ e];exact h.q c d Z hd};show∃ps,Frames ((kK y.R i (kZ id 3 m) j).P p).out ps;by_cases e:j=i;{rw[e,jd];exact⟨[],Frames.nil⟩};rw[iw _ _ e];exact h.o j p
def kF.restart {y:jQ} {D:Nat} (h:kF y)(G:GN y)(u:ll y D 0)(i:Int):kF (y.restart i).1:=by
 unfold jQ.restart;split;{exact h};rename_i hi;obtain⟨k,hk⟩:=fH ((i-1).toNat);rw[hk];obtain⟨l,hl⟩:=fH (y.nt k);rw[hl]
 have Y:∀c,c∈l↔c<y.nc/\(y.C c).jU=true/\(((y.C c).e 0).1=k \/((y.C c).e 1).1=k):=λc=>by
  rw[<-hl];unfold jQ.nt;simp[jt]
 have J:l.Nodup:=by
  rw[<-hl];exact dX dR cB
 have xR:∀c∈l,c<y.nc/\(y.C c).jU= !false:=λc hc=>⟨((Y c).1 hc).1,((Y c).1 hc).2.1⟩
 obtain⟨a,b,d⟩:=GN.kX false l G u.pI J xR;have f1:=kF.kX false l h G u.pI J xR;obtain⟨s1,M,s3,s4,s5⟩:=oU false l y;obtain⟨Z,vS⟩:=fH (y.kX false l);rw[vS]at a b d s1 M s3 s4 s5 f1⊢
 have H:∀c e,c<Z.nc->e<2->((Z.C c).e e).1=k->(Z.C c).jU=false:=λc e hc A heq=>by
  have kY:c<y.nc:=by rw[M]at hc;exact hc
  rw[d c];by_cases Q:c∈l;{rw[ag Q]};rw[af Q];by_cases mF:(y.C c).jU=true;{exfalso;rw[s5 c]at heq;refine Q ((Y c).2 ⟨kY,mF,?_⟩);have:e=0 \/e=1:=fC;obtain rfl|rfl:=this;{exact .inl heq};exact .inr heq};simpa using mF
 have f2:=f1.anew a k i (y.ms k) H
 have a2:GN (Z.kG k (kZ i 3 (y.ms k))):=by
  refine a.kG k _ (λc e hc A heq _=> ?_);rw[H c e hc A heq];have E:=sU i (y.ms k) ((Z.C c).e e).2;exact⟨by simpa using E.st,λe=>absurd (by rw[E.pe];rfl) e⟩
 have b2:Ends (Z.kG k (kZ i 3 (y.ms k))):=⟨b.ds,b.p3,λj=>by
  show(kK Z.R k _ j).n=3 \/Z.n<=j;by_cases e:j=k;{rw[e,jd];exact .inl rfl}
  ·rw[iw _ _ e];exact b.rn j,b.en⟩
 exact(kF.kX true l f2 a2 b2 J (λc hc=>⟨by show c<Z.nc;rw[M];exact((Y c).1 hc).1,by show(Z.C c).jU=_;rw[d c,ag hc];rfl⟩)).gather
def kF.jT {y:jQ} {D:Nat} (h:kF y)(Z:GN y)(Y:ll y D 0)(i:Int)(up:Bool):kF (y.jT i up).1:=by
 unfold jQ.jT;split;{exact h};split;{exact h};rename_i mF;exact(h.lD Z Y.pI i.toNat up fC (by cases hv:(y.C i.toNat).jU<;>cases up<;>simp_all)).gather
def kF.tick {y:jQ} (h:kF y)(i:Int):kF (y.tick i).1:=by
 unfold jQ.tick;split;{exact h};exact(h.kG _ (oV.j5 _ _)).gather
def kF.j7 {y:jQ} {D:Nat} (h:kF y)(Z:ll y D 0)(i d m:Int):kF (y.j7 i d m).1:=by
 unfold jQ.j7;split;{exact h};exact(h.ky Z.pI _ _ _ fC fC).gather
def kF.send {y:jQ} (h:kF y)(f t:Int)(tx:List UInt8):kF (y.send f t tx).1:=by
 unfold jQ.send;split;{exact h};split;{exact h};exact(h.kG _ (oV.lF _ _ _)).gather
def kF.j5 {y:jQ} (h:kF y):∀q,kF (y.j5 q)
 |0=>h
 |q+1=>(kF.j5 h q).tick _
def kF.k9 {y:jQ} {D:Nat} (h:kF y)(Q:ll y D 0)(Y:D<=890000000):∀q≤9,kF (y.k9 q)
 |0,_=>h
 |q+1,hq=>by
  have Z:=Q.k9 Y q fC;exact((kF.k9 h Q Y q fC).j7 Z (q:Int) 0 2000).j7 (Z.j7 fC (q:Int) 0 2000) (q:Int) 1 2000
def kF.turns {y:jQ} {D:Nat} (h:kF y)(Z:ll y D 0)(Y:D<=810000000):∀t≤12,kF (y.turns t)
 |0,_=>h
 |t+1,ht=>(kF.turns h Z Y t fC).k9 (Z.turns Y t fC) fC y.nc Z.c9
def kF.round {y:jQ} {D:Nat} (h:kF y)(Z:ll y D 0)(Y:D<=800000000):kF y.round:=
 (h.j5 y.n).turns (Z.j5 Y y.n Z.n6) (by have:=Z.n6;omega) 12 (aj _)
def kF.act {y:jQ} (h:kF y)(Y:GN y)(Z:ll y D 0)(Q:D<=800000000)(v:AV):kF (uv y v):=by
 unfold uv;split;{exact h.jT Y Z _ _};split;{exact h.tick _};split;{exact h.j7 Z _ _ _};split;{exact h.restart Y Z _};split;{exact h.send _ _ _};split;{exact h.round Z Q};exact h
def P9(many:Nat)(L:List qM):kF (la many L):=⟨λ_ _ _ _=>⟨rfl,λp Z=>by simp[l5,la,oE]at Z⟩,λ_ _=>⟨[],Frames.nil⟩⟩
def kB.pt(p:kB)(rd:l7)(o:List UInt8):kB:={p with rd:=rd,out:=o++p.out}
def jO.pat(s:jO)(rd:Nat->l7)(os:Nat->List UInt8)(ib:List wK):jO:={s with P:=λp=>(s.P p).pt (rd p) (os p),kA:=ib++s.kA}
def jO.core(r:jO):jO:={r with P:=λp=>{r.P p with rd:=ny,out:=[] },kA:=[] }
def Ns(s:jO)(rd:Nat->l7)(os:Nat->List UInt8)(ib:List wK):(s.pat rd os ib).core=s.core:=rfl
def wF(r:jO):r.core.pat (λp=>(r.P p).rd) (λp=>(r.P p).out) r.kA=r:=by
 unfold jO.pat jO.core kB.pt;simp only[jm]
def GQ(p:kB)(rd:l7)(o:List UInt8)(c:UInt8)(s:List UInt8):(p.pt rd o).put c s=(p.put c s).pt rd o:=by
 unfold kB.put;have e:(p.pt rd o).L=p.L:=rfl;rw[e];split;{rfl};split;{simp[kB.pt]};rfl
def KT(rd:l7)(o:List UInt8):∀(l:List mH) (p:kB),(p.pt rd o).say l=(p.say l).pt rd o
 |[],_=>rfl
 |q::r,p=>by
  show((if lg q.1 q.2.1 q.2.2=0 then(p.pt rd o).put 76 (oj q.1 q.2.1 q.2.2)else p.pt rd o)).say r=((if lg q.1 q.2.1 q.2.2=0 then p.put 76 (oj q.1 q.2.1 q.2.2)else p).say r).pt rd o;split;{rw[GQ,KT rd o r]};{exact KT rd o r p}
def RJ(rd:l7)(o:List UInt8)(L:LS)(l:List mH)(p:kB):({p.pt rd o with L:=L}:kB).say l=(({p with L:=L}:kB).say l).pt rd o:=KT rd o l {p with L:=L}
def JL(rd:l7)(o:List UInt8):∀(l:List (Int×PS)) (p:kB),(p.pt rd o).mA l=(p.mA l).pt rd o
 |[],_=>rfl
 |q::r,p=>by
  show((p.pt rd o).put 83 _).mA r=_;rw[GQ,JL rd o r];rfl
def abt(rd:l7)(o:List UInt8)(p:kB):(p.pt rd o).tick=p.tick.pt rd o:=RJ rd o _ _ p
def Ur(rd:l7)(o:List UInt8)(p:kB)(s:List UInt8):(p.pt rd o).packet s=(p.packet s).pt rd o:=by
 unfold kB.packet;simp only;split;{exact RJ rd o _ _ p};rfl
section
variable (rd:Nat->l7) (os:Nat->List UInt8) (ib:List wK)
def wG(s:jO)(i:Nat)(q:kB):(s.pat rd os ib).jW i (q.pt (rd i) (os i))=(s.jW i q).pat rd os ib:=by
 unfold jO.jW jO.pat;congr 1;funext p;show m8 _ i _ p=(m8 s.P i q p).pt (rd p) (os p);by_cases e:p=i;{subst e;rw[kJ,kJ]};rw[kC _ _ e,kC _ _ e]
def CT(s:jO)(n:Int):∀k,kQ (s.pat rd os ib).P n k=kQ s.P n k
 |0=>rfl
 |k+1=>by
  have ih:=CT s n k;unfold kQ;rw[ih];rfl
def GR(s:jO):kH (s.pat rd os ib)=kH s:=by
 unfold kH;congr 1;funext j;rw[CT];rfl
def GU(s:jO)(q:Int):(s.pat rd os ib).behind q=(s.behind q).pat rd os ib:=by
 unfold jO.behind;rw[GR];split<;>rfl
def Qa(s:jO):(s.pat rd os ib).change=s.change.pat rd os ib:=by
 unfold jO.change;rw[GR,GU];show(if Ei s.K s.id=kH s then s.pat rd os ib else(s.behind (Cx s.K s.id)).pat rd os ib)=_;split<;>rfl
def yC(s:jO)(i:Nat)(q:mX):(s.pat rd os ib).meet i q=(s.meet i q).pat rd os ib:=by
 have Z:(s.pat rd os ib).jW i {(s.pat rd os ib).P i with pe:=q}=(s.jW i {s.P i with pe:=q}).pat rd os ib:=wG rd os ib s i {s.P i with pe:=q};unfold jO.meet;simp only;rw[Z];have Y:=Qa rd os ib ({s.jW i {s.P i with pe:=q}with O:=λx=>if x=i then λ_=>ν else s.O x}:jO);show(if q.who=(s.P i).pe.who/\q.both=(s.P i).pe.both then _ else _)=_;split;{rfl};have Q:({(s.jW i {s.P i with pe:=q}).pat rd os ib with O:=λx=>if x=i then λ_=>ν else((s.jW i {s.P i with pe:=q}).pat rd os ib).O x}:jO).change=(({s.jW i {s.P i with pe:=q}with O:=λx=>if x=i then λ_=>ν else s.O x}:jO).change).pat rd os ib:=Y;rw[Q];split<;>rfl
def GV(s:jO)(t:wK):(s.pat rd os ib).send t=(s.send t).pat rd os ib:=by
 unfold jO.send
 have Z:(λh:HP=>kQ (s.pat rd os ib).P h.qT (s.pat rd os ib).n)=λh:HP=>kQ s.P h.qT s.n:=by
  funext h;exact CT rd os ib s h.qT s.n
 rw[Z];show(if t.1=s.id then _ else match (if 1<=t.2.1 then(ye (n8 s) t.1).bind λh=>kQ s.P h.qT s.n else none)with|none=>_|some i=>_)=_;split;{simp[jO.pat]};cases (if 1<=t.2.1 then(ye (n8 s) t.1).bind λh=>kQ s.P h.qT s.n else ν)with|none=>rfl|some i=>show(s.pat rd os ib).jW i (((s.P i).pt (rd i) (os i)).put 77 _)=_;rw[GQ];exact wG rd os ib s i _
def Us(s:jO)(i:Nat)(l:List UInt8):kj (s.pat rd os ib) i l=(kj s i l).pat rd os ib:=by
 unfold kj;simp only;show(if(St.ig l).2.2.2≠0 \/(s.P i).pe.both=false then _ else if(St.ig l).1=s.id/\0<newF s.K (St.ig l).1 (St.ig l).2.1 (St.ig l).2.2.1 then _ else if 0<=newF s.K (St.ig l).1 (St.ig l).2.1 (St.ig l).2.2.1 then _ else _)=_;split;{rfl};split;{exact GU rd os ib s _};split
 ·obtain⟨x,hx⟩:∃x:jO,({s with K:=np s.K (St.ig l).1 (St.ig l).2.1 (St.ig l).2.2.1,O:=qL s.K s.O i (St.ig l).1 (St.ig l).2.1 (St.ig l).2.2.1}:jO)=x:=⟨_,rfl⟩
  have Z:(x.pat rd os ib).jW i (((x.P i).pt (rd i) (os i)).put 65 (tI (St.ig l).1 (St.ig l).2.1 (St.ig l).2.2.1))=(x.jW i ((x.P i).put 65 (tI (St.ig l).1 (St.ig l).2.1 (St.ig l).2.2.1))).pat rd os ib:=by
   rw[GQ];exact wG rd os ib x i _
  rw[<-hx]at Z;exact Z
 rfl
def Yo(s:jO)(i:Nat)(c:UInt8)(l:List UInt8):(s.pat rd os ib).take i c l=(s.take i c l).pat rd os ib:=by
 rw[mZ,mZ]
 have Z:lE (s.pat rd os ib) i c l=(lE s i c l).pat rd os ib:=by
  unfold lE;split;{show(s.pat rd os ib).jW i (((s.P i).pt (rd i) (os i)).packet l)=_;rw[Ur];exact wG rd os ib s i _};rfl
 rw[Z];show(if((lE s i c l).P i).L.st≠9 then _ else _)=_;split;{exact yC rd os ib _ i _};unfold nL;split;{split;{exact yC rd os ib _ i _};rfl};split;{exact Us rd os ib _ i l};split;{unfold lV;simp only;split<;>rfl};split;{unfold sT;split;{exact GV rd os ib _ _};rfl};rfl
def Ut(s:jO)(i:Nat)(x:List UInt8):kP (s.pat rd os ib) i x=(kP s i x).pat rd os ib:=by
 cases x with|nil=>rfl|cons c l=>exact Yo rd os ib s i c l
def CU:∀(l:List (List UInt8)) (s:jO) (i:Nat),(s.pat rd os ib).takes i l=(s.takes i l).pat rd os ib
 |[],_,_=>rfl
 |x::l,s,i=>by
  show(kP (s.pat rd os ib) i x).takes i l=((kP s i x).takes i l).pat rd os ib;rw[Ut,CU l]
def Uu(s:jO)(i:Nat):(s.pat rd os ib).jZ i=(s.jZ i).pat rd os ib:=by
 rw[mO,mO]
 have Z:j6 (s.pat rd os ib) i=(j6 s i).pat rd os ib:=by
  show(s.pat rd os ib).jW i (((s.P i).pt (rd i) (os i)).tick)=_;rw[abt];exact wG rd os ib s i _
 rw[Z];show(if((j6 s i).P i).L.st≠9 then _ else _)=_;split;{exact yC rd os ib _ i _};show oa (((j6 s i).pat rd os ib).meet i (jP ((j6 s i).P i).pe)) i=_;rw[yC];obtain⟨x,hx⟩:=fH ((j6 s i).meet i (jP ((j6 s i).P i).pe));rw[hx];have Y:∀p q:kB,(if(x.P i).pe.both=true then p.pt (rd i) (os i)else q.pt (rd i) (os i))=(if(x.P i).pe.both=true then p else q).pt (rd i) (os i):=λp q=>by split<;>rfl
 show(x.pat rd os ib).jW i (if(x.P i).pe.both=true then(((x.P i).pt (rd i) (os i)).put 72 _).mA (nu (x.O i))else((x.P i).pt (rd i) (os i)).put 72 _)=_;rw[GQ,JL,Y];exact wG rd os ib x i _
def Nt(s:jO)(i:Nat)(up:Bool)(Z:(mV (s.P i).L (if up=true then 0 else 1)).2.2=0):((s.pat rd os ib).jT i up).1=((s.jT i up).1).pat (kK rd i ny) os ib:=by
 obtain⟨E,Y⟩:=fH (mV (s.P i).L (if up=true then 0 else 1));rw[Y]at Z
 have e:∀p:kB,p.L=(s.P i).L->p.jT up=(({p with L:=E.1,rd:=ny}:kB).say E.2.1,0):=λp J=>by
  unfold kB.jT;rw[J,Y];simp only;rw[af (by simp[Z])];rfl
 unfold jO.jT;rw[e _ rfl,e ((s.pat rd os ib).P i) rfl];simp only;rw[af gZ,af gZ];have Q:(({(s.pat rd os ib).P i with L:=E.1,rd:=ny}:kB).say E.2.1)=((({s.P i with L:=E.1,rd:=ny}:kB)).say E.2.1).pt ny (os i):=
  KT ny (os i) _ ({s.P i with L:=E.1,rd:=ny}:kB)
 rw[Q];obtain⟨q,H⟩:=fH ((({s.P i with L:=E.1,rd:=ny}:kB)).say E.2.1);rw[H]
 have M:(s.pat rd os ib).jW i (q.pt ny (os i))=(s.jW i q).pat (kK rd i ny) os ib:=by
  unfold jO.jW jO.pat;congr 1;funext p;show m8 _ i _ p=(m8 s.P i q p).pt (kK rd i ny p) (os p);by_cases e:p=i;{subst e;rw[kJ,kJ,jd]};rw[kC _ _ e,kC _ _ e,iw _ _ e]
 rw[M,yC]
end
def isM(k:Nat)(tx:List UInt8):List UInt8->Bool
 |77::a::_::s=>a.toNat==k&&s==tx
 |_=>false
def cP(k:Nat)(tx:List UInt8)(ps:List (List UInt8)):Nat:=ps.countP (isM k tx)
def isI(k:Nat)(tx:List UInt8)(m:wK):Bool:=m.1==(k:Int)&&m.2.2==tx
def cI(k:Nat)(tx:List UInt8)(l:List wK):Nat:=l.countP (isI k tx)
def kh(p:kB):List (List UInt8):=(l5 ny p.out).1
def oO {p:kB} (h:Frames p.out ps):kh p=ps:=by
 unfold kh;rw[h.1,rL ps h.2]
def pc(k:Nat)(tx:List UInt8)(p:kB):Nat:=cP k tx (kh p)
def ux.fr {p q:kB} (h:ux p q)(Z:∃ps,Frames p.out ps):∃ps,Frames q.out ps:=by
 obtain⟨ps,Q⟩:=Z;obtain⟨qs,Y⟩:=h.out ps Q;exact⟨_,Y⟩
abbrev mK:=List UInt8
structure AN where
 n:Nat
 nc:Nat
 e:Nat->Nat->Nat×Nat
 ms:Nat->Nat->Int
 jU:Nat->Bool
 R:Nat->jO
 F:Nat->Nat->List mK
 ib:Nat->List wK
def vr(y:jQ)(c d:Nat):List mK:=(l5 (lq y c d) ((y.C c).on d)).1++kh ((y.R ((y.C c).e d).1).P ((y.C c).e d).2)
def jn(y:jQ):AN:=⟨y.n,y.nc,λc=>(y.C c).e,y.ms,λc=>(y.C c).jU,λi=>(y.R i).core,λc d=>if c<y.nc/\d<2 then vr y c d else [],λi=>y.kA i++(y.R i).kA⟩
def AN.op(a:AN)(i:Nat)(s:jO):AN:=
 {a with R:=kK a.R i s.core,F:=λc d=>if(c<a.nc/\d<2)/\(a.e c d).1=i then a.F c d++kh (s.P (a.e c d).2)else a.F c d,ib:=kK a.ib i (a.ib i++s.kA)}
def AN.mN(a:AN)(c d:Nat)(l:List mK):AN:={a with F:=λc' d'=>if c'=c/\d'=d then l else a.F c' d'}
def AN.pop(a:AN)(c d:Nat)(x:mK)(l:List mK):AN:=(a.mN c d l).op (a.e c (1-d)).1 (kP (a.R (a.e c (1-d)).1) (a.e c (1-d)).2 x)
def AN.pv(a:AN)(c d:Nat)(up:Bool):AN:=a.op (a.e c d).1 ((a.R (a.e c d).1).jT (a.e c d).2 up).1
def AN.jT(a:AN)(c:Nat)(up:Bool):AN:=((({a with jU:=kK a.jU c up}:AN).mN c 0 []).mN c 1 []).pv c 0 up|>.pv c 1 up
def yD(a b:AN):Prop:=b={a with F:=b.F} /\∀c d,∃m,b.F c d=(a.F c d).take m
def yD.refl(a:AN):yD a a:=⟨rfl,λc d=>⟨(a.F c d).length,gZ⟩⟩
def yD.trans {a b c:AN} (h:yD a b)(g:yD b c):yD a c:=by
 refine⟨?_,λx d=> ?_⟩;{rw[g.1,h.1]};obtain⟨m,Y⟩:=h.2 x d;obtain⟨k,Z⟩:=g.2 x d;exact⟨min k m,by rw[Z,Y,List.take_take]⟩
inductive ot:AN->List (Nat×Nat)->List (Int×List UInt8)->AN->Prop
 |lost {a b:AN}:yD a b->ot a [] [] b
 |tick {a:AN} (i p:Nat):i<a.n->p<3->ot a [(i,p)] [] (a.op i ((a.R i).jZ p))
 |pop {a:AN} (c d:Nat) (x:mK) (l:List mK):c<a.nc->d<2->a.F c d=x::l->ot a [] [] (a.pop c d x l)
 |send {a:AN} (i:Nat) (t:Int) (tx:List UInt8):i<a.n->1<=t->t<=6->tx.length<=20->ot a [] [(t,tx)] (a.op i ((a.R i).send (t,8,tx)))
 |jT {a:AN} (c:Nat):c<a.nc->a.jU c=false->a.F c 0=[]->a.F c 1=[]->ot a [a.e c 0,a.e c 1] [] (a.jT c true)
 |draw {a:AN} (c:Nat):c<a.nc->a.jU c=true->ot a [] [] (a.jT c false)
 |anew {a:AN} (i m:Nat):i<a.n->(∀c d,c<a.nc->d<2->(a.e c d).1=i->a.jU c=false/\a.F c 0=[] /\a.F c 1=[])->ot a [] [] {a with R:=kK a.R i (kZ ((i:Int)+1) 3 (a.ms i)),ib:=kK a.ib i ((a.ib i).take m)}
inductive lh:AN->List (Nat×Nat)->List (Int×List UInt8)->AN->Prop
 |nil (a:AN):lh a [] [] a
 |snoc {a b c:AN} {T U:List (Nat×Nat)} {S V:List (Int×List UInt8)}:lh a T S b->ot b U V c->lh a (T++U) (S++V) c
def lh.one {a b:AN} (h:ot a T S b):lh a T S b:=lh.snoc (lh.nil a) h
def lh.trans {a b c:AN} {V:List (Int×List UInt8)} (h:lh a T S b)(g:lh b U V c):lh a (T++U) (S++V) c:=by
 induction g with|nil=>simpa using h|snoc _ s ih=>rw[<-aK,<-aK];exact ih.snoc s
def lh.lost {a b c:AN} {T:List (Nat×Nat)} {S:List (Int×List UInt8)} (h:lh a T S b)(g:yD b c):lh a T S c:=by
 have:=h.snoc (ot.lost g);simpa using this
def ot.same {a b:AN} (h:ot a T S b):b.n=a.n/\b.nc=a.nc/\b.e=a.e/\b.ms=a.ms:=by
 cases h with|lost h=>rw[h.1];exact⟨rfl,rfl,rfl,rfl⟩|_=>exact⟨rfl,rfl,rfl,rfl⟩
def lh.same {a b:AN} {T:List (Nat×Nat)} {S:List (Int×List UInt8)} (h:lh a T S b):b.n=a.n/\b.nc=a.nc/\b.e=a.e/\b.ms=a.ms:=by
 induction h with|nil=>exact⟨rfl,rfl,rfl,rfl⟩|snoc _ s ih=>obtain⟨Z,Y,Q,M⟩:=s.same;exact⟨Z.trans ih.1,Y.trans ih.2.1,Q.trans ih.2.2.1,M.trans ih.2.2.2⟩
def AN.ext' {a b:AN} (Z:a.n=b.n)(Y:a.nc=b.nc)(Q:a.e=b.e)(M:a.ms=b.ms)(J:a.jU=b.jU)(H:a.R=b.R)(G:a.F=b.F)(E:a.ib=b.ib):a=b:=by
 cases a;cases b;simp only at*;subst Z Y Q M J H G E;rfl
def BD {p:kB} {o:List UInt8} {ps:List mK} (Y:Frames o ps)(Q:∃qs,Frames p.out qs)(rd:l7):kh (p.pt rd o)=ps++kh p/\∃qs,Frames (p.pt rd o).out qs:=by
 obtain⟨qs,Z⟩:=Q
 have h:Frames (p.pt rd o).out (ps++qs):=by
  refine⟨?_,λx hx=> ?_⟩;{show o++p.out=_;rw[Y.1,Z.1,cO]};obtain e|e:=aA.1 hx;{exact Y.2 x e};exact Z.2 x e
 exact⟨by rw[oO h,oO Z],_,h⟩
def kx {p:kB} (h:p.out=[]):kh p=[] :=by unfold kh;rw[h];rfl
def KU {p:kB} (h:∃ps,Frames p.out ps):Frames p.out (kh p):=by
 obtain⟨ps,Z⟩:=h;rw[oO Z];exact Z
def KW {y:jQ} (hF:∀i p,∃ps,Frames ((y.R i).P p).out ps)(i:Nat) {s r:jO} (rd:Nat->l7)(Q:r=s.pat rd (λp=>((y.R i).P p).out) (y.R i).kA)(J:∀c d,c<y.nc->d<2->((y.C c).e (1-d)).1=i->rd ((y.C c).e (1-d)).2=((y.R i).P ((y.C c).e (1-d)).2).rd \/(y.C c).on d=[])(hs:∀p,∃ps,Frames (s.P p).out ps):jn (y.kG i r)=(jn y).op i s:=by
 have Y:∀j,(y.kG i r).R j=if j=i then r else y.R j:=λj=>rfl
 refine AN.ext' rfl rfl rfl rfl rfl ?_ ?_ ?_;{funext j;show((y.kG i r).R j).core=kK _ i s.core j;rw[Y];by_cases e:j=i;{subst e;rw[ag rfl,jd,Q,Ns]};rw[af e,iw _ _ e];rfl}
 ·funext c d;(show(if c<y.nc/\d<2 then vr (y.kG i r) c d else [])=if(c<y.nc/\d<2)/\((y.C c).e d).1=i then(if c<y.nc/\d<2 then vr y c d else [])++kh (s.P ((y.C c).e d).2)else if c<y.nc/\d<2 then vr y c d else []);by_cases hc:c<y.nc/\d<2
  ·rw[ag hc,ag hc]
   have hf:(l5 (lq (y.kG i r) c d) ((y.C c).on d)).1=(l5 (lq y c d) ((y.C c).on d)).1:=by
    have Z:lq (y.kG i r) c d=lq y c d \/(y.C c).on d=[] :=by
     show(((y.kG i r).R ((y.C c).e (1-d)).1).P ((y.C c).e (1-d)).2).rd=_ \/_;rw[Y];by_cases e:((y.C c).e (1-d)).1=i;{rw[ag e,Q];unfold lq;rw[e];exact J c d hc.1 hc.2 e};rw[af e];exact .inl rfl
    obtain Z|Z:=Z;{rw[Z]};rw[Z];rfl
   unfold vr;show(l5 (lq (y.kG i r) c d) ((y.C c).on d)).1++_=_;rw[hf];show(l5 (lq y c d) ((y.C c).on d)).1++kh (((y.kG i r).R ((y.C c).e d).1).P ((y.C c).e d).2)=_;rw[Y];by_cases e:((y.C c).e d).1=i;{rw[ag e,ag ⟨hc,e⟩,Q,e];obtain⟨ps,M⟩:=hF i ((y.C c).e d).2;have H:=(BD M (hs ((y.C c).e d).2) (rd ((y.C c).e d).2)).1;show _++kh ((s.P ((y.C c).e d).2).pt _ _)=_;rw[H,oO M,aK]};rw[af e,af (λh=>e h.2)]
  rw[af hc,af (λh=>hc h.1),af hc]
 funext j;show y.kA j++((y.kG i r).R j).kA=kK _ i _ j;rw[Y];by_cases e:j=i;{subst e;rw[ag rfl,jd,Q];show y.kA j++((y.R j).kA++s.kA)=(y.kA j++(y.R j).kA)++s.kA;rw[aK]};rw[af e,iw _ _ e];rfl
def Qb {y:jQ} (hF:∀i p,∃ps,Frames ((y.R i).P p).out ps)(i:Nat) {s r:jO} (Z:r=s.pat (λp=>((y.R i).P p).rd) (λp=>((y.R i).P p).out) (y.R i).kA)(hs:∀p,∃ps,Frames (s.P p).out ps):jn (y.kG i r)=(jn y).op i s:=KW hF i _ Z (λ_ _ _ _ _=>.inl rfl) hs
def Room(y:jQ):Prop:=∀c d,c<y.nc->d<2->((y.R ((y.C c).e d).1).P ((y.C c).e d).2).out=[] \/((y.C c).jU=true/\((y.C c).on d).length+((y.R ((y.C c).e d).1).P ((y.C c).e d).2).out.length<=2000)
def EO(y:jQ)(c d x f:Nat):((y.mY c d).C x).on f=(if x=c/\f=d/\(y.C c).jU=true/\((y.C c).on d).length+((y.R ((y.C c).e d).1).P ((y.C c).e d).2).out.length<=2000 then(y.C c).on d++((y.R ((y.C c).e d).1).P ((y.C c).e d).2).out else(y.C x).on f):=by
 show((if x=c then(y.C c).put d _ else y.C x):sE).on f=_;by_cases ex:x=c;{rw[ag ex];subst ex;unfold sE.put;split;{rename_i h;show kK (y.C x).on d _ f=_;by_cases ed:f=d;{subst ed;rw[jd,ag ⟨rfl,rfl,h⟩]};rw[iw _ _ ed,af (λq=>ed q.2.1)]};rename_i h;rw[af (λq=>h q.2.2)]};rw[af ex,af (λq=>ex q.1)]
def Nu {y:jQ} (hF:kF y)(hE:Ends y)(c d:Nat)(hc:c<y.nc)(hd:d<2):yD (jn y) (jn (y.mY c d))/\(Room y->jn (y.mY c d)=jn y/\Room (y.mY c d)):=by
 have Y:∀x,((y.mY c d).C x).e=(y.C x).e:=λx=>((oJ y c d).2.2.2.2 x).1;have hi:∀x,((y.mY c d).C x).jU=(y.C x).jU:=λx=>((oJ y c d).2.2.2.2 x).2
 have hR:∀j,((y.mY c d).R j)=if j=((y.C c).e d).1 then(y.R j).out ((y.C c).e d).2 else y.R j:=λj=>by
  show kK y.R ((y.C c).e d).1 _ j=_;by_cases e:j=((y.C c).e d).1;{subst e;rw[jd,ag rfl]};rw[iw _ _ e,af e]
 have M:∀j,((y.mY c d).R j).core=(y.R j).core:=λj=>by
  rw[hR];split;{show jO.core (jO.jW _ _ _)=_;unfold jO.core jO.jW;congr 1;funext p;show({m8 (y.R j).P ((y.C c).e d).2 {(y.R j).P ((y.C c).e d).2 with out:=[] } p with rd:=ny,out:=[] }:kB)=_;by_cases e:p=((y.C c).e d).2;{rw[e,kJ]};rw[kC _ _ e]};rfl
 have J:∀j,((y.mY c d).R j).kA=(y.R j).kA:=λj=>by
  rw[hR];split<;>rfl
 have Q:∀j p,((y.mY c d).R j).P p=if(y.C c).e d=(j,p)then {(y.R j).P p with out:=[] }else(y.R j).P p:=λj p=>CK y c d j p
 have wO:∀x f,lq (y.mY c d) x f=lq y x f:=λx f=>by
  unfold lq;rw[Y,Q];split<;>rfl
 have u:∀x f,x<y.nc->f<2->¬(x=c/\f=d)->vr (y.mY c d) x f=vr y x f:=λx f hx hf hn=>by
  unfold vr;rw[wO,Y,EO,af (λq=>hn ⟨q.1,q.2.1⟩),Q,af (λq=>hn (hE.ds x f c d hx hf hc hd q.symm))]
 have hq:=(hF.q c d hc hd).1;obtain⟨ps,E⟩:=hF.o ((y.C c).e d).1 ((y.C c).e d).2;have h0:kh (((y.mY c d).R ((y.C c).e d).1).P ((y.C c).e d).2)=[] :=kx (by rw[Q,ag rfl])
 have Yq:vr (y.mY c d) c d=(if(y.C c).jU=true/\((y.C c).on d).length+((y.R ((y.C c).e d).1).P ((y.C c).e d).2).out.length<=2000 then vr y c d else(l5 (lq y c d) ((y.C c).on d)).1):=by
  unfold vr;rw[wO,Y,h0,aF,EO];split;{rename_i h;rw[ag h.2.2,tK,hq,oO E];rw[E.1,rL ps E.2]};rename_i h;rw[af (λq=>h ⟨rfl,rfl,q⟩)]
 have A:∀G:Nat->Nat->List mK,(∀x f,(if x<y.nc/\f<2 then vr (y.mY c d) x f else [])=G x f)->jn (y.mY c d)={jn y with F:=G}:=λG hG=>by
  refine AN.ext' rfl rfl (funext Y) rfl (funext hi) (funext M) ?_ (funext λj=> ?_);{funext x f;exact hG x f};show y.kA j++((y.mY c d).R j).kA=_;rw[J];rfl
 refine⟨⟨?_,λx f=> ?_⟩,λhr=>⟨?_,λx f hx hf=> ?_⟩⟩;{exact A _ λ_ _=>rfl};{show∃m,(if x<y.nc/\f<2 then vr (y.mY c d) x f else [])=(if x<y.nc/\f<2 then vr y x f else []).take m;split;{rename_i Z;by_cases e:x=c/\f=d;{obtain⟨rfl,rfl⟩:=e;rw[Yq];split;{exact⟨(vr y x f).length,gZ⟩};exact⟨(l5 (lq y x f) ((y.C x).on f)).1.length,by unfold vr;simp⟩};rw[u x f Z.1 Z.2 e];exact⟨(vr y x f).length,gZ⟩};exact⟨0,rfl⟩};{refine A (jn y).F λx f=> ?_;(show _=if x<y.nc/\f<2 then vr y x f else []);split;{rename_i Z;by_cases e:x=c/\f=d;{obtain⟨rfl,rfl⟩:=e;rw[Yq];obtain H|H:=hr x f hc hd;{split;{rfl};unfold vr;rw[kx H,aF]};rw[ag H]};exact u x f Z.1 Z.2 e};rfl};rw[Y,Q,hi,EO];by_cases e:x=c/\f=d;{obtain⟨rfl,rfl⟩:=e;rw[ag rfl];exact .inl rfl};rw[af (λq=>e (hE.ds x f c d hx hf hc hd q.symm)),af (λq=>e ⟨q.1,q.2.1⟩)];exact hr x f hx hf
def Ends.same {y y':jQ} (h:Ends y)(Q:y'.n=y.n)(Y:y'.nc=y.nc)(Z:∀c,(y'.C c).e=(y.C c).e)(M:∀i,(y'.R i).n=(y.R i).n):Ends y':=
 ⟨λc d c' d'=>by rw[Y,Z,Z];exact h.ds c d c' d',λc d=>by rw[Y,Z];exact h.p3 c d,λi=>by rw[M,Q];exact h.rn i,λc d=>by rw[Y,Z,Q];exact h.en c d⟩
def Ends.mY {y:jQ} (h:Ends y)(c d:Nat):Ends (y.mY c d):=h.same (oJ y c d).1 (oJ y c d).2.1 (λx=>((oJ y c d).2.2.2.2 x).1) λj=>by
 show(kK y.R ((y.C c).e d).1 _ j).n=_;by_cases e:j=((y.C c).e d).1;{subst e;rw[jd];rfl};{rw[iw _ _ e]}
def Nv {y:jQ} (hF:kF y)(Q:Ends y):∀k≤y.nc,(Ends (y.lH k)/\yD (jn y) (jn (y.lH k)))/\(Room y->jn (y.lH k)=jn y/\Room (y.lH k))
 |0,_=>⟨⟨Q,yD.refl _⟩,λh=>⟨rfl,h⟩⟩
 |k+1,hk=>by
  obtain⟨⟨Z,l1⟩,r1⟩:=Nv hF Q k fC;have f1:=kF.lH hF k fC;have n1:(y.lH k).nc=y.nc:=(lI y k).2.1;obtain⟨l2,H⟩:=Nu f1 Z k 0 (by rw[n1];omega) fF;have Y:=Z.mY k 0;have f2:=f1.mY k 0 (by rw[n1];omega);obtain⟨M,G⟩:=Nu f2 Y k 1 (by show k<(y.lH k).nc;rw[n1];omega) fF;refine⟨⟨Y.mY k 1,l1.trans (l2.trans M)⟩,λh=> ?_⟩;obtain⟨q1,s1⟩:=r1 h;obtain⟨q2,E⟩:=H s1;obtain⟨J,s3⟩:=G E;exact⟨J.trans (q2.trans q1),s3⟩
def Nw(y:jQ):∀k,jn (y.oM k)=jn y
 |0=>rfl
 |k+1=>by
  rw[<-Nw y k];obtain⟨z,Y⟩:=fH (y.oM k);show jn ((y.oM k).zL k)=jn (y.oM k);rw[Y];have Z:∀j,((z.zL k).R j).P=(z.R j).P:=λj=>by
   show(kK z.R k {z.R k with kA:=[] } j).P=_;by_cases e:j=k;{subst e;rw[jd]};{rw[iw _ _ e]}
  refine AN.ext' rfl rfl rfl rfl rfl (funext λj=> ?_) (funext λc=>funext λd=> ?_) (funext λj=> ?_);{show(kK z.R k {z.R k with kA:=[] } j).core=_;by_cases e:j=k;{subst e;rw[jd];rfl};{rw[iw _ _ e];rfl}};{show(if c<z.nc/\d<2 then(l5 (((z.zL k).R _).P _).rd _).1++kh (((z.zL k).R _).P _)else [])=_;rw[Z,Z];rfl};{show kK z.kA k (z.kA k++(z.R k).kA) j++(kK z.R k {z.R k with kA:=[] } j).kA=z.kA j++(z.R j).kA;by_cases e:j=k;{subst e;rw[jd,jd];simp};{rw[iw _ _ e,iw _ _ e]}}
def pJ {y:jQ} (hF:kF y)(Z:Ends y):yD (jn y) (jn y.gather)/\(Room y->jn y.gather=jn y):=by
 obtain⟨⟨_,l⟩,r⟩:=Nv hF Z y.nc (aj _);unfold jQ.gather;rw[Nw];exact⟨l,λh=>(r h).1⟩
def uy(a:AN)(i:Nat)(s:jO)(c d:Nat):(a.op i s).F c d=if(c<a.nc/\d<2)/\(a.e c d).1=i then a.F c d++kh (s.P (a.e c d).2)else a.F c d:=rfl
def Qc(a:AN)(i:Nat)(s:jO):(a.op i s).e=a.e:=rfl
def aiS(a:AN)(i:Nat)(s:jO):(a.op i s).nc=a.nc:=rfl
def td(a:AN)(c d:Nat)(l:List mK)(x f:Nat):(a.mN c d l).F x f=if x=c/\f=d then l else a.F x f:=rfl
def yE(a:AN)(c d:Nat)(l:List mK):(a.mN c d l).e=a.e:=rfl
def EP(a:AN)(c d:Nat)(l:List mK):(a.mN c d l).nc=a.nc:=rfl
def Norm(a:AN):Prop:=∀i,(a.R i).core=a.R i
def r7(y:jQ):Norm (jn y):=λ_=>rfl
def tD {a:AN} (h:Norm a)(i:Nat)(s:jO):Norm (a.op i s):=λj=>by
 show(kK a.R i s.core j).core=kK a.R i s.core j;by_cases e:j=i;{subst e;rw[jd];rfl};{rw[iw _ _ e];exact h j}
def Norm.out {a:AN} (h:Norm a)(i p:Nat):((a.R i).P p).out=[] :=by rw[<-h i];rfl
def Norm.kA {a:AN} (h:Norm a)(i:Nat):(a.R i).kA=[] :=by rw[<-h i];rfl
def oV.frN {r s:jO} (h:oV r s)(Y:∀p,(r.P p).out=[]):∀p,∃ps,Frames (s.P p).out ps:=λp=>by
 obtain⟨qs,Z⟩:=h.out p [] (by rw[Y p];exact Frames.nil);exact⟨_,Z⟩
def oV.kP(r:jO)(i:Nat)(x:mK):oV r (kP r i x):=by
 cases x with|nil=>exact oV.refl r|cons c s=>exact oV.take r i c s
def aiT(a:AN)(i:Nat)(s t:jO)(rd:Nat->l7)(hs:∀p,∃ps,Frames (s.P p).out ps)(Z:∀p,∃ps,Frames (t.P p).out ps):(a.op i s).op i t=a.op i (t.pat rd (λp=>(s.P p).out) s.kA):=by
 refine AN.ext' rfl rfl rfl rfl rfl (funext λj=> ?_) (funext λc=>funext λd=> ?_) (funext λj=> ?_);{show kK (kK a.R i s.core) i t.core j=kK a.R i t.core j;by_cases e:j=i;{subst e;rw[jd,jd]};rw[iw _ _ e,iw _ _ e,iw _ _ e]};{rw[uy,uy,uy,Qc,aiS];by_cases e:(c<a.nc/\d<2)/\(a.e c d).1=i;{rw[ag e,ag e,ag e,aK];congr 1;exact(BD (KU (hs _)) (Z _) _).1.symm};rw[af e,af e,af e]};show kK (kK a.ib i (a.ib i++s.kA)) i (kK a.ib i (a.ib i++s.kA) i++t.kA) j=kK a.ib i (a.ib i++(s.kA++t.kA)) j;by_cases e:j=i;{subst e;rw[jd,jd,jd,aK]};rw[iw _ _ e,iw _ _ e,iw _ _ e]
inductive Ax(c d:Nat):List mK->AN->AN->Prop
 |nil (a:AN):Ax c d [] a a
 |cons {a b:AN} {x:mK} {l r:List mK}:c<a.nc->d<2->a.F c d=x::r->Ax c d l (a.pop c d x r) b->Ax c d (x::l) a b
def Ax.path {l:List mK} {a b:AN} (h:Ax c d l a b):lh a [] [] b:=by
 induction h with|nil a=>exact lh.nil a|cons Z Y Q _ ih=>exact(lh.one (ot.pop _ _ _ _ Z Y Q)).trans ih
def afn:∀(l rest:List mK) (a:AN) (c d:Nat),Norm a->c<a.nc->d<2->a.F c d=l++rest->Ax c d l a ((a.mN c d rest).op (a.e c (1-d)).1 ((a.R (a.e c (1-d)).1).takes (a.e c (1-d)).2 l))
 |[],rest,a,c,d,hN,hc,hd,hF=>by
  have E:(a.mN c d rest).op (a.e c (1-d)).1 ((a.R (a.e c (1-d)).1).takes (a.e c (1-d)).2 [])=a:=by
   refine AN.ext' rfl rfl rfl rfl rfl ?_ (funext λx=>funext λf=> ?_) ?_;{show kK a.R _ (a.R _).core=_;rw[hN];exact qv _ _}
   ·show(if _/\_ then(if x=c/\f=d then rest else a.F x f)++kh _ else if x=c/\f=d then rest else a.F x f)=_;have A:(if x=c/\f=d then rest else a.F x f)=a.F x f:=by
     split;{rename_i h;rw[h.1,h.2,hF];rfl};{rfl}
    rw[A];split;{show _++kh ((a.R _).P _)=_;rw[kx (hN.out _ _),aF]};{rfl}
   ·show kK a.ib _ (a.ib _++(a.R _).kA)=_;rw[hN.kA,aF];exact qv _ _
  rw[E];exact Ax.nil a
 |x::l,rest,a,c,d,hN,hc,hd,hF=>by
  obtain⟨i,hi⟩:=fH ((a.e c (1-d)).1);obtain⟨p,M⟩:=fH ((a.e c (1-d)).2);have hs:=(oV.kP (a.R i) p x).frN (hN.out i);obtain⟨s,Z⟩:=fH (kP (a.R i) p x);have pX:a.pop c d x (l++rest)=(a.mN c d (l++rest)).op i s:=by unfold AN.pop;rw[hi,M,Z]
  rw[Z]at hs;have J:Norm ((a.mN c d (l++rest)).op i s):=tD (a:=a.mN c d (l++rest)) hN i s;have G:(if c=c/\d=d then l++rest else a.F c d)=l++rest:=ag ⟨rfl,rfl⟩;have H:((a.mN c d (l++rest)).op i s).F c d=l++(if(c<a.nc/\d<2)/\(a.e c d).1=i then rest++kh (s.P (a.e c d).2)else rest):=by
   show(if(c<a.nc/\d<2)/\(a.e c d).1=i then(if c=c/\d=d then l++rest else a.F c d)++kh (s.P (a.e c d).2)else(if c=c/\d=d then l++rest else a.F c d))=_;rw[G];split<;>simp
  have ih:=afn l _ _ c d J hc hd H;have Q:((a.mN c d (l++rest)).op i s).R i=s.core:=jd _ _ _;have Y:=ih;have j:((a.mN c d (l++rest)).op i s).e=a.e:=rfl;rw[j,hi,M,Q]at Y;have u:(((a.mN c d (l++rest)).op i s).mN c d (if(c<a.nc/\d<2)/\(a.e c d).1=i then rest++kh (s.P (a.e c d).2)else rest))=(a.mN c d rest).op i s:=by
   refine AN.ext' rfl rfl rfl rfl rfl rfl (funext λy=>funext λf=> ?_) rfl;rw[td,uy,uy,td,td,yE,yE,EP,EP];by_cases e:y=c/\f=d;{rw[ag e,ag e,e.1,e.2]};{rw[af e,af e,af e]}
  rw[u,aiT _ _ _ _ (λq=>(s.P q).rd) hs ((oV.takes l s.core p).frN λ_=>rfl),<-CU,wF]at Y;rw[hi,M];show Ax c d (x::l) a ((a.mN c d rest).op i ((kP (a.R i) p x).takes p l));rw[Z];exact Ax.cons (r:=l++rest) hc hd hF (by rw[pX];exact Y)
def GX {y:jQ} (hF:kF y)(hE:Ends y)(c d k:Nat)(hc:c<y.nc)(hd:d<2):∃l rest,vr y c d=l++rest/\l=(l5 (lq y c d) (((y.C c).on d).take k)).1/\jn (y.ky c d k)=((jn y).mN c d rest).op ((y.C c).e (1-d)).1 (((y.R ((y.C c).e (1-d)).1).core).takes ((y.C c).e (1-d)).2 l):=by
 obtain⟨i,hi⟩:=fH (((y.C c).e (1-d)).1);obtain⟨p,M⟩:=fH (((y.C c).e (1-d)).2);obtain⟨A,hA⟩:=fH (l5 ((y.R i).P p).rd (((y.C c).on d).take k));have E:lq y c d=((y.R i).P p).rd:=by unfold lq;rw[hi,M]
 have H:(l5 (lq y c d) ((y.C c).on d)).1=A.1++(l5 A.2.2 (((y.C c).on d).drop k)).1:=by
  have:=tK (lq y c d) (((y.C c).on d).take k) (((y.C c).on d).drop k);rw[da,E,hA]at this;rw[E,this]
 refine⟨A.1,(l5 A.2.2 (((y.C c).on d).drop k)).1++kh ((y.R ((y.C c).e d).1).P ((y.C c).e d).2),?_,by rw[E,hA],?_⟩;{unfold vr;rw[H,aK]};rw[hi,M]
 have Q:(y.R i).recv p (((y.C c).on d).take k)=(((y.R i).core).takes p A.1).pat (kK (λq=>((y.R i).P q).rd) p A.2.2) (λq=>((y.R i).P q).out) (y.R i).kA:=by
  rw[<-CU];unfold jO.recv;simp only;rw[hA];congr 1;unfold jO.jW jO.pat jO.core kB.pt;simp only[jm];congr 1;funext q;by_cases e:q=p;{subst e;rw[kJ,jd]};rw[kC _ _ e,iw _ _ e]
 have hs:=(oV.takes A.1 (y.R i).core p).frN λ_=>rfl;obtain⟨s,Vx⟩:=fH (((y.R i).core).takes p A.1);rw[Vx]at Q hs⊢
 have J:∀j,(y.ky c d k).R j=if j=i then(y.R i).recv p (((y.C c).on d).take k)else y.R j:=λj=>by
  unfold jQ.ky;rw[hi,M];rfl
 have Y:∀x,((y.ky c d k).C x).e=(y.C x).e:=λx=>((tN y c d k).2.2.2 x).1
 have zA:∀x e,((y.ky c d k).C x).on e=if x=c/\e=d then((y.C c).on d).drop k else(y.C x).on e:=λx e=>by
  show((if x=c then {y.C c with on:=kK (y.C c).on d (((y.C c).on d).drop k)}else y.C x):sE).on e=_;by_cases ex:x=c;{rw[ag ex];show kK (y.C c).on d _ e=_;by_cases ed:e=d;{rw[ed,jd,ag ⟨ex,rfl⟩]};rw[iw _ _ ed,af (λh=>ed h.2),ex]};rw[af ex,af (λh=>ex h.1)]
 refine AN.ext' rfl rfl (funext Y) rfl (funext λx=>GM y c d k x) (funext λj=> ?_) (funext λx=>funext λf=> ?_) (funext λj=> ?_);{show((y.ky c d k).R j).core=kK _ i s.core j;rw[J];by_cases e:j=i;{subst e;rw[ag rfl,jd,Q,Ns]};rw[af e,iw _ _ e];rfl}
 ·(show(if x<y.nc/\f<2 then vr (y.ky c d k) x f else [])=if(x<y.nc/\f<2)/\((y.C x).e f).1=i then(if x=c/\f=d then _ else if x<y.nc/\f<2 then vr y x f else [])++kh (s.P ((y.C x).e f).2)else if x=c/\f=d then _ else if x<y.nc/\f<2 then vr y x f else []);by_cases hx:x<y.nc/\f<2
  ·rw[ag hx]
   have hq:vr (y.ky c d k) x f=(if x=c/\f=d then(l5 A.2.2 (((y.C c).on d).drop k)).1 else(l5 (lq y x f) ((y.C x).on f)).1)++(if((y.C x).e f).1=i then kh ((y.R ((y.C x).e f).1).P ((y.C x).e f).2)++kh (s.P ((y.C x).e f).2)else kh ((y.R ((y.C x).e f).1).P ((y.C x).e f).2)):=by
    unfold vr;congr 1
    ·unfold lq;rw[Y,J,zA];by_cases e:x=c/\f=d
     ·rw[ag e,ag e,e.1,e.2,hi,ag rfl,Q,M]
      have:((s.pat (kK (λq=>((y.R i).P q).rd) p A.2.2) (λq=>((y.R i).P q).out) (y.R i).kA).P p).rd=A.2.2:=by
       show kK (λq=>((y.R i).P q).rd) p A.2.2 p=_;rw[jd]
      rw[this]
     rw[af e,af e];by_cases Z:((y.C x).e (1-f)).1=i
     ·have G:((y.C x).e (1-f)).2≠p:=λG=>by
       have:=hE.ds x (1-f) c (1-d) hx.1 fC hc fC (bq (Z.trans hi.symm) (G.trans M.symm));exact e ⟨this.1,fC⟩
      rw[ag Z,Q,Z]
      have:((s.pat (kK (λq=>((y.R i).P q).rd) p A.2.2) (λq=>((y.R i).P q).out) (y.R i).kA).P ((y.C x).e (1-f)).2).rd=((y.R i).P ((y.C x).e (1-f)).2).rd:=by
       show kK (λq=>((y.R i).P q).rd) p A.2.2 ((y.C x).e (1-f)).2=_;rw[iw _ _ G]
      rw[this]
     rw[af Z]
    rw[Y,J];by_cases Z:((y.C x).e f).1=i;{rw[ag Z,ag Z,Q,Z];obtain⟨ps,u⟩:=hF.o i ((y.C x).e f).2;show kh ((s.P ((y.C x).e f).2).pt _ _)=_;rw[(BD u (hs _) _).1,oO u]};rw[af Z,af Z]
   rw[hq];by_cases e:x=c/\f=d;{rw[ag e,ag e,<-e.1,<-e.2];by_cases Z:((y.C x).e f).1=i;{rw[ag Z,ag ⟨hx,Z⟩,aK]};rw[af Z,af (λh=>Z h.2)]};rw[af e,af e,ag hx];unfold vr;by_cases Z:((y.C x).e f).1=i;{rw[ag Z,ag ⟨hx,Z⟩,aK]};rw[af Z,af (λh=>Z h.2)]
  rw[af hx,af (λh=>hx h.1),af (λh=>hx ⟨by rw[h.1];exact hc,by rw[h.2];exact hd⟩),af hx]
 show y.kA j++((y.ky c d k).R j).kA=kK _ i _ j;rw[J];by_cases e:j=i;{subst e;rw[ag rfl,jd,Q];show y.kA j++((y.R j).kA++s.kA)=(y.kA j++(y.R j).kA)++s.kA;rw[aK]};rw[af e,iw _ _ e];rfl
def Yr:((gw 10).all λs=>(ni s 1).1.all λc=>c==115||c==100)=true:=by decide+kernel
def Nx(AZ:mH):∀(l:List UInt8) (s:LS),l.all (λc=>c==115||c==100)=true->zU l s AZ=[]
 |[],_,_=>rfl
 |c::r,s,h=>by
  rw[List.all_cons,Bool.and_eq_true]at h;show Ic c s AZ++zU r _ AZ=[]
  rw[Nx AZ r _ h.2,aF];have Z:c=115 \/c=100:=by simpa using h.1
  obtain rfl|rfl:=Z<;>rfl
def Ny(h:wE s.st=true):(mV s 1).2.1=[] :=by
 obtain⟨k,M,Y⟩:=EN h;have Z:=(vG h).1;have e:mV s 1=vf s 1 (0,0,[]):=rfl;rw[e]at Z⊢
 have Q:(ki s.st 1).2.2=0:=by
  by_cases g:(ki s.st 1).2.2=0;{exact g};rw[xS _ g]at Z;exact absurd Z g
 rw[vL _ Q];(show zU (ki s.st 1).1 _ _=[]);rw[M,show ki (k:Int) 1=ni k 1 from oZ k 1 Y fF];exact Nx _ _ _ (bz.1 Yr k (aU.2 Y))
def KX(r:jO)(p:Nat)(up:Bool)(q:Nat)(Z:q≠p):((r.jT p up).1.P q).out=(r.P q).out:=by
 unfold jO.jT;simp only;split;{rfl};rw[(oI _ p nobody).2.2.2];rw[kC _ _ Z];show(m8 r.P p _ q).out=_;rw[kC _ _ Z]
def GY {r:jO} (h:wE (r.P p).L.st=true):((r.jT p false).1.P p).out=(r.P p).out:=by
 unfold jO.jT kB.jT;simp only[Bool.false_eq_true,if_false];rw[Ny h,(vG h).1];simp only[ne_eq,not_true_eq_false,if_false];rw[(oI _ p nobody).2.2.2,kJ];show(m8 r.P p _ p).out=_;rw[kJ];rfl
def RK(h:if(!up)=true then wE L.st=true else L.st=1):(mV L (if up=true then 0 else 1)).2.2=0:=by
 cases up;{exact(vG (by simpa using h)).1};exact(FY (by simpa using h)).1
def oV.ada {s:jO} (hs:∀p,(s.P p).out=[])(Q:(mV (s.P i).L (if up=true then 0 else 1)).2.2=0):∀p,∃ps,Frames ((s.jT i up).1.P p).out ps:=λp=>by
 have e:(s.P i).jT up=(({s.P i with L:=(mV (s.P i).L (if up=true then 0 else 1)).1,rd:=([],false,false)}:kB).say (mV (s.P i).L (if up=true then 0 else 1)).2.1,0):=by
  unfold kB.jT;simp only;rw[af (by simp[Q])]
 unfold jO.jT;rw[e];simp only;rw[af gZ];obtain⟨x,hx⟩:=fH (({s.P i with L:=(mV (s.P i).L (if up=true then 0 else 1)).1,rd:=([],false,false)}:kB).say (mV (s.P i).L (if up=true then 0 else 1)).2.1);have Y:ux {s.P i with L:=(mV (s.P i).L (if up=true then 0 else 1)).1,rd:=([],false,false)} x:=by rw[<-hx];exact ux.say _ _
 rw[hx,(oI _ i nobody).2.2.2];by_cases Z:p=i;{subst Z;rw[kJ];show∃ps,Frames (m8 s.P p x p).out ps;rw[kJ];obtain⟨qs,M⟩:=Y.out [] (by show Frames (s.P p).out [];rw[hs];exact Frames.nil);exact⟨_,M⟩};{rw[kC _ _ Z];show∃ps,Frames (m8 s.P i x p).out ps;rw[kC _ _ Z,hs];exact⟨[],Frames.nil⟩}
def Uw {y:jQ} (hF:∀i p,∃ps,Frames ((y.R i).P p).out ps)(hG:GN y)(hE:Ends y)(c:Nat)(up:Bool)(hc:c<y.nc)(hu:(y.C c).jU= !up)(ho:∀d<2,((y.R ((y.C c).e d).1).P ((y.C c).e d).2).out=[]):jn (y.lD c up)=(jn y).jT c up/\(∀i p,(∀d<2,(y.C c).e d≠(i,p))->(((y.lD c up).R i).P p).out=((y.R i).P p).out)/\(up=false->∀d<2,(((y.lD c up).R ((y.C c).e d).1).P ((y.C c).e d).2).out=[]):=by
 have e0:=hG.ends c 0 hc fF;have e1:=hG.ends c 1 hc fF;have o0:=ho 0 fF;have o1:=ho 1 fF;rw[hu]at e0 e1
 have kf:(y.C c).e 0≠(y.C c).e 1:=λh=>by
  have:=(hE.ds c 0 c 1 hc fF hc fF h).2;omega
 obtain⟨z,hz⟩:=fH (y.nj c {y.C c with jU:=up,on:=λ_=>[] });have J:∀x,z.C x=if x=c then {y.C c with jU:=up,on:=λ_=>[] }else y.C x:=λx=>by rw[<-hz];rfl
 have G:∀x,(z.C x).e=(y.C x).e:=λx=>by rw[J];split<;>simp_all
 have Y:z.R=y.R:=by rw[<-hz];rfl
 have Q:z.nc=y.nc:=by rw[<-hz];rfl
 have aiU:∀d,(z.C c).on d=[] :=λd=>by rw[J,ag rfl]
 have pB:jn z=(({jn y with jU:=kK (jn y).jU c up}:AN).mN c 0 []).mN c 1 [] :=by
  refine AN.ext' (by rw[<-hz];rfl) Q (funext G) (by rw[<-hz];rfl) (funext λx=> ?_) (funext λj=> ?_) (funext λx=>funext λf=> ?_) (by rw[<-hz];rfl);{show(z.C x).jU=kK _ c up x;rw[J];by_cases e:x=c;{subst e;rw[ag rfl,jd]};rw[af e,iw _ _ e];rfl};{show(z.R j).core=(y.R j).core;rw[Y]};(show(if x<z.nc/\f<2 then vr z x f else [])=if x=c/\f=1 then []else if x=c/\f=0 then []else if x<y.nc/\f<2 then vr y x f else []);rw[Q];by_cases H:x<y.nc/\f<2
  ·rw[ag H,ag H];by_cases e:x=c
   ·subst e
    have:vr z x f=[] :=by
     unfold vr;rw[aiU,G,Y,kx (ho f H.2)];rfl
    rw[this];split;{rfl};split;{rfl};omega
   rw[af (λh=>e h.1),af (λh=>e h.1)];unfold vr lq;rw[J,af e,Y]
  rw[af H,af (λh=>H ⟨by rw[h.1];exact hc,fC⟩),af (λh=>H ⟨by rw[h.1];exact hc,fC⟩),af H]
 obtain⟨i,hi⟩:=fH (((y.C c).e 0).1);obtain⟨p,hp⟩:=fH (((y.C c).e 0).2);obtain⟨j,hj⟩:=fH (((y.C c).e 1).1);obtain⟨q,hq⟩:=fH (((y.C c).e 1).2);rw[hi,hp]at e0 o0;rw[hj,hq]at e1 o1;have XQ:i=j->p≠q:=λh1 h2=>kf (bq (by rw[hi,hj,h1]) (by rw[hp,hq,h2]));have d0:=RK e0.st;have d1:=RK e1.st
 have k1:((z.R i).jT p up).1=(((z.R i).core.jT p up).1).pat (kK (λs=>((z.R i).P s).rd) p ny) (λs=>((z.R i).P s).out) (z.R i).kA:=by
  have:=Nt (λs=>((z.R i).P s).rd) (λs=>((z.R i).P s).out) (z.R i).kA (z.R i).core p up (by rw[Y];exact d0);rw[wF]at this;exact this
 have f1:∀s,∃ps,Frames (((z.R i).core.jT p up).1.P s).out ps:=oV.ada (s:=(z.R i).core) (λ_=>rfl) (by rw[Y];exact d0)
 have Vy:∀(w:jQ),w.nc=y.nc->(∀x,(w.C x)=z.C x)->∀d0:Nat,d0<2->∀x f,x<w.nc->f<2->((w.C x).e (1-f)).1=((y.C c).e d0).1->kK (λs=>((w.R ((y.C c).e d0).1).P s).rd) ((y.C c).e d0).2 ny ((w.C x).e (1-f)).2=((w.R ((y.C c).e d0).1).P ((w.C x).e (1-f)).2).rd \/(w.C x).on f=[] :=λw hw hwC d0 PE x f hx hf Uq=>by
  by_cases e:((w.C x).e (1-f)).2=((y.C c).e d0).2;{refine .inr ?_;rw[hwC,G]at Uq e;have:=hE.ds x (1-f) c d0 (by rw[<-hw];exact hx) fC hc PE (bq Uq e);rw[hwC,this.1];exact aiU f};rw[iw _ _ e];exact .inl rfl
 have a1:=KW (y:=z) (by rw[Y];exact hF) i _ k1 (by have:=Vy z Q (λ_=>rfl) 0 fF;rw[hi,hp]at this;exact this) f1;obtain⟨Z,oR⟩:=fH (z.kG i ((z.R i).jT p up).1);have E:∀x,Z.C x=z.C x:=λx=>by rw[<-oR];rfl
 have A:∀k,Z.R k=if k=i then((z.R i).jT p up).1 else z.R k:=λk=>by rw[<-oR];rfl
 have M:∀k s,¬(k=i/\s=p)->((Z.R k).P s).L=((y.R k).P s).L/\((Z.R k).P s).out=((y.R k).P s).out:=λk s h=>by
  rw[A];by_cases e:k=i;{rw[ag e,e,Y];have hs:s≠p:=λh2=>h ⟨e,h2⟩;exact⟨((ze (up:=up) p (by simpa using e0)).2.2 s hs).1,KX _ _ _ _ hs⟩};rw[af e,Y];exact⟨rfl,rfl⟩
 have L1:=M j q (λh=>XQ h.1.symm h.2.symm)
 have k2:((Z.R j).jT q up).1=(((Z.R j).core.jT q up).1).pat (kK (λs=>((Z.R j).P s).rd) q ny) (λs=>((Z.R j).P s).out) (Z.R j).kA:=by
  have:=Nt (λs=>((Z.R j).P s).rd) (λs=>((Z.R j).P s).out) (Z.R j).kA (Z.R j).core q up (by show(mV ((Z.R j).P q).L _).2.2=0;rw[L1.1];exact d1);rw[wF]at this;exact this
 have f2:∀s,∃ps,Frames (((Z.R j).core.jT q up).1.P s).out ps:=oV.ada (s:=(Z.R j).core) (λ_=>rfl) (by show(mV ((Z.R j).P q).L _).2.2=0;rw[L1.1];exact d1)
 have anZ:∀k s,∃ps,Frames ((Z.R k).P s).out ps:=λk s=>by
  by_cases e:k=i/\s=p;{rw[A,ag e.1,k1,e.2];obtain⟨ps,wL⟩:=hF i p;have:=(BD wL (f1 p) (kK (λs=>((z.R i).P s).rd) p ny p)).2;rw[<-Y]at this;exact this};rw[(M k s e).2];exact hF k s
 have a2:=KW (y:=Z) anZ j _ k2 (by have:=Vy Z (by rw[<-oR];exact Q) E 1 fF;rw[hj,hq]at this;exact this) f2
 have vj:y.lD c up=Z.kG j ((Z.R j).jT q up).1:=by
  unfold jQ.lD;rw[hz];have t1:z.oH c 0 up=Z:=by unfold jQ.oH;rw[G,hi,hp,oR]
  rw[t1];unfold jQ.oH;rw[E,G,hj,hq]
 have u:∀k,(y.lD c up).R k=if k=j then((Z.R j).jT q up).1 else Z.R k:=λk=>by rw[vj];rfl
 refine⟨?_,λk s hks=> ?_,λhup d hd=> ?_⟩
 ·rw[vj,a2,<-oR,a1];unfold AN.jT;rw[<-pB]
  have t1:(jn z).pv c 0 up=(jn z).op i ((z.R i).core.jT p up).1:=by
   have ez:(jn z).e c=(y.C c).e:=G c;unfold AN.pv;rw[ez,hi,hp];rfl
  rw[t1,<-a1,oR];have ez:(jn Z).e c=(y.C c).e:=by show(Z.C c).e=_;rw[E,G]
  unfold AN.pv;rw[ez,hj,hq];rfl
 {have h0:¬(k=i/\s=p):=λh=>hks 0 fF (bq (hi.trans h.1.symm) (hp.trans h.2.symm));have h1:¬(k=j/\s=q):=λh=>hks 1 fF (bq (hj.trans h.1.symm) (hq.trans h.2.symm));rw[u];by_cases e:k=j;{rw[ag e,KX _ _ _ _ (λh=>h1 ⟨e,h⟩),<-e];exact(M k s h0).2};rw[af e];exact(M k s h0).2};subst hup;have u0:wE ((y.R i).P p).L.st=true:=by simpa using e0.st
 have u1:wE ((y.R j).P q).L.st=true:=by simpa using e1.st
 have IG:d=0 \/d=1:=fC
 have hA:((Z.R i).P p).out=[] :=by
  rw[A,ag rfl,GY (by rw[Y];exact u0),Y];exact o0
 obtain rfl|rfl:=IG;{rw[hi,hp,u];by_cases e:i=j;{rw[ag e,KX _ _ _ _ (XQ e),<-e];exact hA};rw[af e];exact hA};rw[hj,hq,u,ag rfl,GY (by rw[L1.1];exact u1),L1.2];exact o1
def ll.Qd {y:jQ} (h:ll y D 0):∀c d,c<y.nc->d<2->((y.R ((y.C c).e d).1).P ((y.C c).e d).2).out=[] :=λc d hc hd=>by
 obtain⟨Z,Y⟩:=h.en c d hc hd;exact aQ (by have:=(h.fit _ Z).2 _ Y;omega)
def ER {y:jQ} (Z:GN y)(hc:c<y.nc)(hi:(y.C c).jU=false)(Y:∀d<2,((y.R ((y.C c).e d).1).P ((y.C c).e d).2).out=[])(hd:d<2):(jn y).F c d=[] :=by
 (show(if c<y.nc/\d<2 then vr y c d else [])=[]);rw[ag ⟨hc,hd⟩];unfold vr;rw[Z.off c d hc hd hi,kx (Y d hd)];rfl
def oY(y:jQ)(l:List Nat):List (Nat×Nat):=l.flatMap λc=>[(y.C c).e 0,(y.C c).e 1]
def xd(up:Bool):∀(l:List Nat) {y:jQ},kF y->GN y->Ends y->l.Nodup->(∀c∈l,c<y.nc/\(y.C c).jU= !up)->(∀c∈l,∀d<2,((y.R ((y.C c).e d).1).P ((y.C c).e d).2).out=[])->
 lh (jn y) (if up=true then oY y l else []) [] (jn (y.kX up l))/\(up=false->(∀c d,c<y.nc->d<2->((y.R ((y.C c).e d).1).P ((y.C c).e d).2).out=[])->∀c d,c<y.nc->d<2->(((y.kX up l).R ((y.C c).e d).1).P ((y.C c).e d).2).out=[])
 |[],y,_,_,_,_,_,_=>⟨by cases up<;>exact lh.nil _,λ_ h=>h⟩
 |c::l,y,hF,hG,hE,zf,hm,ho=>by
  obtain⟨hc,hi⟩:=hm c gZ;have Z:=ho c gZ;obtain⟨a1,E,a3⟩:=Uw hF.o hG hE c up hc hi Z;obtain⟨s1,G,_,_,Y⟩:=rB y c up;have j:=hF.lD hG hE c up hc hi;have J:=hG.lD hE c up hc hi;have M:=hE.lD c up;have Q:=bE.1 zf;have kf:∀x∈l,x≠c:=λx hx e=>Q.1 (e▸hx);have zE:lh (jn y) (if up=true then [(y.C c).e 0,(y.C c).e 1]else []) [] (jn (y.lD c up)):=by
   rw[a1];cases up;{exact lh.one (ot.draw c hc (show(y.C c).jU=true by simpa using hi))};{exact lh.one (ot.jT c hc (show(y.C c).jU=false by simpa using hi) (ER hG hc (by simpa using hi) Z fF) (ER hG hc (by simpa using hi) Z fF))}
  obtain⟨y1,u⟩:=fH (y.lD c up);rw[u]at E a3 G Y j J M zE;obtain⟨p1,p2⟩:=xd up l (y:=y1) j J M Q.2 (λx hx=>⟨by rw[G];exact(hm x (by simp[hx])).1,by rw[(Y x).2,af (kf x hx)];exact(hm x (by simp[hx])).2⟩) (λx hx d hd=>by
   rw[(Y x).1];rw[E _ _ (λd' A h=>(kf x hx) (hE.ds x d c d' (hm x (by simp[hx])).1 hd hc A h.symm).1)];exact ho x (by simp[hx]) d hd)
  have hP:oY y1 l=oY y l:=by unfold oY;congr 1;funext x;rw[(Y x).1]
  refine⟨?_,λH py x d hx hd=> ?_⟩;{have:=zE.trans p1;rw[hP]at this;show lh _ _ _ (jn ((y.lD c up).kX up l));rw[u];cases up;{simpa using this};{simpa[oY]using this}}
  ·show(((y.lD c up).kX up l).R _|>.P _).out=[]
   rw[u];have:=p2 H (λx d hx hd=>by
    rw[(Y x).1];have xG:x<y.nc:=by rw[<-G];exact hx
    by_cases e:x=c;{subst e;exact a3 H d hd}
    ·rw[E _ _ (λd' A h=>e (hE.ds x d c d' xG hd hc A h.symm).1)];exact py x d xG hd) x d (by rw[G];exact hx) hd
   rw[(Y x).1]at this;exact this
structure Ux(T:List (Nat×Nat)):Prop where
 nd:T.Nodup
 len:T.length<=18
def Ux.nil:Ux [] :=⟨dC,gZ⟩
def yF {y:jQ} (Y:Ends y):∀l:List Nat,l.Nodup->(∀c∈l,c<y.nc)->(oY y l).Nodup/\(oY y l).length=2*l.length
 |[],_,_=>⟨by simp[oY],rfl⟩
 |c::l,zf,hm=>by
  have M:=bE.1 zf;obtain⟨a,b⟩:=yF Y l M.2 λx hx=>hm x (by simp[hx]);have hc:=hm c gZ;have e:oY y (c::l)=(y.C c).e 0::(y.C c).e 1::oY y l:=by simp[oY]
  have J:∀d<2,(y.C c).e d∉oY y l:=λd hd hx=>by
   obtain⟨x,Z,Q⟩:=bh.1 hx;have H:=hm x (by simp[Z]);have:(∃f,f<2/\(y.C c).e d=(y.C x).e f):=by
    simp only[jw,jx,or_false]at Q;obtain h|h:=Q;{exact⟨0,fF,h⟩};{exact⟨1,fF,h⟩}
   obtain⟨f,hf,h⟩:=this;exact M.1 ((Y.ds c d x f hc hd H hf h).1▸Z)
  refine⟨?_,by rw[e];simp only[fU,b];omega⟩;rw[e,bE,bE];refine⟨λhx=> ?_,J 1 fF,a⟩;obtain h|h:=aS.1 hx;{have:=(Y.ds c 0 c 1 hc fF hc fF h).2;omega};{exact J 0 fF h}
inductive zg:List (Nat×Nat)->AN->AN->Prop
 |nil (a:AN):zg [] a a
 |snoc {T:List (Nat×Nat)} {a b:AN} (i p:Nat):zg T a b->i<b.n->p<3->zg (T++ [(i,p)]) a (b.op i ((b.R i).jZ p))
def zg.path {a b:AN} (h:zg T a b):lh a T [] b:=by
 induction h with|nil a=>exact lh.nil a|snoc i p _ hi Z ih=>have:=ih.snoc (ot.tick i p hi Z);simpa using this
def zg.trans {a b c:AN} (h:zg T a b)(g:zg U b c):zg (T++U) a c:=by
 induction g with|nil=>simpa using h|snoc i p _ hi Z ih=>rw[<-aK];exact(ih h).snoc i p hi Z
def DJ {y:jQ} (hF:kF y)(k:Nat)(J:k<y.n):∀j≤3,zg ((gw j).map λp=>(k,p)) (jn y) (jn (y.kG k ((y.R k).j5 j)))
 |0,_=>by
  have e:y.kG k ((y.R k).j5 0)=y:=by
   show y.kG k (y.R k)=y;unfold jQ.kG;rw[qv]
  rw[e];exact zg.nil _
 |j+1,hj=>by
  have Q:=DJ hF k J j fC;have M:=hF.kG k (oV.j5 (y.R k) j);obtain⟨z,Z⟩:=fH (y.kG k ((y.R k).j5 j));rw[Z]at Q M;have Y:z.R k=(y.R k).j5 j:=by rw[<-Z];exact jd _ _ _
  have e:y.kG k ((y.R k).j5 (j+1))=z.kG k ((z.R k).jZ j):=by
   rw[Y,<-Z];show({y with R:=_}:jQ)={y with R:=kK (kK y.R k _) k _}
   congr 1
   funext x
   by_cases ex:x=k;{subst ex;rw[jd,jd];rfl};{rw[iw _ _ ex,iw _ _ ex,iw _ _ ex]}
  have H:(z.R k).jZ j=((z.R k).core.jZ j).pat (λp=>((z.R k).P p).rd) (λp=>((z.R k).P p).out) (z.R k).kA:=by
   rw[<-Uu,wF]
  rw[e,Qb M.o k H ((oV.jZ (z.R k).core j).frN λ_=>rfl),cE,dr];have RE:z.n=y.n:=by rw[<-Z];rfl
  exact Q.snoc k j (by show k<z.n;omega) fC
def Uy(k:Nat):List (Nat×Nat):=[(k,0),(k,1),(k,2)]
def GZ {y:jQ} (hF:kF y)(Y:ll y D 0)(hD:D<=900000000)(k:Nat)(Z:k<y.n):zg (Uy k) (jn y) (jn (y.kG k (y.R k).tick))/\Ends (y.kG k (y.R k).tick)/\kF (y.kG k (y.R k).tick):=by
 have h:=DJ hF k Z 3 (aj _);have e:(y.R k).tick=(y.R k).j5 3:=by unfold jO.tick;rw[(Y.rn k Z).1]
 rw[<-e]at h;exact⟨h,(Y.j6 fC Z).pI,hF.kG k (oV.j5 _ _)⟩
def JN {y:jQ} (hF:kF y)(M:ll y D 0)(Y:D<=900000000)(k:Nat)(Q:k<y.n):lh (jn y) (Uy k) [] (jn (y.tick ((k:Int)+1)).1):=by
 obtain⟨h,Z,f1⟩:=GZ hF M Y k Q;unfold jQ.tick;rw[af fC];rw[show((k:Int)+1-1).toNat=k by omega];exact h.path.lost (pJ f1 Z).1
def xe {y:jQ} (hF:kF y)(Q:ll y D 0)(hD:D<=900000000)(i d m:Int):lh (jn y) [] [] (jn (y.j7 i d m).1):=by
 unfold jQ.j7;split;{exact lh.nil _};rename_i h;have hc:i.toNat<y.nc:=fC;have hd:d.toNat<2:=fC;obtain⟨k,H⟩:=fH (min m.toNat ((y.C i.toNat).on d.toNat).length);rw[H];have Y:=Q.pI;obtain⟨l,rest,M,_,J⟩:=GX hF Y i.toNat d.toNat k hc hd
 have Z:(jn y).F i.toNat d.toNat=l++rest:=by
  show(if i.toNat<y.nc/\d.toNat<2 then vr y i.toNat d.toNat else [])=_;rw[ag ⟨hc,hd⟩,M]
 have G:=(afn l rest (jn y) i.toNat d.toNat (r7 y) hc hd Z).path;have:lh (jn y) [] [] (jn (y.ky i.toNat d.toNat k)):=by rw[J];exact G
 exact this.lost (pJ (hF.ky Y _ _ _ hc hd) (Q.ky fC hc hd).pI).1
def Uz {y:jQ} (hF:kF y)(Q:GN y)(J:ll y D 0)(i:Int)(up:Bool):∃T,Ux T/\lh (jn y) T [] (jn (y.jT i up).1):=by
 unfold jQ.jT;split;{exact⟨[],Ux.nil,lh.nil _⟩};split;{exact⟨[],Ux.nil,lh.nil _⟩};rename_i h mF;have hc:i.toNat<y.nc:=fC;have hi:(y.C i.toNat).jU= !up:=by cases hv:(y.C i.toNat).jU<;>cases up<;>simp_all
 have Y:=J.pI;have H:=(xd up [i.toNat] hF Q Y gZ (λc Z=>by simp only[jz]at Z;subst Z;exact⟨hc,hi⟩) (λc Z d hd=>by simp only[jz]at Z;subst Z;exact J.Qd _ d hc hd)).1;have M:=yF Y [i.toNat] gZ (λc Z=>by simp only[jz]at Z;subst Z;exact hc);refine⟨_,?_,H.lost (pJ (hF.lD Q Y _ _ hc hi) (Y.lD _ _)).1⟩;split;{exact⟨M.1,by rw[M.2];simp⟩};exact Ux.nil
def KY {y:jQ} (hF:kF y)(hG:GN y)(jR:ll y D 0)(i:Int):∃T,Ux T/\lh (jn y) T [] (jn (y.restart i).1):=by
 unfold jQ.restart;split;{exact⟨[],Ux.nil,lh.nil _⟩};rename_i hi;obtain⟨k,hk⟩:=fH ((i-1).toNat);have hik:i=(k:Int)+1:=fC;have Cj:k<y.n:=fC;simp only;rw[hk];obtain⟨l,hl⟩:=fH (y.nt k);rw[hl]
 have tW:∀c,c∈l↔c<y.nc/\(y.C c).jU=true/\(((y.C c).e 0).1=k \/((y.C c).e 1).1=k):=λc=>by
  rw[<-hl];unfold jQ.nt;simp[jt]
 have hll:l.length<=9:=by rw[<-hl];exact au (Av y k) jR.c9
 have G:l.Nodup:=by
  rw[<-hl];exact dX dR cB
 have xR:∀c∈l,c<y.nc/\(y.C c).jU= !false:=λc hc=>⟨((tW c).1 hc).1,((tW c).1 hc).2.1⟩
 have hE:=jR.pI;obtain⟨a,b,d⟩:=GN.kX false l hG hE G xR;have f1:=kF.kX false l hF hG hE G xR;obtain⟨p1,o1⟩:=xd false l hF hG hE G xR (λc hc d hd=>jR.Qd c d (xR c hc).1 hd);have o1:=o1 rfl jR.Qd;obtain⟨s1,s2,s3,s4,s5⟩:=oU false l y;have hpo:∀z:jQ,(∀x,(z.C x).e=(y.C x).e)->oY z l=oY y l:=λz hz=>by unfold oY;congr 1;funext x;rw[hz]
 obtain⟨Z,vS⟩:=fH (y.kX false l);rw[vS]at a b d s1 s2 s3 s4 s5 f1 p1 o1⊢
 have P8:∀c e,c<Z.nc->e<2->((Z.C c).e e).1=k->(Z.C c).jU=false:=λc e hc J heq=>by
  have kY:c<y.nc:=by rw[s2]at hc;exact hc
  rw[d c];by_cases hm:c∈l;{rw[ag hm]};rw[af hm];by_cases mF:(y.C c).jU=true;{exfalso;rw[s5 c]at heq;refine hm ((tW c).2 ⟨kY,mF,?_⟩);have:e=0 \/e=1:=fC;obtain rfl|rfl:=this;{exact .inl heq};exact .inr heq};simpa using mF
 have Q:∀c d,c<Z.nc->d<2->((Z.R ((Z.C c).e d).1).P ((Z.C c).e d).2).out=[] :=λc d hc hd=>by
  rw[s5 c];exact o1 c d (by rw[<-s2];exact hc) hd
 have f2:=f1.anew a k i (y.ms k) P8
 have a2:GN (Z.kG k (kZ i 3 (y.ms k))):=by
  refine a.kG k _ (λc e hc J heq _=> ?_);rw[P8 c e hc J heq];have hI:=sU i (y.ms k) ((Z.C c).e e).2;exact⟨by simpa using hI.st,λe=>absurd (by rw[hI.pe];rfl) e⟩
 have b2:Ends (Z.kG k (kZ i 3 (y.ms k))):=⟨b.ds,b.p3,λj=>by
  show(kK Z.R k _ j).n=3 \/Z.n<=j;by_cases e:j=k;{rw[e,jd];exact .inl rfl}
  ·rw[iw _ _ e];exact b.rn j,b.en⟩
 have Ez:lh (jn Z) [] [] (jn (Z.kG k (kZ i 3 (y.ms k)))):=by
  have lz:=ot.anew (a:=jn Z) k (Z.kA k).length (by show k<Z.n;omega) (λc e hc J heq=>by
   have u:=P8 c e hc J heq;exact⟨u,ER a hc u (λd hd=>Q c d hc hd) fF,ER a hc u (λd hd=>Q c d hc hd) fF⟩)
  have heq:jn (Z.kG k (kZ i 3 (y.ms k)))={jn Z with R:=kK (jn Z).R k (kZ ((k:Int)+1) 3 ((jn Z).ms k)),ib:=kK (jn Z).ib k (((jn Z).ib k).take (Z.kA k).length)}:=by
   refine AN.ext' rfl rfl rfl rfl rfl (funext λj=> ?_) (funext λc=>funext λe=> ?_) (funext λj=> ?_);{show(kK Z.R k _ j).core=kK _ k (kZ ((k:Int)+1) 3 (Z.ms k)) j;by_cases Y:j=k;{rw[Y,jd,jd,hik,s3];rfl};rw[iw _ _ Y,iw _ _ Y];rfl}
   ·(show(if c<Z.nc/\e<2 then vr (Z.kG k (kZ i 3 (y.ms k))) c e else [])=if c<Z.nc/\e<2 then vr Z c e else []);split
    ·rename_i Ew;obtain⟨hc,J⟩:=Ew
     have hP:∀p,(((Z.kG k (kZ i 3 (y.ms k))).R k).P p).out=[] :=λp=>by
      (show((kK Z.R k _ k).P p).out=[]);rw[jd];rfl
     have hO:kh (((Z.kG k (kZ i 3 (y.ms k))).R ((Z.C c).e e).1).P ((Z.C c).e e).2)=kh ((Z.R ((Z.C c).e e).1).P ((Z.C c).e e).2):=by
      by_cases A:((Z.C c).e e).1=k;{rw[kx (Q c e hc J),A,kx (hP _)]};show kh ((kK Z.R k _ _).P _)=_;rw[iw _ _ A]
     show(l5 (lq (Z.kG k (kZ i 3 (y.ms k))) c e) ((Z.C c).on e)).1++kh (((Z.kG k (kZ i 3 (y.ms k))).R ((Z.C c).e e).1).P ((Z.C c).e e).2)=_;rw[hO];congr 1;by_cases A:((Z.C c).e (1-e)).1=k;{have u:=P8 c (1-e) hc fC A;rw[a.off c e hc J u];rfl}
     have hR:lq (Z.kG k (kZ i 3 (y.ms k))) c e=lq Z c e:=by
      show((kK Z.R k _ ((Z.C c).e (1-e)).1).P ((Z.C c).e (1-e)).2).rd=_;rw[iw _ _ A];rfl
     rw[hR]
    rfl
   show Z.kA j++(kK Z.R k (kZ i 3 (y.ms k)) j).kA=kK _ k ((Z.kA k++(Z.R k).kA).take (Z.kA k).length) j;by_cases Y:j=k;{rw[Y,jd,jd,List.take_left];show Z.kA k++ [] =_;rw[aF]};rw[iw _ _ Y,iw _ _ Y];rfl
  rw[heq];exact lh.one lz
 obtain⟨H,VA⟩:=fH (Z.kG k (kZ i 3 (y.ms k)));have M:H.C=Z.C:=by rw[<-VA];rfl
 have E:H.nc=Z.nc:=by rw[<-VA];rfl
 rw[VA]at f2 a2 b2 Ez⊢;have Kh:∀c∈l,c<H.nc/\(H.C c).jU= !true:=λc hc=>⟨by rw[E,s2];exact((tW c).1 hc).1,by rw[M,d c,ag hc];rfl⟩
 have kt:∀j p,((H.R j).P p).out=[] \/((H.R j).P p).out=((Z.R j).P p).out:=λj p=>by
  rw[<-VA];show((kK Z.R k _ j).P p).out=[] \/((kK Z.R k _ j).P p).out=_;by_cases Y:j=k;{rw[Y,jd];exact .inl rfl};rw[iw _ _ Y];exact .inr rfl
 have p2:=(xd true l f2 a2 b2 G Kh (λc hc d hd=>by
  rw[M];obtain h|h:=kt ((Z.C c).e d).1 ((Z.C c).e d).2;{exact h}
  ·rw[h];exact Q c d (by rw[<-E];exact(Kh c hc).1) hd)).1
 have g2:=GN.kX true l a2 b2 G Kh;have f3:=kF.kX true l f2 a2 b2 G Kh;have py:=((p1.trans Ez).trans p2).lost (pJ f3 g2.2.1).1;rw[hpo H (λx=>by rw[M,s5 x])]at py;have hn:=yF hE l G (λc hc=>((tW c).1 hc).1);exact⟨oY y l,⟨hn.1,by rw[hn.2];omega⟩,by simpa using py⟩
def BF(n:Nat)(f t:Int)(tx:List UInt8):List (Int×List UInt8):=if(1<=f/\f<=(n:Int))/\(1<=t/\t<=6)/\tx.length<=20 then [(t,tx)]else []
def UA {y:jQ} (hF:kF y)(G:ll y D 0)(hD:D<=900000000)(f t:Int)(tx:List UInt8):lh (jn y) [] (BF y.n f t tx) (jn (y.send f t tx).1):=by
 unfold jQ.send;split;{unfold BF;rw[af fC];exact lh.nil _};rename_i h;obtain⟨k,J⟩:=fH ((f-1).toNat);have Z:k<y.n:=fC;rw[J];by_cases hv:t<1 \/6<t \/20<tx.length
 ·have e:lF (y.R k) t tx=(y.R k,1):=by unfold lF;rw[ag hv]
  rw[e,ag gZ];unfold BF;rw[af fC];exact lh.nil _
 have e:lF (y.R k) t tx=((y.R k).send (t,8,tx),0):=by unfold lF;rw[af hv]
 have Y:=(G.RC fC Z t tx).pI;rw[e]at Y;rw[e,af gZ];unfold BF;rw[ag fC];have E:=oV.send (y.R k).core (t,8,tx);have H:(y.R k).send (t,8,tx)=((y.R k).core.send (t,8,tx)).pat (λp=>((y.R k).P p).rd) (λp=>((y.R k).P p).out) (y.R k).kA:=by rw[<-GV,wF]
 have Q:=Qb hF.o k H (E.frN λ_=>rfl)
 have M:lh (jn y) [] [(t,tx)] (jn (y.kG k ((y.R k).send (t,8,tx)))):=by
  rw[Q];exact lh.one (ot.send k t tx Z fC fC fC)
 exact M.lost (pJ (hF.kG k (oV.send (y.R k) (t,8,tx))) Y).1
def nJ(k:Nat):List (Nat×Nat):=(gw k).flatMap Uy
def CV(k:Nat):nJ (k+1)=nJ k++Uy k:=by simp[nJ,jA]
def pZ:∀k,(nJ k).Nodup/\(nJ k).length=3*k/\∀x∈nJ k,x.1<k
 |0=>⟨dC,rfl,λ_ h=>by simp[nJ]at h⟩
 |k+1=>by
  obtain⟨a,b,c⟩:=pZ k;rw[CV];refine⟨bS.2 ⟨a,by simp[Uy],λx hx z Z e=> ?_⟩,by simp[b,Uy];omega,λx hx=> ?_⟩;{have Y:=c x hx;subst e;simp only[Uy,jw,jx,or_false]at Z;obtain rfl|rfl|rfl:=Z<;>simp at Y};{obtain h|h:=aA.1 hx;{have:=c x h;omega};{simp only[Uy,jw,jx,or_false]at h;obtain rfl|rfl|rfl:=h<;>simp}}
def Ay {y:jQ} {D:Nat} (hF:kF y)(Z:ll y D 0)(Y:D<=800000000):∀q≤y.n,lh (jn y) (nJ q) [] (jn (y.j5 q))
 |0,_=>lh.nil _
 |q+1,hq=>by
  have n6:=Z.n6;have Q:=Ay hF Z Y q fC;have M:=JN (kF.j5 hF q) (Z.j5 Y q fC) fC q (by rw[(qA y q).1];omega);rw[CV];exact Q.trans M
def DK {y:jQ} {D:Nat} (hF:kF y)(Y:ll y D 0)(Z:D<=890000000):∀q≤9,lh (jn y) [] [] (jn (y.k9 q))
 |0,_=>lh.nil _
 |q+1,hq=>by
  have Q:=DK hF Y Z q fC;have f1:=kF.k9 hF Y Z q fC;have k1:=Y.k9 Z q fC;have M:=xe f1 k1 fC (q:Int) 0 2000;have J:=xe (f1.j7 k1 (q:Int) 0 2000) (k1.j7 fC (q:Int) 0 2000) fC (q:Int) 1 2000;exact(Q.trans M).trans J
def G0 {y:jQ} {D:Nat} (hF:kF y)(Z:ll y D 0)(Y:D<=810000000):∀t≤12,lh (jn y) [] [] (jn (y.turns t))
 |0,_=>lh.nil _
 |t+1,ht=>(G0 hF Z Y t fC).trans (DK (kF.turns hF Z Y t fC) (Z.turns Y t fC) fC y.nc Z.c9)
def Az {y:jQ} (hF:kF y)(Z:ll y D 0)(Y:D<=800000000):lh (jn y) (nJ y.n) [] (jn y.round):=by
 have n6:=Z.n6;have h:=(Ay hF Z Y y.n (aj _)).trans (G0 (hF.j5 y.n) (Z.j5 Y y.n n6) fC 12 (aj _));rw[aF]at h;exact h
def KZ(v:AV):Bool:=v.kind.toList==[115,101,110,100]
def sOf(n:Nat)(v:AV):List (Int×List UInt8):=if KZ v=true then BF n v.a v.b v.s.data.toList else []
def K0 {v:AV} (n:Nat)(h:(v.kind.toList==l)=true)(hl:(l==[115,101,110,100])=false):sOf n v=[] :=by
 unfold sOf KZ;rw[fe]at h;rw[h,hl];rfl
def Nz {y:jQ} (hF:kF y)(Y:GN y)(Z:ll y D 0)(Q:D<=800000000)(v:AV):∃T,Ux T/\lh (jn y) T (sOf y.n v) (jn (uv y v)):=by
 unfold uv;split;{rename_i h;rw[K0 y.n h fF];exact Uz hF Y Z _ _};split;{rename_i h;rw[K0 y.n h fF];by_cases hi:v.a<1 \/(y.n:Int)<v.a;{refine⟨[],Ux.nil,?_⟩;unfold jQ.tick;rw[ag hi];exact lh.nil _};have:=JN hF Z fC (v.a-1).toNat fC;rw[show(((v.a-1).toNat:Nat):Int)+1=v.a by omega]at this;exact⟨_,⟨by simp[Uy],by simp[Uy]⟩,this⟩};split;{rename_i h;rw[K0 y.n h fF];exact⟨[],Ux.nil,xe hF Z fC _ _ _⟩};split;{rename_i h;rw[K0 y.n h fF];exact KY hF Y Z _};split;{rename_i h;unfold sOf;rw[ag (show KZ v=true from h)];exact⟨[],Ux.nil,UA hF Z fC _ _ _⟩};rename_i h;unfold sOf;rw[af (show¬KZ v=true from h)];split;{obtain⟨a,b,_⟩:=pZ y.n;have:=Z.n6;exact⟨_,⟨a,by rw[b];omega⟩,Az hF Z Q⟩};exact⟨[],Ux.nil,lh.nil _⟩
def UB(m:Nat):List (Nat×Nat):=(gw m).flatMap λc=>[(c,0),(c,1)]
def qG {m:Nat} {x:Nat×Nat}:x∈UB m↔x.1<m/\x.2<2:=by
 obtain⟨c,d⟩:=x;unfold UB;simp only[List.mem_flatMap,List.mem_range,jw,Prod.mk.injEq,jx,or_false];constructor;{rintro⟨b,Z,Y|Y⟩<;>omega};rintro⟨Z,Y⟩;exact⟨c,Z,fC⟩
def zh:∀m,(UB m).Nodup
 |0=>dC
 |m+1=>by
  have e:UB (m+1)=UB m++ [(m,0),(m,1)] :=by simp[UB,jA]
  rw[e];refine bS.2 ⟨zh m,gZ,λx hx z Z h=> ?_⟩;have Y:=(qG.1 hx).1;subst h;simp only[jw,jx,or_false]at Z;obtain rfl|rfl:=Z<;>simp at Y
def sm {α:Type} (f:α->Nat)(l:List α):Nat:=(l.map f).sum
def xy {α:Type} {f g:α->Nat}:∀ {l:List α},(∀x∈l,f x<=g x)->sm f l<=sm g l
 |[],_=>aj _
 |x::l,h=>by
  have:=xy (l:=l) λy hy=>h y (by simp[hy]);have h1:=h x gZ;simp only[sm,fN,jB]at*;omega
def G4 {α:Type} (f g:α->Nat):∀l:List α,sm (λx=>f x+g x) l=sm f l+sm g l
 |[] =>rfl
 |x::l=>by
  have:=G4 f g l;simp only[sm,fN,jB]at*;omega
def rM(f:α->Nat)(l m:List α):sm f (l++m)=sm f l+sm f m:=by simp[sm]
def K3 {α:Type} [DecidableEq α] (y:α)(k:Nat):∀ {l:List α},l.Nodup->sm (λx=>if x=y then k else 0) l=if y∈l then k else 0
 |[],_=>rfl
 |x::l,h=>by
  have Z:=bE.1 h;have:=K3 y k Z.2;have e:sm (λx=>if x=y then k else 0) (x::l)=(if x=y then k else 0)+sm (λx=>if x=y then k else 0) l:=rfl;rw[e,this];by_cases hx:x=y;{subst hx;rw[ag rfl,af Z.1,ag gZ];rfl};{rw[af hx];by_cases hy:y∈l;{rw[ag hy,ag (by simp[hy])];omega};{rw[af hy,af (by simp[hy,Ne.symm hx])]}}
def BG [DecidableEq α] {f g:α->Nat} {y:α} {l:List α} (Y:l.Nodup)(hy:y∈l)(h:∀x∈l,f x+(if x=y then k else 0)<=g x):sm f l+k<=sm g l:=by
 have Z:=xy h;rw[G4,K3 y k Y,ag hy]at Z;exact Z
structure uU(a:AN):Prop where
 n6:a.n<=6
 c9:a.nc<=9
 ds:∀c d c' d',c<a.nc->d<2->c'<a.nc->d'<2->a.e c d=a.e c' d'->c=c'/\d=d'
 en:∀c d,c<a.nc->d<2->(a.e c d).1<a.n/\(a.e c d).2<3
def uU.same {a b:AN} (h:uU a)(Y:b.n=a.n)(Z:b.nc=a.nc)(Q:b.e=a.e):uU b:=
 ⟨by rw[Y];exact h.n6,by rw[Z];exact h.c9,by rw[Z,Q];exact h.ds,by rw[Y,Z,Q];exact h.en⟩
def ll.rN {y:jQ} (h:ll y D k):uU (jn y):=⟨h.n6,h.c9,h.ds,h.en⟩
def JO(e:Nat×Nat->Nat×Nat)(i:Nat)(h:Nat->Nat):∀l:List (Nat×Nat),l.Nodup->(∀x∈l,(e x).2<3)->(∀x∈l,∀y∈l,e x=e y->x=y)->sm (λx=>if(e x).1=i then h (e x).2 else 0) l<=sm (λp=>if(i,p)∈l.map e then h p else 0) [0,1,2]
 |[],_,_,_=>aw _
 |x::l,hn,hp,hi=>by
  have Y:=bE.1 hn;have ih:=JO e i h l Y.2 (λy hy=>hp y (by simp[hy])) (λy hy z H=>hi y (by simp[hy]) z (by simp[H]));have J:sm (λx=>if(e x).1=i then h (e x).2 else 0) (x::l)=(if(e x).1=i then h (e x).2 else 0)+sm (λx=>if(e x).1=i then h (e x).2 else 0) l:=rfl;rw[J];by_cases hx:(e x).1=i
  ·rw[ag hx];have G:(i,(e x).2)∉l.map e:=λZ=>by
    obtain⟨y,hy,M⟩:=bX.1 Z;have:=hi x gZ y (by simp[hy]) (by rw[M,<-hx]);exact Y.1 (this▸hy)
   have h3:sm (λp=>if(i,p)∈l.map e then h p else 0) [0,1,2] +h (e x).2<=sm (λp=>if(i,p)∈(x::l).map e then h p else 0) [0,1,2] :=by
    refine BG (y:=(e x).2) fF ?_ λp _=> ?_;{have:=hp x gZ;simp only[jw,jx,or_false];omega};{by_cases Q:p=(e x).2;{subst Q;rw[af G,ag rfl,ag (by simp[<-hx])];omega};{rw[af Q];by_cases Z:(i,p)∈l.map e;{rw[ag Z,ag (by simp only[fN,jw];exact .inr Z)];omega};{rw[af Z];omega}}}
   omega
  ·rw[af hx,aY];refine au ih (xy λp _=> ?_);by_cases Z:(i,p)∈l.map e;{rw[ag Z,ag (by simp only[fN,jw];exact .inr Z)];exact aj _};{rw[af Z];exact aw _}
def AN.W(a:AN)(w:mK->Nat):Nat:=sm (λx:Nat×Nat=>sm w (a.F x.1 x.2)) (UB a.nc)
def aft {a b:AN} (h:yD a b)(w:mK->Nat):b.W w<=a.W w:=by
 have e:b.nc=a.nc:=by rw[h.1]
 unfold AN.W;rw[e];refine xy λx _=> ?_;obtain⟨m,Z⟩:=h.2 x.1 x.2;show sm w (b.F x.1 x.2)<=sm w (a.F x.1 x.2);rw[Z];have:=rM w ((a.F x.1 x.2).take m) ((a.F x.1 x.2).drop m);rw[da]at this;omega
def Yu {a:AN} (Z:uU a)(i:Nat)(s:jO)(w:mK->Nat):(a.op i s).W w<=a.W w+(sm w (kh (s.P 0))+sm w (kh (s.P 1))+sm w (kh (s.P 2))):=by
 have Q:∀x∈UB a.nc,sm w ((a.op i s).F x.1 x.2)=sm w (a.F x.1 x.2)+(if(a.e x.1 x.2).1=i then sm w (kh (s.P (a.e x.1 x.2).2))else 0):=λx hx=>by
  have M:=qG.1 hx;rw[uy];by_cases e:(a.e x.1 x.2).1=i;{rw[ag ⟨M,e⟩,ag e,rM]};rw[af (λh=>e h.2),af e];rfl
 unfold AN.W;refine au (xy (g:=λx:Nat×Nat=>sm w (a.F x.1 x.2)+(if(a.e x.1 x.2).1=i then sm w (kh (s.P (a.e x.1 x.2).2))else 0)) λx hx=>dB (Q x hx)) ?_;rw[G4];refine Nat.add_le_add_left ?_ _;refine au (JO (λx=>a.e x.1 x.2) i (λp=>sm w (kh (s.P p))) (UB a.nc) (zh _) (λx hx=>(Z.en _ _ (qG.1 hx).1 (qG.1 hx).2).2) (λx hx z Y h=> ?_)) ?_;{have:=Z.ds _ _ _ _ (qG.1 hx).1 (qG.1 hx).2 (qG.1 Y).1 (qG.1 Y).2 h;exact bq this.1 this.2};refine au (xy (g:=λp=>sm w (kh (s.P p))) λp _=> ?_) ?_;{show(if _ then _ else 0)<=_;split;{exact aj _};exact aw _};show sm w (kh (s.P 0))+(sm w (kh (s.P 1))+(sm w (kh (s.P 2))+0))<=_;omega
def NA {a:AN} (w:mK->Nat) {x:mK} {l:List mK} (hc:c<a.nc)(hd:d<2)(h:a.F c d=x::l):(a.mN c d l).W w+w x<=a.W w:=by
 unfold AN.W;refine BG (y:=(c,d)) (zh _) (qG.2 ⟨hc,hd⟩) λy _=> ?_;show sm w (if y.1=c/\y.2=d then l else a.F y.1 y.2)+(if y=(c,d)then w x else 0)<=sm w (a.F y.1 y.2);by_cases e:y.1=c/\y.2=d;{rw[ag e,ag (bq e.1 e.2),e.1,e.2,h];show sm w l+w x<=w x+sm w l;omega};rw[af e,af (λh=>e (by rw[h];exact⟨rfl,rfl⟩))];exact aj _
def ES(a:AN)(w:mK->Nat)(c d:Nat):(a.mN c d []).W w<=a.W w:=by
 unfold AN.W;refine xy λy _=> ?_;show sm w (if y.1=c/\y.2=d then []else a.F y.1 y.2)<=sm w (a.F y.1 y.2);split;{exact aw _};exact aj _
def JQ {a:AN} (h:Norm a)(c:Nat)(up:Bool):Norm (a.jT c up):=by
 unfold AN.jT AN.pv;exact tD (tD (a:=(({a with jU:=kK a.jU c up}:AN).mN c 0 []).mN c 1 []) h _ _) _ _
def ot.norm {a b:AN} (h:ot a T S b)(Z:Norm a):Norm b:=by
 cases h with|lost h=>rw[h.1];exact Z|tick i p _ _=>exact tD Z _ _|pop c d x l _ _ _=>exact tD (a:=a.mN c d l) Z _ _|send i t tx _ _ _ _=>exact tD Z _ _|jT c _ _ _ _=>exact JQ Z c true|draw c _ _=>exact JQ Z c false|anew i m _ _=>intro j;show(kK a.R i _ j).core=kK a.R i _ j;by_cases e:j=i;{subst e;rw[jd];rfl};{rw[iw _ _ e];exact Z j}
def lh.rN {a b:AN} (h:lh a T S b)(Z:uU a):uU b:=Z.same h.same.1 h.same.2.1 h.same.2.2.1
def lh.norm {a b:AN} {T:List (Nat×Nat)} {S:List (Int×List UInt8)} (h:lh a T S b)(Z:Norm a):Norm b:=by
 induction h with|nil=>exact Z|snoc _ s ih=>exact s.norm ih
def JR(r:jO):Prop:=∀p,(r.P p).out=[]
def Norm.emp {a:AN} (h:Norm a)(i:Nat):JR (a.R i):=h.out i
def Fr(p:kB):Prop:=∃ps,Frames p.out ps
def JR.fr {r:jO} (h:JR r)(p:Nat):Fr (r.P p):=⟨[],by rw[h];exact Frames.nil⟩
def Fr.put {p:kB} (h:Fr p)(c:UInt8)(s:List UInt8):Fr (p.put c s):=(ux.put p c s).fr h
def pw {p q:kB} (h:q.out=p.out):kh q=kh p:=by unfold kh;rw[h]
def uV {p:kB} (h:Fr p)(c:UInt8)(s:List UInt8):kh (p.put c s)=kh p++(if(c≠76/\p.L.st≠9) \/60<s.length+1 then []else [c::s]):=by
 obtain⟨ps,Z⟩:=h;unfold kB.put;split;{rename_i g;rw[ag (.inl g)];simp};rename_i g;split;{rename_i hl;rw[af (λz=>z.elim g fC)];have Y:Frames ({p with out:=p.out++Plain.mW (c::s)}:kB).out (ps++ [c::s]):=Z.snoc ⟨gZ,by simpa using hl⟩;rw[oO Y,oO Z]};rw[ag (.inr fC)];simp
def qg(q:mH):List mK:=if lg q.1 q.2.1 q.2.2=0/\(oj q.1 q.2.1 q.2.2).length+1<=60 then [76::oj q.1 q.2.1 q.2.2]else []
def yG:∀(l:List mH) {p:kB},Fr p->kh (p.say l)=kh p++l.flatMap qg/\Fr (p.say l)
 |[],p,h=>⟨by simp[kB.say],h⟩
 |q::r,p,h=>by
  show kh ((if lg q.1 q.2.1 q.2.2=0 then p.put 76 (oj q.1 q.2.1 q.2.2)else p).say r)=_/\Fr ((if lg q.1 q.2.1 q.2.2=0 then p.put 76 (oj q.1 q.2.1 q.2.2)else p).say r);rw[cF];unfold qg;split
  ·rename_i g
   obtain⟨a,b⟩:=yG r (h.put 76 (oj q.1 q.2.1 q.2.2));refine⟨?_,b⟩;rw[a,uV h,aK];congr 2;by_cases hl:(oj q.1 q.2.1 q.2.2).length+1<=60;{rw[af (by simp;omega),ag ⟨g,hl⟩]};{rw[ag (.inr fC),af (λz=>hl z.2)]}
  ·rename_i g
   obtain⟨a,b⟩:=yG r h;exact⟨by rw[a,af (λz=>g z.1)];rfl,b⟩
def ET(q:Int×PS):List mK:=if(tI q.1 q.2.1 q.2.2).length+1<=60 then [83::tI q.1 q.2.1 q.2.2]else []
def DL:∀(l:List (Int×PS)) {p:kB},Fr p->p.L.st=9->kh (p.mA l)=kh p++l.flatMap ET
 |[],p,h,_=>by simp[kB.mA]
 |q::r,p,h,h9=>by
  show kh ((p.put 83 (tI q.1 q.2.1 q.2.2)).mA r)=_;rw[DL r (h.put 83 _) (by rw[yA];exact h9),uV h,cF,aK];congr 2;unfold ET;by_cases hl:(tI q.1 q.2.1 q.2.2).length+1<=60;{rw[af fC,ag hl]};{rw[ag (.inr fC),af hl]}
def lP(r:jO)(i:Nat)(q:mX)(p:Nat):((r.meet i q).P p).out=(r.P p).out/\((r.meet i q).P p).L=(r.P p).L/\((r.meet i q).P p).m=(r.P p).m/\((r.meet i q).P p).pe=if p=i then q else(r.P p).pe:=by
 rw[(oI r i q).2.2.2];by_cases e:p=i;{subst e;rw[kJ,ag rfl];exact⟨rfl,rfl,rfl,rfl⟩};rw[kC _ _ e,af e];exact⟨rfl,rfl,rfl,rfl⟩
def mD(r:jO)(i:Nat)(q:kB)(p:Nat):(r.jW i q).P p=if p=i then q else r.P p:=rfl
def zi {r:jO} (h:JR r)(i:Nat)(c:UInt8)(s:List UInt8):(∀p,kh ((lE r i c s).P p)=if p=i/\c=76/\(j3 s).2.2.2=0 then(kV (r.P i).L ((j3 s).1,(j3 s).2.1,(j3 s).2.2.1)).2.1.flatMap qg else [])/\(∀p,Fr ((lE r i c s).P p))/\(∀p,((lE r i c s).P p).pe=(r.P p).pe/\((lE r i c s).P p).m=(r.P p).m/\((lE r i c s).P p).L=if p=i/\c=76/\(j3 s).2.2.2=0 then(kV (r.P i).L ((j3 s).1,(j3 s).2.1,(j3 s).2.2.1)).1 else(r.P p).L)/\(lE r i c s).K=r.K/\(lE r i c s).O=r.O/\(lE r i c s).kA=r.kA/\(lE r i c s).id=r.id/\(lE r i c s).n=r.n:=by
 unfold lE;by_cases hc:c=76
 ·rw[ag hc];obtain⟨E,Y⟩:=fH (kV (r.P i).L ((j3 s).1,(j3 s).2.1,(j3 s).2.2.1));rw[Y]
  have Z:(r.P i).packet s=if(j3 s).2.2.2=0 then({r.P i with L:=E.1}:kB).say E.2.1 else r.P i:=by
   unfold kB.packet;simp only;rw[Y]
  have hs:=yG E.2.1 (p:={r.P i with L:=E.1}) (show Fr _ from h.fr i);have M:kh ({r.P i with L:=E.1}:kB)=[] :=kx (h i);have Q:=yr E.2.1 ({r.P i with L:=E.1}:kB);have J:=GJ E.2.1 ({r.P i with L:=E.1}:kB);refine⟨λp=> ?_,λp=> ?_,λp=> ?_,rfl,rfl,rfl,rfl,rfl⟩;{rw[mD];by_cases e:p=i;{rw[ag e,Z];by_cases f:(j3 s).2.2.2=0;{rw[ag f,ag ⟨e,hc,f⟩,hs.1,M];rfl};rw[af f,af (λz=>f z.2.2),kx (h i)]};rw[af e,af (λz=>e z.1),kx (h p)]};{rw[mD,Z];split;{split;{exact hs.2};exact h.fr i};exact h.fr p};rw[mD,Z];by_cases e:p=i;{subst e;rw[ag rfl];by_cases f:(j3 s).2.2.2=0;{rw[ag f,ag ⟨rfl,hc,f⟩,Q.1,Q.2,J];exact⟨rfl,rfl,rfl⟩};rw[af f,af (λz=>f z.2.2)];exact⟨rfl,rfl,rfl⟩};rw[af e,af (λz=>e z.1)];exact⟨rfl,rfl,rfl⟩
 rw[af hc];refine⟨λp=> ?_,λp=>h.fr p,λp=> ?_,rfl,rfl,rfl,rfl,rfl⟩;{rw[af (λz=>hc z.2.1),kx (h p)]};rw[af (λz=>hc z.2.1)];exact⟨rfl,rfl,rfl⟩
def uW {r:jO} (i:Nat) {c:UInt8} (s:List UInt8)(hc:c≠76):lE r i c s=r:=by unfold lE;rw[af hc]
def Yv {r:jO} (h:JR r)(i:Nat)(s:List UInt8)(p:Nat):kh ((kj r i s).P p)=[] \/(p=i/\(ig s).2.2.2=0/\(r.P i).pe.both=true/\¬((ig s).1=r.id/\0<newF r.K (ig s).1 (ig s).2.1 (ig s).2.2.1)/\0<=newF r.K (ig s).1 (ig s).2.1 (ig s).2.2.1/\kh ((kj r i s).P p)=[65::tI (ig s).1 (ig s).2.1 (ig s).2.2.1]):=by
 unfold kj;simp only;split;{exact .inl (kx (h p))};rename_i Z;split;{left;rw[(qy r _).2.2.2];exact kx (h p)};rename_i Y;split;{rename_i Q;rw[mD];by_cases e:p=i;{rw[ag e,uV (h.fr i),kx (h i)];split;{exact .inl rfl};refine .inr ⟨e,fC,?_,Y,Q,rfl⟩;cases M:(r.P i).pe.both;{exact absurd (.inr M) Z};rfl};rw[af e];exact .inl (kx (h p))};exact .inl (kx (h p))
def zj {r:jO} (h:JR r)(t:wK):∃j,(∀p,p≠j->kh ((r.send t).P p)=[])/\(kh ((r.send t).P j)=[] \/(((r.P j).L.st=9/\1<=t.2.1)/\kh ((r.send t).P j)=[77::kI t.1::kI (t.2.1-1)::t.2.2])):=by
 unfold jO.send;split;{exact⟨0,λp _=>kx (h p),.inl (kx (h 0))⟩};cases hv:(if 1<=t.2.1 then(ye (n8 r) t.1).bind λh=>kQ r.P h.qT r.n else ν)with
 |none=>exact⟨0,λp _=>kx (h p),.inl (kx (h 0))⟩
 |some i=>
  have Y:1<=t.2.1:=by
   by_cases g:1<=t.2.1;{exact g};{rw[af g]at hv;simp at hv}
  refine⟨i,λp Q=> ?_,?_⟩
  ·show kh ((r.jW i _).P p)=[]
   rw[mD,af Q];exact kx (h p)
  ·show kh ((r.jW i _).P i)=[] \/(((r.P i).L.st=9/\1<=t.2.1)/\kh ((r.jW i _).P i)=_);rw[mD,ag rfl,uV (h.fr i),kx (h i)];split;{exact .inl rfl}
   ·rename_i g
    refine .inr ⟨⟨?_,Y⟩,rfl⟩;by_cases Z:(r.P i).L.st=9;{exact Z};{exact absurd (.inl ⟨fF,Z⟩) g}
inductive G5(r:jO)(i:Nat)(x:mK)(p:Nat)(l:List mK):Prop
 |none:l=[]->G5 r i x p l
 |link (s:List UInt8):x=76::s->p=i->(j3 s).2.2.2=0->l=(kV (r.P i).L ((j3 s).1,(j3 s).2.1,(j3 s).2.2.1)).2.1.flatMap qg->G5 r i x p l
 |heard (s:List UInt8):x=83::s->p=i->(r.P i).L.st=9->(ig s).2.2.2=0->(r.P i).pe.both=true->¬((ig s).1=r.id/\0<newF r.K (ig s).1 (ig s).2.1 (ig s).2.2.1)->0<=newF r.K (ig s).1 (ig s).2.1 (ig s).2.2.1->l=[65::tI (ig s).1 (ig s).2.1 (ig s).2.2.1]->G5 r i x p l
 |K5 (a b:UInt8) (s:List UInt8):x=77::a::b::s->(r.P p).L.st=9->1<=b.toNat->s.length<=20->l=[77::a::kI ((b.toNat:Int)-1)::s]->G5 r i x p l
def r8 {r:jO} (h:JR r)(i:Nat)(x:mK):(∀p,G5 r i x p (kh ((kP r i x).P p)))/\∀p q,kh ((kP r i x).P p)≠ []->kh ((kP r i x).P q)≠ []->p=q:=by
 have Q:∀r':jO,(∀p,kh (r'.P p)=[])->(∀p,G5 r i x p (kh (r'.P p)))/\∀p q,kh (r'.P p)≠ []->kh (r'.P q)≠ []->p=q:=λr' G=>⟨λp=>.none (G p),λp q Z=>absurd (G p) Z⟩
 cases x with
 |nil=>exact Q r λp=>kx (h p)
 |cons c s=>
  show(∀p,G5 r i (c::s) p (kh ((r.take i c s).P p)))/\_;have A:kP r i (c::s)=r.take i c s:=rfl;rw[A];by_cases hc:c=76
  ·obtain⟨H,a2,a3,_⟩:=zi h i c s;have E:∀p,kh ((r.take i c s).P p)=kh ((lE r i c s).P p):=λp=>by
    rw[mZ];split;{exact pw (lP _ _ _ _).1};{unfold nL;rw[af (by rw[hc];decide),af (by rw[hc];decide),af (by rw[hc];decide),af (by rw[hc];decide)]}
   refine⟨λp=> ?_,λp q Z Y=> ?_⟩
   ·rw[E,H];split
    ·rename_i g
     exact .link s (by rw[hc]) g.1 g.2.2 rfl
    ·exact .none rfl
   ·rw[E,H]at Z Y;split at Z
    ·rename_i g
     split at Y;{rename_i M;exact g.1.trans M.1.symm};{exact absurd rfl Y}
    ·exact absurd rfl Z
  ·rw[mZ,uW i s hc];by_cases J:(r.P i).L.st=9
   ·rw[af (by rw[J];simp)];unfold nL;split;{split;{exact Q _ λp=>by rw[pw (lP _ _ _ _).1];exact kx (h p)};{exact Q _ λp=>kx (h p)}}
    ·split
     ·rename_i hS
      have hs:=Yv h i s;refine⟨λp=> ?_,λp q Z Y=> ?_⟩;{obtain g|⟨g1,M,g3,g4,g5,g6⟩:=hs p;{exact .none g};{exact .heard s (by rw[hS]) g1 J M g3 g4 g5 g6}};{obtain g|g:=hs p;{exact absurd g Z};{obtain f|f:=hs q;{exact absurd f Y};{exact g.1.trans f.1.symm}}}
     ·split;{refine Q _ λp=> ?_;unfold lV;simp only;split<;>exact kx (h p)}
      ·split
       ·rename_i hM
        unfold sT;split
        ·rename_i hl
         match s,hl with
         |a::b::u,hl=>
          obtain⟨j,g1,M⟩:=zj h (((((a::b::u).getD 0 0).toNat:Nat):Int),((((a::b::u).getD 1 0).toNat:Nat):Int),(a::b::u).drop 2);have y:((a::b::u).getD 0 0)=a:=rfl;have e2:((a::b::u).getD 1 0)=b:=rfl;have e3:(a::b::u).drop 2=u:=rfl;rw[y,e2,e3]at g1 M⊢;refine⟨λp=> ?_,λp q Z Y=> ?_⟩
          ·by_cases e:p=j
           ·subst e;obtain g|⟨g,f⟩:=M;{exact .none g}
            ·obtain⟨g9,g⟩:=g;have ea:kI ((a.toNat:Nat):Int)=a:=by unfold kI;simp
             refine .K5 a b u (by rw[hM]) g9 (by simp only at g;omega) ?_ ?_;{simp only[fU]at hl;omega};{rw[f];show [77::kI ((a.toNat:Nat):Int)::_::u] =_;rw[ea]}
           ·exact .none (g1 p e)
          ·by_cases e:p=j;{by_cases f:q=j;{rw[e,f]};{exact absurd (g1 q f) Y}};{exact absurd (g1 p e) Z}
        ·exact Q _ λp=>kx (h p)
       ·exact Q _ λp=>kx (h p)
   ·rw[ag J];exact Q _ λp=>by rw[pw (lP _ _ _ _).1];exact kx (h p)
def zk {r:jO} (h:JR r)(i:Nat):(∀p,p≠i->kh ((r.jZ i).P p)=[])/\kh ((r.jZ i).P i)=(j8 (r.P i).L).2.flatMap qg++(if(j8 (r.P i).L).1.st=9 then(72::[kI r.id,kI (jP (r.P i).pe).who])::(if(jP (r.P i).pe).both=true then(nu (((j6 r i).meet i (jP (r.P i).pe)).O i)).flatMap ET else [])else []):=by
 have hs:=yG (j8 (r.P i).L).2 (p:={r.P i with L:=(j8 (r.P i).L).1}) (show Fr _ from h.fr i);have j:kh ({r.P i with L:=(j8 (r.P i).L).1}:kB)=[] :=kx (h i);have hm:=(yr (j8 (r.P i).L).2 ({r.P i with L:=(j8 (r.P i).L).1}:kB)).2;have hL:=GJ (j8 (r.P i).L).2 ({r.P i with L:=(j8 (r.P i).L).1}:kB)
 have Y:∀p,(j6 r i).P p=if p=i then({r.P i with L:=(j8 (r.P i).L).1}:kB).say (j8 (r.P i).L).2 else r.P p:=λp=>by
  unfold j6;rw[mD];rfl
 have pX:((j6 r i).P i).pe=(r.P i).pe:=by rw[Y,ag rfl,hm]
 have u:((j6 r i).P i).L.st=(j8 (r.P i).L).1.st:=by rw[Y,ag rfl,hL]
 have qo:(j6 r i).id=r.id:=rfl
 have H:kh ((j6 r i).P i)=(j8 (r.P i).L).2.flatMap qg/\Fr ((j6 r i).P i):=by
  rw[Y,ag rfl,hs.1,j];exact⟨rfl,hs.2⟩
 rw[mO,u,pX];by_cases Z:(j8 (r.P i).L).1.st=9
 ·rw[af (by rw[Z];simp),ag Z];obtain⟨x,hx⟩:=fH ((j6 r i).meet i (jP (r.P i).pe));obtain⟨m1,m2,_,E⟩:=lP (j6 r i) i (jP (r.P i).pe) i;have J:x.id=r.id:=by rw[<-hx];exact(kR.meet (j6 r i) i _).id
  rw[hx]at m1 m2 E;rw[ag rfl]at E;have G:kh (x.P i)=(j8 (r.P i).L).2.flatMap qg:=by rw[pw m1];exact H.1
  have y:Fr (x.P i):=by obtain⟨ps,wL⟩:=H.2;exact⟨ps,by rw[m1];exact wL⟩
  have Q:(x.P i).L.st=9:=by rw[m2,u];exact Z
  rw[hx];unfold oa;simp only;refine⟨λp M=> ?_,?_⟩;{rw[mD,af M,<-hx,pw (lP _ _ _ _).1,Y,af M];exact kx (h p)};rw[mD,ag rfl,E,J];have A:=uV y 72 [kI r.id,kI (jP (r.P i).pe).who];rw[af (by rw[Q];simp),G]at A;split;{rw[DL _ (y.put 72 _) (by rw[yA];exact Q),A,aK];rfl};rw[A]
 rw[ag Z,af Z];refine⟨λp M=> ?_,?_⟩;{rw[pw (lP _ _ _ _).1,Y,af M];exact kx (h p)};rw[pw (lP _ _ _ _).1,H.1,aF]
def K6 {r:jO} (h:JR r)(i:Nat)(up:Bool)(Y:(mV (r.P i).L (if up=true then 0 else 1)).2.2=0):(∀p,p≠i->kh ((r.jT i up).1.P p)=[])/\kh ((r.jT i up).1.P i)=(mV (r.P i).L (if up=true then 0 else 1)).2.1.flatMap qg/\(r.jT i up).1=((r.jW i (({r.P i with L:=(mV (r.P i).L (if up=true then 0 else 1)).1,rd:=ny}:kB).say (mV (r.P i).L (if up=true then 0 else 1)).2.1)).meet i nobody):=by
 obtain⟨E,Q⟩:=fH (mV (r.P i).L (if up=true then 0 else 1));rw[Q]at Y⊢;have hs:=yG E.2.1 (p:={r.P i with L:=E.1,rd:=ny}) (show Fr _ from h.fr i);have M:kh ({r.P i with L:=E.1,rd:=ny}:kB)=[] :=kx (h i)
 have e:(r.P i).jT up=(({r.P i with L:=E.1,rd:=ny}:kB).say E.2.1,0):=by
  unfold kB.jT;rw[Q];simp only;rw[af (by simp[Y])];rfl
 have Z:(r.jT i up).1=(r.jW i (({r.P i with L:=E.1,rd:=ny}:kB).say E.2.1)).meet i nobody:=by
  unfold jO.jT;rw[e];simp only;rw[af gZ]
 refine⟨λp J=> ?_,?_,Z⟩;{rw[Z,pw (lP _ _ _ _).1,mD,af J];exact kx (h p)};rw[Z,pw (lP _ _ _ _).1,mD,ag rfl,hs.1,M];rfl
structure Own(r:jO):Prop where
 tie:∀p x q,r.O p x=μ q->r.K x=μ q
 val:∀x q,r.K x=μ q->qq x q.1 q.2=0
 own:Ei r.K r.id=kH r
def nU(B:Nat)(r:jO):Prop:=∀x q,r.K x=μ q->q.1<=(B:Int)
def nU.mono {r:jO} (h:nU B r)(hc:B<=C):nU C r:=λx q Z=>by have:=h x q Z;omega
def DM {P Q:Nat->kB} (n:Int)(h:∀p,(Q p).m=(P p).m/\(Q p).pe.who=(P p).pe.who/\(Q p).pe.both=(P p).pe.both):∀k,kQ Q n k=kQ P n k
 |0=>rfl
 |k+1=>by
  have ih:=DM n h k;unfold kQ;rw[ih,(h k).1,(h k).2.1,(h k).2.2];cases kQ P n k with
  |none=>rfl
  |some b=>simp only[(h b).1]
def qH {r s:jO} (Z:s.n=r.n)(h:∀p,(s.P p).m=(r.P p).m/\(s.P p).pe.who=(r.P p).pe.who/\(s.P p).pe.both=(r.P p).pe.both):kH s=kH r:=by
 unfold kH;congr 1;funext j;rw[Z,DM _ h];cases kQ r.P ((j:Int)+1) r.n with|none=>rfl|some b=>simp only[jC,(h b).1]
def Own.alike {r s:jO} (h:Own r)(Z:s.K=r.K)(Y:s.O=r.O)(hi:s.id=r.id)(Q:s.n=r.n)(M:∀p,(s.P p).m=(r.P p).m/\(s.P p).pe.who=(r.P p).pe.who/\(s.P p).pe.both=(r.P p).pe.both):Own s:=
 ⟨by rw[Z,Y];exact h.tie,by rw[Z];exact h.val,by rw[Z,hi,qH Q M];exact h.own⟩
def nU.alike {r s:jO} (h:nU B r)(Z:s.K=r.K):nU B s:=by unfold nU;rw[Z];exact h
structure afu(r:jO):Prop where
 tie:∀p x q,r.O p x=μ q->r.K x=μ q
 val:∀x q,r.K x=μ q->qq x q.1 q.2=0
def G6 {r:jO} (h:afu r)(Y:nh r)(hs:nU B r) {q:Int} (h0:0<=q)(hq:q<=B)(hB:B<1000000):Own (r.behind q)/\nU (B+1) (r.behind q):=by
 unfold jO.behind;rw[ag fC];have hv:=Bq Y (seq:=q+1) fC;refine⟨⟨λp x u hu=> ?_,λx u hu=> ?_,?_⟩,λx u hu=> ?_⟩;{have e:(if x=r.id then μ (q+1,kH r)else r.O p x)=μ u:=hu;show(if x=r.id then μ (q+1,kH r)else r.K x)=μ u;split;{rename_i g;rw[ag g]at e;exact e};rename_i g;rw[af g]at e;exact h.tie p x u e};{have e:(if x=r.id then μ (q+1,kH r)else r.K x)=μ u:=hu;by_cases g:x=r.id;{rw[ag g]at e;injection e with e;rw[<-e,g];exact hv};rw[af g]at e;exact h.val x u e}
 ·have Z:kH (r.Ag (q+1) (kH r))=kH r:=qH rfl λ_=>⟨rfl,rfl,rfl⟩
  rw[Z];show Ei (xY r.K r.id (q+1,kH r)) r.id=_;unfold Ei xY;rw[ag rfl]
 have e:(if x=r.id then μ (q+1,kH r)else r.K x)=μ u:=hu;by_cases g:x=r.id;{rw[ag g]at e;injection e with e;rw[<-e];push_cast;show q+1<=_;omega};rw[af g]at e;have:=hs x u e;push_cast;omega
def RL {r:jO} (h:nU B r)(Y:nh r):Cx r.K r.id<=B/\0<=Cx r.K r.id:=by
 obtain⟨q,Z,_⟩:=Y.own;have h2:=Y.seq;refine⟨?_,fC⟩;unfold Cx;rw[Z];exact h _ _ Z
def Qe {r:jO} (h:afu r)(Z:nh r)(hs:nU B r)(Y:B<1000000):Own r.change/\nU (B+1) r.change:=by
 unfold jO.change;split;{rename_i g;exact⟨⟨h.tie,h.val,g⟩,hs.mono fC⟩};exact G6 h Z hs (RL hs Z).2 (RL hs Z).1 Y
def dif(a b:mX):Nat:=if a.who=b.who/\a.both=b.both then 0 else 1
def G7 {r:jO} (h:Own r)(J:nh r)(hs:nU B r)(Q:B<1000000)(i:Nat) {q:mX} (M:qe r.id q):Own (r.meet i q)/\nU (B+dif q (r.P i).pe) (r.meet i q):=by
 unfold jO.meet dif;simp only;split;{rename_i g;refine⟨h.alike rfl rfl rfl rfl λp=> ?_,hs.alike rfl⟩;rw[mD];split;{rename_i e;rw[e];exact⟨rfl,g.1,g.2⟩};exact⟨rfl,rfl,rfl⟩};have Y:nh (r.jW i {r.P i with pe:=q}):=J.jW i _ rfl λ_=>M;obtain⟨x,hx⟩:∃x:jO,({r.jW i {r.P i with pe:=q}with O:=λx=>if x=i then λ_=>ν else(r.jW i {r.P i with pe:=q}).O x}:jO)=x:=⟨_,rfl⟩
 have Z:nh x:=by rw[<-hx];exact Y.Ak _
 have o2:afu x:=by
  refine⟨λp y u hu=> ?_,λy u hu=> ?_⟩;{rw[<-hx]at hu⊢;have e:(if p=i then λ_=>ν else r.O p) y=μ u:=hu;split at e;{exact absurd e gZ};exact h.tie p y u e};rw[<-hx]at hu;exact h.val y u hu
 have H:nU B x:=by rw[<-hx];exact hs.alike rfl
 obtain⟨c1,c2⟩:=Qe o2 Z H Q;rw[hx];split;{refine⟨⟨λp y u hu=> ?_,c1.val,?_⟩,c2⟩;{have e:(if p=i then sA (x.change.O i) x.change.K else x.change.O p) y=μ u:=hu;show x.change.K y=μ u;split at e;{unfold sA at e;split at e;{exact e};exact c1.tie i y u e};exact c1.tie p y u e};exact(c1.own).trans (qH rfl λ_=>⟨rfl,rfl,rfl⟩).symm};exact⟨c1,c2⟩
def UC {r:jO} (h:Own r)(jR:nh r)(hs:nU B r)(hB:B<1000000)(i:Nat)(l:List UInt8)(hl:(ig l).2.2.2=0->(ig l).2.1<=B):Own (kj r i l)/\nU (B+1) (kj r i l):=by
 unfold kj;simp only;split;{exact⟨h,hs.mono fC⟩};rename_i h1;have E:(ig l).2.2.2=0:=fC;have hv:qq (ig l).1 (ig l).2.1 (ig l).2.2.1=0:=rK (by rw[<-E]);have M:=hl E;have rm:=(kD hv).2.1;split;{exact G6 ⟨h.tie,h.val⟩ jR hs fC M hB};rename_i j;generalize (ig l).1=own,(ig l).2.1=seq,(ig l).2.2.1=es at*
 have G:∀x u,np r.K own seq es x=μ u->r.K x=μ u \/(x=own/\u=(seq,es)/\0<newF r.K own seq es):=λx u hu=>by
  unfold np at hu;split at hu;{rename_i g;have e:(if x=own then μ (seq,es)else r.K x)=μ u:=hu;split at e;{rename_i Z;injection e with e;exact .inr ⟨Z,e.symm,g⟩};exact .inl e};exact .inl hu
 have J:Own {r with K:=np r.K own seq es,O:=qL r.K r.O i own seq es} /\nU B {r with K:=np r.K own seq es,O:=qL r.K r.O i own seq es}:=by
  refine⟨⟨λp x u hu=> ?_,λx u hu=> ?_,?_⟩,λx u hu=> ?_⟩;{have Y:qL r.K r.O i own seq es p x=μ u:=hu;show np r.K own seq es x=μ u;unfold qL at Y;unfold np;by_cases g:0<newF r.K own seq es;{rw[ag g]at Y⊢;show(if x=own then μ (seq,es)else r.K x)=μ u;split at Y;{have e:(if x=own then ν else if x=own then μ (seq,es)else r.O i x)=μ u:=Y;by_cases Z:x=own;{rw[ag Z]at e;exact absurd e gZ};rw[af Z,af Z]at e;rw[af Z];exact h.tie i x u e};have e:(if x=own then μ (seq,es)else r.O p x)=μ u:=Y;by_cases Z:x=own;{rw[ag Z]at e⊢;exact e};rw[af Z]at e⊢;exact h.tie p x u e};rw[af g]at Y⊢;by_cases Q:newF r.K own seq es<0;{rw[ag Q]at Y;split at Y;{cases H:r.K own with|none=>rw[H]at Y;exact h.tie i x u Y|some q=>rw[H]at Y;have e:(if x=own then μ q else r.O i x)=μ u:=Y;by_cases Z:x=own;{rw[ag Z]at e;rw[Z,H];exact e};{rw[af Z]at e;exact h.tie i x u e}};exact h.tie p x u Y};rw[af Q]at Y;split at Y;{have e:(if x=own then ν else r.O i x)=μ u:=Y;by_cases Z:x=own;{rw[ag Z]at e;exact absurd e gZ};rw[af Z]at e;exact h.tie i x u e};exact h.tie p x u Y};{obtain g|⟨g1,Q,_⟩:=G x u hu;{exact h.val x u g};rw[g1,Q];exact hv}
  ·have y:kH {r with K:=np r.K own seq es,O:=qL r.K r.O i own seq es}=kH r:=qH rfl λ_=>⟨rfl,rfl,rfl⟩
   rw[y,<-h.own];show Ei (np r.K own seq es) r.id=_
   have:np r.K own seq es r.id=r.K r.id:=by
    unfold np;split;{rename_i g;have Z:r.id≠own:=λe=>j ⟨e.symm,g⟩;show(if r.id=own then _ else _)=_;rw[af Z]};rfl
   unfold Ei;rw[this]
  obtain g|⟨_,Q,_⟩:=G x u hu;{exact hs x u g};rw[Q];exact M
 split
 ·refine⟨J.1.alike rfl rfl rfl rfl λp=> ?_,(J.2.alike (s:=jO.jW _ i _) rfl).mono fC⟩;rw[mD];split
  ·rename_i e;rw[e];have A:∀(p:kB) c s,(p.put c s).m=p.m/\(p.put c s).pe=p.pe:=λp c s=>by unfold kB.put;split<;>(try split)<;>exact⟨rfl,rfl⟩
   rw[(A _ _ _).1,(A _ _ _).2];exact⟨rfl,rfl,rfl⟩
  exact⟨rfl,rfl,rfl⟩
 exact⟨J.1,J.2.mono fC⟩
def UD {r:jO} (h:Own r)(i:Nat)(l:List UInt8):Own (lV r i l)/\(lV r i l).K=r.K:=by
 unfold lV;simp only;split;{refine⟨⟨λp x u hu=> ?_,h.val,h.own.trans (qH rfl λ_=>⟨rfl,rfl,rfl⟩).symm⟩,rfl⟩;have e:(if p=i/\0<=newF r.K (ig l).1 (ig l).2.1 (ig l).2.2.1 then Ac (r.O i) (ig l).1 else r.O p) x=μ u:=hu;show r.K x=μ u;split at e;{have Z:(if x=(ig l).1 then ν else r.O i x)=μ u:=e;split at Z;{exact absurd Z gZ};exact h.tie i x u Z};exact h.tie p x u e};exact⟨h,rfl⟩
def uz(p:kB)(c:UInt8)(s:List UInt8):(p.put c s).m=p.m/\(p.put c s).pe=p.pe:=by unfold kB.put;split<;>(try split)<;>exact⟨rfl,rfl⟩
def nR(r:jO)(t:wK):(r.send t).K=r.K/\(r.send t).O=r.O/\(r.send t).id=r.id/\(r.send t).n=r.n/\∀p,((r.send t).P p).m=(r.P p).m/\((r.send t).P p).pe=(r.P p).pe/\((r.send t).P p).L=(r.P p).L:=by
 unfold jO.send;split;{exact⟨rfl,rfl,rfl,rfl,λ_=>⟨rfl,rfl,rfl⟩⟩};split;{exact⟨rfl,rfl,rfl,rfl,λ_=>⟨rfl,rfl,rfl⟩⟩};refine⟨rfl,rfl,rfl,rfl,λp=> ?_⟩;rw[mD];split;{rename_i e;rw[e,(uz _ _ _).1,(uz _ _ _).2,yA];exact⟨rfl,rfl,rfl⟩};exact⟨rfl,rfl,rfl⟩
def NB {r:jO} (h:Own r)(t:wK):Own (r.send t):=by
 obtain⟨a,b,c,d,e⟩:=nR r t;exact h.alike a b c d λp=>by rw[(e p).1,(e p).2.1];exact⟨rfl,rfl,rfl⟩
def UE(q:mX):Nat:=if q.who=0/\q.both=false then 0 else 1
def tE(r:jO):Nat:=UE (r.P 0).pe+UE (r.P 1).pe+UE (r.P 2).pe
def rO {r s:jO} (h:∀p,(s.P p).pe=(r.P p).pe):tE s=tE r:=by unfold tE;rw[h,h,h]
def G8 {r:jO} (hi:i<3)(q:mX):tE (r.meet i q)+UE (r.P i).pe=tE r+UE q:=by
 have h:=λp=>(lP r i q p).2.2.2;unfold tE;rw[h,h,h];have:i=0 \/i=1 \/i=2:=fC;obtain rfl|rfl|rfl:=this;{rw[ag rfl,af fF,af fF];omega};{rw[af fF,ag rfl,af fF];omega};rw[af fF,af fF,ag rfl];omega
def afv(a b:mX):dif a b<=1:=by unfold dif;split<;>decide
def afw(a:mX):UE a<=1:=by unfold UE;split<;>decide
def G9(q:mX):dif nobody q+UE nobody<=UE q:=by
 unfold dif UE;show(if(0:Int)=q.who/\false=q.both then 0 else 1)+(if(0:Int)=0/\false=false then 0 else 1)<=_;rw[ag (⟨rfl,rfl⟩:(0:Int)=0/\false=false)];by_cases e:q.who=0/\q.both=false;{rw[ag ⟨e.1.symm,e.2.symm⟩];omega};rw[af (λh=>e ⟨h.1.symm,h.2.symm⟩),af e];exact aj _
def Yw(q:mX):dif (jP q) q+UE (jP q)<=UE q:=by
 unfold jP;split;{exact G9 q};unfold dif UE;rw[ag ⟨rfl,rfl⟩];simp
def sw:mK->Nat
 |72::_=>2
 |83::_=>1
 |_=>0
def BH(B:Nat)(x:mK):Prop:=∀s,x=83::s->(ig s).2.2.2=0->(ig s).2.1<=(B:Int)
def BH.mono {x:mK} (h:BH B x)(hc:B<=C):BH C x:=λs e Z=>by have:=h s e Z;omega
def CW {r:jO} (h:Own r)(Z:nh r)(hs:nU B r)(Y:B<1000000)(hi:i<3):∃C,Own (r.meet i nobody)/\nU C (r.meet i nobody)/\B<=C/\C+tE (r.meet i nobody)<=B+tE r:=by
 obtain⟨a,b⟩:=G7 h Z hs Y i (qe.nobody Z.id.1);have h1:=G8 (r:=r) hi nobody;have h2:=G9 (r.P i).pe;exact⟨_,a,b,fC,fC⟩
def UF {r:jO} (h:Own r)(H:nh r)(hs:nU B r)(Y:B<1000000)(hi:i<3)(x:mK)(hx:BH B x):∃C,Own (kP r i x)/\nU C (kP r i x)/\B<=C/\C+tE (kP r i x)<=B+tE r+sw x:=by
 cases x with
 |nil=>exact⟨B,h,hs,aj _,by show B+tE r<=_;omega⟩
 |cons c s=>
  show∃C,Own (r.take i c s)/\nU C (r.take i c s)/\B<=C/\C+tE (r.take i c s)<=B+tE r+sw (c::s);have hl:Own (lE r i c s)/\nU B (lE r i c s)/\tE (lE r i c s)=tE r:=by
   unfold lE;split
   ·have e:∀p,((r.jW i ((r.P i).packet s)).P p).m=(r.P p).m/\((r.jW i ((r.P i).packet s)).P p).pe=(r.P p).pe:=λp=>by
     rw[mD];split;{rename_i e;rw[e,(wC _ _).1,(wC _ _).2];exact⟨rfl,rfl⟩};{exact⟨rfl,rfl⟩}
    exact⟨h.alike rfl rfl rfl rfl λp=>by rw[(e p).1,(e p).2];exact⟨rfl,rfl,rfl⟩,hs.alike rfl,rO λp=>(e p).2⟩
   ·exact⟨h,hs,rfl⟩
  have Z:=H.link i c s;rw[mZ];obtain⟨r1,J⟩:=fH (lE r i c s);have qo:r1.id=r.id:=by rw[<-J];exact(kR.link r i c s).id
  rw[J]at hl Z⊢;obtain⟨l1,l2,l3⟩:=hl;split;{obtain⟨C,a,b,c1,c2⟩:=CW l1 Z l2 Y hi;exact⟨C,a,b,c1,fC⟩}
  ·unfold nL;split
   ·rename_i hc
    split
    ·rename_i Q
     obtain⟨a,b⟩:=G7 l1 Z l2 Y i (qe.aaO (s:=(mr s).2.1) Z.id.1 (Gp Q));have h1:=G8 (r:=r1) hi (kg r1.id (mr s).1 (mr s).2.1);have h2:=afv (kg r1.id (mr s).1 (mr s).2.1) (r1.P i).pe;have h3:=afw (kg r1.id (mr s).1 (mr s).2.1);exact⟨_,a,b,fC,by rw[hc];show _<=B+tE r+2;omega⟩
    ·exact⟨B,l1,l2,aj _,fC⟩
   ·split
    ·rename_i hc
     obtain⟨a,b⟩:=UC l1 Z l2 Y i s λQ=>hx s (by rw[hc]) Q;have e:tE (kj r1 i s)=tE r1:=rO λp=>(lQ.state r1 i s p).2;exact⟨_,a,b,fC,by rw[hc,e];show _<=B+tE r+1;omega⟩
    ·split
     ·obtain⟨a,b⟩:=UD l1 i s;have e:tE (lV r1 i s)=tE r1:=rO λp=>by unfold lV;simp only;split<;>rfl
      exact⟨B,a,l2.alike b,aj _,by rw[e];omega⟩
     ·split;{unfold sT;split;{have M:=nR r1 (((s.getD 0 0).toNat:Int),((s.getD 1 0).toNat:Int),s.drop 2);exact⟨B,NB l1 _,l2.alike M.1,aj _,by rw[rO λp=>(M.2.2.2.2 p).2.1];omega⟩};{exact⟨B,l1,l2,aj _,fC⟩}};{exact⟨B,l1,l2,aj _,fC⟩}
def nH(r:jO)(i p:Nat):((j6 r i).P p).m=(r.P p).m/\((j6 r i).P p).pe=(r.P p).pe:=by
 unfold j6;rw[mD];split;{rename_i e;rw[e,(uS _).1,(uS _).2.1];exact⟨rfl,rfl⟩};exact⟨rfl,rfl⟩
def rD(r:jO)(i:Nat):(oa r i).K=r.K/\(oa r i).O=r.O/\(oa r i).id=r.id/\(oa r i).n=r.n/\∀p,((oa r i).P p).m=(r.P p).m/\((oa r i).P p).pe=(r.P p).pe/\((oa r i).P p).L=(r.P p).L:=by
 have hA:∀(l:List (Int×PS)) (p:kB),(p.mA l).m=p.m:=λl=>by
  induction l with|nil=>intro p;rfl|cons q r ih=>intro p;show((p.put 83 _).mA r).m=_;rw[ih,(uz _ _ _).1]
 refine⟨rfl,rfl,rfl,rfl,λp=> ?_⟩;unfold oa;simp only;rw[mD];split;{rename_i e;rw[e];split;{rw[hA,(yB _ _).1,(yB _ _).2,(uz _ _ _).1,(uz _ _ _).2,yA];exact⟨rfl,rfl,rfl⟩};rw[(uz _ _ _).1,(uz _ _ _).2,yA];exact⟨rfl,rfl,rfl⟩};exact⟨rfl,rfl,rfl⟩
def CX {r:jO} (h:Own r)(H:nh r)(hs:nU B r)(Q:B<1000000)(hi:i<3)(hn:r.n=3):∃C,Own (r.jZ i)/\nU C (r.jZ i)/\B<=C/\C+tE (r.jZ i)<=B+tE r/\nh (r.jZ i):=by
 rw[mO];have Z:Own (j6 r i):=h.alike rfl rfl rfl rfl λp=>by rw[(nH r i p).1,(nH r i p).2];exact⟨rfl,rfl,rfl⟩
 have s1:nU B (j6 r i):=hs.alike rfl;have k1:=H.j6 i;have c1:tE (j6 r i)=tE r:=rO λp=>(nH r i p).2;have n1:(j6 r i).n=r.n:=rfl;obtain⟨r1,G⟩:=fH (j6 r i);rw[G]at Z s1 k1 c1 n1⊢;split;{obtain⟨C,a,b,c,d⟩:=CW Z k1 s1 Q hi;exact⟨C,a,b,c,fC,k1.meet i (qe.nobody k1.id.1)⟩};have M:=qe.tick k1.id.1 (k1.pe i fC);obtain⟨a,b⟩:=G7 Z k1 s1 Q i M;have h2:=G8 (r:=r1) hi (jP (r1.P i).pe);have h3:=Yw (r1.P i).pe;obtain⟨J,E,A,y,Y⟩:=rD (r1.meet i (jP (r1.P i).pe)) i;refine⟨_,a.alike J E A y λp=> ?_,b.alike J,fC,?_,(k1.meet i M).tell i⟩;{rw[(Y p).1,(Y p).2.1];exact⟨rfl,rfl,rfl⟩};rw[rO λp=>(Y p).2.1];omega
def Yx {r:jO} (h:Own r)(Y:nh r)(hs:nU B r)(M:B<1000000)(hi:i<3)(up:Bool):∃C,Own (r.jT i up).1/\nU C (r.jT i up).1/\B<=C/\C+tE (r.jT i up).1<=B+tE r/\nh (r.jT i up).1:=by
 unfold jO.jT;simp only;split;{exact⟨B,h,hs,aj _,aj _,Y⟩}
 have e:((r.P i).jT up).1.m=(r.P i).m/\((r.P i).jT up).1.pe=(r.P i).pe:=by
  unfold kB.jT;generalize mV (r.P i).L (if up=true then 0 else 1)=E;simp only;split;{exact⟨rfl,rfl⟩};rw[(yr _ _).1,(yr _ _).2];exact⟨rfl,rfl⟩
 have Z:∀p,((r.jW i ((r.P i).jT up).1).P p).m=(r.P p).m/\((r.jW i ((r.P i).jT up).1).P p).pe=(r.P p).pe:=λp=>by
  rw[mD];split;{rename_i g;rw[g];exact e};exact⟨rfl,rfl⟩
 have Q:Own (r.jW i ((r.P i).jT up).1):=h.alike rfl rfl rfl rfl λp=>by rw[(Z p).1,(Z p).2];exact⟨rfl,rfl,rfl⟩
 have k1:nh (r.jW i ((r.P i).jT up).1):=Y.jW i _ e.1 λhi=>by rw[e.2];exact Y.pe i hi
 obtain⟨C,a,b,c,d⟩:=CW Q k1 (hs.alike (s:=r.jW i _) rfl) M hi;exact⟨C,a,b,c,by rw[rO λp=>(Z p).2]at d;exact d,k1.meet i (qe.nobody k1.id.1)⟩
structure xH(B N:Nat)(a:AN):Prop where
 r:∀i<a.n,Own (a.R i)/\nh (a.R i)/\nU B (a.R i)/\(a.R i).id=(i:Int)+1/\(a.R i).n=3
 f:∀c d,c<a.nc->d<2->∀x∈a.F c d,BH B x
 b:B+a.W sw+sm (λi=>tE (a.R i)) (gw a.n)<=N
 one:1<=B
 ms:∀i p,i<a.n->p<3->1<=a.ms i p/\a.ms i p<=20
def Yy {s:jO} (h:Own s):Own s.core:=h.alike rfl rfl rfl rfl λ_=>⟨rfl,rfl,rfl⟩
def abw {s:jO} (h:nh s):nh s.core:=⟨h.id,h.m,h.pe,h.own,h.Tt⟩
def own_op {a:AN} (hB:uU a)(h:xH B N a)(i:Nat)(hi:i<a.n)(s:jO)(C k:Nat)(A:Own s)(y:nh s)(u:nU C s)(h4:s.id=(i:Int)+1)(h5:s.n=3)(Z:B<=C)(Q:∀p,∀x∈kh (s.P p),BH C x)(hb:C+tE s+(sm sw (kh (s.P 0))+sm sw (kh (s.P 1))+sm sw (kh (s.P 2)))<=B+tE (a.R i)+k):xH C (N+k) (a.op i s):=by
 refine⟨λj hj=> ?_,λc d hc hd x hx=> ?_,?_,by have:=h.one;omega,h.ms⟩;{show Own (kK a.R i s.core j)/\nh (kK a.R i s.core j)/\nU C (kK a.R i s.core j)/\(kK a.R i s.core j).id=_/\(kK a.R i s.core j).n=3;by_cases e:j=i;{rw[e,jd];exact⟨Yy A,abw y,u.alike (s:=s.core) rfl,h4,h5⟩};rw[iw _ _ e];obtain⟨M,J,H,G,E⟩:=h.r j hj;exact⟨M,J,H.mono Z,G,E⟩};{rw[uy]at hx;split at hx;{obtain e|e:=aA.1 hx;{exact(h.f c d hc hd x e).mono Z};exact Q _ x e};exact(h.f c d hc hd x hx).mono Z};have h6:=Yu hB i s sw
 have h7:sm (λj=>tE ((a.op i s).R j)) (gw a.n)+tE (a.R i)<=sm (λj=>tE (a.R j)) (gw a.n)+tE s:=by
  have Y:sm (λj=>tE ((a.op i s).R j)+(if j=i then tE (a.R i)else 0)) (gw a.n)<=sm (λj=>tE (a.R j)+(if j=i then tE s else 0)) (gw a.n):=xy λj _=>by
   show tE (kK a.R i s.core j)+_<=_;by_cases e:j=i;{subst e;rw[jd,ag rfl,ag rfl];have:tE s.core=tE s:=rfl;omega};rw[iw _ _ e,af e,af e];exact aj _
  rw[G4,G4,K3 i _ cB,K3 i _ cB,ag (aU.2 hi),ag (aU.2 hi)]at Y;exact Y
 have h8:=h.b;show C+(a.op i s).W sw+sm (λj=>tE ((a.op i s).R j)) (gw a.n)<=N+k;omega
def zm {F:Int->Option PS} {y:Int×PS} (h:y∈nu F):F y.1=μ y.2:=by
 unfold nu at h;obtain⟨j,_,Z⟩:=cD.1 h;cases e:F ((j:Int)+1)with|none=>rw[e]at Z;simp at Z|some q=>rw[e]at Z;simp only[jC,Option.some.injEq]at Z;rw[<-Z];exact e
def tZ {x:mK} {l:List mH} (h:x∈l.flatMap qg):∃s,x=76::s:=by
 obtain⟨q,_,Z⟩:=bh.1 h;unfold qg at Z;split at Z;{exact⟨_,az.1 Z⟩};simp at Z
def BI:∀ {l:List mK},(∀x∈l,sw x=0)->sm sw l=0
 |[],_=>rfl
 |x::l,h=>by
  have:=BI (l:=l) λy hy=>h y (by simp[hy]);have h1:=h x gZ;show sw x+sm sw l=0;omega
def RN:∀l:List (Int×PS),sm sw (l.flatMap ET)<=l.length
 |[] =>aj _
 |q::l=>by
  have:=RN l;rw[cF,rM];have h1:sm sw (ET q)<=1:=by
   unfold ET;split;{exact aj _};{exact aw _}
  simp only[fU];omega
def RO {r:jO} {x:mK} {l:List mK} (h:G5 r i x p l):(∀y∈l,sw y=0)/\∀B,∀y∈l,BH B y:=by
 have Z:∀(c:UInt8) (s:List UInt8),c≠72->c≠83->sw (c::s)=0/\∀B,BH B (c::s):=λc s Q Y=>by
  refine⟨?_,λB t e=>absurd (aH e).1 Y⟩;unfold sw;split;{rename_i e;exact absurd (aH e).1 Q};{rename_i e;exact absurd (aH e).1 Y};rfl
 cases h with|none h=>rw[h];exact⟨λ_ h=>by simp at h,λ_ _ h=>by simp at h⟩|link s _ _ _ h=>rw[h];exact⟨λy hy=>by obtain⟨s,rfl⟩:=tZ hy;exact(Z 76 s fF fF).1,λB y hy=>by obtain⟨s,rfl⟩:=tZ hy;exact(Z 76 s fF fF).2 B⟩|heard s _ _ _ _ _ _ _ h=>rw[h];exact⟨λy hy=>by rw[az.1 hy];exact(Z 65 _ fF fF).1,λB y hy=>by rw[az.1 hy];exact(Z 65 _ fF fF).2 B⟩|K5 a b s _ _ _ _ h=>rw[h];exact⟨λy hy=>by rw[az.1 hy];exact(Z 77 _ fF fF).1,λB y hy=>by rw[az.1 hy];exact(Z 77 _ fF fF).2 B⟩
def NC {r:jO} (h:nh r)(i:Nat)(x:mK):nh (kP r i x)/\(kP r i x).id=r.id/\(kP r i x).n=r.n:=by
 cases x with|nil=>exact⟨h,rfl,rfl⟩|cons c s=>exact⟨h.take i c s,(PO r i c s).2,(PO r i c s).1⟩
def K7(r:jO)(i:Nat)(up:Bool):(r.jT i up).1.id=r.id/\(r.jT i up).1.n=r.n:=⟨(kR.jT r i up).id,(kR.jT r i up).n⟩
def K8 {s:jO} (h:∀p,∀y∈kh (s.P p),sw y=0):sm sw (kh (s.P 0))+sm sw (kh (s.P 1))+sm sw (kh (s.P 2))=0:=by
 rw[BI (h 0),BI (h 1),BI (h 2)]
def RP {r:jO} (h:JR r)(i:Nat)(up:Bool):∀p,∀y∈kh ((r.jT i up).1.P p),∃s,y=76::s:=λp y hy=>by
 by_cases Z:(mV (r.P i).L (if up=true then 0 else 1)).2.2=0;{obtain⟨a,b,_⟩:=K6 h i up Z;by_cases e:p=i;{subst e;rw[b]at hy;exact tZ hy};{rw[a p e]at hy;simp at hy}}
 ·have:(r.jT i up).1=r:=by
   unfold jO.jT kB.jT;generalize mV (r.P i).L (if up=true then 0 else 1)=E at*;simp only;rw[ag Z];simp only;rw[ag Z]
  rw[this,kx (h p)]at hy;simp at hy
def Yz(s:List UInt8):sw (76::s)=0/\∀B,BH B (76::s):=⟨rfl,λB t e=>absurd (aH e).1 fF⟩
def CY {a:AN} (Z:uU a)(A:Norm a)(h:xH B N a)(hl:N<1000000)(hc:c<a.nc)(hd:d<2)(up:Bool):∃C,xH C N (a.pv c d up):=by
 obtain⟨hi,u⟩:=Z.en c d hc hd;obtain⟨Q,M,J,H,G⟩:=h.r _ hi;obtain⟨C,c1,c2,c3,c4,E⟩:=Yx Q M J (by have:=h.b;omega) u up;have Y:=RP (A.emp (a.e c d).1) (a.e c d).2 up;refine⟨C,own_op Z h _ hi _ C 0 c1 E c2 ((K7 _ _ _).1.trans H) ((K7 _ _ _).2.trans G) c3 (λp x hx=> ?_) ?_⟩;{obtain⟨s,rfl⟩:=Y p x hx;exact(Yz s).2 C};rw[K8 λp y hy=>by obtain⟨s,rfl⟩:=Y p y hy;rfl];omega
def ND {a:AN} (E:uU a)(A:Norm a)(h:xH B N a)(hl:N<1000000)(hc:c<a.nc)(up:Bool):∃C,xH C N (a.jT c up):=by
 obtain⟨b,Z⟩:=fH ((({a with jU:=kK a.jU c up}:AN).mN c 0 []).mN c 1 []);have Q:uU b:=E.same (by rw[<-Z];rfl) (by rw[<-Z];rfl) (by rw[<-Z];rfl);have M:Norm b:=by rw[<-Z];exact A
 have J:c<b.nc:=by rw[<-Z];exact hc
 have H:xH B N b:=by
  have w1:=ES {a with jU:=kK a.jU c up} sw c 0;have j:=ES (({a with jU:=kK a.jU c up}:AN).mN c 0 []) sw c 1;have w3:=h.b;rw[Z]at j;have e1:({a with jU:=kK a.jU c up}:AN).W sw=a.W sw:=rfl;refine⟨by rw[<-Z];exact h.r,λx f hx hf y hy=> ?_,?_,h.one,by rw[<-Z];exact h.ms⟩
  ·have u:y∈a.F x f \/y∈([] :List mK):=by
    rw[<-Z]at hy;have Y:y∈(if x=c/\f=1 then []else if x=c/\f=0 then []else a.F x f):=hy;split at Y;{exact .inr Y};split at Y;{exact .inr Y};exact .inl Y
   obtain g|g:=u;{exact h.f x f (by rw[<-Z]at hx;exact hx) hf y g};simp at g
  have Y:sm (λi=>tE (b.R i)) (gw b.n)=sm (λi=>tE (a.R i)) (gw a.n):=by rw[<-Z];rfl
  omega
 obtain⟨C,G⟩:=CY Q M H hl J (by decide:0<2) up;unfold AN.jT;rw[Z];exact CY (a:=b.pv c 0 up) (Q.same rfl rfl rfl) (tD M _ _) G hl J (by decide:1<2) up
def ot.own {a b:AN} (h:ot a T S b)(Q:uU a)(hN:Norm a)(Z:xH B N a)(hl:N<1000000):∃C,xH C (N+8*T.length) b:=by
 have hBl:=Z.b;cases h with
 |lost h=>
  refine⟨B,by rw[h.1];exact Z.r,λc d hc hd x hx=> ?_,?_,Z.one,by rw[h.1];exact Z.ms⟩;{obtain⟨m,hm⟩:=h.2 c d;rw[hm]at hx;rw[h.1]at hc;exact Z.f c d hc hd x (dM hx)}
  ·have h1:=aft h sw;have e:sm (λi=>tE (b.R i)) (gw b.n)=sm (λi=>tE (a.R i)) (gw a.n):=by rw[h.1]
   show _<=N+0;omega
 |tick i p hi hp=>
  obtain⟨G,M,E,A,J⟩:=Z.r i hi;obtain⟨C,c1,c2,c3,c4,c5⟩:=CX G M E fC hp J;obtain⟨u,e2⟩:=zk (hN.emp i) p;have qo:((a.R i).jZ p).id=(i:Int)+1/\((a.R i).jZ p).n=3:=⟨(kR.jZ (a.R i) p).id.trans A,(kR.jZ (a.R i) p).n.trans J⟩
  have hOp:((a.R i).jZ p).O=((j6 (a.R i) p).meet p (jP ((a.R i).P p).pe)).O \/(j8 ((a.R i).P p).L).1.st≠9:=by
   by_cases h9:(j8 ((a.R i).P p).L).1.st=9
   ·left;have lz:((j6 (a.R i) p).P p).L.st=9:=by
     unfold j6;rw[mD,ag rfl];rw[uT];exact h9
    rw[mO,af (by rw[lz];simp),(nH _ _ _).2];rfl
   ·exact .inr h9
  refine⟨C,own_op Q Z i hi _ C 8 c1 c5 c2 qo.1 qo.2 c3 (λq x hx=> ?_) ?_⟩
  ·by_cases e:q=p
   ·subst e;rw[e2]at hx;obtain g|g:=aA.1 hx;{obtain⟨s,rfl⟩:=tZ g;exact(Yz s).2 C}
    ·split at g
     ·rename_i h9
      obtain g|g:=aS.1 g;{rw[g];intro s e;exact absurd (aH e).1 fF};{split at g;{obtain⟨y,hy,Et⟩:=bh.1 g;unfold ET at Et;split at Et;{rw[az.1 Et];intro s e hz;rw[<-(aH e).2];have hK:=c1.tie q y.1 y.2 (by rw[hOp.resolve_right (by rw[h9];simp)];exact zm hy);rw[pC _ _ _ (c1.val _ _ hK)];exact c2 _ _ hK};{simp at Et}};{simp at g}}
     ·simp at g
   ·rw[u q e]at hx;simp at hx
  ·have hp3:p=0 \/p=1 \/p=2:=fC;have hs:sm sw (kh (((a.R i).jZ p).P p))<=8:=by
    rw[e2,rM,BI λx hx=>by obtain⟨s,rfl⟩:=tZ hx;rfl];split;{have e3:∀(x:mK) l,sm sw (x::l)=sw x+sm sw l:=λ_ _=>rfl;rw[e3];have e4:sw (72::[kI (a.R i).id,kI (jP ((a.R i).P p).pe).who])=2:=rfl;split;{have:=RN (nu (((j6 (a.R i) p).meet p (jP ((a.R i).P p).pe)).O p));have:=CG (((j6 (a.R i) p).meet p (jP ((a.R i).P p).pe)).O p);omega};{have e5:sm sw [] =0:=rfl;omega}};{have e5:sm sw [] =0:=rfl;omega}
   have H:∀q,q≠p->sm sw (kh (((a.R i).jZ p).P q))=0:=λq hq=>by rw[u q hq];rfl
   obtain rfl|rfl|rfl:=hp3;{rw[H 1 fF,H 2 fF];omega};{rw[H 0 fF,H 2 fF];omega}
   ·rw[H 0 fF,H 1 fF];omega
 |pop c d x l hc hd hF=>
  obtain⟨hi,hp⟩:=Q.en c (1-d) hc fC;have hw:=NA sw hc hd hF;have h1:xH B (N-sw x) (a.mN c d l):=by
   refine⟨Z.r,λy f hy hf z hz=> ?_,?_,Z.one,Z.ms⟩
   ·rw[td]at hz;split at hz
    ·rename_i e
     exact Z.f c d hc hd z (by rw[hF];simp[hz])
    ·exact Z.f y f hy hf z hz
   ·show B+(a.mN c d l).W sw+sm (λi=>tE (a.R i)) (gw a.n)<=_;omega
  obtain⟨G,M,E,A,J⟩:=Z.r _ hi;obtain⟨C,c1,c2,c3,c4⟩:=UF G M E fC hp x (Z.f c d hc hd x (by rw[hF];simp));obtain⟨t1,t2,t3⟩:=NC M (a.e c (1-d)).2 x;obtain⟨m1,_⟩:=r8 (hN.emp (a.e c (1-d)).1) (a.e c (1-d)).2 x;have h2:=own_op (a:=a.mN c d l) (Q.same rfl rfl rfl) h1 _ hi (kP (a.R (a.e c (1-d)).1) (a.e c (1-d)).2 x) C (sw x) c1 t1 c2 (t2.trans A) (t3.trans J) c3 (λq y hy=>(RO (m1 q)).2 C y hy) (by
   rw[K8 λq y hy=>(RO (m1 q)).1 y hy];show C+_+0<=B+tE (a.R (a.e c (1-d)).1)+sw x;omega)
  refine⟨C,?_⟩;have e:N-sw x+sw x=N+8*0:=fC;rw[e]at h2;exact h2
 |send i t tx hi _ _ _=>
  obtain⟨G,M,E,A,J⟩:=Z.r i hi;obtain⟨s1,s2,s3,s4,s5⟩:=nR (a.R i) (t,8,tx);obtain⟨j,g1,g2⟩:=zj (hN.emp i) (t,8,tx);have hq:∀p,∀y∈kh (((a.R i).send (t,8,tx)).P p),∃s,y=77::s:=λp y hy=>by
   by_cases e:p=j;{subst e;obtain g|⟨_,g⟩:=g2;{rw[g]at hy;simp at hy};{rw[g]at hy;exact⟨_,az.1 hy⟩}};{rw[g1 p e]at hy;simp at hy}
  refine⟨B,own_op Q Z i hi _ B 0 (NB G _) (M.send _) (E.alike s1) (s3.trans A) (s4.trans J) (aj _) (λp x hx=> ?_) ?_⟩;{obtain⟨s,rfl⟩:=hq p x hx;intro t e;exact absurd (aH e).1 fF}
  ·rw[K8 λp y hy=>by obtain⟨s,rfl⟩:=hq p y hy;rfl,rO λp=>(s5 p).2.1];omega
 |jT c hc _ _ _=>
  obtain⟨C,h⟩:=ND Q hN Z hl hc true;exact⟨C,h.r,h.f,au h.b (ct _ _),h.one,h.ms⟩
 |draw c hc _=>exact ND Q hN Z hl hc false
 |anew i m hi hd=>
  have qo:(1:Int)<=(i:Int)+1/\(i:Int)+1<=6:=by have:=Q.n6;omega
  have hR:∀j,({a with R:=kK a.R i (kZ ((i:Int)+1) 3 (a.ms i)),ib:=kK a.ib i ((a.ib i).take m)}:AN).R j=if j=i then kZ ((i:Int)+1) 3 (a.ms i)else a.R j:=λj=>rfl
  refine⟨B,λj hj=> ?_,Z.f,?_,Z.one,Z.ms⟩
  ·rw[hR];by_cases e:j=i
   ·subst e;rw[ag rfl];refine⟨⟨λp x q h=>h,λx q h=> ?_,?_⟩,Bt qo (Z.ms j · hi),λx q h=> ?_,rfl,rfl⟩
    ·have Y:(if x=(j:Int)+1 then μ ((1:Int),([] :List kS))else ν)=μ q:=h;split at Y
     ·rename_i e;injection Y with Y;rw[<-Y,e]
      unfold qq;rw[af fC,af gZ];rfl
     ·exact absurd Y gZ
    ·have u:Ei (kZ ((j:Int)+1) 3 (a.ms j)).K (kZ ((j:Int)+1) 3 (a.ms j)).id=[] :=by
      show(match (if(j:Int)+1=(j:Int)+1 then some ((1:Int),([] :List kS))else none)with|none=>[] |some q=>q.2)=_;rw[ag rfl]
     rw[u];have e2:∀n k,kQ (kZ ((j:Int)+1) 3 (a.ms j)).P n k=ν:=λn k=>by
      induction k with
      |zero=>rfl
      |succ k ih=>unfold kQ;rw[af (λh=>absurd h.1 (show¬false=true by simp)),ih]
     unfold kH;simp only[e2,Option.map_none];rfl
    ·have Y:(if x=(j:Int)+1 then μ ((1:Int),([] :List kS))else ν)=μ q:=h;split at Y;{injection Y with Y;rw[<-Y];have:=Z.one;show(1:Int)<=_;omega};{exact absurd Y gZ}
   ·rw[af e];exact Z.r j hj
  ·have u:sm (λj=>tE (({a with R:=kK a.R i (kZ ((i:Int)+1) 3 (a.ms i)),ib:=kK a.ib i ((a.ib i).take m)}:AN).R j)) (gw a.n)<=sm (λj=>tE (a.R j)) (gw a.n):=xy λj _=>by
    rw[hR];split;{exact aw _};{exact aj _}
   show B+a.W sw+sm (λj=>tE (({a with R:=kK a.R i (kZ ((i:Int)+1) 3 (a.ms i)),ib:=kK a.ib i ((a.ib i).take m)}:AN).R j)) (gw a.n)<=N+0;omega
def pQ(g:Int):List kS:=[(1,255),(5,g)]
structure LI(g:Int)(L:LS):Prop where
 fs:L.fs=255
 fm:L.fm=g
 ns:L.ns=255
 nm:L.nm=g
 q:6<=L.st->L.qs=255/\L.qm=g
 st:L.st=1 \/(6<=L.st/\L.st<=9)
 k:B5 L
def JS {ev:Int} {nx:Int} (AZ:mH)(h:ki s.st ev=(l,nx,0)):vf s ev AZ=(sO l (s.next nx),zU l (s.next nx) AZ,0):=by
 rw[vL AZ (by rw[h])];unfold pN rF;rw[h]
def AA:(ki 6 6=([97],8,0)/\ki 7 6=([97,117],9,0)/\ki 8 6=([97],8,0)/\ki 9 6=([100,114,97],8,0))/\(ki 6 8=([105],7,0)/\ki 8 8=([105,117],9,0))/\(ki 6 4=([114],6,0)/\ki 7 4=([114],6,0)/\ki 8 4=([114],8,0))/\(ki 6 5=([102],3,0)/\ki 7 5=([102],3,0)/\ki 8 5=([102],3,0))/\(ki 3 1=([115],1,0)/\ki 1 0=([105,114],6,0))/\(ki 6 1=([],1,0)/\ki 7 1=([],1,0)/\ki 8 1=([],1,0)/\ki 9 1=([100],1,0)):=by
 refine⟨⟨?_,?_,?_,?_⟩,⟨?_,?_⟩,⟨?_,?_,?_⟩,⟨?_,?_,?_⟩,⟨?_,?_⟩,?_,?_,?_,?_⟩<;>rfl
def K9(hg:1<=g/\g<=255):ql 255 g=pQ g:=by
 unfold ql pQ;rw[ag fF,ag fC];rfl
def RQ(h:6<=x/\x<=9):x=6 \/x=7 \/x=8 \/x=9:=fC
def ade(Q:1<=g/\g<=255)(h:LI g L)(Y:L.st=1):LI g (mV L 0).1/\(mV L 0).2.1=[(1,(L.ow+1) %256,pQ g)] /\(mV L 0).1.ow=(L.ow+1) %256/\(mV L 0).1.st=6/\(mV L 0).1.wt=3:=by
 have Z:=h.k.mV 0;have e:mV L 0=vf L 0 (0,0,[]):=rfl;have M:ki L.st 0=([105,114],6,0):=by rw[Y];exact AA.2.2.2.2.1.2
 rw[e,JS _ M]at Z⊢;have en:L.next 6={L with st:=6}:=by unfold LS.next;rw[af fF]
 rw[en]at Z⊢;refine⟨⟨h.fs,h.fm,h.ns,h.nm,λ_=>⟨h.ns,h.nm⟩,.inr ⟨by show(6:Int)<=6;decide,by show(6:Int)<=9;decide⟩,Z⟩,?_,rfl,rfl,rfl⟩;show [(1,(L.ow+1) %256,ql L.ns L.nm)] =_;rw[h.ns,h.nm,K9 Q]
def abx(h:LI g L)(J:6<=L.st):LI g (mV L 1).1/\(mV L 1).1.st=1/\(mV L 1).1.ow=L.ow:=by
 have Z:=h.k.mV 1;have e:mV L 1=vf L 1 (0,0,[]):=rfl;obtain⟨a,b,c,d⟩:=AA.2.2.2.2.2;have H:=RQ ⟨J,by have:=h.st;omega⟩
 have hl:∃l,ki L.st 1=(l,1,0)/\(l=[] \/l=[100]):=by
  obtain g|g|g|g:=H<;>rw[g];{exact⟨_,a,.inl rfl⟩};{exact⟨_,b,.inl rfl⟩};{exact⟨_,c,.inl rfl⟩};exact⟨_,d,.inr rfl⟩
 obtain⟨l,Q,M⟩:=hl;rw[e,JS _ Q]at Z⊢;have en:L.next 1={L with st:=1,ns:=L.fs,nm:=L.fm,sz:=255}:=by unfold LS.next;rw[ag fF]
 have Y:sO l (L.next 1)=L.next 1:=by obtain rfl|rfl:=M<;>rfl
 rw[Y,en]at Z;rw[Y,en];exact⟨⟨h.fs,h.fm,h.fs,h.fm,λh=>absurd h (by show¬(6:Int)<=1;decide),.inl rfl,Z⟩,rfl,rfl⟩
structure aiY(g:Int)(L L':LS)(out:List mH):Prop where
 li:LI g L'
 or:(out=[] /\L'.ow=L.ow/\L'.st=L.st/\(L.st=1 \/L.st=9->L'=L)/\(6<=L.st/\L.st<=8->1<L.wt/\L'.wt=L.wt-1)) \/((6<=L.st/\L.st<=8)/\L.wt=1/\out=[(1,(L.ow+1) %256,pQ g)] /\L'.ow=(L.ow+1) %256/\L'.wt=3/\(L'.st=6 \/(L.st=8/\L'.st=8)))
def La(hg:1<=g/\g<=255)(h:LI g L):aiY g L (j8 L).1 (j8 L).2:=by
 obtain⟨o1,o2,o3,o4,o5,o6,o7,o8⟩:=(uJ _ _ _).1 h.k.ok;by_cases hT:6<=L.st/\L.st<=8
 ·have Q:¬(decide (4<=L.st)&&decide (L.st<=8))=false:=by simp;omega
  by_cases hw:0<L.wt-1
  ·have Z:lS L={L with wt:=L.wt-1}:=by unfold lS;rw[af Q,ag hw]
   have H:nD L=[] :=by unfold nD;rw[af Q,ag hw]
   have u:=h.k.tick
   have G:j8 L=({L with wt:=L.wt-1},[]):=by
    unfold j8;rw[Z,H,af (show¬L.st=3 by omega)]
   rw[Z]at u;rw[G];exact⟨⟨h.fs,h.fm,h.ns,h.nm,h.q,h.st,u⟩,.inl ⟨rfl,rfl,rfl,λh=>fC,λ_=>⟨fC,rfl⟩⟩⟩
  have oC:L.wt=1:=fC;by_cases hf:0<L.lf
  ·have j:∃nx,ki L.st 4=([114],nx,0)/\(nx=6 \/(L.st=8/\nx=8)):=by
    obtain⟨a,b,c⟩:=AA.2.2.1;have:L.st=6 \/L.st=7 \/L.st=8:=fC;obtain g|g|g:=this<;>rw[g];{exact⟨_,a,.inl rfl⟩};{exact⟨_,b,.inl rfl⟩};exact⟨_,c,.inr ⟨rfl,rfl⟩⟩
   obtain⟨nx,oA,xC⟩:=j;have u:=h.k.tick;have en:({L with wt:=L.wt-1}:LS).next nx={L with wt:=L.wt-1,st:=nx}:=by unfold LS.next;rw[af fC]
   have Z:lS L=sO [114] {L with wt:=L.wt-1,st:=nx}:=by
    unfold lS;rw[af Q,af hw,ag hf];unfold pN;rw[show({L with wt:=L.wt-1}:LS).st=L.st from rfl,oA];simp only;rw[en]
   have H:nD L=[(1,(L.ow+1) %256,ql L.ns L.nm)] :=by
    unfold nD;rw[af Q,af hw,ag hf];unfold rF;rw[show({L with wt:=L.wt-1}:LS).st=L.st from rfl,oA];simp only;rw[en];rfl
   have G:j8 L=(lS L,nD L):=by
    unfold j8;rw[af (by rw[Z];show¬nx=3;omega)]
   rw[G];refine⟨⟨?_,?_,?_,?_,?_,?_,u⟩,.inr ⟨hT,oC,?_,?_,?_,?_⟩⟩;{rw[Z];exact h.fs};{rw[Z];exact h.fm};{rw[Z];exact h.ns};{rw[Z];exact h.nm};{rw[Z];exact λ_=>⟨h.ns,h.nm⟩};{rw[Z];show nx=1 \/(6<=nx/\nx<=9);omega};{show nD L=_;rw[H,h.ns,h.nm,K9 hg]};{rw[Z];rfl};{rw[Z];rfl};rw[Z];exact xC
  have j:ki L.st 5=([102],3,0):=by
   obtain⟨a,b,c⟩:=AA.2.2.2.1;have:L.st=6 \/L.st=7 \/L.st=8:=fC;obtain g|g|g:=this<;>rw[g] <;>assumption
  have en:({L with wt:=L.wt-1}:LS).next 3={L with wt:=L.wt-1,st:=3,ns:=L.fs,nm:=L.fm,sz:=255}:=by unfold LS.next;rw[ag fF]
  have Z:lS L={L with wt:=L.wt-1,st:=3,ns:=L.fs,nm:=L.fm,sz:=255}:=by
   unfold lS;rw[af Q,af hw,af hf];unfold pN;rw[show({L with wt:=L.wt-1}:LS).st=L.st from rfl,j];simp only;rw[en];rfl
  have H:nD L=[] :=by
   unfold nD;rw[af Q,af hw,af hf];unfold rF;rw[show({L with wt:=L.wt-1}:LS).st=L.st from rfl,j];simp only;rw[en];rfl
  obtain⟨Y,J⟩:∃Y:LS,({L with wt:=L.wt-1,st:=3,ns:=L.fs,nm:=L.fm,sz:=255}:LS)=Y:=⟨_,rfl⟩
  rw[J]at Z;have k3:B5 Y:=by rw[<-Z];exact h.k.tick
  have y:Y.st=3:=by rw[<-J]
  have d1:mV Y 1=({Y with st:=1,ns:=Y.fs,nm:=Y.fm,sz:=255},[],0):=by
   show vf Y 1 (0,0,[])=_;rw[JS _ (show ki Y.st 1=_ by rw[y];exact AA.2.2.2.2.1.1)];have:Y.next 1={Y with st:=1,ns:=Y.fs,nm:=Y.fm,sz:=255}:=by unfold LS.next;rw[ag fF]
   rw[this];rfl
  have k1:=k3.mV 1;obtain⟨A,E⟩:=fH ((mV Y 1).1);rw[E]at k1;have M:A={Y with st:=1,ns:=Y.fs,nm:=Y.fm,sz:=255}:=by rw[<-E,d1]
  have li1:LI g A:=by
   refine⟨?_,?_,?_,?_,?_,?_,k1⟩;{rw[M,<-J];exact h.fs};{rw[M,<-J];exact h.fm};{rw[M,<-J];exact h.fs};{rw[M,<-J];exact h.fm};{rw[M];exact λh=>absurd h (by show¬(6:Int)<=1;decide)};rw[M];exact .inl rfl
  have how:A.ow=L.ow:=by rw[M,<-J]
  obtain⟨u1,u2,u3,u4,u5⟩:=ade hg li1 (by rw[M])
  have G:j8 L=((mV A 0).1,(mV A 0).2.1):=by
   unfold j8;rw[Z,ag y,H,E,d1];rfl
  rw[G];exact⟨u1,.inr ⟨hT,oC,by rw[u2,how],by rw[u3,how],u5,.inl u4⟩⟩
 have Q:(decide (4<=L.st)&&decide (L.st<=8))=false:=by
  have:=h.st;simp only[Bool.and_eq_false_iff,decide_eq_false_iff_not];omega
 have Z:lS L=L:=by unfold lS;rw[ag Q]
 have H:nD L=[] :=by unfold nD;rw[ag Q]
 have G:j8 L=(L,[]):=by
  unfold j8;rw[Z,H,af (show¬L.st=3 by have:=h.st;omega)]
 rw[G];exact⟨h,.inl ⟨rfl,rfl,rfl,λ_=>rfl,λh=>absurd h hT⟩⟩
def Ha(h0:0<=x)(h1:x<=255):zW x=true:=by
 unfold zW;simp;omega
def BJ(hc:code=1 \/code=2)(hi:0<=id/\id<=255)(H:1<=g/\g<=255):lg code id (pQ g)=0:=by
 have M:=Ha hi.1 hi.2;have J:zW g=true:=Ha fC H.2;unfold lg pQ;rw[af (by rw[M];simp;omega),af gZ,af fC];have Y:zW 1=true:=Ha fF fF;have Q:zW 5=true:=Ha fF fF;have Z:zW 255=true:=Ha fF fF;simp[rQ,Y,Q,Z,J]
def aby(hg:1<=g'/\g'<=255)(kf:g'≠g):nY g (pQ g')=(2,pQ g'):=by
 unfold nY pQ vJ tH LL zu;rw[af gZ,af];simp;omega
structure an6(g:Int)(L L':LS)(out:List mH)(a:mH):Prop where
 li:LI g L'
 or:(L.st=9/\out=[(1,(L.ow+1) %256,pQ g),a] /\L'.st=8/\L'.ow=(L.ow+1) %256/\L'.wt=3) \/(L.st=7/\out=[a] /\L'.st=9/\L'.ow=L.ow) \/((L.st=6 \/L.st=8)/\out=[a] /\L'.st=8/\L'.ow=L.ow/\L'.wt=L.wt)
def YA(J:1<=g/\g<=255)(Q:1<=g'/\g'<=255)(E:g'≠g)(hi:0<=id/\id<=255)(h:LI g L)(Y:6<=L.st):an6 g L (kV L (1,id,pQ g')).1 (kV L (1,id,pQ g')).2.1 (2,id,pQ g'):=by
 have Z:=h.k.kV (1,id,pQ g')
 have M:kV L (1,id,pQ g')=wj L id (pQ g'):=by
  unfold kV;rw[af (by rw[BJ (.inl rfl) hi Q];simp),ag rfl]
 rw[M]at Z⊢;have A:=RQ ⟨Y,by have:=h.st;omega⟩;have H:(nY L.nm (pQ g')).1=2:=by rw[h.nm,aby Q E]
 obtain⟨y,u,j,t9⟩:=AA.1
 have key:∀(l:List UInt8) (nx:Int),ki L.st 6=(l,nx,0)->wj L id (pQ g')=((sO l (L.next nx)).sized (pQ g'),zU l (L.next nx) (2,id,pQ g'),0):=λl nx hs=>by
  unfold wj;rw[ag H,JS _ hs,ag rfl]
 have nx:∀n:Int,¬n<=3->L.next n={L with st:=n}:=λn G=>by unfold LS.next;rw[af G]
 have sz:∀s:LS,(s.sized (pQ g')).fs=s.fs/\(s.sized (pQ g')).fm=s.fm/\(s.sized (pQ g')).ns=s.ns/\(s.sized (pQ g')).nm=s.nm/\(s.sized (pQ g')).qs=s.qs/\(s.sized (pQ g')).qm=s.qm/\(s.sized (pQ g')).st=s.st/\(s.sized (pQ g')).ow=s.ow/\(s.sized (pQ g')).wt=s.wt:=λs=>by
  unfold LS.sized;split<;>exact⟨rfl,rfl,rfl,rfl,rfl,rfl,rfl,rfl,rfl⟩
 have build:∀s:LS,B5 (s.sized (pQ g'))->s.fs=L.fs->s.fm=L.fm->s.ns=L.ns->s.nm=L.nm->(s.qs=255/\s.qm=g)->(6<=s.st/\s.st<=9)->LI g (s.sized (pQ g')):=λs Z a b c d e f=>by
  obtain⟨z1,z2,z3,z4,z5,z6,z7,_,_⟩:=sz s;exact⟨by rw[z1,a,h.fs],by rw[z2,b,h.fm],by rw[z3,c,h.ns],by rw[z4,d,h.nm],λ_=>by rw[z5,z6];exact e,by rw[z7];exact .inr f,Z⟩
 obtain hs|hs|hs|hs:=A;{have e:=key [97] 8 (by rw[hs];exact y);rw[e,nx 8 fF]at Z;rw[e,nx 8 fF];refine⟨build (sO [97] {L with st:=8}) Z rfl rfl rfl rfl (h.q Y) ⟨by show(6:Int)<=8;decide,by show(8:Int)<=9;decide⟩,.inr (.inr ⟨.inl hs,rfl,?_,?_,?_⟩)⟩;{exact(sz _).2.2.2.2.2.2.1};{exact(sz _).2.2.2.2.2.2.2.1};exact(sz _).2.2.2.2.2.2.2.2};{have e:=key [97,117] 9 (by rw[hs];exact u);rw[e,nx 9 fF]at Z;rw[e,nx 9 fF];refine⟨build (sO [97,117] {L with st:=9}) Z rfl rfl rfl rfl (h.q Y) ⟨by show(6:Int)<=9;decide,by show(9:Int)<=9;decide⟩,.inr (.inl ⟨hs,rfl,?_,?_⟩)⟩;{exact(sz _).2.2.2.2.2.2.1};exact(sz _).2.2.2.2.2.2.2.1};{have e:=key [97] 8 (by rw[hs];exact j);rw[e,nx 8 fF]at Z;rw[e,nx 8 fF];refine⟨build (sO [97] {L with st:=8}) Z rfl rfl rfl rfl (h.q Y) ⟨by show(6:Int)<=8;decide,by show(8:Int)<=9;decide⟩,.inr (.inr ⟨.inr hs,rfl,?_,?_,?_⟩)⟩;{exact(sz _).2.2.2.2.2.2.1};{exact(sz _).2.2.2.2.2.2.2.1};exact(sz _).2.2.2.2.2.2.2.2};have e:=key [100,114,97] 8 (by rw[hs];exact t9);rw[e,nx 8 fF]at Z;rw[e,nx 8 fF];refine⟨build (sO [100,114,97] {L with st:=8}) Z rfl rfl rfl rfl ⟨h.ns,h.nm⟩ ⟨by show(6:Int)<=8;decide,by show(8:Int)<=9;decide⟩,.inl ⟨hs,?_,?_,?_,?_⟩⟩;{show [(1,(L.ow+1) %256,ql L.ns L.nm),(2,id,pQ g')] =_;rw[h.ns,h.nm,K9 J]};{exact(sz _).2.2.2.2.2.2.1};{exact(sz _).2.2.2.2.2.2.2.1};exact(sz _).2.2.2.2.2.2.2.2
def afx(Z:1<=g/\g<=255)(hi:0<=id/\id<=255)(Y:id≠L.ow):kV L (2,id,pQ g)=(L,[],6):=by
 unfold kV;rw[af (by rw[BJ (.inr rfl) hi Z];simp),af (by show¬(2:Int)=1;decide),af (by show¬(2:Int)=5;decide),af (by show¬(2:Int)=6;decide)];unfold vM;rw[ag Y]
def YB(M:1<=g/\g<=255)(h:LI g L)(Q:L.st=6 \/L.st=8):LI g (kV L (2,L.ow,pQ g)).1/\(kV L (2,L.ow,pQ g)).2.1=[] /\(kV L (2,L.ow,pQ g)).1.ow=L.ow/\(kV L (2,L.ow,pQ g)).1.wt=L.wt/\(kV L (2,L.ow,pQ g)).1.st=L.st+1:=by
 have Z:=h.k.kV (2,L.ow,pQ g);have Y:=h.q fC
 have J:kV L (2,L.ow,pQ g)=vf L 8 (0,L.ow,[]):=by
  unfold kV;rw[af (by rw[BJ (.inr rfl) ⟨h.k.o1,h.k.o2⟩ M];simp),af (by show¬(2:Int)=1;decide),af (by show¬(2:Int)=5;decide),af (by show¬(2:Int)=6;decide)];unfold vM;rw[af gZ,ag rfl,af (by rw[Y.1,Y.2,K9 M];simp)]
 rw[J]at Z⊢;obtain⟨G,E⟩:=AA.2.1;have nx:∀n:Int,¬n<=3->L.next n={L with st:=n}:=λn H=>by unfold LS.next;rw[af H]
 obtain hs|hs:=Q;{rw[JS _ (show ki L.st 8=_ by rw[hs];exact G),nx 7 fF]at Z⊢;exact⟨⟨h.fs,h.fm,h.ns,h.nm,λ_=>Y,.inr ⟨by show(6:Int)<=7;decide,by show(7:Int)<=9;decide⟩,Z⟩,rfl,rfl,rfl,by show(7:Int)=_;omega⟩};rw[JS _ (show ki L.st 8=_ by rw[hs];exact E),nx 9 fF]at Z⊢;exact⟨⟨h.fs,h.fm,h.ns,h.nm,λ_=>Y,.inr ⟨by show(6:Int)<=9;decide,by show(9:Int)<=9;decide⟩,Z⟩,rfl,rfl,rfl,by show(9:Int)=_;omega⟩
def ox(g id:Int):mK:=76::oj 1 id (pQ g)
def pU(g id:Int):mK:=76::oj 2 id (pQ g)
def YC(code id g:Int):(oj code id (pQ g)).length=7:=by
 unfold oj;simp only[fU,uk];rfl
def BK(hc:code=1 \/code=2)(hi:0<=id/\id<=255)(Y:1<=g/\g<=255):j3 (oj code id (pQ g))=(code,id,pQ g,0):=by
 have e:oj code id (pQ g)=[kI code,kI id,2,1,255,5,kI g] :=rfl
 have M:oz [1,255,5,kI g] =pQ g:=by
  have Q:oz [1,255,5,kI g] =[(1,255),(5,((kI g).toNat:Int))] :=rfl;rw[Q,nT g fC Y.2];rfl
 have Z:=nT code fC fC;have J:=nT id hi.1 hi.2;rw[e];unfold j3;rw[af gZ];show(if lg ((kI code).toNat:Int) ((kI id).toNat:Int) (oz [1,255,5,kI g])=0 then(((kI code).toNat:Int),((kI id).toNat:Int),oz [1,255,5,kI g],0)else(0,0,[],4))=_;rw[M,Z,J,ag (BJ hc hi Y)]
def Hc(hc:code=1 \/code=2)(hi:0<=id/\id<=255)(Z:1<=g/\g<=255):qg (code,id,pQ g)=[76::oj code id (pQ g)] :=by
 unfold qg;rw[ag ⟨BJ hc hi Z,by show(oj code id (pQ g)).length+1<=60;rw[YC];decide⟩]
end Rt
variable {r:Nat}
section
variable (C:l8) (r:Nat)
def pc:List Nat->Int
 |[] =>0
 |[n] =>C r n
 |n::m::l=>pc (m::l)+C m n
def DN:List Nat->Prop
 |[] =>False
 |[n] =>0<C r n/\n≠r/\n<7
 |n::m::l=>DN (m::l)/\0<C m n/\n≠r/\n<7
end
def pO:List Nat->Nat
 |[] =>0
 |[n] =>n
 |_::m::l=>pO (m::l)
def yH(a:Int×Int)(b:Int×Int):Prop:=a.1<b.1 \/(a.1=b.1/\a.2<=b.2)
def yH.trans {a b c:Int×Int} (h:yH a b)(k:yH b c):yH a c:=by unfold yH at*;omega
def yH.rfl'(a:Int×Int):yH a a:=.inr ⟨rfl,aZ _⟩
def HP.v(h:HP):Int×Int:=(h.far,h.qT)
def BL(G' G:Nat->HP):Prop:=∀x,0<(G x).far->0<(G' x).far/\yH (G' x).v (G x).v
def BL.refl(G:Nat->HP):BL G G:=λ_ h=>⟨h,yH.rfl' _⟩
def BL.trans {A B D:Nat->HP} (h:BL A B)(k:BL B D):BL A D:=λx hx=>⟨(h x (k x hx).1).1,(h x (k x hx).1).2.trans (k x hx).2⟩
def BM(a b:HP):wv a b=true↔b.far=0 \/a.far<b.far \/(a.far=b.far/\a.qT<b.qT):=by
 unfold wv;simp[or_assoc]
section
variable {C:l8} {r:Nat}
structure Sound(C:l8)(r:Nat)(G:Nat->HP):Prop where
 nn:∀n,0<=(G n).far
 way:∀n,0<(G n).far->(G n).dst=n/\∃p,DN C r p/\p.head? =μ n/\pc C r p=(G n).far/\((pO p:Nat):Int)=(G n).qT
def EU(hC:∀x y,0<=C x y):∀p,DN C r p->0<pc C r p
 |[],h=>h.elim
 |[n],h=>h.1
 |n::m::l,h=>by
  have:=EU hC (m::l) h.1;have h2:=h.2.1;simp only[pc];omega
def UH(b n:Nat)(G:Nat->HP)(Y:∀x,0<=(G x).far)(hC:∀x y,0<=C x y):BL (qW C r b n G) G:=by
 intro x hx;unfold qW;split;{exact⟨hx,yH.rfl' _⟩};rename_i hc;split;{rename_i Z;rw[BM]at Z;simp only[tL];by_cases e:x=n;{subst e;rw[ag rfl];have h1:=Y b;have h2:=hC b x;refine⟨by simp only;omega,?_⟩;simp only[HP.v,yH]at Z⊢;omega};rw[af e];exact⟨hx,yH.rfl' _⟩};exact⟨hx,yH.rfl' _⟩
def Qf(b n:Nat)(G:Nat->HP)(Y:∀x,0<=(G x).far)(h1:0<(G b).far)(h2:0<C b n)(h3:n≠r):0<(qW C r b n G n).far/\yH (qW C r b n G n).v ((G b).far+C b n,(G b).qT):=by
 unfold qW;rw[af fC];by_cases Z:wv ⟨n,(G b).far+C b n,(G b).qT⟩ (G n)=true;{rw[ag Z];simp only[tL,if_true];exact⟨fC,yH.rfl' _⟩};rw[af Z];rw[BM]at Z;have:=Y n;simp only at Z;refine⟨fC,?_⟩;simp only[HP.v,yH];omega
def Qg(b n:Nat)(Q:n<7)(G:Nat->HP)(hS:Sound C r G)(hC:∀x y,0<=C x y):Sound C r (qW C r b n G):=by
 unfold qW;split;{exact hS};rename_i hc;split
 ·have h1:=hS.nn b;have h2:=hC b n;refine⟨λx=> ?_,λx hx=> ?_⟩;{simp only[tL];split;{simp only;omega};exact hS.nn x};simp only[tL]at hx⊢;by_cases e:x=n
  ·subst e;simp only[if_true]at hx⊢;obtain⟨_,p,Z,Y,p3,M⟩:=hS.way b fC;refine⟨trivial,x::p,?_,rfl,?_,?_⟩
   ·cases p with
    |nil=>exact Z.elim
    |cons m l=>
     have:m=b:=by simpa using Y
     subst this;exact⟨Z,fC,fC,Q⟩
   ·cases p with
    |nil=>exact Z.elim
    |cons m l=>
     have:m=b:=by simpa using Y
     subst this;simp only[pc,p3]
   cases p with|nil=>exact Z.elim|cons m l=>exact M
  rw[af e]at hx⊢;exact hS.way x hx
 exact hS
def zn(b:Nat)(G:Nat->HP)(hS:Sound C r G)(hC:∀x y,0<=C x y):∀n≤7,Sound C r (ry C r b G n)
 |0,_=>hS
 |n+1,h=>Qg b n fC _ (zn b G hS hC n fC) hC
def go_sound(G:Nat->HP)(hS:Sound C r G)(hC:∀x y,0<=C x y):∀b,Sound C r (Eg C r G b)
 |0=>hS
 |b+1=>zn b _ (go_sound G hS hC b) hC 7 (aj _)
def BN(b:Nat)(G:Nat->HP)(hS:Sound C r G)(hC:∀x y,0<=C x y)(i:Nat):∀d,i+d<=7->BL (ry C r b G (i+d)) (ry C r b G i)
 |0,_=>BL.refl _
 |d+1,h=>(UH b (i+d) _ (zn b G hS hC (i+d) fC).nn hC).trans (BN b G hS hC i d fC)
def UI(b:Nat)(G:Nat->HP)(hS:Sound C r G)(hC:∀x y,0<=C x y)(m:Nat)(hm:m<7)(Y:0<(G b).far)(Q:0<C b m)(M:m≠r):0<(ry C r b G 7 m).far/\yH (ry C r b G 7 m).v ((G b).far+C b m,(G b).qT):=by
 have k0:=BN b G hS hC 0 m fC;rw[aY]at k0;have k1:=k0 b Y;have k2:=Qf (r:=r) b m (ry C r b G m) (zn b G hS hC m fC).nn k1.1 Q M;have k3:=BN b G hS hC (m+1) (7-(m+1)) fC;rw[show m+1+(7-(m+1))=7 by omega]at k3;have Z:=k3 m k2.1;refine⟨Z.1,Z.2.trans (yH.trans k2.2 ?_)⟩;have:=k1.2;simp only[yH,HP.v,ry]at this⊢;omega
def EV(G:Nat->HP)(hS:Sound C r G)(hC:∀x y,0<=C x y)(i:Nat):∀d,BL (Eg C r G (i+d)) (Eg C r G i)
 |0=>BL.refl _
 |d+1=>by
  have h:=BN (i+d) _ (go_sound G hS hC (i+d)) hC 0 7 fC;exact BL.trans h (EV G hS hC i d)
def YD(G:Nat->HP)(hS:Sound C r G)(hC:∀x y,0<=C x y)(b m:Nat)(hb:b<7)(J:m<7)(Y:0<(G b).far)(Q:0<C b m)(M:m≠r):0<(Eg C r G 7 m).far/\yH (Eg C r G 7 m).v ((G b).far+C b m,(G b).qT):=by
 have k0:=EV G hS hC 0 b;rw[aY]at k0;have k1:=k0 b Y;have k2:=UI b _ (go_sound G hS hC b) hC m J k1.1 Q M;have k3:=EV G hS hC (b+1) (7-(b+1));rw[show b+1+(7-(b+1))=7 by omega]at k3;have Z:=k3 m k2.1;refine⟨Z.1,Z.2.trans (yH.trans k2.2 ?_)⟩;have:=k1.2;simp only[yH,HP.v,Eg]at this⊢;omega
def EW(C:l8)(r:Nat)(G:Nat->HP)(p:List Nat):Prop:=∀n,p.head? =μ n->0<(G n).far/\yH (G n).v (pc C r p,((pO p:Nat):Int))
def NG(hC:∀x y,0<=C x y)(hd:C r r=0):Sound C r (nr C r 7):=by
 refine⟨λn=> ?_,λn Z=> ?_⟩;{simp only[nr];have:=hC r n;split;{simp only;omega};simp[HP.zero]};simp only[nr]at Z⊢;by_cases h:n<7/\0<C r n;{rw[ag h]at Z⊢;refine⟨rfl,[n],⟨h.2,?_,h.1⟩,rfl,rfl,rfl⟩;rintro rfl;omega};rw[af h]at Z;simp[HP.zero]at Z
def r9(hC:∀x y,0<=C x y)(hd:C r r=0):∀k,Sound C r (j1 C r k)
 |0=>NG hC hd
 |k+1=>go_sound _ (r9 hC hd k) hC 7
def RT:∀ {p:List Nat} {n:Nat},DN C r p->p.head? =μ n->n<7/\n≠r
 |[],n,h,_=>h.elim
 |[m],n,h,e=>by
  have:m=n:=by simpa using e
  subst this;exact⟨h.2.2,h.2.1⟩
 |m::x::l,n,h,e=>by
  have:m=n:=by simpa using e
  subst this;exact⟨h.2.2.2,h.2.2.1⟩
def AB(hC:∀x y,0<=C x y)(hd:C r r=0):∀k p,DN C r p->p.length<=k+1->EW C r (j1 C r k) p
 |0,[],h,_=>h.elim
 |0,[n],h,_=>by
  intro x hx;have:n=x:=by simpa using hx
  subst this;simp only[j1,nr,if_pos (show n<7/\0<C r n from⟨h.2.2,h.1⟩)];exact⟨h.1,yH.rfl' _⟩
 |0,n::m::l,h,hl=>by simp at hl
 |k+1,p,h,hl=>by
  by_cases hs:p.length<=k+1;{intro n M;have Z:=AB hC hd k p h hs n M;have Y:=EV (j1 C r k) (r9 hC hd k) hC 0 7 n Z.1;exact⟨Y.1,Y.2.trans Z.2⟩}
  ·match p,h,hl,hs with
   |[],h,_,_=>exact h.elim
   |[n],h,_,hs=>simp at hs
   |n::m::l,h,hl,hs=>
    intro x hx;have:n=x:=by simpa using hx
    subst this;have Z:=AB hC hd k (m::l) h.1 (by simp at hl⊢;omega) m rfl;have Q:=(RT h.1 (show(m::l).head? =μ m from rfl)).1;have Y:=YD (j1 C r k) (r9 hC hd k) hC m n Q h.2.2.2 Z.1 h.2.1 h.2.2.1;refine⟨Y.1,yH.trans Y.2 ?_⟩;have:=Z.2;simp only[yH,HP.v,pc,pO]at this⊢;omega
def NH(hC:∀x y,0<=C x y)(n:Nat):∀q:List Nat,DN C r q->q.Nodup->n∈q->∃t,DN C r t/\t.Nodup/\t.head? =μ n/\pO t=pO q/\pc C r t<=pc C r q/\t.length<=q.length
 |[],h,_,_=>h.elim
 |[m],h,hd,hm=>by
  have:n=m:=by simpa using hm
  subst this;exact⟨[n],h,hd,rfl,rfl,aZ _,aj _⟩
 |m::x::l,h,hd,hm=>by
  by_cases e:m=n;{subst e;exact⟨_,h,hd,rfl,rfl,aZ _,aj _⟩}
  ·have Y:n∈x::l:=by
    obtain Z|Z:=aS.1 hm;{exact absurd Z.symm e};{exact Z}
   obtain⟨t,Q,M,J,H,t5,G⟩:=NH hC n (x::l) h.1 (bE.1 hd).2 Y;refine⟨t,Q,M,J,H,?_,by simp at G⊢;omega⟩;have:=h.2.1;simp only[pc];omega
def CZ(hC:∀x y,0<=C x y):∀p:List Nat,DN C r p->∃q,DN C r q/\q.Nodup/\q.head? =p.head? /\pO q=pO p/\pc C r q<=pc C r p
 |[],h=>h.elim
 |[n],h=>⟨[n],h,gZ,rfl,rfl,aZ _⟩
 |n::m::l,h=>by
  obtain⟨q,q1,q2,M,Y,q5⟩:=CZ hC (m::l) h.1;have Q:=h.2.1;by_cases Z:n∈q;{obtain⟨t,J,H,G,E,t5,_⟩:=NH hC n q q1 q2 Z;refine⟨t,J,H,G,by rw[E,Y];rfl,?_⟩;simp only[pc];omega}
  ·cases q with
   |nil=>exact q1.elim
   |cons x t=>
    have:x=m:=by simpa using M
    subst this;refine⟨n::x::t,⟨q1,Q,h.2.2.1,h.2.2.2⟩,bE.2 ⟨Z,q2⟩,rfl,?_,?_⟩;{exact Y};{simp only[pc];omega}
def NI:∀ {p:List Nat},DN C r p->∀x∈p,x<7/\x≠r
 |[],h,_,_=>h.elim
 |[n],h,x,hx=>by
  have:x=n:=by simpa using hx
  subst this;exact⟨h.2.2,h.2.1⟩
 |n::m::l,h,x,hx=>by
  obtain e|e:=aS.1 hx;{subst e;exact⟨h.2.2.2,h.2.2.1⟩};{exact NI h.1 x e}
def Lb:∀(l m:List Nat),l.Nodup->(∀x∈l,x∈m)->l.length<=m.length
 |[],_,_,_=>aw _
 |x::l,m,hp,hs=>by
  obtain⟨Z,Y⟩:=bE.1 hp;have hx:=hs x gZ;have:=Lb l (m.erase x) Y (λy hy=>(dI (λe=>Z (by rw[<-e];exact hy))).2 (hs y (cG _ hy)));rw[dy hx]at this;have hm:0<m.length:=eU hx;simp only[fU];omega
def BO(hC:∀x y,0<=C x y)(hd:C r r=0)(p:List Nat)(Y:DN C r p):EW C r (j1 C r 6) p:=by
 obtain⟨q,q1,q2,Q,M,q5⟩:=CZ hC p Y;have hl:=Lb q (gw 7) q2 (λx hx=>aU.2 (NI q1 x hx).1);rw[eu]at hl;intro n Z;have:=AB hC hd 6 q q1 hl n (by rw[Q];exact Z);refine⟨this.1,yH.trans this.2 ?_⟩;simp only[yH,M];omega
def uX(hC:∀x y,0<=C x y)(hd:C r r=0)(n:Nat)(J:0<(j1 C r 6 n).far):(j1 C r 6 n).dst=n/\∃q,DN C r q/\q.Nodup/\q.head? =μ n/\pc C r q=(j1 C r 6 n).far/\((pO q:Nat):Int)=(j1 C r 6 n).qT:=by
 obtain⟨M,p,H,Z,p3,G⟩:=(r9 hC hd 6).way n J;obtain⟨q,q1,q2,Y,E,q5⟩:=CZ hC p H;have Q:=BO hC hd q q1 n (by rw[Y];exact Z)
 have:pc C r q=(j1 C r 6 n).far:=by
  have:=Q.2;simp only[yH,HP.v]at this;omega
 exact⟨M,q,q1,q2,by rw[Y];exact Z,this,by rw[E];exact G⟩
end
section
variable {C:l8}
def pK(C:l8)(r n:Nat):Int:=(j1 C r 6 n).far
def Qh(hC:∀x y,0<=C x y)(hd:C r r=0)(n:Nat):0<=pK C r n:=(r9 hC hd 6).nn n
def Hd(hC:∀x y,0<=C x y)(hd:C r r=0) {p:List Nat} (Q:DN C r p) {n:Nat} (Y:p.head? =μ n):0<pK C r n/\pK C r n<=pc C r p:=by
 have:=BO hC hd p Q n Y;refine⟨this.1,?_⟩;have Z:=this.2;simp only[yH,HP.v]at Z;unfold pK;omega
def He {r:Nat}:∀(q:List Nat),DN C r q->q.Nodup->q.head? ≠μ (pO q)->∃t,DN C (pO q) t/\t.head? =q.head? /\pc C r q=C r (pO q)+pc C (pO q) t
 |[],h,_,_=>h.elim
 |[n],_,_,kf=>absurd rfl kf
 |[n,m],h,hd,_=>by
  refine⟨[n],⟨h.2.1,?_,h.2.2.2⟩,rfl,?_⟩;{have:=(bE.1 hd).1;intro e;exact this (by simp[e,pO])}
  ·simp only[pc,pO]
 |n::m::x::l,h,hd,_=>by
  obtain⟨Q,Z⟩:=bE.1 hd;have Y:∀q:List Nat,q≠ []->pO q∈q:=by
   intro q
   induction q with
   |nil=>intro h;exact absurd rfl h
   |cons a t ih=>
    intro _;cases t with
    |nil=>simp[pO]
    |cons b u=>
     have:=ih gZ;simp only[pO];exact cG _ this
  have H:(m::x::l).head? ≠μ (pO (m::x::l)):=by
   intro e;have J:m=pO (x::l):=by simpa[pO]using e
   have:=(bE.1 Z).1;rw[J]at this;exact this (Y (x::l) gZ)
  obtain⟨t,M,G,E⟩:=He (m::x::l) h.1 Z H;cases t with
  |nil=>exact M.elim
  |cons y u=>
   have hy:y=m:=by simpa using G
   subst hy;have hf:pO (n::y::x::l)=pO (y::x::l):=rfl;rw[hf];refine⟨n::y::u,⟨M,h.2.1,?_,h.2.2.2⟩,rfl,?_⟩;{intro e;rw[e]at Q;exact Q (Y (y::x::l) gZ)};{simp only[pc]at E⊢;omega}
def JT(hC:∀x y,0<=C x y) {r f:Nat} (hf:0<C r f)(Q:f≠r)(Z:f<7):∀(q:List Nat),DN C f q->q.head? ≠μ r->∃t,DN C r t/\t.head? =q.head? /\pc C r t<=C r f+pc C f q
 |[],h,_=>h.elim
 |[n],h,kf=>by
  have Y:n≠r:=λe=>kf (by simp[e]);exact⟨[n,f],⟨⟨hf,Q,Z⟩,h.1,Y,h.2.2⟩,rfl,by simp[pc]⟩
 |n::m::l,h,kf=>by
  have Y:n≠r:=λe=>kf (by simp[e]);by_cases M:m=r;{subst M;refine⟨[n],⟨h.2.1,Y,h.2.2.2⟩,rfl,?_⟩;have:=EU hC _ h.1;simp only[pc];omega}
  ·obtain⟨t,J,H,t3⟩:=JT hC hf Q Z (m::l) h.1 (by simpa using M);cases t with
   |nil=>exact J.elim
   |cons y u=>
    have hy:y=m:=by simpa using H
    subst hy;refine⟨n::y::u,⟨J,h.2.1,Y,h.2.2.2⟩,rfl,?_⟩;simp only[pc];omega
def Hf {r:Nat}:∀q:List Nat,DN C r q->0<C r (pO q)/\pO q≠r/\pO q<7
 |[],h=>h.elim
 |[_],h=>h
 |_::m::l,h=>Hf (m::l) h.1
def BP(hC:∀x y,0<=C x y)(hd:∀x,C x x=0)(r n:Nat)(H:0<pK C r n):
 ∃f:Nat,(j1 C r 6 n).qT=(f:Int)/\0<C r f/\f≠r/\f<7/\(f≠n->0<pK C f n)/\pK C r n=C r f+(if f=n then 0 else pK C f n):=by
  obtain⟨_,q,q1,q2,Q,G,E⟩:=uX hC (hd r) n H;have Z:=Hf q q1;refine⟨pO q,E.symm,Z.1,Z.2.1,Z.2.2,?_⟩;by_cases e:pO q=n
  ·refine⟨λh=>absurd e h,?_⟩;rw[ag e];have Y:=Hd hC (hd r) (p:=[pO q]) ⟨Z.1,Z.2.1,Z.2.2⟩ rfl;rw[e]at Y Z⊢;simp only[pc]at Y
   have key:∀p:List Nat,DN C r p->C r (pO p)<=pc C r p:=by
    intro p;induction p with|nil=>intro h;exact h.elim|cons a t ih=>intro h;(cases t with|nil=>simp[pO,pc]|cons b u=>have:=ih h.1;have h3:=h.2.1;simp only[pO,pc];omega)
   have M:=key q q1;rw[e,G]at M;unfold pK at*;omega
  obtain⟨t,A,j,t3⟩:=He q q1 q2 (by rw[Q];intro h;exact e (aL h).symm);have Y:=Hd hC (hd (pO q)) A (by rw[j];exact Q);refine⟨λ_=>Y.1,?_⟩;rw[af e];obtain⟨_,s,s1,_,s3,s4,_⟩:=uX hC (hd (pO q)) n Y.1;have J:=(RT q1 Q).2;obtain⟨u,u1,u2,u3⟩:=JT hC Z.1 Z.2.1 Z.2.2 s s1 (by rw[s3];intro h;exact J (aL h));have M:=Hd hC (hd r) u1 (by rw[u2];exact s3);unfold pK at*;omega
def wc(C:l8):List Nat->Int
 |[] =>0
 |[_] =>0
 |n::m::l=>wc C (m::l)+C m n
def RV(H:Nat->HP):∀n h,h∈qR H n↔∃k,k<n/\h=H k/\0<(H k).far
 |0,h=>by simp[qR]
 |n+1,h=>by
  have ih:=RV H n h;simp only[qR];split
  ·rename_i M
   rw[aA,ih];constructor;{rintro(⟨k,Q,Z,Y⟩|Q);{exact⟨k,fC,Z,Y⟩};{exact⟨n,fC,by simpa using Q,M⟩}};{rintro⟨k,Q,Z,Y⟩;by_cases e:k=n;{subst e;exact .inr (by simp[Z])};{exact .inl ⟨k,fC,Z,Y⟩}}
  ·rename_i M
   rw[ih];constructor;{rintro⟨k,Q,Z,Y⟩;exact⟨k,fC,Z,Y⟩};{rintro⟨k,Q,Z,Y⟩;by_cases e:k=n;{subst e;exact absurd Y M};{exact⟨k,fC,Z,Y⟩}}
def yI(C:l8)(r:Nat)(x:HP):x∈mE C r↔∃k,k<7/\x=j1 C r 6 k/\0<pK C r k:=RV (j1 C r 6) 7 x
def Lc(hC:∀x y,0<=C x y)(hd:C r r=0)(n:Nat)(H:n<7):ye (mE C r) (n:Int)=if 0<pK C r n then μ (j1 C r 6 n)else ν:=by
 have dst:∀k,0<pK C r k->(j1 C r 6 k).dst=(k:Int):=λk Z=>(uX hC hd k Z).1;by_cases h:0<pK C r n
 ·rw[ag h];unfold ye;have hex:∃x∈mE C r,(x.dst==(n:Int))=true:=⟨j1 C r 6 n,(yI C r _).2 ⟨n,H,rfl,h⟩,by rw[dst n h];simp⟩
  obtain⟨x,hx⟩:=cK.1 (List.find?_isSome.2 hex);rw[hx];have Q:=dt hx;have M:=eQ hx;obtain⟨k,_,Z,k3⟩:=(yI C r x).1 Q;have Y:x.dst=(n:Int):=by simpa using M
  rw[Z,dst k k3]at Y;have:k=n:=fC;rw[Z,this]
 rw[af h];unfold ye;rw[List.find?_eq_none];intro x hx J;obtain⟨k,_,Z,k3⟩:=(yI C r x).1 hx;have Y:x.dst=(n:Int):=by simpa using J
 rw[Z,dst k k3]at Y;have:k=n:=fC;rw[this]at k3;exact h k3
end
def Ld(a b:Option Addr)(n ca H:Nat)(L:List HP)(w:fA)(hS:Ti w a n L)(E:Ti w b n L)(hn:n<=1000):
 gb gg 46 #[σ a n ca,σ b n H] w λe w'=>e=ρ (.bool true)/\fP w w':=by
  have hl:=hS.len;go_in;go_wp2;go_loopw [5] (λi wr=>∃k:Nat,k<=n/\i=ι κ k/\fP w wr) (λi _=>n-(gj i).toNat);(case atStart=>exact⟨0,aw _,rfl,aC _ _⟩);case round=>obtain⟨k,hk,rfl,Y⟩:=hrel;by_cases lZ:k<n;{have pE:(k:Int)<(n:Int):=fC;have r1:=(hS.below Y).row;have A:=(E.below Y).row;obtain G|⟨b1,o1,rfl,Z⟩:=r1;{omega};obtain G|⟨b2,o2,rfl,M⟩:=A;{omega};have Q:L[k]? =μ (L[k]'(by omega)):=aB fC;obtain⟨c0,c1,c2⟩:=Z k _ Q;obtain⟨d0,d1,d2⟩:=M k _ Q;generalize L[k]'(by omega)=p at c0 c1 c2 d0 d1 d2 Q;obtain⟨pd,pf,px⟩:=p;simp only at c0 c1 c2 d0 d1 d2;clear Z M Q;have J:Hid _:=Y;clear Y;go_wp2;go_quiet(fail);go_wp2;go_roundw;(case rel=>exact⟨k+1,fC,by go_num,below_drewN J.out _⟩);case measure=>simp[gj];omega};have zD:¬(k:Int)<(n:Int):=fC;go_wp2;go_ret;exact⟨rfl,Y⟩
namespace Rt
variable {L:List qM} {N g i m:Nat} {V:Nat->AV} {W' w w' w0:World} {X:Nat->Prop} {e:Ending} {many:Int}
structure qI(w0 w:fA)(N:Nat)(X:Nat->Prop)(n:jQ):Prop where
 ex:∃y,kL w y n/\y.N=N/\(∀b,y.all n.n b->w0.heap.size<=b)/\∀b,y.ext b↔X b
 ph:fP w0 w
def qI.YE(h:Uk w many L X e w')(Y:pz many L=0)(Z:fP w0 w):∃N,e=ρ (τ #[π (μ ⟨N,0,ν⟩),η])/\qI w0 w' N X (la many.toNat L):=by
 obtain⟨_,Q,M⟩:=h;obtain⟨y,G,J,H,hx⟩:=Q Y;exact⟨y.N,G,⟨y,J,rfl,λb E=>au Z.size (H b E),hx⟩,fQ Z M⟩
def qI.afy(h:Uk w many L X e w')(Z:pz many L≠0)(M:fP w0 w):e=ρ (τ #[π ν,kr (pz many L)])/\fP w0 w':=by
 obtain⟨Y,_,Q⟩:=h;exact⟨Y Z,fQ M Q⟩
def qI.still {n:jQ} (h:qI w0 w N X n)(Z:fP w w'):qI w0 w' N X n:=by
 obtain⟨⟨y,Q,Y,M,hx⟩,J⟩:=h;exact⟨⟨y,Q.below Z,Y,M,hx⟩,fQ J Z⟩
def qI.tab {n:jQ} (h:qI w0 w N X n)(Z:kd w0):kd w:=Z.below h.ph
def qI.wz {W:fA} {y:Yt} {n n':jQ} (J:kL W y n)(H:∀b,y.all n.n b->w0.heap.size<=b)(hx:∀b,y.ext b↔X b)(Y:fP w0 W)(hn:n'.n=n.n)(h:jH W w' y n' n.n):
 qI w0 w' y.N X n'/\∀b,X b->w'.heap[b]? =W.heap[b]? :=by
  obtain⟨⟨y',G,hs,u,E⟩,Q⟩:=h;have lZ:∀b,X b->b<W.heap.size:=λb Z=>J.lt (.inr ((hx b).2 Z))
  have M:∀b,X b->¬y.all n.n b:=λb Z e=>by
   obtain e|⟨j,A,e⟩:=e;{exact J.nx b ((hx b).2 Z) e};exact J.MO A (.inr (.inl ((hx b).2 Z))) e
  refine⟨⟨⟨y',G,hs.N,λb Z=> ?_,λb=>(E b).trans (hx b)⟩,?_⟩,λb Z=>Q.block b (lZ b Z) (M b Z)⟩;{rw[hn]at Z;obtain e|e:=u b Z;{exact H b e};exact au Y.size e};refine⟨Q.os.trans Y.os,Q.tape.trans Y.tape,Q.output.trans Y.output,au Y.size Q.size,λb Z=> ?_⟩;refine(Q.block b (aq Z Y.size) (λe=> ?_)).trans (Y.block b Z);have:=H b e;omega
def qI.call {W:fA} {n n':jQ} {f:FuncId} {args:Array Value} {E:Ending->Prop} (h:qI w0 W N X n)(H:n'.n=n.n)
 (k:∀y,kL W y n->y.N=N->gb gg f args W λe w'=>E e/\jH W w' y n' n.n):gb gg f args W λe w'=>E e/\qI w0 w' N X n'/\∀b,X b->w'.heap[b]? =W.heap[b]? :=by
  obtain⟨⟨y,Y,Z,Q,hx⟩,M⟩:=h;refine(k y Y Z).mono ?_;rintro e w' ⟨J,hw⟩;have:=qI.wz Y Q hx M H hw;rw[Z]at this;exact⟨J,this⟩
def jQ.rounds(y:jQ):Nat->jQ
 |0=>y
 |k+1=>(y.rounds k).round
def ZU:List qM:=[⟨1,0,2,0,3⟩]
def Qi:jQ:=((la 2 ZU).jT 0 true).1
def abz:n8 ((Qi.rounds 6).R 1)=[⟨1,3,1⟩] :=iV
def abA:((la 2 ZU).jT 0 true).2=0:=iV
def Qj:pz 2 ZU=0:=iV
def NJ(y:jQ):∀k,(y.rounds k).n=y.n
 |0=>rfl
 |k+1=>(mC (y.rounds k)).1.trans (NJ y k)
def C1 {y:jQ} {D:Nat} (h:ll y D 0)(Z:D<=100000000):∀k≤100,ll (y.rounds k) (D+1300000*k) 0
 |0,_=>h
 |k+1,hk=>((C1 h Z k fC).round fC).mono fC (aj _)
def adf:ll Qi 2 0:=(Bz (xb Qj)).jT fC 0 true
def UJ(w:fA)(hT:kd w):gb gg 42 #[] w λe w'=>e=ρ (.bool true)/\fP w w':=by
 obtain⟨W0,pF⟩:=fH (w.alloc (γ #[ι κ 1,ι κ 0,ι κ 2,ι κ 0,ι κ 3] 81));have hb:=gu w (γ #[ι κ 1,ι κ 0,ι κ 2,ι κ 0,ι κ 3] 81);have hc:=λj=>ay w #[ι κ 1,ι κ 0,ι κ 2,ι κ 0,ι κ 3] 81 (0,0) j;rw[pF]at hb;rw[pF]at hc
 have hL:Bw W0 (μ ⟨w.heap.size,0,ν⟩) ZU:=λj hj=>by
  obtain rfl:j=0:=by simp[ZU]at hj;exact hj
  exact⟨w.heap.size,0,rfl,hc 0,hc 1,hc 2,hc 3,hc 4⟩
 have kt:gb gg 36 #[ι κ 2,σ (μ ⟨w.heap.size,0,ν⟩) 1 1] W0 λe w'=>∃N,e=ρ (τ #[π (μ ⟨N,0,ν⟩),η])/\qI w w' N (λ_=>False) (la 2 ZU):=by
  refine(RH 2 (μ ⟨w.heap.size,0,ν⟩) 1 ZU W0 hL fF (kd.below (w:=w) hT hb) (λ_=>False) (λb rZ=>rZ.elim)).mono ?_;rintro e w' h;exact qI.YE h Qj hb
 have u:∀W N,qI w W N (λ_=>False) (la 2 ZU)->gb gg 57 #[π (μ ⟨N,0,ν⟩),ι κ 0,.bool true] W λe w'=>e=ρ η/\qI w w' N (λ_=>False) (Qi.rounds 0):=by
  intro W N hA;refine(hA.call (E:=λe=>e=ρ η) (n':=Qi) rfl λy M J=> ?_).mono (λe w' h=>⟨h.1,h.2.1⟩);rw[<-J];refine(Nb y (la 2 ZU) 0 0 true W M (hA.tab hT) (Bz (xb Qj)) fC).mono ?_;rintro e w' ⟨rfl,hw⟩;rw[abA];exact⟨rfl,hw⟩
 have Hg:∀W N k,k<6->qI w W N (λ_=>False) (Qi.rounds k)->gb gg 54 #[π (μ ⟨N,0,ν⟩)] W λe w'=>e=ρ (τ #[])/\qI w w' N (λ_=>False) (Qi.rounds (k+1)):=by
  intro W N k hk hA;refine(hA.call (E:=λe=>e=ρ (τ #[])) (n':=Qi.rounds (k+1)) (mC (Qi.rounds k)).1 λy M J=> ?_).mono (λe w' h=>⟨h.1,h.2.1⟩);rw[<-J];exact CM y (Qi.rounds k) (2+1300000*k) W M (hA.tab hT) (C1 adf fC k fC) fC
 have Le:∀W N,qI w W N (λ_=>False) (Qi.rounds 6)->gb gg 40 #[π (μ ⟨N,0,ν⟩),ι κ 2] W λe w'=>∃R,e=ρ (τ #[π (μ ⟨R,0,ν⟩),η])/\fP w w'/\gb gg 64 #[π (μ ⟨R,0,ν⟩)] w' λe w2=>∃b c,e=ρ (σ b 1 c)/\Ti w2 b 1 [⟨1,3,1⟩] /\fP w w2:=by
  intro W N hA;obtain⟨⟨y,M,J,ha,hx⟩,jS⟩:=hA;rw[<-J];have hn:(Qi.rounds 6).n=2:=NJ Qi 6;refine(PJ y (Qi.rounds 6) 1 W M (by rw[hn];decide)).mono ?_;rintro e w' ⟨rfl,rfl⟩;refine⟨(y.z 1).R,rfl,jS,?_⟩;have jR:=(C1 adf fC 6 fC).ok 1 (by rw[hn];decide);refine(Ju (y.z 1) ((Qi.rounds 6).R 1) W (M.rt 1 (by rw[hn];decide)) jR.Tt).mono ?_;rintro e w2 ⟨b,c,rfl,⟨Y,_⟩,oB⟩;rw[abz]at Y⊢;exact⟨b,c,rfl,Y,fQ jS oB⟩
 have lA:∀W b c W2,fP w W->Ti W b 1 [⟨1,3,1⟩]->W2=W.alloc (γ #[ι κ 1,ι κ 3,ι κ 1] 98)->gb gg 46 #[σ b 1 c,σ (μ ⟨W.heap.size,0,ν⟩) 1 1] W2 λe w'=>e=ρ (.bool true)/\fP w w':=by
  rintro W b c W2 hbW Y rfl;have oB:=gu W (γ #[ι κ 1,ι κ 3,ι κ 1] 98);have Vl:=λj=>ay W #[ι κ 1,ι κ 3,ι κ 1] 98 (0,0) j;refine(Ld b (μ ⟨W.heap.size,0,ν⟩) 1 c 1 [⟨1,3,1⟩] _ (Y.below oB) ⟨rfl,.inr ⟨W.heap.size,0,rfl,λj h hj=> ?_⟩⟩ fC).mono ?_
  ·obtain⟨l,v⟩:=aT.1 hj;obtain rfl:j=0:=by simp at l;exact l
   obtain rfl:_=h:=v;exact⟨Vl 0,Vl 1,Vl 2⟩
  rintro e w' ⟨rfl,uA⟩;exact⟨rfl,fQ hbW (fQ oB uA)⟩
 have IA:Hid _:=pF;have HR:Hid _:=Hg;obtain⟨Q,hQ⟩:∃Q:Nat->jQ,Q=Qi.rounds:=⟨_,rfl⟩
 clear pF hb hc hL Hg;rw[<-hQ]at u HR Le;generalize la 2 ZU=z0 at kt u;clear hQ;go_in;go_wp2_with fail;(try rw[IA.out]);go_wp2_with fail;refine kt.mono ?_;rintro e w1 ⟨N,rfl,hA⟩;have h1:=u w1 N hA;clear kt u hA;go_wp2_with fail;refine h1.mono ?_;rintro e w2 ⟨rfl,hA⟩;have HA:Hid _:=hA;clear h1 hA;go_wp2;go_loopw [3] (λx wr=>∃k:Nat,k<=6/\x=ι κ k/\qI w wr N (λ_=>False) (Q k)) (λx _=>6-(gj x).toNat);(case atStart=>exact⟨0,aw _,rfl,HA.out⟩)
 case round=>
  obtain⟨k,hk,rfl,Z⟩:=hrel;obtain⟨V,rfl⟩:∃V,V=wr:=⟨_,rfl⟩
  by_cases lZ:k<6;{have pE:(k:Int)<6:=fC;have A:=HR.out V N k lZ Z;clear Z;go_wp2_with fail;refine A.mono ?_;rintro e w3 ⟨rfl,hA3⟩;have HA3:Hid _:=hA3;clear A hA3;go_wp2;go_roundw;(case rel=>exact⟨k+1,fC,by go_num,HA3.out⟩);case measure=>simp[gj];omega};have zD:¬(k:Int)<6:=fC;obtain rfl:k=6:=fC;have A:=Le V N Z;clear Z Le;go_wp2_with fail;refine A.mono ?_;rintro e w3 ⟨R,rfl,uA,hh⟩;have Ly:Hid _:=uA;clear A uA;go_wp2_with fail;refine hh.mono ?_;rintro e w4 ⟨b,c,rfl,Y,H⟩;obtain⟨W5,N8⟩:∃W5,W5=w4.alloc (γ #[ι κ 1,ι κ 3,ι κ 1] 98):=⟨_,rfl⟩
  have hs:=lA w4 b c W5 H Y N8;have HW5:Hid _:=N8.symm;clear hh Y H lA N8;go_wp2_with fail;(try rw[HW5.out]);go_wp2_with fail;refine hs.mono ?_;rintro e w6 ⟨rfl,G⟩;have HB6:Hid _:=G;clear hs G;go_wp2;go_ret;exact⟨rfl,HB6.out⟩
def Eu(a:Option Addr)(n cap:Nat)(w:fA)(_hn:n<=maxLen):gb gg 35 #[σ a n cap] w λe w'=>e=ρ (.bool (decide (n<=12)))/\w=w':=by
 by_cases h:n<=12;{have Z:(n:Int)<=12:=fC;go_in;go_wp2;go_ret;exact⟨by simp[h],rfl⟩};have Z:¬(n:Int)<=12:=fC;go_in;go_wp2;go_ret;exact⟨gZ,rfl⟩
def xh(w0:fA)(N:Nat)(X:Nat->Prop)(m nc i:Nat)(n:jQ)(w:fA):Prop:=qI w0 w N X n/\GN n/\ll n (1300000*i) 0/\n.n=m/\n.nc=nc
def xh.act {w0:fA} {N:Nat} {X:Nat->Prop} {m nc i:Nat} {n:jQ} {W:fA} (h:xh w0 N X m nc i n W)(H:kd w0)(hi:i<=300)(v:AV):
 gb gg 59 #[π (μ ⟨N,0,ν⟩),.agg #[.string v.kind,ι κ v.a,ι κ v.b,ι κ v.c,ι κ v.d,.string v.s,ι κ v.Q7,ι κ v.pid,σ v.po v.pn v.FA,ι κ v.x.own,ι κ v.x.seq,σ v.x.a v.x.n v.x.cap]] W λe w'=>e=ρ (τ #[])/\xh w0 N X m nc (i+1) (uv n v) w'/\∀b,X b->w'.heap[b]? =W.heap[b]? :=by
  obtain⟨hA,Q,Y,u,hc⟩:=h;obtain⟨s1,j,_,_⟩:=Um n v;refine(hA.call (E:=λe=>e=ρ (τ #[])) (n':=uv n v) s1 λy J M=> ?_).mono ?_;{rw[<-M];exact Ey y n (1300000*i) v W J (hA.tab H) Y fC};rintro e w' ⟨A,Z,G⟩;exact⟨A,⟨Z,(Q.act Y fC v).1,(Y.act fC v).mono fC (aj _),s1.trans u,j.trans hc⟩,G⟩
def xh.new(h:Uk w many L X e w')(Z:pz many L=0)(Y:fP w0 w):∃N,e=ρ (τ #[π (μ ⟨N,0,ν⟩),η])/\xh w0 N X many.toNat L.length 0 (la many.toNat L) w':=by
 obtain⟨N,Q,hA⟩:=qI.YE h Z Y;exact⟨N,Q,hA,GO _ _,Bz (xb Z),rfl,rfl⟩
def sJ(y:jQ)(V:Nat->AV):Nat->jQ
 |0=>y
 |k+1=>uv (sJ y V k) (V k)
def qI.write {W:fA} {n:jQ} (h:qI w0 W N X n)(hs:W.heap.size<=W'.heap.size)(H:∀k<W.heap.size,¬X k->W'.heap[k]? =W.heap[k]?)(j:∀k,X k->w0.heap.size<=k)
 (ho:W'.os=W.os) (ht:W'.tape=W.tape) (hu:W'.output=W.output) (Z:Nat->Prop) (hZ:∀k,Z k->W.heap.size<=k/\k<W'.heap.size):qI w0 W' N (λb=>X b \/Z b) n:=by
  obtain⟨⟨y,u,A,ha,hx⟩,Y⟩:=h;obtain⟨y',E,J,M,G⟩:=u.beside hs (λk vK kf=>H k vK (λe=>kf ((hx k).2 e))) Z hZ;refine⟨⟨y',E,J.N.trans A,λb Q=>ha b ((M b).1 Q),λb=> ?_⟩,ho.trans Y.os,ht.trans Y.tape,hu.trans Y.output,au Y.size hs,λb Q=> ?_⟩;{rw[G b,hx b]};refine(H b (aq Q Y.size) (λe=> ?_)).trans (Y.block b Q);have:=j b e;omega
def qI.YF {W:fA} {Y:Nat->Prop} {n:jQ} (h:qI w0 W N X n)(e:∀b,X b↔Y b):qI w0 W N Y n:=by
 obtain⟨⟨y,Q,Z,M,hx⟩,J⟩:=h;exact⟨⟨y,Q,Z,M,λb=>(hx b).trans (e b)⟩,J⟩
structure qO(w:fA)(N g m:Nat)(L:List qM)(V:Nat->AV)(i j:Nat)(W:fA):Prop where
 g0:w.heap.size<=g
 at_:xh w N (λb=>b=g) m L.length i (sJ (la m L) V i) W
 row:sg W g 0 L.length (λk=>.bool ((sJ (la m L) V j).C k).jU)
def pV(m:Nat):Array Value:=Array.replicate m (.bool false)
def ai1(W:fA):(jq 87 (ι κ 0) (ι κ 0)).run gg W=.ok (σ (μ ⟨W.heap.size,0,ν⟩) 0 0) (W.alloc (γ (pV 0) 4)):=iV
def ai2(W:fA):(jq 87 (ι κ 1) (ι κ 1)).run gg W=.ok (σ (μ ⟨W.heap.size,0,ν⟩) 1 1) (W.alloc (γ (pV 1) 4)):=iV
def ai3(W:fA):(jq 87 (ι κ 2) (ι κ 2)).run gg W=.ok (σ (μ ⟨W.heap.size,0,ν⟩) 2 2) (W.alloc (γ (pV 2) 4)):=iV
def ai4(W:fA):(jq 87 (ι κ 3) (ι κ 3)).run gg W=.ok (σ (μ ⟨W.heap.size,0,ν⟩) 3 3) (W.alloc (γ (pV 3) 4)):=iV
def ai5(W:fA):(jq 87 (ι κ 4) (ι κ 4)).run gg W=.ok (σ (μ ⟨W.heap.size,0,ν⟩) 4 4) (W.alloc (γ (pV 4) 4)):=iV
def ai6(W:fA):(jq 87 (ι κ 5) (ι κ 5)).run gg W=.ok (σ (μ ⟨W.heap.size,0,ν⟩) 5 5) (W.alloc (γ (pV 5) 4)):=iV
def ai7(W:fA):(jq 87 (ι κ 6) (ι κ 6)).run gg W=.ok (σ (μ ⟨W.heap.size,0,ν⟩) 6 6) (W.alloc (γ (pV 6) 4)):=iV
def ai8(W:fA):(jq 87 (ι κ 7) (ι κ 7)).run gg W=.ok (σ (μ ⟨W.heap.size,0,ν⟩) 7 7) (W.alloc (γ (pV 7) 4)):=iV
def ai9(W:fA):(jq 87 (ι κ 8) (ι κ 8)).run gg W=.ok (σ (μ ⟨W.heap.size,0,ν⟩) 8 8) (W.alloc (γ (pV 8) 4)):=iV
def aja(W:fA):(jq 87 (ι κ 9) (ι κ 9)).run gg W=.ok (σ (μ ⟨W.heap.size,0,ν⟩) 9 9) (W.alloc (γ (pV 9) 4)):=iV
def an7(p:Nat)(hp:p<=9)(W:fA):(jq 87 (ι κ (p:Int)) (ι κ (p:Int))).run gg W=.ok (σ (μ ⟨W.heap.size,0,ν⟩) p p) (W.alloc (γ (pV p) 4)):=by
 have:p=0 \/p=1 \/p=2 \/p=3 \/p=4 \/p=5 \/p=6 \/p=7 \/p=8 \/p=9:=fC;obtain rfl|rfl|rfl|rfl|rfl|rfl|rfl|rfl|rfl|rfl:=this;{exact ai1 W};{exact ai2 W};{exact ai3 W};{exact ai4 W};{exact ai5 W};{exact ai6 W};{exact ai7 W};{exact ai8 W};{exact ai9 W};exact aja W
def qO.new {w W:fA} {N m:Nat} {L:List qM} {V:Nat->AV} (h:xh w N (λ_=>False) m L.length 0 (la m L) W):qO w N W.heap.size m L V 0 0 (W.alloc (γ (pV L.length) 4)):=by
 obtain⟨hA,Y,H,J,hc⟩:=h;refine⟨hA.ph.size,⟨?_,Y,H,J,hc⟩,?_⟩;{refine(qI.write hA (W':=W.alloc (γ (pV L.length) 4)) gZ (λk M _=>bk _ _ _ M) (λk e=>e.elim) rfl rfl rfl (λb=>b=W.heap.size) (λk e=>by subst e;simp)).YF (λb=>gZ)};have Z:j2 (W.alloc (γ (pV L.length) 4)) W.heap.size (pV L.length) 4:=j2.new W _ _;intro j Q;have e:(pV L.length)[j]? =μ (.bool false):=by simp[pV,Q]
 refine⟨?_,?_⟩;{rw[aY,Z.cell j,e];rfl};rw[aY];exact Z.frozen j
def qO.act {w:fA} {N g m:Nat} {L:List qM} {V:Nat->AV} {i:Nat} {W:fA} (h:qO w N g m L V i i W)(Q:kd w)(hi:i<=100):
 gb gg 59 #[π (μ ⟨N,0,ν⟩),.agg #[.string (V i).kind,ι κ (V i).a,ι κ (V i).b,ι κ (V i).c,ι κ (V i).d,.string (V i).s,ι κ (V i).Q7,ι κ (V i).pid,σ (V i).po (V i).pn (V i).FA,ι κ (V i).x.own,ι κ (V i).x.seq,σ (V i).x.a (V i).x.n (V i).x.cap]] W λe w'=>e=ρ (τ #[])/\qO w N g m L V (i+1) i w':=by
  refine(h.at_.act Q fC (V i)).mono ?_;rintro e w' ⟨M,Z,Y⟩;exact⟨M,h.g0,Z,h.row.keep (Y g rfl)⟩
def qO.jU {w:fA} {N g m:Nat} {L:List qM} {V:Nat->AV} {i:Nat} {W:fA} (h:qO w N g m L V i i W)(hi:i<=100)(k:Nat)(Y:k<L.length):
 ((sJ (la m L) V (i+1)).C k).jU=if CS (V i)=true/\(k:Int)=(V i).a then(V i).b==1 else((sJ (la m L) V i).C k).jU:=by
  obtain⟨_,Z,Q,_,hc⟩:=h.at_;exact(Z.act Q fC (V i)).2 k (by rw[hc];exact Y)
def qO.same {W:fA} (h:qO w N g m L V (i+1) i W)(Q:∀k<L.length,((sJ (la m L) V (i+1)).C k).jU=((sJ (la m L) V i).C k).jU)(M:g<W.heap.size)(Z:fP W W'):qO w N g m L V (i+1) (i+1) W':=by
 obtain⟨hA,Y,G,H,hc⟩:=h.at_;exact⟨h.g0,⟨hA.still Z,Y,G,H,hc⟩,(h.row.congr (λk J=>by show jD _=jD _;rw[Q k J])).keep (Z.block g M)⟩
def qO.gl {j:Nat} {W:fA} (h:qO w N g m L V i j W):g<W.heap.size:=by
 obtain⟨⟨⟨y,Z,_,_,hx⟩,_⟩,_⟩:=h.at_;exact Z.lt (.inr ((hx g).2 rfl))
def qO.set {w:fA} {N g m:Nat} {L:List qM} {V:Nat->AV} {i k:Nat} {W W1:fA} {b:Bool} (h:qO w N g m L V (i+1) i W)(H:k<L.length)
 (M:∀x<L.length,((sJ (la m L) V (i+1)).C x).jU=if x=k then b else((sJ (la m L) V i).C x).jU) (Y:fP W W1):qO w N g m L V (i+1) (i+1) (W1.setCell ⟨g,k,ν⟩ (.bool b)):=by
  have J:=h.gl;obtain⟨hA,Q,E,G,hc⟩:=h.at_;have hA1:=hA.still Y;refine⟨h.g0,⟨?_,Q,E,G,hc⟩,?_⟩;{refine(qI.write hA1 (W':=W1.setCell ⟨g,k,ν⟩ (.bool b)) gZ (λx _ A=>ax _ _ _ x (λe=>A e)) (λx e=>by rw[e];exact h.g0) rfl rfl rfl (λ_=>False) (λ_ e=>e.elim)).YF (λb=>gZ)};have Z:=((h.row.keep (Y.block g J)).set k H (.bool b))
  rw[aY]at Z;refine Z.congr (λx hx=> ?_);show ui _ k (.bool b) x=jD _;rw[M x hx];by_cases e:x=k;{rw[e,rG,ag rfl]};rw[kU _ _ e,af e]
def adh(w:fA)(many:Int)(L:List qM)(n2:Nat)(V:Nat->AV)(e:Ending)(w':fA):Prop:=
 (e=ρ (τ #[π ν,σ ν 0 0,.bool false])/\fP w w') \/
 (pz many L=0/\n2<=40/\∃N g,e=ρ (τ #[π (μ ⟨N,0,ν⟩),σ (μ ⟨g,0,ν⟩) L.length L.length,.bool true])/\qO w N g many.toNat L V n2 n2 w')
def qO.ph {w:fA} {N g m:Nat} {L:List qM} {V:Nat->AV} {i j:Nat} {W:fA} (h:qO w N g m L V i j W):fP w W:=h.at_.1.ph
def Qk(many:Int)(a:Option Addr)(n cap:Nat)(L:List qM)(a2:Option Addr)(Y cap2:Nat)(V:Nat->AV)(E:Nat->List kS)(w:fA)(hL:Bw w a L)(hl:L.length=n)(hn:n<=maxLen)(hA:FC w a2 Y V E)(hT:kd w):
 gb gg 43 #[ι κ many,σ a n cap,σ a2 Y cap2] w λe w'=>adh w many L Y V e w':=by
  have Z:=Eu a n cap w hn
  have u:gb gg 16 #[σ a2 Y cap2,ι κ 40] w λe w'=>(∃b:Bool,e=ρ (.bool b)/\(b=true->Y<=40))/\fP w w':=by
   refine(Ij a2 Y cap2 V E 40 w hA fC).mono ?_;rintro e w' ⟨⟨b,he,lU⟩,oB⟩;exact⟨⟨b,he,λhx=>by have:=(lU hx).1;omega⟩,oB⟩
  have kt:∀W,n<=12->fP w W->gb gg 36 #[ι κ many,σ a n cap] W λe w'=>Uk W many L (λ_=>False) e w':=by
   intro W H hb;rw[<-hl];exact RH many a cap L W (hL.below hb) fC (kd.below (w:=w) hT hb) (λ_=>False) (λb rZ=>rZ.elim)
  have HA:Hid _:=hA;have HT:Hid (kd w):=hT;have y:Hid _:=hl;clear hL hA hT hl;by_cases H:n<=12
  case neg=>
   have hd:decide (n<=12)=false:=by simpa using H
   rw[hd]at Z;go_in;go_wp2_with fail;refine Z.mono ?_;rintro e w2 ⟨rfl,rfl⟩;clear Z u kt;go_wp2_with fail;refine aN (v:=τ #[π ν,σ ν 0 0,.bool false]) (by simp[results,results43,go_sem]) rfl ?_;exact .inl ⟨rfl,aC _ _⟩
  case pos=>
   have hd:decide (n<=12)=true:=by simpa using H
   rw[hd]at Z;go_in;go_wp2_with fail;refine Z.mono ?_;rintro e w2 ⟨rfl,rfl⟩;clear Z;go_wp2_with fail;refine u.mono ?_;rintro e w2 ⟨⟨b,rfl,ajb⟩,oB⟩;have vh:=kt w2 H oB;have yV:Hid _:=oB;have an8:Hid _:=ajb;clear u kt oB ajb;cases b;(case false=>go_wp2_with fail;refine aN (v:=τ #[π ν,σ ν 0 0,.bool false]) (by simp[results,results43,go_sem]) rfl ?_;exact .inl ⟨rfl,yV.out⟩)
   case true=>
    have h40:Y<=40:=an8.out rfl;go_wp2_with fail;refine vh.mono ?_;rintro e w3 hP;clear vh;by_cases G:pz many L=0;(case neg=>obtain⟨rfl,uA⟩:=qI.afy hP G yV.out;have Ly:Hid _:=uA;have he:kr (pz many L)=.iface 128 (ι κ ((pz many L:Nat):Int)):=Wf G;rw[he];clear hP uA G he;go_wp2_with fail;refine aN (v:=τ #[π ν,σ ν 0 0,.bool false]) (by simp[results,results43,go_sem]) rfl ?_;exact .inl ⟨rfl,Ly.out⟩)
    case pos=>
     obtain⟨N,rfl,ZV⟩:=xh.new hP G yV.out;have hm:=(xb G).m;have hl9:=(xb G).l;obtain⟨m,rfl⟩:∃m:Nat,many=(m:Int):=⟨many.toNat,fC⟩
     rw[bI]at ZV;have j:=qO.new (V:=V) ZV;rw[y.out]at hl9;have hmk:=an7 n hl9;obtain⟨w4,RD⟩:=fH (w3.alloc (γ (pV n) 4));obtain⟨g,hg⟩:=fH (w3.heap.size);rw[y.out,RD,hg]at j;have MU:Hid _:=RD;have HG:Hid _:=hg;have HP0:Hid _:=j;have H0:Hid _:=G;clear hP G ZV j RD hg;go_wp2_with fail;(try rw[MU.out]);(try rw[HG.out]);go_wp2;go_loopw [12] (λx wr=>∃i:Nat,i<=Y/\x=ι κ i/\qO w N g m L V i i wr) (λx _=>Y-(gj x).toNat);(case atStart=>exact⟨0,aw _,rfl,HP0.out⟩)
     case round=>
      obtain⟨i,hi,rfl,hG⟩:=hrel;obtain⟨V0,rfl⟩:∃V0,V0=wr:=⟨_,rfl⟩
      by_cases lZ:i<Y;(case neg=>have zD:¬(i:Int)<(Y:Int):=fC;obtain rfl:i=Y:=fC;have HR:Hid _:=hG;clear hG;go_wp2_with fail;refine aN (v:=τ #[π (μ ⟨N,0,ν⟩),σ (μ ⟨g,0,ν⟩) n n,.bool true]) (by simp[results,results43,go_sem]) rfl ?_;refine .inr ⟨H0.out,h40,N,g,?_,?_⟩;{rw[y.out]};exact HR.out)
      case pos=>
       have pE:(i:Int)<(Y:Int):=fC;obtain h1|⟨b,off,rfl,j0⟩:=HA.out.row;{omega};have Vh:=j0 i lZ;have hv:=Vh.below hG.ph;have HV:Hid (∀W,fP w W->(V i).at_ W b (off+i*12)):=λW hb=>Vh.below hb;have J:=hG.act HT.out fC;have HI:Hid (∀k<L.length,((sJ (la m L) V (i+1)).C k).jU=if CS (V i)=true/\(k:Int)=(V i).a then(V i).b==1 else((sJ (la m L) V i).C k).jU):=hG.jU fC;clear j0 hG Vh;generalize V i=v at hv J HV HI;obtain⟨vk,va,vb,vc,vd,vs,vpc,vpi,vpo,ZA,Dk,⟨xo,xq,xa,xn,xc⟩⟩:=v;obtain⟨c0,c1,c2,c3,c4,c5,c6,c7,c8,c9,VM,Z7⟩:=hv;simp only at c0 c1 c2 c3 c4 c5 c6 c7 c8 c9 VM Z7 J;have gl:=ai _ _ c0;have ge:off+i*12+0=off+i*12:=rfl;go_wp2_with fail;refine J.mono ?_;rintro e A ⟨rfl,Q⟩;have adi:=Q.ph;obtain⟨d0,d1,d2,_⟩:=HV.out A adi;simp only at d0 d1 d2;have gl5:=ai _ _ d0;have M:Hid _:=Q;have HS:Hid ((∀k<L.length,((sJ (la m L) V (i+1)).C k).jU=((sJ (la m L) V i).C k).jU)->qO w N g m L V (i+1) (i+1) A):=λhe=>Q.same he Q.gl (aC _ _);clear J c0 c1 c2 c3 c4 c5 c6 c7 c8 c9 VM Z7 gl Q adi;cases k1:(vk.toList==[112,108,117,103]);(case false=>go_wp2;go_roundw;(case rel=>refine⟨i+1,fC,by go_num,HS.out λk hk=> ?_⟩;rw[HI.out k hk,af (λe=>by have e1:(vk.toList==[112,108,117,103])=true:=e.1;rw[k1]at e1;cases e1)]);case measure=>simp[gj];omega)
       case true=>
        by_cases ha0:0<=va;(case neg=>go_wp2;go_roundw;(case rel=>refine⟨i+1,fC,by go_num,HS.out λk hk=> ?_⟩;rw[HI.out k hk,af (λe=>by have e1:(k:Int)=va:=e.2;omega)]);case measure=>simp[gj];omega)
        case pos=>
         by_cases han:va<(n:Int);(case neg=>go_wp2;go_roundw;(case rel=>refine⟨i+1,fC,by go_num,HS.out λk hk=> ?_⟩;have hln:=y.out;rw[HI.out k hk,af (λe=>by have e1:(k:Int)=va:=e.2;omega)]);case measure=>simp[gj];omega)
         case pos=>
          obtain⟨k,rfl⟩:∃k:Nat,va=(k:Int):=⟨va.toNat,fC⟩
          have Cj:k<n:=fC;have QY:=M.out.gl;have hcell:=M.out.row.cell k (by rw[y.out];exact Cj);have Vn:=M.out.row.fz k (by rw[y.out];exact Cj);rw[aY]at hcell Vn
          have ZK:Hid (qO w N g m L V (i+1) (i+1) (A.drew.setCell ⟨g,k,ν⟩ (.bool (vb==1)))):=by
           refine M.out.set (by rw[y.out];exact Cj) (λx hx=> ?_) (j4 A);rw[HI.out x hx];by_cases e:x=k;{rw[ag ⟨k1,by show(x:Int)=(k:Int);rw[e]⟩,ag e]};rw[af (λh=>e (by have h2:(x:Int)=(k:Int):=h.2;omega)),af e]
          generalize ((sJ (la m L) V i).C k).jU=old at hcell;have F0:A.drew.cell? ⟨b,off+i*12,ν⟩=μ (.string vk)/\A.drew.cell? ⟨b,off+i*12+1,ν⟩=μ (ι κ (k:Int))/\A.drew.cell? ⟨b,off+i*12+2,ν⟩=μ (ι κ vb)/\A.drew.cell? ⟨g,k,ν⟩=μ (.bool old):=⟨d0,d1,d2,hcell⟩
          go_upto_region 12 with(fail)
          go_region;all_goals(go_wp2;go_roundw;(case rel=>exact⟨i+1,fC,by go_num,ZK.out⟩);(case measure=>simp[gj];omega))
end Rt
variable {C:l8} {qP r:Nat} {bn:Nat->Bool} {by' far:Int} {p:List Nat}
def JU(S:Nat->SV)(E:Nat->List kS):∀n,(∀j<n,qq (S j).own (S j).seq (E j)=0)->∀x,ln S E n x x=0
 |0,_,x=>rfl
 |n+1,h,x=>by
  have ih:=JU S E n (λj hj=>h j fC) x;have M:=h n fC;have ho:=(kD M).1;have Z:=(kD M).2.2.2;simp only[ln,oS];generalize E n=es at Z;generalize ln S E n=C at ih;have Y:∃Q:Int,sj (S n).own Q es=0:=⟨0,Z⟩
  clear Z
  induction es generalizing C with
  |nil=>exact ih
  |cons e es ihs=>
   rw[bV];obtain⟨Q,Z⟩:=Y;simp only[sj]at Z;split at Z;{cases Z}
   ·rename_i h1
    split at Z;{cases Z}
    ·rename_i h2
     refine ihs _ ?_ ⟨_,Z⟩;simp only[vP];rw[af fC];exact ih
def RX(S:Nat->SV)(E:Nat->List kS):∀n,(∀j<n,qq (S j).own (S j).seq (E j)=0)->∀x y,0<ln S E n x y->(1<=x/\x<=6)/\1<=y/\y<=6
 |0,_,x,y,h=>by simp[ln]at h
 |n+1,h,x,y,hp=>by
  have ih:=RX S E n (λj hj=>h j fC);have Q:=h n fC;have ho:=(kD Q).1;have Y:=rR _ (E n) 0 (kD Q).2.2.2;simp only[ln,oS]at hp;generalize E n=es at Y hp;generalize ln S E n=C at ih hp
  induction es generalizing C with
  |nil=>exact ih x y hp
  |cons e es ihs=>
   rw[bV]at hp;refine ihs (λq M=>Y q (by simp[M])) _ (λu v Z=> ?_) hp;have h1:=Y e gZ;simp only[vP]at Z;split at Z
   ·rename_i h2
    omega
   ·exact ih u v Z
def UK(S:Nat->SV)(E:Nat->List kS)(n:Nat)(h:∀j<n,qq (S j).own (S j).seq (E j)=0)(x:Nat):lp (ln S E n) x x=0:=by
 simp only[lp,JU S E n h x];rfl
def abD(S:Nat->SV)(E:Nat->List kS)(n:Nat)(h:∀j<n,qq (S j).own (S j).seq (E j)=0)(x y:Nat)(Z:0<lp (ln S E n) x y):(1<=x/\x<=6)/\1<=y/\y<=6:=by
 simp only[lp]at Z;split at Z;{exact RX S E n h x y Z};omega
def bC(b:Nat->Bool):Array Value:=(Array.range 7).map λi=>.bool (b i)
def Lf(b:Nat->Bool):(bC b).size=7:=by simp[bC]
def Lg(b:Nat->Bool)(i:Nat)(h:i<7):(bC b)[i]? =μ (.bool (b i)):=by simp[bC,h]
def sd(b:Nat->Bool)(n:Nat):Nat->Bool:=λx=>if x=n then true else b x
def afz(b:Nat->Bool)(n:Nat):(bC b).setIfInBounds n (.bool true)=bC (sd b n):=by
 apply cu;intro i;rw[bH];by_cases hi:i<7;{rw[Lg _ i hi,Lg _ i hi];by_cases e:n=i;{subst e;simp[sd,bC,hi]};have Z:¬i=n:=λh=>e h.symm;simp[sd,e,Z]};have hs:∀D:Nat->Bool,(bC D)[i]? =ν:=λD=>bD (by simp[bC];omega);rw[hs,hs];split;{simp[bC];omega};rfl
def adk:(gg.info? 205).map (λi=>(i.zero,i.size))=μ (μ (.agg (bC λ_=>false)),7):=iV
def ajd(w:fA):(zeroValue 205).run gg w=.ok (.agg (bC λ_=>false)) w:=(cz adk).1 w
def YG:(gg.info? 205).map (·.size)=μ 7:=(cz adk).2
def abE:(gg.info? 204).map (λi=>(i.zero,i.size))=μ (μ (.agg (hC λ_=>HP.zero)),21):=iV
def abF(w:fA):(zeroValue 204).run gg w=.ok (.agg (hC λ_=>HP.zero)) w:=(cz abE).1 w
section
variable {C:l8} {r:Nat}
def afA(G:Nat->HP):Prop:=∀n,(G n).far=0->G n=HP.zero
structure RS(C:l8)(r:Nat)(G:Nat->HP):Prop where
 s:Sound C r G
 z:afA G
def afB {G:Nat->HP} (h:RS C r G)(n:Nat)(p:List Nat)(Z:DN C r p)(hh:p.head? =μ n)(hC:∀x y,0<=C x y):RS C r (tL G n ⟨n,pc C r p,(pO p:Nat)⟩):=by
 have rm:=EU hC p Z;refine⟨⟨λx=> ?_,λx hx=> ?_⟩,λx hx=> ?_⟩;{simp only[tL];split;{simp only;omega};exact h.s.nn x};{simp only[tL]at hx⊢;by_cases e:x=n;{subst e;simp only[if_true];exact⟨trivial,p,Z,hh,rfl,rfl⟩};rw[af e]at hx⊢;exact h.s.way x hx};simp only[tL]at hx⊢;by_cases e:x=n;{subst e;simp only[if_true]at hx;omega};rw[af e]at hx⊢;exact h.z x hx
def YH {G:Nat->HP} (n:Nat)(q:HP)(Y:0<q.far)(Z:wv q (G n)=true):BL (tL G n q) G:=by
 intro x hx;rw[BM]at Z;simp only[tL];by_cases e:x=n;{subst e;rw[ag rfl];refine⟨Y,?_⟩;simp only[yH,HP.v];omega};rw[af e];exact⟨hx,yH.rfl' _⟩
def EW.mono {G G':Nat->HP} (h:EW C r G p)(Q:BL G' G):EW C r G' p:=by
 intro n M;have Z:=h n M;have Y:=Q n Z.1;exact⟨Y.1,Y.2.trans Z.2⟩
def Ext(C:l8)(r:Nat)(p:List Nat)(x:Nat)(q:List Nat):Prop:=DN C r q/\q.Nodup/\∃e,q=e++x::p
def UL(hC:∀x y,0<=C x y)(hd:C r r=0)(G:Nat->HP)(J:RS C r G)(M:∀q,DN C r q->q.Nodup->EW C r G q)(n:Nat):(G n).far=pK C r n/\(0<pK C r n->G n=j1 C r 6 n):=by
 have h0:=Qh hC hd n;have g0:=J.s.nn n;by_cases h:0<pK C r n;{obtain⟨k1,q,q1,q2,q3,q4,q5⟩:=uX hC hd n h;have d1:=M q q1 q2 n q3;obtain⟨s1,p,H,E,p3,p4⟩:=J.s.way n d1.1;have d2:=BO hC hd p H n E;have u:=d1.2;have j:=d2.2;have A:pK C r n=(j1 C r 6 n).far:=rfl;simp only[yH,HP.v]at u j;have Z:(G n).far=(j1 C r 6 n).far:=fC;have Q:(G n).qT=(j1 C r 6 n).qT:=fC;refine⟨by rw[A];exact Z,λ_=> ?_⟩;generalize j1 C r 6 n=X at k1 Z Q;generalize G n=Y at s1 Z Q;obtain⟨x1,x2,x3⟩:=X;obtain⟨y1,y2,y3⟩:=Y;simp only at k1 s1 Z Q;rw[Z,Q,k1,s1]};refine⟨?_,λh2=>absurd h2 h⟩;by_cases hg:0<(G n).far;{obtain⟨s1,p,H,E,p3,p4⟩:=J.s.way n hg;exact absurd (BO hC hd p H n E).1 h};omega
end
structure YI(C:l8)(r:Nat)(p:List Nat)(qP:Nat)(far by':Int)(bn:Nat->Bool):Prop where
 way:(p=[] /\qP=r/\far=0/\by'=0) \/(DN C r p/\p.head? =μ qP/\pc C r p=far/\((pO p:Nat):Int)=by'/\by'≠0)
 nd:p.Nodup
 been:∀x,sd bn qP x=true↔(x∈p \/x=r)
def YI.next(h:YI C r p qP far by' bn)(n:Nat)(J:n<7)(M:0<C qP n)(Q:sd bn qP n=false):
 DN C r (n::p)/\(n::p).Nodup/\pc C r (n::p)=far+C qP n/\((pO (n::p):Nat):Int)=(if by'=0 then(n:Int)else by'):=by
  have Z:¬(n∈p \/n=r):=λe=>by rw[(h.been n).2 e]at Q;cases Q
  obtain⟨rfl,rfl,rfl,rfl⟩|⟨Y,H,h3,G,E⟩:=h.way;{refine⟨⟨M,λe=>Z (.inr e),J⟩,gZ,?_,?_⟩;{simp[pc]};simp[pO]};cases p with
  |nil=>exact Y.elim
  |cons m l=>
   have:m=qP:=by simpa using H
   subst this;refine⟨⟨Y,M,λe=>Z (.inr e),J⟩,bE.2 ⟨λe=>Z (.inl e),h.nd⟩,?_,?_⟩;{simp only[pc];omega};{rw[af E];exact G}
def YI.step(h:YI C r p qP far by' bn)(n:Nat)(oA:1<=n)(G:n<7)(H:0<C qP n)(J:sd bn qP n=false):YI C r (n::p) n (far+C qP n) (if by'=0 then(n:Int)else by') (sd bn qP):=by
 obtain⟨Z,Y,Q,M⟩:=h.next n G H J;refine⟨.inr ⟨Z,rfl,Q,M,?_⟩,Y,λx=> ?_⟩;{split;{omega};assumption};show(if x=n then true else sd bn qP x)=true↔_;by_cases e:x=n;{subst e;simp};rw[af e,h.been x];simp[e]
def YI.none(h:YI C r p qP far by' bn)(n:Nat)(hx:C qP n=0 \/sd bn qP n=true):∀q,¬Ext C r p n q:=by
 rintro q ⟨J,H,e,rfl⟩
 have Y:∀e:List Nat,DN C r (e++n::p)->DN C r (n::p):=by
  intro e;induction e with|nil=>exact λh=>h|cons a t ih=>intro M;refine ih ?_;(cases t with|nil=>exact M.1|cons b u=>exact M.1)
 have Q:=Y e J;obtain hx|hx:=hx
 ·obtain⟨rfl,rfl,_,_⟩|⟨k1,k2,_⟩:=h.way;{have:=Q.1;omega};cases p with
  |nil=>exact k1
  |cons m l=>
   have:m=qP:=by simpa using k2
   subst this;have:=Q.2.1;omega
 have Z:=(h.been n).1 hx;have G:=(bS.1 H).2.1;obtain Z|Z:=Z;{exact(bE.1 G).1 Z};exact(NI Q n gZ).2 Z
def adl {C:l8} {r:Nat} (hC:∀x y,C x y<=20):∀p:List Nat,pc C r p<=20*p.length
 |[] =>by simp[pc]
 |[n] =>by simp only[pc];have:=hC r n;simpa using this
 |n::m::l=>by
  have:=adl (r:=r) hC (m::l);have h2:=hC m n;simp only[pc,fU]at this⊢;push_cast at this⊢;omega
def YI.Hd(h:YI C r p qP far by' bn)(hC:∀x y,0<=C x y/\C x y<=20)(hp:p.length<=7):0<=far/\far<=140:=by
 obtain⟨_,_,rfl,_⟩|⟨Z,_,rfl,_⟩:=h.way;{exact⟨aZ _,fF⟩};have h2:=EU (λx y=>(hC x y).1) p Z;have h3:=adl (r:=r) (λx y=>(hC x y).2) p;omega
def UM(a:Option Addr)(n cap:Nat)(r:Nat)(w0:fA)(C:l8)(B:Nat)(yR:w0.heap.size<=B)
 (HED:Hid (∀(u v:Nat) W,fP w0 W->gb gg 159 #[σ a n cap,ι κ (u:Int),ι κ (v:Int)] W λe w'=>e=ρ (ι κ (C u v))/\fP W w'))
 (Eh:∀x y,0<=C x y/\C x y<=20) (HI:Hid (∀u v,0<C u v->(1<=u/\u<=6)/\1<=v/\v<=6)):
 ∀(d:Nat) (p:List Nat) (qP:Nat) (far by':Int) (bn:Nat->Bool) (G:Nat->HP) (w:fA),p.length+d=7->qP<7->YI C r p qP far by' bn->RS C r G->j2 w B (hC G) 204->fP w0 w->
 gb gg 109 #[σ a n cap,ι κ (qP:Int),ι κ far,ι κ by',.agg (bC bn),π (μ ⟨B,0,ν⟩)] w λe w'=>e=ρ (τ #[])/\
  (∃Z,j2 w' B (hC Z) 204/\RS C r Z/\BL Z G/\∀x q,Ext C r p x q->EW C r Z q)/\w.grownBy w' (μ B):=by
  intro d
  induction d with
  |zero=>
   intro p qP far by' bn G w hlen hat hP _ _ _
   exfalso;have mT:∀x∈p,x∈(gw 7).erase r:=by
    intro x hx;obtain⟨rfl,_⟩|⟨h1,_⟩:=hP.way;{cases hx};{have:=NI h1 x hx;exact(dI this.2).2 (aU.2 this.1)}
   have h1:=Lb p _ hP.nd mT;obtain⟨rfl,_⟩|⟨h2,h3,_⟩:=hP.way;{simp at hlen}
   ·have hr:r<7 \/ ¬r<7:=fC;obtain hr|hr:=hr;{rw[dy (aU.2 hr),eu]at h1;omega}
    ·have:=Hf p h2;have:=HI.out _ _ this.1;omega
  |succ d ih=>
   intro p qP far by' bn G w hlen hat hP hG hB Ce
   have HIH:Hid _:=ih;clear ih;have HPr:Hid _:=hP;have HG:Hid _:=hG;obtain⟨hf0,Vu⟩:=hP.Hd Eh fC;clear hP hG;have ha7:(qP:Int)<7:=fC;obtain⟨c,hc⟩:=fH (bC bn);rw[hc];have hBl:=hB.lt;obtain⟨N,ZR⟩:=fH (w.heap.size);obtain⟨W1,lK⟩:=fH (w.alloc (γ c 205));have k1:fP w W1:=by rw[<-lK];exact gu _ _
   have hN:j2 W1 N (bC bn) 205:=by rw[<-lK,hc];exact j2.Ib _ _ _ _ ZR
   have tT:=hB.below k1;have n0:=(hN.cell qP).trans (Lg bn qP hat);have n1:=hN.frozen qP;have lN:=hN.lt;have HN2:Hid (j2 (W1.setCell ⟨N,qP,ν⟩ (.bool true)) N (bC (sd bn qP)) 205):=by show j2 _ _ _ _;rw[<-afz];exact hN.set qP _
   have HBN:Hid (B<N):=by show _<_;omega
   have yV:Hid (j2 (W1.setCell ⟨N,qP,ν⟩ (.bool true)) B (hC G) 204):=tT.other fC _;have HG2:Hid (w.grownBy (W1.setCell ⟨N,qP,ν⟩ (.bool true)) (μ B)):=by
    have k2:fP w (W1.setCell ⟨N,qP,ν⟩ (.bool true)):=bO k1 (by show w.heap.size<=N;omega) _;exact⟨k2.os,k2.tape,k2.output,k2.size,λi hi _=>k2.block i hi⟩
   have LC:Hid _:=lK;have HNe:Hid _:=ZR;have HBW:Hid _:=Ce;clear hc ZR lK k1 hN tT hB hBl Ce
   go_in
   go_upto_region 1 with fail
   rw[LC.out,HNe.out];go_wp2_with fail;obtain⟨W2,oW⟩:=fH (W1.setCell ⟨N,qP,ν⟩ (.bool true));rw[oW]at HN2 yV HG2;rw[oW];clear oW n0 n1 lN
   go_loopw [12] (λv wr=>∃(m:Nat) (Z:Nat->HP),1<=m/\m<=7/\v=ι κ m/\(RS C r Z/\BL Z G/\∀x q,x<m->Ext C r p x q->EW C r Z q)/\j2 wr B (hC Z) 204/\j2 wr N (bC (sd bn qP)) 205/\w.grownBy wr (μ B)) (λv _=>7-(gj v).toNat)
   case atStart=>
    refine⟨1,G,fC,fC,rfl,⟨HG.out,BL.refl _,λx q hx hq=> ?_⟩,yV.out,HN2.out,HG2.out⟩;have hx0:x=0:=fC;subst hx0;have h1:=Eh qP 0;have:C qP 0=0:=by
     by_cases h2:0<C qP 0;{have:=HI.out _ _ h2;omega};{omega}
    exact absurd hq (HPr.out.none 0 (.inl this) q)
   case round=>
    clear yV HN2 HG2;obtain⟨m,Z,xP,hm7,rfl,hS,hB,hN,xk⟩:=hrel;have HS:Hid _:=hS;clear hS;by_cases hm6:m<=6
    ·have afC:(m:Int)<=6:=fC;have aod:(m:Int)<7:=fC;have he:=HED.out qP m wr (vu HBW.out xk yR);have HB:Hid _:=hB;have HN:Hid _:=hN;have A:Hid _:=xk;clear hB hN xk;go_wp2_with fail;refine he.mono ?_;rintro e w5 ⟨rfl,k5⟩;have hN5:=j2.below HN.out k5;have Ru:=j2.below HB.out k5;have nb:=(hN5.cell m).trans (Lg (sd bn qP) m fC);have HN5:Hid _:=hN5;have Iu:Hid (w.grownBy w5 (μ B)):=⟨k5.os.trans A.out.os,k5.tape.trans A.out.tape,k5.output.trans A.out.output,au A.out.size k5.size,λi hi kf=>(k5.block i (aq hi A.out.size)).trans (A.out.block i hi kf)⟩
     have ZW:Hid (C qP m=0 \/sd bn qP m=true->∀x q,x<m+1->Ext C r p x q->EW C r Z q):=by
      intro hh x q hx hq;by_cases e:x=m;{subst e;exact absurd hq (HPr.out.none x hh q)};{exact HS.out.2.2 x q fC hq}
     obtain⟨p0,p1,p2⟩:=Cr Z m fC;have b0:=(Ru.cell (m*3)).trans p0;have b1:=(Ru.cell (m*3+1)).trans p1;have b2:=(Ru.cell (m*3+2)).trans p2;have Jj:Hid _:=Ru;clear he k5 hN5 Ru p0 p1 p2 HB HN A;have hcr:=Eh qP m;by_cases hz:C qP m=0
     ·have Vg:(C qP m==0)=true:=by simpa using hz
      have afD:Hid _:=ZW.out (.inl hz);generalize C qP m=cm at Vg⊢
      go_wp2
      go_roundw
      case rel=>exact⟨m+1,Z,fC,fC,by go_num,⟨HS.out.1,HS.out.2.1,afD.out⟩,Jj.out,HN5.out,Iu.out⟩
      case measure=>simp[gj];omega
     have Vg:(C qP m==0)=false:=by simpa using hz
     cases SS:sd bn qP m with
     |true=>
      rw[SS]at nb;have afD:Hid _:=ZW.out (.inr SS);generalize C qP m=cm at Vg⊢
      go_wp2
      go_roundw
      case rel=>exact⟨m+1,Z,fC,fC,by go_num,⟨HS.out.1,HS.out.2.1,afD.out⟩,Jj.out,HN5.out,Iu.out⟩
      case measure=>simp[gj];omega
     |false=>
      rw[SS]at nb;have rm:0<C qP m:=fC;have HPn:Hid _:=HPr.out.next m fC rm SS;have HPs:Hid _:=HPr.out.step m xP fC rm SS;obtain⟨nx,WO⟩:=fH ((if by'=0 then(m:Int)else by'));rw[WO]at HPn HPs;have HNX:Hid _:=WO;have hzo:=HS.out.1.z m;have hwy:=HS.out.1.s.way m;have B4:=HS.out.1.s.nn m;obtain⟨cm,H9⟩:=fH (C qP m);rw[H9]at Vg HPn HPs hcr rm;rw[H9];have HW:Hid ((Z m).dst=0↔(Z m).far=0):=by
       constructor;{intro e;by_cases h9:0<(Z m).far;{have:=(hwy h9).1;omega};{omega}};{intro e;rw[hzo e];rfl}
      have Cv:Hid (wv ⟨(m:Int),far+cm,nx⟩ (Z m)=true↔(Z m).far=0 \/far+cm<(Z m).far \/(far+cm=(Z m).far/\nx<(Z m).qT)):=BM _ _;have HU:Hid (wv ⟨(m:Int),far+cm,nx⟩ (Z m)=true->RS C r (tL Z m ⟨(m:Int),far+cm,nx⟩)/\BL (tL Z m ⟨(m:Int),far+cm,nx⟩) Z/\EW C r (tL Z m ⟨(m:Int),far+cm,nx⟩) (m::p)):=by
       intro hb;obtain⟨a1,a2,a3,a4⟩:=HPn.out;have h8:=afB HS.out.1 m (m::p) a1 rfl (λx y=>(Eh x y).1);rw[a3,a4]at h8;refine⟨h8,YH m _ (by simp only;omega) hb,λx hx=> ?_⟩;have:m=x:=by simpa using hx
       subst this;simp only[tL,if_true,a3,a4];exact⟨fC,yH.rfl' _⟩
      have HV:Hid (¬wv ⟨(m:Int),far+cm,nx⟩ (Z m)=true->EW C r Z (m::p)):=by
       intro hb x hx;obtain⟨a1,a2,a3,a4⟩:=HPn.out;have:m=x:=by simpa using hx
       subst this;rw[Cv.out]at hb;rw[a3,a4];refine⟨fC,?_⟩;simp only[yH,HP.v];omega
      clear hzo hwy H9 WO hz SS;by_cases xN:by'=0
      ·have aof:(by'==0)=true:=by simpa using xN
       have hE:nx=(m:Int):=by rw[<-HNX.out,ag xN]
       subst hE;clear xN;obtain⟨J,hqd⟩:=fH ((Z m).dst);obtain⟨Q,E⟩:=fH ((Z m).far);obtain⟨qx,hqx⟩:=fH ((Z m).qT);rw[hqd]at b0 HW;rw[E]at b1 HW Cv;rw[hqx]at b2 Cv;obtain⟨Y,hW6⟩:=fH (w5.alloc (γ #[ι κ J,ι κ Q,ι κ qx] 98));have H:fP w5 Y:=by rw[<-hW6];exact gu _ _
       have hY:j2 Y w5.heap.size #[ι κ J,ι κ Q,ι κ qx] 98:=by rw[<-hW6];exact j2.new _ _ _
       have HW6:Hid _:=hW6;have Gk:=j2.below Jj.out H;have HN6:Hid _:=j2.below HN5.out H;have HG6:Hid (w.grownBy Y (μ B)):=⟨H.os.trans Iu.out.os,H.tape.trans Iu.out.tape,H.output.trans Iu.out.output,au Iu.out.size H.size,λi hi kf=>(H.block i (aq hi Iu.out.size)).trans (Iu.out.block i hi kf)⟩
       have y0:Y.cell? ⟨w5.heap.size,0,ν⟩=μ (ι κ J):=hY.cell 0;have y1:Y.cell? ⟨w5.heap.size,1,ν⟩=μ (ι κ Q):=hY.cell 1;have y2:Y.cell? ⟨w5.heap.size,2,ν⟩=μ (ι κ qx):=hY.cell 2;have ly:=hY.lt;have f0:=Gk.frozen (m*3);have f1:=Gk.frozen (m*3+1);have f2:=Gk.frozen (m*3+2);have g0:=(H.cell (p:=⟨B,m*3,ν⟩) (j2.lt Jj.out)).trans b0;have g1:=(H.cell (p:=⟨B,m*3+1,ν⟩) (j2.lt Jj.out)).trans b1;have g2:=(H.cell (p:=⟨B,m*3+2,ν⟩) (j2.lt Jj.out)).trans b2;have lB:=Gk.lt;have HB6:Hid _:=Gk;clear hW6 H hY hqd E hqx Gk HN5 Iu Jj B4
       go_upto_region 11 with fail
       rw[HW6.out];clear b0 b1 b2 nb Vg;have j:Hid (wv ⟨(m:Int),far+cm,(m:Int)⟩ (Z m)=true->(∃M,j2 (((Y.setCell ⟨B,m*3,ν⟩ (ι κ (m:Int))).setCell ⟨B,m*3+1,ν⟩ (ι κ (far+cm))).setCell ⟨B,m*3+2,ν⟩ (ι κ (m:Int))) B (hC M) 204/\RS C r M/\BL M Z/\EW C r M (m::p))/\j2 (((Y.setCell ⟨B,m*3,ν⟩ (ι κ (m:Int))).setCell ⟨B,m*3+1,ν⟩ (ι κ (far+cm))).setCell ⟨B,m*3+2,ν⟩ (ι κ (m:Int))) N (bC (sd bn qP)) 205/\w.grownBy (((Y.setCell ⟨B,m*3,ν⟩ (ι κ (m:Int))).setCell ⟨B,m*3+1,ν⟩ (ι κ (far+cm))).setCell ⟨B,m*3+2,ν⟩ (ι κ (m:Int))) (μ B)):=by
        intro hb;obtain⟨u1,u2,u3⟩:=HU.out hb;have kf:N≠B:=by have:=HBN.out;omega
        refine⟨⟨_,?_,u1,u2,u3⟩,j2.other (j2.other (j2.other HN6.out kf _) kf _) kf _,mL (mL (mL HG6.out _ _) _ _) _ _⟩;rw[<-Kz Z m ⟨(m:Int),far+cm,(m:Int)⟩ fC];exact j2.set (j2.set (j2.set HB6.out _ _) _ _) _ _
       have ZW:Hid (¬wv ⟨(m:Int),far+cm,(m:Int)⟩ (Z m)=true->(∃M,j2 Y B (hC M) 204/\RS C r M/\BL M Z/\EW C r M (m::p))/\j2 Y N (bC (sd bn qP)) 205/\w.grownBy Y (μ B)):=
        λhb=>⟨⟨Z,HB6.out,HS.out.1,BL.refl _,HV.out hb⟩,HN6.out,HG6.out⟩
       clear HN6 HG6 HB6 HU HV HPn;have hq5:J=0 \/(¬J=0/\far+cm<Q) \/(¬J=0/\¬far+cm<Q/\far+cm=Q/\(m:Int)<qx) \/(¬J=0/\¬far+cm<Q/\far+cm=Q/\¬(m:Int)<qx) \/(¬J=0/\¬far+cm<Q/\¬far+cm=Q):=fC;obtain c1|⟨c1,c2⟩|⟨c1,c2,c3,c4⟩|⟨c1,c2,c3,c4⟩|⟨c1,c2,c3⟩:=hq5;have h:(J==0)=true:=by simpa using c1
       obtain⟨⟨M,tT,EG,tC,UN⟩,H5,yJ⟩:=j.out (Cv.out.2 (.inl (HW.out.1 c1)));obtain⟨W7,Ql⟩:=fH ((((Y.setCell ⟨B,m*3,ν⟩ (ι κ (m:Int))).setCell ⟨B,m*3+1,ν⟩ (ι κ (far+cm))).setCell ⟨B,m*3+2,ν⟩ (ι κ (m:Int))));clear c1
       rotate_left
       have h:(J==0)=false:=by simpa using c1
       have E:¬Q=0:=λe=>c1 (HW.out.2 e);obtain⟨⟨M,tT,EG,tC,UN⟩,H5,yJ⟩:=j.out (Cv.out.2 (.inr (.inl c2)));obtain⟨W7,Ql⟩:=fH ((((Y.setCell ⟨B,m*3,ν⟩ (ι κ (m:Int))).setCell ⟨B,m*3+1,ν⟩ (ι κ (far+cm))).setCell ⟨B,m*3+2,ν⟩ (ι κ (m:Int))));clear c1 E
       rotate_left
       have h:(J==0)=false:=by simpa using c1
       have E:¬Q=0:=λe=>c1 (HW.out.2 e);have c3':(far+cm==Q)=true:=by simpa using c3
       obtain⟨⟨M,tT,EG,tC,UN⟩,H5,yJ⟩:=j.out (Cv.out.2 (.inr (.inr ⟨c3,c4⟩)));obtain⟨W7,Ql⟩:=fH ((((Y.setCell ⟨B,m*3,ν⟩ (ι κ (m:Int))).setCell ⟨B,m*3+1,ν⟩ (ι κ (far+cm))).setCell ⟨B,m*3+2,ν⟩ (ι κ (m:Int))));clear c1 E c3
       rotate_left
       have h:(J==0)=false:=by simpa using c1
       have E:¬Q=0:=λe=>c1 (HW.out.2 e);have c3':(far+cm==Q)=true:=by simpa using c3
       obtain⟨⟨M,tT,EG,tC,UN⟩,H5,yJ⟩:=ZW.out (λhb=>by have:=Cv.out.1 hb;omega);obtain⟨W7,Ql⟩:=fH Y;clear c1 E c3
       rotate_left
       have h:(J==0)=false:=by simpa using c1
       have E:¬Q=0:=λe=>c1 (HW.out.2 e);have c3':(far+cm==Q)=false:=by simpa using c3
       obtain⟨⟨M,tT,EG,tC,UN⟩,H5,yJ⟩:=ZW.out (λhb=>by have:=Cv.out.1 hb;omega);obtain⟨W7,Ql⟩:=fH Y;clear c1 E c3
       rotate_left
       all_goals
        rw[Ql]at tT H5 yJ;have lO:=HIH.out (m::p) m (far+cm) (m:Int) (sd bn qP) M W7 (by simp;omega) fC HPs.out EG tT (vu HBW.out yJ yR);have Qm:j2 W7 N (bC (sd bn qP)) 205:=H5;have ZX:(gg.info? 205).map (·.size)=μ (bC (sd bn qP)).size:=by rw[Lf];exact YG
        have HM1:Hid _:=tC;have HD1:Hid _:=UN;have HN1:Hid _:=H5;have C2:Hid _:=yJ;have HW7:Hid _:=Ql;clear tT EG tC UN H5 yJ Ql ZW j Cv HW;obtain⟨bb,KE⟩:=fH (bC (sd bn qP));rw[KE]at lO Qm ZX;have HBB:Hid _:=KE;clear KE
        go_upto_region 13 with fail
        rw[HW7.out];go_wp2_with(first
         |refine ng _ rfl (.tmp 10) 205 rfl N bb _ _ rfl Qm underlying205 ZX ?_)
        refine lO.mono ?_;rintro e w8 ⟨rfl,⟨G2,hB8,hR8,hM8,hD8⟩,AE⟩;have hN8:j2 w8 N (bC (sd bn qP)) 205:=j2.keep HN1.out (AE.block N (j2.lt HN1.out) (λe=>by have:=HBN.out;simp at e;omega));have TU:Hid (RS C r G2/\BL G2 G/\∀x q,x<m+1->Ext C r p x q->EW C r G2 q):=by
         refine⟨hR8,hM8.trans (BL.trans HM1.out HS.out.2.1),λx q hx hq=> ?_⟩;by_cases ex:x=m;{subst ex;obtain⟨q1,q2,e,rfl⟩:=hq;obtain rfl|⟨e',y,AO⟩:=db e;{exact EW.mono HD1.out hM8};{rw[dc]at AO;subst AO;exact hD8 y _ ⟨q1,q2,e',gZ⟩}};{exact EW.mono (EW.mono (HS.out.2.2 x q fC hq) HM1.out) hM8}
        have HB8:Hid _:=hB8;have HN8:Hid _:=hN8;have HG8:Hid (w.grownBy w8 (μ B)):=⟨AE.os.trans C2.out.os,AE.tape.trans C2.out.tape,AE.output.trans C2.out.output,au C2.out.size AE.size,λi hi kf=>(AE.block i (aq hi C2.out.size) kf).trans (C2.out.block i hi kf)⟩
        clear lO hB8 hR8 hM8 hD8 AE hN8 Qm ZX
        go_wp2
        go_roundw
        case rel=>exact⟨m+1,G2,fC,fC,by go_num,TU.out,HB8.out,HN8.out,HG8.out⟩
        case measure=>simp[gj];omega
      ·have aof:(by'==0)=false:=by simpa using xN
       have hE:nx=by':=by rw[<-HNX.out,af xN]
       subst hE;clear xN;obtain⟨J,hqd⟩:=fH ((Z m).dst);obtain⟨Q,E⟩:=fH ((Z m).far);obtain⟨qx,hqx⟩:=fH ((Z m).qT);rw[hqd]at b0 HW;rw[E]at b1 HW Cv;rw[hqx]at b2 Cv;obtain⟨Y,hW6⟩:=fH (w5.alloc (γ #[ι κ J,ι κ Q,ι κ qx] 98));have H:fP w5 Y:=by rw[<-hW6];exact gu _ _
       have hY:j2 Y w5.heap.size #[ι κ J,ι κ Q,ι κ qx] 98:=by rw[<-hW6];exact j2.new _ _ _
       have HW6:Hid _:=hW6;have Gk:=j2.below Jj.out H;have HN6:Hid _:=j2.below HN5.out H;have HG6:Hid (w.grownBy Y (μ B)):=⟨H.os.trans Iu.out.os,H.tape.trans Iu.out.tape,H.output.trans Iu.out.output,au Iu.out.size H.size,λi hi kf=>(H.block i (aq hi Iu.out.size)).trans (Iu.out.block i hi kf)⟩
       have y0:Y.cell? ⟨w5.heap.size,0,ν⟩=μ (ι κ J):=hY.cell 0;have y1:Y.cell? ⟨w5.heap.size,1,ν⟩=μ (ι κ Q):=hY.cell 1;have y2:Y.cell? ⟨w5.heap.size,2,ν⟩=μ (ι κ qx):=hY.cell 2;have ly:=hY.lt;have f0:=Gk.frozen (m*3);have f1:=Gk.frozen (m*3+1);have f2:=Gk.frozen (m*3+2);have g0:=(H.cell (p:=⟨B,m*3,ν⟩) (j2.lt Jj.out)).trans b0;have g1:=(H.cell (p:=⟨B,m*3+1,ν⟩) (j2.lt Jj.out)).trans b1;have g2:=(H.cell (p:=⟨B,m*3+2,ν⟩) (j2.lt Jj.out)).trans b2;have lB:=Gk.lt;have HB6:Hid _:=Gk;clear hW6 H hY hqd E hqx Gk HN5 Iu Jj B4
       go_upto_region 11 with fail
       rw[HW6.out];clear b0 b1 b2 nb Vg;have j:Hid (wv ⟨(m:Int),far+cm,nx⟩ (Z m)=true->(∃M,j2 (((Y.setCell ⟨B,m*3,ν⟩ (ι κ (m:Int))).setCell ⟨B,m*3+1,ν⟩ (ι κ (far+cm))).setCell ⟨B,m*3+2,ν⟩ (ι κ nx)) B (hC M) 204/\RS C r M/\BL M Z/\EW C r M (m::p))/\j2 (((Y.setCell ⟨B,m*3,ν⟩ (ι κ (m:Int))).setCell ⟨B,m*3+1,ν⟩ (ι κ (far+cm))).setCell ⟨B,m*3+2,ν⟩ (ι κ nx)) N (bC (sd bn qP)) 205/\w.grownBy (((Y.setCell ⟨B,m*3,ν⟩ (ι κ (m:Int))).setCell ⟨B,m*3+1,ν⟩ (ι κ (far+cm))).setCell ⟨B,m*3+2,ν⟩ (ι κ nx)) (μ B)):=by
        intro hb;obtain⟨u1,u2,u3⟩:=HU.out hb;have kf:N≠B:=by have:=HBN.out;omega
        refine⟨⟨_,?_,u1,u2,u3⟩,j2.other (j2.other (j2.other HN6.out kf _) kf _) kf _,mL (mL (mL HG6.out _ _) _ _) _ _⟩;rw[<-Kz Z m ⟨(m:Int),far+cm,nx⟩ fC];exact j2.set (j2.set (j2.set HB6.out _ _) _ _) _ _
       have ZW:Hid (¬wv ⟨(m:Int),far+cm,nx⟩ (Z m)=true->(∃M,j2 Y B (hC M) 204/\RS C r M/\BL M Z/\EW C r M (m::p))/\j2 Y N (bC (sd bn qP)) 205/\w.grownBy Y (μ B)):=
        λhb=>⟨⟨Z,HB6.out,HS.out.1,BL.refl _,HV.out hb⟩,HN6.out,HG6.out⟩
       clear HN6 HG6 HB6 HU HV HPn;have hq5:J=0 \/(¬J=0/\far+cm<Q) \/(¬J=0/\¬far+cm<Q/\far+cm=Q/\nx<qx) \/(¬J=0/\¬far+cm<Q/\far+cm=Q/\¬nx<qx) \/(¬J=0/\¬far+cm<Q/\¬far+cm=Q):=fC;obtain c1|⟨c1,c2⟩|⟨c1,c2,c3,c4⟩|⟨c1,c2,c3,c4⟩|⟨c1,c2,c3⟩:=hq5;have h:(J==0)=true:=by simpa using c1
       obtain⟨⟨M,tT,EG,tC,UN⟩,H5,yJ⟩:=j.out (Cv.out.2 (.inl (HW.out.1 c1)));obtain⟨W7,Ql⟩:=fH ((((Y.setCell ⟨B,m*3,ν⟩ (ι κ (m:Int))).setCell ⟨B,m*3+1,ν⟩ (ι κ (far+cm))).setCell ⟨B,m*3+2,ν⟩ (ι κ nx)));clear c1
       rotate_left
       have h:(J==0)=false:=by simpa using c1
       have E:¬Q=0:=λe=>c1 (HW.out.2 e);obtain⟨⟨M,tT,EG,tC,UN⟩,H5,yJ⟩:=j.out (Cv.out.2 (.inr (.inl c2)));obtain⟨W7,Ql⟩:=fH ((((Y.setCell ⟨B,m*3,ν⟩ (ι κ (m:Int))).setCell ⟨B,m*3+1,ν⟩ (ι κ (far+cm))).setCell ⟨B,m*3+2,ν⟩ (ι κ nx)));clear c1 E
       rotate_left
       have h:(J==0)=false:=by simpa using c1
       have E:¬Q=0:=λe=>c1 (HW.out.2 e);have c3':(far+cm==Q)=true:=by simpa using c3
       obtain⟨⟨M,tT,EG,tC,UN⟩,H5,yJ⟩:=j.out (Cv.out.2 (.inr (.inr ⟨c3,c4⟩)));obtain⟨W7,Ql⟩:=fH ((((Y.setCell ⟨B,m*3,ν⟩ (ι κ (m:Int))).setCell ⟨B,m*3+1,ν⟩ (ι κ (far+cm))).setCell ⟨B,m*3+2,ν⟩ (ι κ nx)));clear c1 E c3
       rotate_left
       have h:(J==0)=false:=by simpa using c1
       have E:¬Q=0:=λe=>c1 (HW.out.2 e);have c3':(far+cm==Q)=true:=by simpa using c3
       obtain⟨⟨M,tT,EG,tC,UN⟩,H5,yJ⟩:=ZW.out (λhb=>by have:=Cv.out.1 hb;omega);obtain⟨W7,Ql⟩:=fH Y;clear c1 E c3
       rotate_left
       have h:(J==0)=false:=by simpa using c1
       have E:¬Q=0:=λe=>c1 (HW.out.2 e);have c3':(far+cm==Q)=false:=by simpa using c3
       obtain⟨⟨M,tT,EG,tC,UN⟩,H5,yJ⟩:=ZW.out (λhb=>by have:=Cv.out.1 hb;omega);obtain⟨W7,Ql⟩:=fH Y;clear c1 E c3
       rotate_left
       all_goals
        rw[Ql]at tT H5 yJ;have lO:=HIH.out (m::p) m (far+cm) nx (sd bn qP) M W7 (by simp;omega) fC HPs.out EG tT (vu HBW.out yJ yR);have Qm:j2 W7 N (bC (sd bn qP)) 205:=H5;have ZX:(gg.info? 205).map (·.size)=μ (bC (sd bn qP)).size:=by rw[Lf];exact YG
        have HM1:Hid _:=tC;have HD1:Hid _:=UN;have HN1:Hid _:=H5;have C2:Hid _:=yJ;have HW7:Hid _:=Ql;clear tT EG tC UN H5 yJ Ql ZW j Cv HW;obtain⟨bb,KE⟩:=fH (bC (sd bn qP));rw[KE]at lO Qm ZX;have HBB:Hid _:=KE;clear KE
        go_upto_region 13 with fail
        rw[HW7.out];go_wp2_with(first
         |refine ng _ rfl (.tmp 10) 205 rfl N bb _ _ rfl Qm underlying205 ZX ?_)
        refine lO.mono ?_;rintro e w8 ⟨rfl,⟨G2,hB8,hR8,hM8,hD8⟩,AE⟩;have hN8:j2 w8 N (bC (sd bn qP)) 205:=j2.keep HN1.out (AE.block N (j2.lt HN1.out) (λe=>by have:=HBN.out;simp at e;omega));have TU:Hid (RS C r G2/\BL G2 G/\∀x q,x<m+1->Ext C r p x q->EW C r G2 q):=by
         refine⟨hR8,hM8.trans (BL.trans HM1.out HS.out.2.1),λx q hx hq=> ?_⟩;by_cases ex:x=m;{subst ex;obtain⟨q1,q2,e,rfl⟩:=hq;obtain rfl|⟨e',y,AO⟩:=db e;{exact EW.mono HD1.out hM8};{rw[dc]at AO;subst AO;exact hD8 y _ ⟨q1,q2,e',gZ⟩}};{exact EW.mono (EW.mono (HS.out.2.2 x q fC hq) HM1.out) hM8}
        have HB8:Hid _:=hB8;have HN8:Hid _:=hN8;have HG8:Hid (w.grownBy w8 (μ B)):=⟨AE.os.trans C2.out.os,AE.tape.trans C2.out.tape,AE.output.trans C2.out.output,au C2.out.size AE.size,λi hi kf=>(AE.block i (aq hi C2.out.size) kf).trans (C2.out.block i hi kf)⟩
        clear lO hB8 hR8 hM8 hD8 AE hN8 Qm ZX
        go_wp2
        go_roundw
        case rel=>exact⟨m+1,G2,fC,fC,by go_num,TU.out,HB8.out,HN8.out,HG8.out⟩
        case measure=>simp[gj];omega
    ·have afC:¬(m:Int)<=6:=fC;have HR:Hid (∃Z,j2 wr B (hC Z) 204/\RS C r Z/\BL Z G/\∀x q,Ext C r p x q->EW C r Z q):=by
      refine⟨Z,hB,HS.out.1,HS.out.2.1,λx q hq=>HS.out.2.2 x q ?_ hq⟩;obtain⟨q1,_,e,rfl⟩:=hq;have:=(NI q1 x gZ).1;omega
     have A:Hid _:=xk;clear hB hN xk;go_wp2_with fail
     go_end0
     exact⟨rfl,HR.out,A.out⟩
def UO(a:Option Addr)(n cap:Nat)(S:Nat->SV)(E:Nat->List kS)(r:Nat)(w:fA)(h:xE w a n S E)(hn:n<=1000)(jR:∀j<n,qq (S j).own (S j).seq (E j)=0)(mQ:1<=r)(hr6:r<=6):
 gb gg 48 #[σ a n cap,ι κ (r:Int)] w λe w'=>∃b c,e=ρ (σ b (mE (lp (ln S E n)) r).length c)/\Ti w' b (mE (lp (ln S E n)) r).length (mE (lp (ln S E n)) r)/\fP w w':=by
  have J:Hid (∀(u v:Nat) W,fP w W->gb gg 159 #[σ a n cap,ι κ (u:Int),ι κ (v:Int)] W λe w'=>e=ρ (ι κ (lp (ln S E n) u v))/\fP W w'):=
   λu v W hW=>Xc a n cap S E u v W (h.below hW) hn jR
  have Eh:=Du (yg S E n jR);have hD:=UK S E n jR;have HI:Hid (∀u v,0<lp (ln S E n) u v->(1<=u/\u<=6)/\1<=v/\v<=6):=abD S E n jR;generalize lp (ln S E n)=C at J Eh hD HI⊢;clear jR;have H4:∀x y,0<=C x y:=λx y=>(Eh x y).1;have hz:=ajd;have oe:=abF;have r1:¬(r:Int)<1:=fC;have r2:¬6<(r:Int):=fC;obtain⟨Z,hZ⟩:=fH (bC (λ_=>false));obtain⟨Z2,ZC⟩:=fH (hC (λ_=>HP.zero));rw[hZ]at hz;rw[ZC]at oe;obtain⟨W1,lK⟩:=fH ((w.alloc (γ Z2 204)).alloc (γ Z 205));have k1:fP w W1:=by rw[<-lK];exact(gu _ _).alloc gZ _
  have hB:j2 W1 w.heap.size (hC λ_=>HP.zero) 204:=by rw[<-lK,ZC];exact(j2.new w _ _).below (gu _ _)
  have hN:j2 W1 (w.heap.size+1) Z 205:=by rw[<-lK];exact j2.Ib _ _ _ _ gZ
  have ZX:(gg.info? 205).map (·.size)=μ Z.size:=by rw[<-hZ,Lf];exact YG
  have VO:YI C r [] r 0 0 (λ_=>false):=by
   refine⟨.inl ⟨rfl,rfl,rfl,rfl⟩,dC,λx=> ?_⟩;simp[sd]
  have hrs:RS C r (λ_=>HP.zero):=⟨⟨λ_=>aZ _,λn hn=>by simp[HP.zero]at hn⟩,λ_ _=>rfl⟩
  have lO:=UM a n cap r w C w.heap.size (aj _) J Eh HI 7 [] r 0 0 (λ_=>false) (λ_=>HP.zero) W1 rfl fC VO hrs hB k1;rw[hZ]at lO;have LC:Hid _:=lK;have HK1:Hid _:=k1;clear lK hZ ZC VO hrs hB k1 J;go_in
  go_upto_region 5 with fail
  rw[LC.out];go_wp2_with(first
   |refine ng _ rfl (.tmp 6) 205 rfl (w.heap.size+1) Z _ _ rfl hN underlying205 ZX ?_)
  refine lO.mono ?_;rintro e w2 ⟨rfl,⟨G,Ef,Hz,_,hD2⟩,xk⟩;have tU:fP w w2:=vu HK1.out xk (aj _);have lA:=UL H4 (hD r) G Hz (λq q1 q2=>by
   obtain rfl|⟨e,x,he⟩:=db q;{exact q1.elim}
   ·rw[dc]at he;exact hD2 x q ⟨q1,q2,e,he⟩)
  have HD3:Hid (∀m:Nat,1<=m->((0:Int)<(G m).dst↔0<pK C r m)/\(0<pK C r m->G m=j1 C r 6 m)):=by
   intro m hm;obtain⟨s1,s2⟩:=lA m;refine⟨⟨λh9=> ?_,λh9=> ?_⟩,s2⟩;{by_cases e:0<pK C r m;{exact e};have e0:=Qh H4 (hD r) m;have:=Hz.z m fC;rw[this]at h9;simp[HP.zero]at h9};have:=(Hz.s.way m fC).1;omega
  have HF0:Hid (pK C r 0=0):=by
   show _=_;have e0:=Qh H4 (hD r) 0;by_cases e:0<pK C r 0
   ·obtain⟨_,q,q1,_,q3,_⟩:=uX H4 (hD r) 0 e;exfalso
    match q,q1,q3 with
    |[],q1,_=>exact q1
    |[x],q1,q3=>
     have:x=0:=by simpa using q3
     subst this;have:=HI.out _ _ q1.1;omega
    |x::y::l,q1,q3=>
     have:x=0:=by simpa using q3
     subst this;have:=HI.out _ _ q1.2.1;omega
   omega
  have HL:Hid (∀m,qR (j1 C r 6) (m+1)=if 0<pK C r m then qR (j1 C r 6) m++ [j1 C r 6 m]else qR (j1 C r 6) m):=λm=>rfl;have HE:Hid (qR (j1 C r 6) 7=mE C r):=rfl;have HLL:Hid (∀m,(qR (j1 C r 6) m).length<=m):=tM _;obtain⟨i0,hi,pB,oR,Ob⟩:=bu Rm;have yV:Hid _:=Ef;have HK2:Hid _:=tU;obtain⟨B,H⟩:=fH (w.heap.size);rw[H]at yV;rw[H];clear lO Ef Hz hD2 xk tU lA hN ZX LC H;go_wp2;go_loopw [7,8] (λs v wr=>∃m:Nat,1<=m/\m<=7/\v=ι κ m/\Row wr 3 s (qR (j1 C r 6) m).length (Ph (qR (j1 C r 6) m))/\(∀g,s.ownBlock=μ g->w2.heap.size<=g)/\fP w2 wr) (λ_ v _=>7-(gj v).toNat)
  case atStart=>
   refine⟨1,fC,fC,rfl,?_,λg hg=>by simp[fD]at hg,aC _ _⟩
   have e:qR (j1 C r 6) 1=[] :=by
    rw[HL.out 0,af (by rw[HF0.out];omega)];rfl
   rw[e];exact Row.nil _ _
  case round=>
   obtain⟨m,xP,hm7,rfl,M,ku,A⟩:=hrel;by_cases hm6:m<=6
   ·have afC:(m:Int)<=6:=fC;have aod:(m:Int)<7:=fC;obtain⟨p0,p1,p2⟩:=Cr G m fC;have Y:=j2.below yV.out A;have c0:=(Y.cell (m*3)).trans p0;have c1:=(Y.cell (m*3+1)).trans p1;have c2:=(Y.cell (m*3+2)).trans p2;clear p0 p1 p2 Y;obtain⟨d1,d2⟩:=HD3.out m xP;have HS:Hid _:=HL.out m;have hll:=HLL.out m;have Cw:Hid _:=ku;have HB:Hid _:=A;by_cases hf:0<pK C r m
    ·have Q:0<(G m).dst:=d1.2 hf;have he:=d2 hf;have A5:Hid (qR (j1 C r 6) (m+1)=qR (j1 C r 6) m++ [G m]):=by show _=_;rw[HS.out,ag hf,he]
     obtain⟨p,hp⟩:=fH (G m);rw[hp]at c0 c1 c2 Q A5;obtain⟨pd,pf,px⟩:=p;simp only at c0 c1 c2 Q;obtain⟨L,hLe⟩:=fH (qR (j1 C r 6) m);rw[hLe]at A5 M hll;have hws:Hid (w2.heap.size<=wr.heap.size):=A.size;clear hp hLe d1 d2 hf he ku A HS;go_wp2_with(at_builtin;go_must(refine jN _ rfl (.tmp 28) (.tmp 32) 94 rfl 98 i0 (.agg #[ι κ 0,ι κ 0,ι κ 0]) 3 24 underlying94 hi pB oR Ob rfl fF u7 L.length (Ph L) rfl (M.alloc _) _ 1 1 [ι κ pd,ι κ pf,ι κ px] rfl rfl fF (Bj _ _ _ _ _ _ gZ) (Xg _ _ _) (by unfold maxLen;omega) fC ?_));intro g' kE w3 uN uM uO
     have HR3:Hid (Row w3 3 (σ (μ ⟨g',0,ν⟩) (L.length+1) kE) (L++ [(⟨pd,pf,px⟩:HP)]).length (Ph (L++ [(⟨pd,pf,px⟩:HP)]))):=by
      show Row _ _ _ _ _;rw[MH,aG];exact uN
     have kb:fP w2 (wr.alloc (γ #[ι κ pd,ι κ pf,ι κ px] 98)):=Below.alloc HB.out HB.out.size _;have Ly:Hid (fP w2 w3):=⟨uM.os.trans kb.os,uM.tape.trans kb.tape,uM.output.trans kb.output,au kb.size uM.size,λi hi=>(uM.block i (aq hi kb.size) (λe=>by have:=Cw.out i e.symm;omega)).trans (kb.block i hi)⟩
     have W8:Hid (∀g,fD (σ (μ ⟨g',0,ν⟩) (L.length+1) kE)=μ g->w2.heap.size<=g):=by
      intro g hg;have SD:g'=g:=by simpa[fD]using hg
      subst SD;obtain e|e:=uO;{exact Cw.out _ e};have:=hws.out;omega
     clear uN uM uO kb M c0 c1 c2;go_wp2;go_roundw;(case rel=>exact⟨m+1,fC,fC,by go_num,by rw[A5.out];exact HR3.out,W8.out,Ly.out⟩);case measure=>simp[gj];omega
    have Q:¬0<(G m).dst:=λe=>hf (d1.1 e);have A5:Hid (qR (j1 C r 6) (m+1)=qR (j1 C r 6) m):=by show _=_;rw[HS.out,af hf]
    generalize (G m).dst=pd at c0 Q;have FX:Hid _:=M;clear d1 d2 hf HS ku A M c1 c2;go_wp2;go_roundw;(case rel=>exact⟨m+1,fC,fC,by go_num,by rw[A5.out];exact FX.out,Cw.out,HB.out⟩);case measure=>simp[gj];omega
   have afC:¬(m:Int)<=6:=fC;have Tv:m=7:=fC;subst Tv;rw[HE.out]at M;obtain⟨ra,rc,rfl,hR⟩:=Row.hs M;have HR:Hid _:=hR;have HBE:Hid _:=fQ HK2.out A;clear hR M ku A;go_wp2;go_ret;first|exact⟨_,_,rfl,HR.out,HBE.out⟩|exact⟨_,⟨_,rfl⟩,HR.out,HBE.out⟩
