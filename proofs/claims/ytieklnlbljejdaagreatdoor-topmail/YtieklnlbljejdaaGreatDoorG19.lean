import Derived.Test.YtieklnlbljejdaaGreatDoorG17
open Go.Value renaming int → ι, slice → σ, pointer → π, tuple → τ, nilIface → η
open Go.IntKind renaming i64 → κ
open Go.Ending renaming returned → ρ
open Go.Obj renaming cells → γ
open Option renaming none → ν, some → μ
open Go renaming World → eB, Value → eD, Calls → fj
open Go.Region renaming wanted → eW
open Go.Value renaming slice → gS, ownBlock → eF
open Go.World renaming frozen? → gU
open Go.Proofs.Tryz renaming prog → fk
open Go.IntKind renaming i64 → fY
set_option maxRecDepth 100000
set_option maxHeartbeats 1000000
namespace Go.Proofs.YtieklnlbljejdaaGreatDoor
open Go.RowKit St
namespace Rt
variable {a b w w':World} {c d g i k m o:Nat} {l:Lab} {n n':jc} {ov:Nat->Value} {y:Yt}
def uu(w w':eB)(y':Yt):Nat->Prop:=λk=>w.heap.size<=k/\k<w'.heap.size/\(y'.own k \/y'.ext k)
theorem jJ.owned {y':Yt} (h:jJ w y n)(hs:w.heap.size<=w'.heap.size)(hk:∀k,k<w.heap.size->¬y.own k->¬y.ext k->w'.heap[k]? =w.heap[k]?)
 (hM:y'.bM=y.bM) (hz:y'.z=λj=>(y.z j).plus (uu w w' y')) (jw:∀k,y'.own k \/y'.ext k->k<w'.heap.size)
 (jC:∀k,y'.own k->y.own k \/w.heap.size<=k) (K9:∀k,y'.ext k->y.ext k \/w.heap.size<=k) (hn:n'.n=n.n) (Xi:n'.ms=n.ms) (hR:n'.R=n.R)
 (c9:n'.nc<=9)
 (nN:jr w' y'.N #[σ (μ ⟨y'.gR,0,ν⟩) n'.n y'.sA,σ (μ ⟨y'.gI,0,ν⟩) n'.n y'.xh,.map (μ y'.bM),y'.cv n'.nc] 190)
 (rr:pL w' y'.gR 0 n'.n (λi=>π (μ ⟨(y.z i).R,0,ν⟩))) (ri:pL w' y'.gI 0 n'.n y'.iv) (rc:∀g,y'.gC=μ g->∀c,c<n'.nc->pL w' g (c*7) 7 (AO (n'.C c) (y'.ov c))) (gc:∀c,c<n'.nc->∃g,y'.gC=μ g)
 (ib:∀i,i<n'.n->Row w' 3 (y'.iv i) (n'.jA i).length (nh (n'.jA i))) (ob:∀c d,c<n'.nc->d<2->Row w' 1 (y'.ov c d) ((n'.C c).on d).length (iZ ((n'.C c).on d))) (ol:∀c d,c<n'.nc->d<2->((n'.C c).on d).length<=2000)
 (en:∀c d,c<n'.nc->d<2->((n'.C c).e d).1<n'.n/\((n'.C c).e d).2<3) (inj:∀l l' k,y'.at l=μ k->y'.at l'=μ k->l=l') (nx:∀k,y'.ext k->¬y'.own k):
 jJ w' y' n'/\∀k,y'.all n.n k->y.all n.n k \/w.heap.size<=k:=by
 have MS:∀j k,(y'.z j).oj k↔(y.z j).oj k:=λj k=>by rw[hz];exact eu
 have T6:=h.EG;refine⟨⟨by rw[hn];exact h.n1,by rw[hn];exact h.n6,c9,nN,?_,ri,rc,gc,?_,λi hi=> ?_,λi hi=> ?_,ib,ob,ol,en,inj,λi hi k ha=> ?_,nx,⟨λe=> ?_,λe=> ?_,λi hi e=> ?_⟩,λe=> ?_⟩,λk si=> ?_⟩
 ·refine rr.congr λj _=> ?_;rw[hz];rfl
 ·obtain⟨E,h1,h2⟩:=h.mp;refine⟨E,?_,by rw[hn,Xi];exact h2⟩;rw[hM];exact h1.keep (hk _ T6 h.nM.1 h.nM.2.1)
 ·rw[hn]at hi;rw[hz,hR];refine(h.rt i hi).besides hs (λk si hc=>hk k si (λe=> ?_) (λe=> ?_)) _ (λk e=>⟨e.1,e.2.1⟩)
  ·have ha:=h.away i hi k (.inl e);rcases hc with hc|hc
   ·exact hc ha.1
   ·rw[(h.rn i hi).1]at hc;exact ha.2 hc
  ·have ha:=h.away i hi k (.inr (.inl e));rcases hc with hc|hc
   ·exact hc ha.1
   ·rw[(h.rn i hi).1]at hc;exact ha.2 hc
 ·rw[hn]at hi;rw[hR];exact h.rn i hi
 ·rw[hn]at hi ha;rw[hz];show((y.z i).fm.no k \/uu w w' y' k)/\¬(y.z i).mine 3 k;have Vs:w.heap.size<=k->¬(y.z i).mine 3 k:=λe e1=>by
   have:=h.xk hi (.inl e1);omega
  rcases ha with e|e|⟨j,hj,jV,e⟩
  ·rcases jC k e with e1|e1
   ·have ha:=h.away i hi k (.inl e1);exact⟨.inl ha.1,ha.2⟩
   ·exact⟨.inr ⟨e1,jw k (.inl e),.inl e⟩,Vs e1⟩
  ·rcases K9 k e with e1|e1
   ·have ha:=h.away i hi k (.inr (.inl e1));exact⟨.inl ha.1,ha.2⟩
   ·exact⟨.inr ⟨e1,jw k (.inr e),.inr e⟩,Vs e1⟩
  ·have ha:=h.away i hi k (.inr (.inr ⟨j,hj,jV,(MS j k).1 e⟩));exact⟨.inl ha.1,ha.2⟩
 ·rw[hM]at e;rcases jC _ e with e1|e1
  ·exact h.nM.1 e1
  ·omega
 ·rw[hM]at e;rcases K9 _ e with e1|e1
  ·exact h.nM.2.1 e1
  ·omega
 ·rw[hn]at hi;rw[hM]at e;exact h.nM.2.2 i hi ((MS i _).1 e)
 ·rcases jC 0 e with e1|e1
  ·exact h.z0 e1
  ·have:=h.EG;omega
 ·rcases si with e|⟨j,hj,e⟩
  ·exact(jC k e).imp_left .inl
  ·exact .inl (.inr ⟨j,hj,(MS j k).1 e⟩)
theorem jJ.qL(h:jJ w y n)(e:y.at l=μ k):k<w.heap.size:=h.lt (.inl ⟨l,e⟩)
theorem jJ.sZ(h:jJ w y n) {l':Lab} {k':Nat} (e:y.at l=μ k)(e':y.at l'=μ k')(jV:l≠l'):k≠k':=λx=>jV (h.inj l l' k e (by rw[e',x]))
theorem jJ.EK(h:jJ w y n)(hc:c<n.nc)(hg:y.gC=μ g)(cb:pX)(o:Nat->eD)(hs:w.heap.size<=w'.heap.size)(DA:w'.os=w.os)(JX:w'.tape=w.tape)(KU:w'.output=w.output)
 (hk:∀k,k<w.heap.size->k≠g->(∀d,d<2->(y.ov c d).ownBlock≠μ k)->w'.heap[k]? =w.heap[k]?)
 (hcell:∀j,j<c*7 \/c*7+7<=j->w'.cell? ⟨g,j,ν⟩=w.cell? ⟨g,j,ν⟩) (Qa:∀j,w'.frozen? ⟨g,j,ν⟩=w.frozen? ⟨g,j,ν⟩) (wj:pL w' g (c*7) 7 (AO cb o))
 (Sk:∀d,d<2->Row w' 1 (o d) (cb.on d).length (iZ (cb.on d))) (UT:∀d,d<2->(cb.on d).length<=2000) (Oa:cb.e=(n.C c).e)
 (jC:∀d k,d<2->(o d).ownBlock=μ k->(y.ov c d).ownBlock=μ k \/w.heap.size<=k) (jV:∀k,(o 0).ownBlock=μ k->(o 1).ownBlock≠μ k):iV w w' y (n.ll c cb) n.n:=by
 obtain⟨ov,hov⟩:∃ov:Nat->Nat->eD,ov=λx d=>if x=c/\d<2 then o d else y.ov x d:=⟨_,rfl⟩
 have ov1:∀d,d<2->ov c d=o d:=λd hd=>by rw[hov];simp[hd]
 have ov2:∀x d,¬(x=c/\d<2)->ov x d=y.ov x d:=λx d hx=>by rw[hov];simp only[if_neg hx]
 obtain⟨y1,yc⟩:∃y1:Yt,y1={y with ov:=ov}:=⟨_,rfl⟩
 obtain⟨y',np⟩:∃y':Yt,y'={y with ov:=ov,z:=λj=>(y.z j).plus (uu w w' y1)}:=⟨_,rfl⟩
 have jD:∀k,y'.own k↔y1.own k:=λk=>by
  rw[np,yc];constructor
  ·rintro⟨l,e⟩;exact⟨l,by cases l<;>exact e⟩
  ·rintro⟨l,e⟩;exact⟨l,by cases l<;>exact e⟩
 have hX:uu w w' y1=uu w w' y':=by
  funext k
  apply propext;unfold uu;rw[<-jD k];have:y1.ext=y'.ext:=by rw[yc,np]
  rw[this]
 have hat:∀l k,y'.at l=μ k->y.at l=μ k \/(w.heap.size<=k/\∃d,d<2/\l=.on c d/\(o d).ownBlock=μ k):=by
  intro l k e;rw[np]at e;cases l with
  |N=>exact .inl e
  |R=>exact .inl e
  |I=>exact .inl e
  |C=>exact .inl e
  |ib i=>exact .inl e
  |on x d=>
   have e':(ov x d).ownBlock=μ k:=e;by_cases hx:x=c/\d<2
   ·obtain⟨rfl,hd⟩:=hx;rw[ov1 d hd]at e';rcases jC d k hd e' with e1|e1
    ·exact .inl e1
    ·exact .inr ⟨e1,d,hd,rfl,e'⟩
   ·rw[ov2 x d hx]at e';exact .inl e'
 have kH:∀k,y'.own k->k<w'.heap.size:=by
  rintro k ⟨l,e⟩;rcases hat l k e with e1|⟨_,d,hd,rfl,e1⟩
  ·exact Nat.lt_of_lt_of_le (h.qL e1) hs
  ·exact(Sk d hd).lt k e1
 have ko:∀l k,y.at l=μ k->l≠ .C->(∀d,d<2->l≠ .on c d)->w'.heap[k]? =w.heap[k]? :=by
  intro l k e h1 h2;refine hk k (h.qL e) (λe1=> ?_) (λd hd e1=> ?_)
  ·exact h.sZ e (show y.at .C=μ g from hg) h1 e1
  ·exact h2 d hd (h.inj _ _ k e (show y.at (.on c d)=μ k from e1))
 have H:=h.owned (y':=y') (n':=n.ll c cb) hs (λk si h1 _=>hk k si (λe=>h1 ⟨.C,by rw[e];exact hg⟩) (λd _ e=>h1 ⟨.on c d,e⟩)) (by rw[np]) (by rw[<-hX,np])
  (λk e=>e.elim (kH k) (λe=>by
   have e':y.ext k:=by rw[np]at e;exact e
   exact Nat.lt_of_lt_of_le (h.lt (.inr e')) hs))
  (by
   rintro k ⟨l,e⟩;rcases hat l k e with e1|⟨e1,_⟩
   ·exact .inl ⟨l,e1⟩
   ·exact .inr e1) (λk e=>.inl (by rw[np]at e;exact e)) rfl rfl rfl h.c9 (by rw[np];exact h.nN.keep (ko .N _ rfl (λe=>nomatch e) (λ_ _ e=>nomatch e)))
  (by rw[np];exact h.rr.keep (ko .R _ rfl (λe=>nomatch e) (λ_ _ e=>nomatch e))) (by rw[np];exact h.ri.keep (ko .I _ rfl (λe=>nomatch e) (λ_ _ e=>nomatch e)))
  (by
   intro g' Dy x hx;have vZ:y.gC=μ g':=by rw[np]at Dy;exact Dy
   obtain rfl:g=g':=by rw[hg]at vZ;exact Option.some.inj vZ
   have Af:x<n.nc:=hx;show pL w' g (x*7) 7 (AO (jI n.C c cb x) (y'.ov x));by_cases e:x=c
   ·subst e;rw[iP];refine wj.congr λj _=> ?_;have e0:y'.ov x 0=o 0:=by rw[np];exact ov1 0 eH
    have e1:y'.ov x 1=o 1:=by rw[np];exact ov1 1 eH
    unfold AO;rw[e0,e1]
   ·rw[iL _ _ e];have hb:=h.rc g hg x Af;have e2:∀d,y'.ov x d=y.ov x d:=λd=>by rw[np];exact ov2 x d (λe'=>e e'.1)
    intro j hj;have hr:x*7+j<c*7 \/c*7+7<=x*7+j:=by
     rcases Nat.lt_or_gt_of_ne e with h1|h1
     ·exact .inl eE
     ·exact .inr eE
    refine⟨(hcell _ hr).trans ?_,(Qa _).trans (hb.fz j hj)⟩;rw[hb.cell j hj];unfold AO;rw[e2 0,e2 1])
  (by
   intro x hx;obtain⟨g',e⟩:=h.gc x hx;exact⟨g',by rw[np];exact e⟩)
  (by
   intro i hi;have:=(h.ib i hi).keep hs (λk e=>ko (.ib i) k e (λe=>nomatch e) (λ_ _ e=>nomatch e));rw[np];exact this)
  (by
   intro x d hx hd;show Row w' 1 (y'.ov x d) ((jI n.C c cb x).on d).length (iZ ((jI n.C c cb x).on d));by_cases e:x=c
   ·subst e;have e0:y'.ov x d=o d:=by rw[np];exact ov1 d hd
    rw[iP,e0];exact Sk d hd
   ·have e0:y'.ov x d=y.ov x d:=by rw[np];exact ov2 x d (λe'=>e e'.1)
    rw[iL _ _ e,e0];exact(h.ob x d hx hd).keep hs (λk e1=>ko (.on x d) k e1 (λe=>nomatch e) (λd' _ e'=>e (by injection e'))))
  (by
   intro x d hx hd;show((jI n.C c cb x).on d).length<=2000;by_cases e:x=c
   ·subst e;rw[iP];exact UT d hd
   ·rw[iL _ _ e];exact h.ol x d hx hd)
  (by
   intro x d hx hd;show((jI n.C c cb x).e d).1<n.n/\((jI n.C c cb x).e d).2<3;by_cases e:x=c
   ·subst e;rw[iP,Oa];exact h.en x d hx hd
   ·rw[iL _ _ e];exact h.en x d hx hd)
  (by
   intro l l' k e e';rcases hat l k e with e1|⟨e1,d,hd,rfl,e2⟩
   ·rcases hat l' k e' with e3|⟨e3,_⟩
    ·exact h.inj l l' k e1 e3
    ·have:=h.qL e1;omega
   ·rcases hat l' k e' with e3|⟨e3,d',lD,rfl,e4⟩
    ·have:=h.qL e3;omega
    ·have:d=d':=by
      rcases Nat.lt_or_ge d 1 with h1|h1
      ·rcases Nat.lt_or_ge d' 1 with h2|h2
       ·omega
       ·obtain rfl:d=0:=eE;obtain rfl:d'=1:=eE;exact absurd e4 (jV k e2)
      ·rcases Nat.lt_or_ge d' 1 with h2|h2
       ·obtain rfl:d=1:=eE;obtain rfl:d'=0:=eE;exact absurd e2 (jV k e4)
       ·omega
     rw[this])
  (by
   intro k e;have e0:y.ext k:=by rw[np]at e;exact e
   rintro⟨l,e1⟩;rcases hat l k e1 with e2|⟨e2,_⟩
   ·exact h.nx k e0 ⟨l,e2⟩
   ·have:=h.lt (.inr e0);omega)
 refine⟨⟨y',H.1,by rw[np];exact⟨rfl,rfl,rfl,rfl,rfl,rfl,rfl,rfl⟩,H.2,λk=>by rw[np]⟩,⟨DA,JX,KU,hs,λk si hn=>hk k si (λe=>hn (.inl ⟨.C,by rw[e];exact hg⟩)) (λd _ e=>hn (.inl ⟨.on c d,e⟩))⟩⟩
theorem jJ.box(h:jJ w y n)(hi:i<n.n)(v:eD)(l:List tV)(hs:w.heap.size<=w'.heap.size)(DA:w'.os=w.os)(JX:w'.tape=w.tape)(KU:w'.output=w.output)
 (hk:∀k,k<w.heap.size->k≠y.gI->(y.iv i).ownBlock≠μ k->w'.heap[k]? =w.heap[k]?) (G5:pL w' y.gI 0 n.n (jI y.iv i v)) (Uj:Row w' 3 v l.length (nh l))
 (jC:∀k,v.ownBlock=μ k->(y.iv i).ownBlock=μ k \/w.heap.size<=k):iV w w' y {n with jA:=jI n.jA i l} n.n:=by
 obtain⟨y1,yc⟩:∃y1:Yt,y1={y with iv:=jI y.iv i v}:=⟨_,rfl⟩
 obtain⟨y',np⟩:∃y':Yt,y'={y with iv:=jI y.iv i v,z:=λj=>(y.z j).plus (uu w w' y1)}:=⟨_,rfl⟩
 have jD:∀k,y'.own k↔y1.own k:=λk=>by
  rw[np,yc];constructor
  ·rintro⟨l,e⟩;exact⟨l,by cases l<;>exact e⟩
  ·rintro⟨l,e⟩;exact⟨l,by cases l<;>exact e⟩
 have hX:uu w w' y1=uu w w' y':=by
  funext k
  apply propext;unfold uu;rw[<-jD k];have:y1.ext=y'.ext:=by rw[yc,np]
  rw[this]
 have hat:∀l k,y'.at l=μ k->y.at l=μ k \/(w.heap.size<=k/\l=.ib i/\v.ownBlock=μ k):=by
  intro l k e;rw[np]at e;cases l with
  |N=>exact .inl e
  |R=>exact .inl e
  |I=>exact .inl e
  |C=>exact .inl e
  |on x d=>exact .inl e
  |ib x=>
   have e':(jI y.iv i v x).ownBlock=μ k:=e;by_cases hx:x=i
   ·subst hx;rw[iP]at e';rcases jC k e' with e1|e1
    ·exact .inl e1
    ·exact .inr ⟨e1,rfl,e'⟩
   ·rw[iL _ _ hx]at e';exact .inl e'
 have kH:∀k,y'.own k->k<w'.heap.size:=by
  rintro k ⟨l,e⟩;rcases hat l k e with e1|⟨_,rfl,e1⟩
  ·exact Nat.lt_of_lt_of_le (h.qL e1) hs
  ·exact Uj.lt k e1
 have ko:∀l k,y.at l=μ k->l≠ .I->l≠ .ib i->w'.heap[k]? =w.heap[k]? :=by
  intro l k e h1 h2;refine hk k (h.qL e) (λe1=> ?_) (λe1=> ?_)
  ·exact h.sZ e (show y.at .I=μ y.gI from rfl) h1 e1
  ·exact h2 (h.inj _ _ k e (show y.at (.ib i)=μ k from e1))
 have H:=h.owned (y':=y') (n':={n with jA:=jI n.jA i l}) hs (λk si h1 _=>hk k si (λe=>h1 ⟨.I,by rw[e];rfl⟩) (λe=>h1 ⟨.ib i,e⟩)) (by rw[np]) (by rw[<-hX,np])
  (λk e=>e.elim (kH k) (λe=>by
   have e':y.ext k:=by rw[np]at e;exact e
   exact Nat.lt_of_lt_of_le (h.lt (.inr e')) hs))
  (by
   rintro k ⟨l,e⟩;rcases hat l k e with e1|⟨e1,_⟩
   ·exact .inl ⟨l,e1⟩
   ·exact .inr e1) (λk e=>.inl (by rw[np]at e;exact e)) rfl rfl rfl h.c9 (by rw[np];exact h.nN.keep (ko .N _ rfl (λe=>nomatch e) (λe=>nomatch e)))
  (by rw[np];exact h.rr.keep (ko .R _ rfl (λe=>nomatch e) (λe=>nomatch e))) (by rw[np];exact G5)
  (by
   intro g' Dy x hx;have vZ:y.gC=μ g':=by rw[np]at Dy;exact Dy
   have:=(h.rc g' vZ x hx).keep (ko .C g' vZ (λe=>nomatch e) (λe=>nomatch e));rw[np];exact this)
  (by
   intro x hx;obtain⟨g',e⟩:=h.gc x hx;exact⟨g',by rw[np];exact e⟩)
  (by
   intro x hx;show Row w' 3 (y'.iv x) (jI n.jA i l x).length (nh (jI n.jA i l x));have e0:y'.iv x=jI y.iv i v x:=by rw[np]
   rw[e0];by_cases e:x=i
   ·subst e;rw[iP,iP];exact Uj
   ·rw[iL _ _ e,iL _ _ e];exact(h.ib x hx).keep hs (λk e1=>ko (.ib x) k e1 (λe=>nomatch e) (λe'=>e (by injection e'))))
  (by
   intro x d hx hd;have:=(h.ob x d hx hd).keep hs (λk e1=>ko (.on x d) k e1 (λe=>nomatch e) (λe=>nomatch e));rw[np];exact this)
  h.ol h.en
  (by
   intro l l' k e e';rcases hat l k e with e1|⟨e1,rfl,e2⟩
   ·rcases hat l' k e' with e3|⟨e3,_⟩
    ·exact h.inj l l' k e1 e3
    ·have:=h.qL e1;omega
   ·rcases hat l' k e' with e3|⟨e3,rfl,e4⟩
    ·have:=h.qL e3;omega
    ·rfl)
  (by
   intro k e;have e0:y.ext k:=by rw[np]at e;exact e
   rintro⟨l,e1⟩;rcases hat l k e1 with e2|⟨e2,_⟩
   ·exact h.nx k e0 ⟨l,e2⟩
   ·have:=h.lt (.inr e0);omega)
 refine⟨⟨y',H.1,by rw[np];exact⟨rfl,rfl,rfl,rfl,rfl,rfl,rfl,rfl⟩,H.2,λk=>by rw[np]⟩,⟨DA,JX,KU,hs,λk si hn=>hk k si (λe=>hn (.inl ⟨.I,by rw[e];rfl⟩)) (λe=>hn (.inl ⟨.ib i,e⟩))⟩⟩
theorem jJ.beside(h:jJ w y n)(hs:w.heap.size<=w'.heap.size)(hk:∀k,k<w.heap.size->¬y.ext k->w'.heap[k]? =w.heap[k]?)(X:Nat->Prop)(hX:∀k,X k->w.heap.size<=k/\k<w'.heap.size):
 ∃y',jJ w' y' n/\y.same y'/\(∀k,y'.all n.n k↔y.all n.n k)/\∀k,y'.ext k↔y.ext k \/X k:=by
 obtain⟨y1,yc⟩:∃y1:Yt,y1={y with ext:=λk=>y.ext k \/X k}:=⟨_,rfl⟩
 obtain⟨y',np⟩:∃y':Yt,y'={y with ext:=λk=>y.ext k \/X k,z:=λj=>(y.z j).plus (uu w w' y1)}:=⟨_,rfl⟩
 have hat:∀l,y'.at l=y.at l:=by
  intro l;rw[np];cases l<;>rfl
 have agr:∀l,y1.at l=y.at l:=by
  intro l;rw[yc];cases l<;>rfl
 have jC:∀k,y'.own k↔y.own k:=λk=>by unfold Yt.own;simp only[hat]
 have jD:∀k,y1.own k↔y.own k:=λk=>by unfold Yt.own;simp only[agr]
 have hX':uu w w' y1=uu w w' y':=by
  funext k
  apply propext;unfold uu;rw[jC k,jD k];have:y1.ext=y'.ext:=by rw[yc,np]
  rw[this]
 have ko:∀l k,y.at l=μ k->w'.heap[k]? =w.heap[k]? :=λl k e=>hk k (h.qL e) (λe1=>h.nx k e1 ⟨l,e⟩);have K9:∀k,y'.ext k↔y.ext k \/X k:=λk=>by rw[np]
 have H:=h.owned (y':=y') (n':=n) hs (λk si _ h2=>hk k si h2) (by rw[np]) (by rw[<-hX',np])
  (λk e=>by
   rcases e with e|e
   ·exact Nat.lt_of_lt_of_le (h.lt (.inl ((jC k).1 e))) hs
   ·rcases(K9 k).1 e with e|e
    ·exact Nat.lt_of_lt_of_le (h.lt (.inr e)) hs
    ·exact(hX k e).2)
  (λk e=>.inl ((jC k).1 e)) (λk e=>((K9 k).1 e).imp_right (λe=>(hX k e).1)) rfl rfl rfl h.c9 (by rw[np];exact h.nN.keep (ko .N _ rfl))
  (by rw[np];exact h.rr.keep (ko .R _ rfl)) (by rw[np];exact h.ri.keep (ko .I _ rfl))
  (by
   intro g' Dy x hx;have vZ:y.gC=μ g':=by rw[np]at Dy;exact Dy
   have:=(h.rc g' vZ x hx).keep (ko .C g' vZ);rw[np];exact this)
  (by
   intro x hx;obtain⟨g',e⟩:=h.gc x hx;exact⟨g',by rw[np];exact e⟩)
  (by
   intro x hx;have:=(h.ib x hx).keep hs (λk e1=>ko (.ib x) k e1);rw[np];exact this)
  (by
   intro x d hx hd;have:=(h.ob x d hx hd).keep hs (λk e1=>ko (.on x d) k e1);rw[np];exact this)
  h.ol h.en (λl l' k e e'=>h.inj l l' k ((hat l).symm.trans e) ((hat l').symm.trans e'))
  (by
   intro k e e1;rcases(K9 k).1 e with e|e
   ·exact h.nx k e ((jC k).1 e1)
   ·have h1:=h.lt (.inl ((jC k).1 e1));have h2:=(hX k e).1;omega)
 refine⟨y',H.1,by rw[np];exact⟨rfl,rfl,rfl,rfl,rfl,rfl,rfl,rfl⟩,λk=> ?_,K9⟩;unfold Yt.all;rw[jC k];have:∀j,(y'.z j).oj k↔(y.z j).oj k:=λj=>by rw[np];exact eu
 simp only[this]
theorem jJ.below {w w':eB} {y:Yt} {n:jc} (h:jJ w y n)(hb:eN w w'):jJ w' y n:=by
 refine⟨h.n1,h.n6,h.c9,h.nN.below hb,h.rr.below h.n1 hb,h.ri.below h.n1 hb,λg hg c hc=>(h.rc g hg c hc).below eH hb,h.gc,?_,λi hi=>(h.rt i hi).below hb,h.rn,λi hi=>(h.ib i hi).below hb,λc d hc hd=>(h.ob c d hc hd).below hb,h.ol,h.en,h.inj,h.away,h.nx,h.nM,h.z0⟩;obtain⟨E,h1,h2⟩:=h.mp;exact⟨E,h1.keep (hb.block _ h.EG),h2⟩
theorem uj.je(y:Yt)(n:Nat)(h:eN w w'):uj w w' y n:=⟨h.os,h.tape,h.output,h.size,λk hk _=>h.block k hk⟩
theorem iV.still(h:jJ w y n)(hb:eN w w'):iV w w' y n n.n:=⟨⟨y,h.below hb,y.EF,λ_ e=>.inl e,λ_=>eu⟩,uj.je y n.n hb⟩
theorem iV.below {c:eB} (h:iV a b y n m)(hn:n.n=m)(hb:eN b c):iV a c y n m:=by
 subst hn;exact h.step λy' hR _=>iV.still hR hb
section
variable {P:Program}
theorem AQ {ops:Array Oper} {o:Oper} {a:Act} {K:Act->eB->Prop} {Q:Exit->Act->eB->Prop} {E:Prop}
 (Hc:o.guard=ν) (sl x:Operand) (t u:TypeId) (ho:o.op=.call {callee:=.builtin .append,args:= #[sl,x],argTypes:= #[t,u] })
 (e:TypeId) (i:TypeInfo) (z:eD) (ht:P.underlying t=μ (.slice e)) (hu:P.underlying u=μ .string) (hi:P.info? e=μ i) (hz:i.zero=μ z) (qH:i.size=1) (yF:i.bytes=1) (J5:z.cells.size=1)
 (v:eD) (n:Nat) (xs:List eD) (hs:a.eval sl=v) (jC:Row w 1 v n xs) (s:ByteArray) (hx:a.eval x=.string s) (hsl:s.size<=1000000) (hn:n<=1000000000)
 (h:∀v' w',Row w' 1 v' (n+s.size) (xs++iZ s.data.toList)->w.grownBy w' v.ownBlock->(v'.ownBlock=v.ownBlock \/ ∃k,v'.ownBlock=μ k/\w.heap.size<=k)->K (a.put o.dst v') w'):
 if eW o (yielded ops a.tmps)=true then Oper.wp P o a w K Q else E:=by
 have hw:eW o (yielded ops a.tmps)=true:=by simp[eW,Hc]
 rw[ag hw];obtain⟨v',w',hr,h2,h3,h4⟩:=uQ (P:=P) w t u o.type e i z ht hu hi hz qH yF J5 v n xs jC s hsl hn;unfold Oper.wp execOp;simp only[ho,resolve,invoke,builtin,Sem.run_bind,Sem.run_pure,Result.andThen_ok,List.map_toArray,List.map_cons,List.map_nil,hs,hx,hr];exact h v' w' h2 h3 h4
end
theorem Row.shape {sz:Nat} {v:eD} {n:Nat} {xs:List eD} (h:Row w sz v n xs):∃a c,v=gS a n c:=by
 rcases h.2 with⟨e,e2⟩|⟨g',c',e,_⟩
 ·exact⟨ν,0,by rw[e,e2]⟩
 ·exact⟨_,_,e⟩
structure Qd(w w':eB)(g o d:Nat)(c:pX)(ov:Nat->eD)(v':eD):Prop where
 os:w'.os=w.os
 tape:w'.tape=w.tape
 output:w'.output=w.output
 size:w.heap.size<=w'.heap.size
 block:∀k,k<w.heap.size->k≠g->(ov d).ownBlock≠μ k->w'.heap[k]? =w.heap[k]?
 cell:∀j,j<o \/o+7<=j->w'.cell? ⟨g,j,ν⟩=w.cell? ⟨g,j,ν⟩
 fz:∀j,w'.frozen? ⟨g,j,ν⟩=w.frozen? ⟨g,j,ν⟩
 vN:pL w' g o 7 (AO c (jI ov d v'))
 row:Row w' 1 v' (c.on d).length (iZ (c.on d))
 own:∀k,v'.ownBlock=μ k->(ov d).ownBlock=μ k \/w.heap.size<=k
theorem YX(c:pX)(ov:Nat->eD)(d:Nat)(hd:d<2)(v:eD)(f:Nat->List UInt8):∀j,j<7->qF (AO c ov) (5+d) v j=AO {c with on:=f} (jI ov d v) j:=by
 intro j hj;have P9:d=0 \/d=1:=eE;rcases P9 with rfl|rfl
 ·by_cases e:j=5
  ·subst e;rfl
  ·rw[jP _ _ eE];unfold AO;simp only[e,if_false];rfl
 ·by_cases e:j=6
  ·subst e;rfl
  ·rw[jP _ _ eE];unfold AO;have e6:¬j=6:=e;by_cases e5:j=5
   ·subst e5;rfl
   ·have:j<5:=eE;simp only[e5,if_false];by_cases e4:j=4
    ·simp[e4]
    ·have:j<4:=eE;by_cases e3:j=3
     ·simp[e3]
     ·by_cases e2:j=2
      ·simp[e2]
      ·by_cases e1:j=1
       ·simp[e1]
       ·have:j=0:=eE;simp[this]
theorem Sl(c:pX)(ov:Nat->eD)(d:Nat)(hd:d<2):AO c ov (5+d)=ov d:=by
 have P9:d=0 \/d=1:=eE;rcases P9 with rfl|rfl<;>rfl
theorem Qd.still {c:pX} (hC:pL w g o 7 (AO c ov))(hR:Row w 1 (ov d) (c.on d).length (iZ (c.on d)))(hb:eN w w'):Qd w w' g o d c ov (ov d):=by
 have hl:=hC.lt eH;refine⟨hb.os,hb.tape,hb.output,hb.size,λk hk _ _=>hb.block k hk,λj _=>ai (a:=⟨g,j,ν⟩) (hb.block g hl),λj=>by simp only[gU,hb.block g hl],?_,hR.below hb,λk e=>.inl e⟩;rw[uS];exact hC.below eH hb
theorem Qd.turn {x:eB} {c:pX} (hd:d<2)(hC:pL w g o 7 (AO c ov))(hg:(ov d).ownBlock≠μ g)(v:eD)(f:Nat->List UInt8)(os:x.os=w.os)(tp:x.tape=w.tape)(ou:x.output=w.output)(hs:w.heap.size<=x.heap.size)
 (hk:∀k,k<w.heap.size->(ov d).ownBlock≠μ k->x.heap[k]? =w.heap[k]?) (hr:Row x 1 v (f d).length (iZ (f d))) (jC:∀k,v.ownBlock=μ k->(ov d).ownBlock=μ k \/w.heap.size<=k):
 Qd w (x.setCell ⟨g,o+5+d,ν⟩ v) g o d {c with on:=f} ov v:=by
 rw[Nat.add_assoc];have hl:=hC.lt eH;have hgx:=hk g hl hg;have Vh:v.ownBlock≠μ g:=λe=>by
  rcases jC g e with e1|e1
  ·exact hg e1
  ·omega
 refine⟨os,tp,ou,by simpa using hs,λk si h1 h2=>(ak _ _ _ k h1).trans (hk k si h2),λj hj=> ?_,λj=> ?_,?_,?_,jC⟩
 ·rw[aU _ _ _ _ (λe=>by have:=congrArg Addr.off e;simp at this;omega)];exact ai (a:=⟨g,j,ν⟩) hgx
 ·rw[mA];simp only[gU,hgx]
 ·exact((hC.keep hgx).set (5+d) eE v).congr (YX c ov d hd v f)
 ·exact hr.keep iC (λk e=>ak _ _ _ k (λe1=>Vh (by rw[e,e1])))
theorem Sm(g o d:Nat)(c:pX)(ov:Nat->eD)(s:ByteArray)(w:eB)(hd:d<2)(hC:pL w g o 7 (AO c ov))(hR:Row w 1 (ov d) (c.on d).length (iZ (c.on d)))(hg:(ov d).ownBlock≠μ g)(hl:(c.on d).length<=2000)(hs:s.size<=1000000000):
 fj fk 161 #[π (μ ⟨g,o,ν⟩),ι κ (d:Int),.string s] w λe w'=>e=ρ (τ #[])/\∃v',Qd w w' g o d (c.put d s.data.toList) ov v':=by
 obtain⟨i0,hi,oz,mW,nT⟩:=aW RS;have hsl:s.data.toList.length=s.size:=iC;have c4:w.cell? ⟨g,o+4,ν⟩=μ (.bool c.jG):=hC.cell 4 eH;have c5:w.cell? ⟨g,o+5+d,ν⟩=μ (ov d):=by rw[Nat.add_assoc,hC.cell (5+d) eE,Sl c ov d hd]
 have f5:w.frozen? ⟨g,o+5+d,ν⟩=false:=by rw[Nat.add_assoc];exact hC.fz (5+d) eE
 have gl:=hC.lt eH;have lD:(d:Int)<2:=eE;have hd0:(0:Int)<=(d:Int):=eE;have HC:Hid _:=hC;have rM:fY.wrap (((c.on d).length:Int)+(s.size:Int))=((c.on d).length:Int)+(s.size:Int):=aS _ ⟨eE,eE⟩;clear hC;cases pw:c.jG with
 |false=>
  have hE:c.put d s.data.toList=c:=by unfold pX.put;rw[ae (by simp[pw])]
  rw[hE];rw[pw]at c4;have HR:Hid _:=hR;clear hR
  go_in
  go_wp2
  first|go_end0|refine aj (ar rfl _ _ _) rfl ?_
  exact⟨rfl,_,Qd.still HC.out HR.out (au _ _)⟩
 |true=>
  rw[pw]at c4;obtain⟨v,hv⟩:=gH (ov d);obtain⟨n,hn⟩:=gH ((c.on d).length);have HV:Hid _:=hv;have HN:Hid _:=hn;have Ir:=hR;rw[hv]at c5;rw[hn]at rM hl;rw[hv,hn]at Ir;have HR:Hid _:=hR;have Vi:∃a' c',v=gS a' n c':=by
   rcases Ir.2 with⟨e,e2⟩|⟨g',c',e,_⟩
   ·exact⟨ν,0,by rw[e,e2]⟩
   ·exact⟨_,_,e⟩
  obtain⟨a',c',YY⟩:=Vi;rw[YY]at c5 Ir;by_cases Uz:(n:Int)+(s.size:Int)<=2000
  ·have hE:c.put d s.data.toList={c with on:=jI c.on d (c.on d++s.data.toList)}:=by
    unfold pX.put;rw[ag ⟨pw,eE⟩]
   have HE:Hid _:=hE;have HG:Hid (eF (σ a' n c')≠μ g):=by rw[<-YY,<-hv];exact hg
   have HVE:Hid _:=YY;clear hR hE hv hn YY hg
   go_in
   go_wp2
   go_region_law ((refine AQ (by rfl) (.tmp 30) (.tmp 31) 140 9 (by rfl) 5 i0 (.int .u8 0) aQ a8 hi oz mW nT (by rfl) (σ a' n c') n (iZ (c.on d)) (by rfl) (by exact Ir.drew) s (by rfl) eE eE ?_;intro v1 x1 kU ki jD;obtain⟨a1,c1,YZ⟩:=Row.shape kU;subst YZ;have y5:=(ai (a:=⟨g,o+5+d,ν⟩) (ki.block g (by exact gl) (λe=>HG.out e.symm))).trans c5;have z5:=(aN (a:=⟨g,o+5+d,ν⟩) (ki.block g (by exact gl) (λe=>HG.out e.symm))).trans f5))
   all_goals
    go_wp2
    first|go_end0|refine aj (ar rfl _ _ _) rfl ?_
    have kV:∀k,eF (σ a1 (n+s.size) c1)=μ k->(ov d).ownBlock=μ k \/w.heap.size<=k:=by
     intro k hk;rw[HV.out,HVE.out];rcases jD with e|⟨k',e,si⟩
     ·exact .inl (by rw[<-e];exact hk)
     ·rw[hk]at e;obtain rfl:=Option.some.inj e;exact .inr si
    refine⟨rfl,σ a1 (n+s.size) c1,?_⟩;rw[HE.out];refine Qd.turn hd HC.out (by rw[HV.out,HVE.out];exact HG.out) (σ a1 (n+s.size) c1) _ ki.os ki.tape ki.output ki.size (λk hk h1=>ki.block k hk (λe=>h1 (by rw[HV.out,HVE.out];exact e.symm))) ?_ kV;rw[iP,aA,lr,HN.out,hsl];exact kU
  ·have hE:c.put d s.data.toList=c:=by
    unfold pX.put;rw[ae (λe=>Uz (by have:=e.2;omega))]
   rw[hE];clear hR hE hv hn YY
   go_in
   go_wp2
   first|go_end0|refine aj (ar rfl _ _ _) rfl ?_
   exact⟨rfl,_,Qd.still HC.out HR.out (au _ _)⟩
theorem jJ.k0(h:jJ w y n):w.cell? ⟨y.N,0,ν⟩=μ (σ (μ ⟨y.gR,0,ν⟩) n.n y.sA):=h.nN.cell 0
theorem jJ.k1(h:jJ w y n):w.cell? ⟨y.N,1,ν⟩=μ (σ (μ ⟨y.gI,0,ν⟩) n.n y.xh):=h.nN.cell 1
theorem jJ.k2(h:jJ w y n):w.cell? ⟨y.N,2,ν⟩=μ (.map (μ y.bM)):=h.nN.cell 2
theorem jJ.k3(h:jJ w y n):w.cell? ⟨y.N,3,ν⟩=μ (y.cv n.nc):=h.nN.cell 3
theorem jJ.uW(h:jJ w y n):y.N<w.heap.size:=h.nN.lt
theorem jJ.OB(h:jJ w y n):y.gR<w.heap.size:=h.qL (l:=.R) rfl
theorem jJ.Vt(h:jJ w y n):y.gI<w.heap.size:=h.qL (l:=.I) rfl
theorem jJ.ptr(h:jJ w y n)(hi:i<n.n):w.cell? ⟨y.gR,i,ν⟩=μ (π (μ ⟨(y.z i).R,0,ν⟩)):=by
 have:=h.rr.cell i hi
 rwa [Nat.zero_add]at this
theorem jJ.Sn(h:jJ w y n)(hi:i<n.n):w.cell? ⟨y.gI,i,ν⟩=μ (y.iv i):=by
 have:=h.ri.cell i hi
 rwa [Nat.zero_add]at this
theorem jJ.Y0(h:jJ w y n):∃a cp,y.cv n.nc=σ a n.nc cp/\∀c,c<n.nc->∃g,y.gC=μ g/\a=μ ⟨g,0,ν⟩:=by
 unfold Yt.cv;cases hg:y.gC with
 |none=>
  have h0:n.nc=0:=by
   rcases Nat.eq_zero_or_pos n.nc with e|e
   ·exact e
   ·obtain⟨g,e2⟩:=h.gc 0 e;rw[hg]at e2;simp at e2
  exact⟨ν,0,by rw[h0],λc hc=>eE⟩
 |some g=>exact⟨_,_,rfl,λc hc=>⟨g,rfl,rfl⟩⟩
section
variable {w w':World} {y:Yt} {n:jc} {m:Nat}
theorem iV.k0(h:iV w w' y n m):w'.cell? ⟨y.N,0,ν⟩=μ (σ (μ ⟨y.gR,0,ν⟩) n.n y.sA):=by
 obtain⟨⟨y',hR,hs,_⟩,_⟩:=h;have:=hR.k0
 rwa [hs.N,hs.gR,hs.sA]at this
theorem iV.k3(h:iV w w' y n m):w'.cell? ⟨y.N,3,ν⟩=μ (y.cv n.nc):=by
 obtain⟨⟨y',hR,hs,_⟩,_⟩:=h;have:=hR.k3;have e:y'.cv n.nc=y.cv n.nc:=by unfold Yt.cv;rw[hs.gC,hs.uT]
 rwa [hs.N,e]at this
theorem iV.lt(h:iV w w' y n m):y.N<w'.heap.size:=af _ _ h.k0
theorem iV.ptr(h:iV w w' y n m) {i:Nat} (hi:i<n.n):∃R,w'.cell? ⟨y.gR,i,ν⟩=μ (π (μ ⟨R,0,ν⟩)):=by
 obtain⟨⟨y',hR,hs,_⟩,_⟩:=h;have:=hR.ptr hi;rw[hs.gR]at this;exact⟨_,this⟩
theorem iV.MT(h:iV w w' y n m)(hc:c<n.nc)(hg:y.gC=μ g):∃ov,pL w' g (c*7) 7 (AO (n.C c) ov):=by
 obtain⟨⟨y',hR,hs,_⟩,_⟩:=h;exact⟨_,hR.rc g (by rw[hs.gC];exact hg) c hc⟩
theorem iV.tab {n0:jc} (h:iV w w' y n m)(hR:jJ w y n0)(hn:n0.n=m)(hT:jo w):jo w':=λe s he hs=>by
 subst hn;refine(ai (a:=⟨0,e*10+s,ν⟩) (h.kept.block 0 hT.lt (λhm=> ?_))).trans (hT e s he hs);rcases hm with e1|⟨j,hj,e1⟩
 ·exact hR.z0 e1
 ·have R:=hR.rt j hj;have h3:=(hR.rn j hj).1;rcases e1 with e2|e2|e2
  ·rcases e2 with e3|e3|⟨i,hi,e3|e3⟩|e3
   ·exact R.sR.2.1 e3.symm
   ·exact(R.pt 0 R.n1).nz.1 e3.symm
   ·exact(R.pt i eE).nz.2.1 e3.symm
   ·exact(R.pt i eE).nz.2.2 e3
   ·exact R.Ot.1 e3
  ·exact R.Ot.2 0 (.inl e2) rfl
  ·exact R.Ot.2 0 (.inr e2) rfl
theorem iV.first {c:eB} (hb:eN a b)(k:iV b c y n' m):iV a c y n' m:=by
 obtain⟨⟨y2,g1,g2,g3,g4⟩,g5⟩:=k;exact⟨⟨y2,g1,g2,λx hx=>(g3 x hx).imp_right (λe=>Nat.le_trans hb.size e),g4⟩,⟨g5.os.trans hb.os,g5.tape.trans hb.tape,g5.output.trans hb.output,Nat.le_trans hb.size g5.size,λx hx h1=>(g5.block x (Nat.lt_of_lt_of_le hx hb.size) h1).trans (hb.block x hx)⟩⟩
end
def La(i:Int)(n:Nat):Bool:=decide (1<=i)&&decide (i<=(n:Int))
theorem xr(i:Int)(n:Nat):(La i n=false/\(i<1 \/(n:Int)<i)) \/ ∃k:Nat,k<n/\i=(k:Int)+1:=by
 by_cases h0:1<=i
 ·by_cases h1:i<=(n:Int)
  ·exact .inr ⟨(i-1).toNat,eE,eE⟩
  ·exact .inl ⟨by simp[La,h1],eE⟩
 ·exact .inl ⟨by simp[La,h0],eE⟩
theorem uX {n:Nat} (h:i<n):La ((i:Int)+1) n=true:=by simp[La];omega
def Gf(i d:Int)(n:Nat):Bool:=hasB i n&& (decide (0<=d)&&decide (d<2))
theorem Lb(i d:Int)(n:Nat):(Gf i d n=false/\(i<0 \/(n:Int)<=i \/d<0 \/2<=d)) \/ ∃c k:Nat,c<n/\k<2/\i=(c:Int)/\d=(k:Int):=by
 by_cases h0:0<=i
 ·by_cases h1:i<(n:Int)
  ·by_cases h2:0<=d
   ·by_cases h3:d<2
    ·exact .inr ⟨i.toNat,d.toNat,eE,eE,eE,eE⟩
    ·exact .inl ⟨by simp[Gf,h3],eE⟩
   ·exact .inl ⟨by simp[Gf,h2],eE⟩
  ·exact .inl ⟨by simp[Gf,hasB,h1],eE⟩
 ·exact .inl ⟨by simp[Gf,hasB,h0],eE⟩
theorem Sp {n:Nat} (h:c<n)(hd:d<2):Gf (c:Int) (d:Int) n=true:=by simp[Gf,hasB];omega
theorem oJ(y:Yt)(n:jc)(i:Int)(w:eB)(h:jJ w y n):
 fj fk 107 #[π (μ ⟨y.N,0,ν⟩),ι κ i] w λe w'=>e=ρ (.bool (La i n.n))/\w=w':=by
 have hl:=h.uW;have c1:=h.k0;unfold La;by_cases h0:1<=i
 ·by_cases h1:i<=(n.n:Int)
  ·have hv:(decide (1<=i)&&decide (i<=(n.n:Int)))=true:=by simp[h0,h1]
   rw[hv];clear hv h
   go_in
   go_wp2
   go_ret;exact⟨by first|rfl|(simp;omega),rfl⟩
  ·have hv:(decide (1<=i)&&decide (i<=(n.n:Int)))=false:=by simp[h1]
   rw[hv];clear hv h
   go_in
   go_wp2
   go_ret;exact⟨by first|rfl|(simp;omega),rfl⟩
 ·have hv:(decide (1<=i)&&decide (i<=(n.n:Int)))=false:=by simp[h0]
  rw[hv];clear hv h
  go_in
  go_wp2
  go_ret;exact⟨by first|rfl|(simp;omega),rfl⟩
theorem ye(y:Yt)(n:jc)(i:Int)(w:eB)(h:jJ w y n):
 fj fk 112 #[π (μ ⟨y.N,0,ν⟩),ι κ i] w λe w'=>e=ρ (.bool (hasB i n.nc))/\w=w':=by
 have hl:=h.uW;have c1:=h.k3;obtain⟨a,cp,uM,_⟩:=h.Y0;rw[uM]at c1;unfold hasB;by_cases h0:0<=i
 ·by_cases h1:i<(n.nc:Int)
  ·have hv:(decide (0<=i)&&decide (i<(n.nc:Int)))=true:=by simp[h0,h1]
   rw[hv];clear hv h uM
   go_in
   go_wp2
   go_ret;exact⟨by first|rfl|(simp;omega),rfl⟩
  ·have hv:(decide (0<=i)&&decide (i<(n.nc:Int)))=false:=by simp[h1]
   rw[hv];clear hv h uM
   go_in
   go_wp2
   go_ret;exact⟨by first|rfl|(simp;omega),rfl⟩
 ·have hv:(decide (0<=i)&&decide (i<(n.nc:Int)))=false:=by simp[h0]
  rw[hv];clear hv h uM
  go_in
  go_wp2
  go_ret;exact⟨by first|rfl|(simp;omega),rfl⟩
theorem Lc(y:Yt)(n:jc)(i d:Int)(w:eB)(h:jJ w y n):
 fj fk 108 #[π (μ ⟨y.N,0,ν⟩),ι κ i,ι κ d] w λe w'=>e=ρ (.bool (Gf i d n.nc))/\w=w':=by
 have hh:=ye y n i w h;unfold Gf;cases hb:hasB i n.nc with
 |false=>
  rw[hb]at hh;have hv:(false&& (decide (0<=d)&&decide (d<2)))=false:=rfl;rw[hv];clear hv h hb
  go_in
  go_wp2_with(fail);refine hh.mono ?_;rintro e w0 ⟨rfl,rfl⟩;clear hh
  go_wp2
  go_ret;exact⟨rfl,rfl⟩
 |true=>
  rw[hb]at hh;clear h hb;by_cases h2:0<=d
  ·by_cases h3:d<2
   ·have hv:(true&& (decide (0<=d)&&decide (d<2)))=true:=by simp[h2,h3]
    rw[hv];clear hv
    go_in
    go_wp2_with(fail);refine hh.mono ?_;rintro e w0 ⟨rfl,rfl⟩;clear hh
    go_wp2
    go_ret;exact⟨by first|rfl|(simp;omega),rfl⟩
   ·have hv:(true&& (decide (0<=d)&&decide (d<2)))=false:=by simp[h3]
    rw[hv];clear hv
    go_in
    go_wp2_with(fail);refine hh.mono ?_;rintro e w0 ⟨rfl,rfl⟩;clear hh
    go_wp2
    go_ret;exact⟨by first|rfl|(simp;omega),rfl⟩
  ·have hv:(true&& (decide (0<=d)&&decide (d<2)))=false:=by simp[h2]
   rw[hv];clear hv
   go_in
   go_wp2_with(fail);refine hh.mono ?_;rintro e w0 ⟨rfl,rfl⟩;clear hh
   go_wp2
   go_ret;exact⟨by first|rfl|(simp;omega),rfl⟩
theorem OC(d:Nat)(hd:d<2)(w:eB):fj fk 156 #[ι κ (d:Int)] w λe w'=>e=ρ (ι κ ((1-d:Nat):Int))/\w=w':=by
 have e1:((1-d:Nat):Int)=1-(d:Int):=eE;have hw:fY.wrap (1-(d:Int))=1-(d:Int):=aS _ ⟨eE,eE⟩;rw[e1]
 go_in
 go_wp2
 go_ret;exact⟨rfl,rfl⟩
theorem Ld(y:Yt)(n:jc)(i:Nat)(p:Int)(w:eB)(h:jJ w y n)(hi:i<n.n):
 fj fk 157 #[π (μ ⟨y.N,0,ν⟩),.agg #[ι κ ((i:Int)+1),ι κ p]] w λe w'=>e=ρ (π (μ ⟨(y.z i).R,0,ν⟩))/\eN w w':=by
 have bm:=iB w (γ #[ι κ ((i:Int)+1),ι κ p] 192);have hM:jr (w.alloc (γ #[ι κ ((i:Int)+1),ι κ p] 192)) w.heap.size #[ι κ ((i:Int)+1),ι κ p] 192:=jr.new w _ _;have h0:=h.below bm;obtain⟨W0,nL⟩:=gH (w.alloc (γ #[ι κ ((i:Int)+1),ι κ p] 192));obtain⟨N,hN⟩:=gH (w.heap.size);rw[nL]at hM h0 bm;rw[hN]at hM;have e0:W0.cell? ⟨N,0,ν⟩=μ (ι κ ((i:Int)+1)):=hM.cell 0;have el:=hM.lt;have c0:=h0.k0;have cl:=h0.uW;have d0:=h0.ptr hi;have dl:=h0.OB;have n6:=h.n6;have hw:fY.wrap ((i:Int)+1-1)=(i:Int):=by
  have:(i:Int)+1-1=i:=eE;rw[this];exact aS _ ⟨eE,eE⟩
 have lO:(i:Int)<(n.n:Int):=eE;have NR:(0:Int)<=(i:Int):=eE;have HB:Hid _:=bm;have D3:Hid _:=nL;have HN:Hid _:=hN;clear h h0 hM nL hN bm
 go_in
 go_wp2_with(fail);rw[D3.out]
 try rw[HN.out]
 go_quiet(fail)
 go_wp2
 go_ret;exact⟨rfl,below_drewN HB.out _⟩
theorem Le(y:Yt)(n:jc)(i:Nat)(w:eB)(h:jJ w y n)(hi:i<n.n):
 fj fk 40 #[π (μ ⟨y.N,0,ν⟩),ι κ ((i:Int)+1)] w λe w'=>e=ρ (τ #[π (μ ⟨(y.z i).R,0,ν⟩),η])/\w=w':=by
 have hh:=oJ y n ((i:Int)+1) w h;rw[uX hi]at hh;have c0:=h.k0;have cl:=h.uW;have d0:=h.ptr hi;have dl:=h.OB;have n6:=h.n6;have hw:fY.wrap ((i:Int)+1-1)=(i:Int):=by
  have:(i:Int)+1-1=i:=eE;rw[this];exact aS _ ⟨eE,eE⟩
 have lO:(i:Int)<(n.n:Int):=eE;have NR:(0:Int)<=(i:Int):=eE;clear h
 go_in
 go_wp2_with(fail);refine hh.mono ?_;rintro e w1 ⟨rfl,rfl⟩;clear hh
 go_wp2
 go_ret2
 exact⟨rfl,rfl⟩
end Rt
end Go.Proofs.YtieklnlbljejdaaGreatDoor
