import Derived.Test.YtieklnlbljejdaaGreatDoorT14
open Go.Value renaming int → ι, slice → σ, pointer → π, tuple → τ, nilIface → η
open Go.IntKind renaming i64 → κ
open Go.Ending renaming returned → ρ
open Go.Obj renaming cells → γ
open Option renaming none → ν, some → μ
open Go renaming World → dN, Value → dO, Calls → eM
open Go.Region renaming wanted → eA
open Go.Value renaming slice → fW, ownBlock → dQ
open Go.World renaming frozen? → gg
open Go.Proofs.Tryz renaming prog → eN
open Go.IntKind renaming i64 → fC
set_option maxRecDepth 100000
set_option maxHeartbeats 1000000
namespace Go.Proofs.YtieklnlbljejdaaGreatDoor
open Go.RowKit St
namespace Rt
variable {a b w w':World} {c d g i k m o:Nat} {l:Lab} {n n':iB} {ov:Nat->Value} {y:Yt}
def xD(w w':dN)(y':Yt):Nat->Prop:=λk=>w.heap.size<=k/\k<w'.heap.size/\(y'.own k \/y'.ext k)
theorem jl.owned {y':Yt} (h:jl w y n)(hs:w.heap.size<=w'.heap.size)(D:∀k,k<w.heap.size->¬y.own k->¬y.ext k->w'.heap[k]? =w.heap[k]?)
 (V:y'.bM=y.bM) (U:y'.z=λj=>(y.z j).plus (xD w w' y')) (A:∀k,y'.own k \/y'.ext k->k<w'.heap.size)
 (T:∀k,y'.own k->y.own k \/w.heap.size<=k) (J:∀k,y'.ext k->y.ext k \/w.heap.size<=k) (X:n'.n=n.n) (t:n'.ms=n.ms) (G:n'.R=n.R)
 (c9:n'.nc<=9)
 (m9:iM w' y'.N #[σ (μ ⟨y'.gR,0,ν⟩) n'.n y'.rH,σ (μ ⟨y'.gI,0,ν⟩) n'.n y'.wv,.map (μ y'.bM),y'.cv n'.nc] 190)
 (rr:oV w' y'.gR 0 n'.n (λi=>π (μ ⟨(y.z i).R,0,ν⟩))) (ri:oV w' y'.gI 0 n'.n y'.iv) (rc:∀g,y'.gC=μ g->∀c,c<n'.nc->oV w' g (c*7) 7 (zZ (n'.C c) (y'.ov c))) (gc:∀c,c<n'.nc->∃g,y'.gC=μ g)
 (ib:∀i,i<n'.n->Row w' 3 (y'.iv i) (n'.jM i).length (pV (n'.jM i))) (ob:∀c d,c<n'.nc->d<2->Row w' 1 (y'.ov c d) ((n'.C c).on d).length (iz ((n'.C c).on d))) (ol:∀c d,c<n'.nc->d<2->((n'.C c).on d).length<=2000)
 (en:∀c d,c<n'.nc->d<2->((n'.C c).e d).1<n'.n/\((n'.C c).e d).2<3) (inj:∀l l' k,y'.at l=μ k->y'.at l'=μ k->l=l') (nx:∀k,y'.ext k->¬y'.own k):
 jl w' y' n'/\∀k,y'.all n.n k->y.all n.n k \/w.heap.size<=k:=by
 have S:∀j k,(y'.z j).nZ k↔(y.z j).nZ k:=λj k=>by rw[U];exact dL
 have u:=h.DP;refine⟨⟨by rw[X];exact h.n1,by rw[X];exact h.n6,c9,m9,?_,ri,rc,gc,?_,λi hi=> ?_,λi hi=> ?_,ib,ob,ol,en,inj,λi hi k Y=> ?_,nx,⟨λe=> ?_,λe=> ?_,λi hi e=> ?_⟩,λe=> ?_⟩,λk M=> ?_⟩
 ·refine rr.congr λj _=> ?_;rw[U];rfl
 ·obtain⟨E,h1,h2⟩:=h.mp;refine⟨E,?_,by rw[X,t];exact h2⟩;rw[V];exact h1.keep (D _ u h.nM.1 h.nM.2.1)
 ·rw[X]at hi;rw[U,G];refine(h.rt i hi).besides hs (λk M hc=>D k M (λe=> ?_) (λe=> ?_)) _ (λk e=>⟨e.1,e.2.1⟩)
  ·have Y:=h.away i hi k (.inl e);rcases hc with hc|hc
   ·exact hc Y.1
   ·rw[(h.rn i hi).1]at hc;exact Y.2 hc
  ·have Y:=h.away i hi k (.inr (.inl e));rcases hc with hc|hc
   ·exact hc Y.1
   ·rw[(h.rn i hi).1]at hc;exact Y.2 hc
 ·rw[X]at hi;rw[G];exact h.rn i hi
 ·rw[X]at hi Y;rw[U];show((y.z i).fm.no k \/xD w w' y' k)/\¬(y.z i).mine 3 k;have H:w.heap.size<=k->¬(y.z i).mine 3 k:=λe Z=>by
   have:=h.wz hi (.inl Z);omega
  rcases Y with e|e|⟨j,Q,jq,e⟩
  ·rcases T k e with Z|Z
   ·have Y:=h.away i hi k (.inl Z);exact⟨.inl Y.1,Y.2⟩
   ·exact⟨.inr ⟨Z,A k (.inl e),.inl e⟩,H Z⟩
  ·rcases J k e with Z|Z
   ·have Y:=h.away i hi k (.inr (.inl Z));exact⟨.inl Y.1,Y.2⟩
   ·exact⟨.inr ⟨Z,A k (.inr e),.inr e⟩,H Z⟩
  ·have Y:=h.away i hi k (.inr (.inr ⟨j,Q,jq,(S j k).1 e⟩));exact⟨.inl Y.1,Y.2⟩
 ·rw[V]at e;rcases T _ e with Z|Z
  ·exact h.nM.1 Z
  ·omega
 ·rw[V]at e;rcases J _ e with Z|Z
  ·exact h.nM.2.1 Z
  ·omega
 ·rw[X]at hi;rw[V]at e;exact h.nM.2.2 i hi ((S i _).1 e)
 ·rcases T 0 e with Z|Z
  ·exact h.z0 Z
  ·have:=h.DP;omega
 ·rcases M with e|⟨j,Q,e⟩
  ·exact(T k e).imp_left .inl
  ·exact .inl (.inr ⟨j,Q,(S j k).1 e⟩)
theorem jl.tq(h:jl w y n)(e:y.at l=μ k):k<w.heap.size:=h.lt (.inl ⟨l,e⟩)
theorem jl.uq(h:jl w y n) {l':Lab} {k':Nat} (e:y.at l=μ k)(e':y.at l'=μ k')(Z:l≠l'):k≠k':=λx=>Z (h.inj l l' k e (by rw[e',x]))
theorem jl.LQ(h:jl w y n)(hc:c<n.nc)(E:y.gC=μ g)(X:pz)(o:Nat->dO)(hs:w.heap.size<=w'.heap.size)(Dl:w'.os=w.os)(LH:w'.tape=w.tape)(Nq:w'.output=w.output)
 (t:∀k,k<w.heap.size->k≠g->(∀d,d<2->(y.ov c d).ownBlock≠μ k)->w'.heap[k]? =w.heap[k]?)
 (hcell:∀j,j<c*7 \/c*7+7<=j->w'.cell? ⟨g,j,ν⟩=w.cell? ⟨g,j,ν⟩) (SX:∀j,w'.frozen? ⟨g,j,ν⟩=w.frozen? ⟨g,j,ν⟩) (vW:oV w' g (c*7) 7 (zZ X o))
 (Rc:∀d,d<2->Row w' 1 (o d) (X.on d).length (iz (X.on d))) (TG:∀d,d<2->(X.on d).length<=2000) (Ng:X.e=(n.C c).e)
 (iY:∀d k,d<2->(o d).ownBlock=μ k->(y.ov c d).ownBlock=μ k \/w.heap.size<=k) (jq:∀k,(o 0).ownBlock=μ k->(o 1).ownBlock≠μ k):il w w' y (n.kG c X) n.n:=by
 obtain⟨ov,D⟩:∃ov:Nat->Nat->dO,ov=λx d=>if x=c/\d<2 then o d else y.ov x d:=⟨_,rfl⟩
 have V:∀d,d<2->ov c d=o d:=λd hd=>by rw[D];simp[hd]
 have Q:∀x d,¬(x=c/\d<2)->ov x d=y.ov x d:=λx d hx=>by rw[D];simp only[if_neg hx]
 obtain⟨M,FU⟩:∃M:Yt,M={y with ov:=ov}:=⟨_,rfl⟩
 obtain⟨y',Y⟩:∃y':Yt,y'={y with ov:=ov,z:=λj=>(y.z j).plus (xD w w' M)}:=⟨_,rfl⟩
 have jj:∀k,y'.own k↔M.own k:=λk=>by
  rw[Y,FU];constructor
  ·rintro⟨l,e⟩;exact⟨l,by cases l<;>exact e⟩
  ·rintro⟨l,e⟩;exact⟨l,by cases l<;>exact e⟩
 have hX:xD w w' M=xD w w' y':=by
  funext k
  apply propext;unfold xD;rw[<-jj k];have:M.ext=y'.ext:=by rw[FU,Y]
  rw[this]
 have hat:∀l k,y'.at l=μ k->y.at l=μ k \/(w.heap.size<=k/\∃d,d<2/\l=.on c d/\(o d).ownBlock=μ k):=by
  intro l k e;rw[Y]at e;cases l with
  |N=>exact .inl e
  |R=>exact .inl e
  |I=>exact .inl e
  |C=>exact .inl e
  |ib i=>exact .inl e
  |on x d=>
   have e':(ov x d).ownBlock=μ k:=e;by_cases hx:x=c/\d<2
   ·obtain⟨rfl,hd⟩:=hx;rw[V d hd]at e';rcases iY d k hd e' with Z|Z
    ·exact .inl Z
    ·exact .inr ⟨Z,d,hd,rfl,e'⟩
   ·rw[Q x d hx]at e';exact .inl e'
 have kc:∀k,y'.own k->k<w'.heap.size:=by
  rintro k ⟨l,e⟩;rcases hat l k e with Z|⟨_,d,hd,rfl,Z⟩
  ·exact Nat.lt_of_lt_of_le (h.tq Z) hs
  ·exact(Rc d hd).lt k Z
 have A:∀l k,y.at l=μ k->l≠ .C->(∀d,d<2->l≠ .on c d)->w'.heap[k]? =w.heap[k]? :=by
  intro l k e S G;refine t k (h.tq e) (λZ=> ?_) (λd hd Z=> ?_)
  ·exact h.uq e (show y.at .C=μ g from E) S Z
  ·exact G d hd (h.inj _ _ k e (show y.at (.on c d)=μ k from Z))
 have H:=h.owned (y':=y') (n':=n.kG c X) hs (λk sL S _=>t k sL (λe=>S ⟨.C,by rw[e];exact E⟩) (λd _ e=>S ⟨.on c d,e⟩)) (by rw[Y]) (by rw[<-hX,Y])
  (λk e=>e.elim (kc k) (λe=>by
   have e':y.ext k:=by rw[Y]at e;exact e
   exact Nat.lt_of_lt_of_le (h.lt (.inr e')) hs))
  (by
   rintro k ⟨l,e⟩;rcases hat l k e with Z|⟨Z,_⟩
   ·exact .inl ⟨l,Z⟩
   ·exact .inr Z) (λk e=>.inl (by rw[Y]at e;exact e)) rfl rfl rfl h.c9 (by rw[Y];exact h.m9.keep (A .N _ rfl (λe=>nomatch e) (λ_ _ e=>nomatch e)))
  (by rw[Y];exact h.rr.keep (A .R _ rfl (λe=>nomatch e) (λ_ _ e=>nomatch e))) (by rw[Y];exact h.ri.keep (A .I _ rfl (λe=>nomatch e) (λ_ _ e=>nomatch e)))
  (by
   intro u Ex x hx;have y8:y.gC=μ u:=by rw[Y]at Ex;exact Ex
   obtain rfl:g=u:=by rw[E]at y8;exact Option.some.inj y8
   have xE:x<n.nc:=hx;show oV w' g (x*7) 7 (zZ (jy n.C c X x) (y'.ov x));by_cases e:x=c
   ·subst e;rw[ij];refine vW.congr λj _=> ?_;have U:y'.ov x 0=o 0:=by rw[Y];exact V 0 dS
    have Z:y'.ov x 1=o 1:=by rw[Y];exact V 1 dS
    unfold zZ;rw[U,Z]
   ·rw[gW _ _ e];have hb:=h.rc g E x xE;have T:∀d,y'.ov x d=y.ov x d:=λd=>by rw[Y];exact Q x d (λe'=>e e'.1)
    intro j hj;have hr:x*7+j<c*7 \/c*7+7<=x*7+j:=by
     rcases Nat.lt_or_gt_of_ne e with S|S
     ·exact .inl dP
     ·exact .inr dP
    refine⟨(hcell _ hr).trans ?_,(SX _).trans (hb.fz j hj)⟩;rw[hb.cell j hj];unfold zZ;rw[T 0,T 1])
  (by
   intro x hx;obtain⟨u,e⟩:=h.gc x hx;exact⟨u,by rw[Y];exact e⟩)
  (by
   intro i hi;have:=(h.ib i hi).keep hs (λk e=>A (.ib i) k e (λe=>nomatch e) (λ_ _ e=>nomatch e));rw[Y];exact this)
  (by
   intro x d hx hd;show Row w' 1 (y'.ov x d) ((jy n.C c X x).on d).length (iz ((jy n.C c X x).on d));by_cases e:x=c
   ·subst e;have U:y'.ov x d=o d:=by rw[Y];exact V d hd
    rw[ij,U];exact Rc d hd
   ·have U:y'.ov x d=y.ov x d:=by rw[Y];exact Q x d (λe'=>e e'.1)
    rw[gW _ _ e,U];exact(h.ob x d hx hd).keep hs (λk Z=>A (.on x d) k Z (λe=>nomatch e) (λd' _ e'=>e (by injection e'))))
  (by
   intro x d hx hd;show((jy n.C c X x).on d).length<=2000;by_cases e:x=c
   ·subst e;rw[ij];exact TG d hd
   ·rw[gW _ _ e];exact h.ol x d hx hd)
  (by
   intro x d hx hd;show((jy n.C c X x).e d).1<n.n/\((jy n.C c X x).e d).2<3;by_cases e:x=c
   ·subst e;rw[ij,Ng];exact h.en x d hx hd
   ·rw[gW _ _ e];exact h.en x d hx hd)
  (by
   intro l l' k e e';rcases hat l k e with Z|⟨Z,d,hd,rfl,T⟩
   ·rcases hat l' k e' with J|⟨J,_⟩
    ·exact h.inj l l' k Z J
    ·have:=h.tq Z;omega
   ·rcases hat l' k e' with J|⟨J,d',kP,rfl,e4⟩
    ·have:=h.tq J;omega
    ·have:d=d':=by
      rcases Nat.lt_or_ge d 1 with S|S
      ·rcases Nat.lt_or_ge d' 1 with G|G
       ·omega
       ·obtain rfl:d=0:=dP;obtain rfl:d'=1:=dP;exact absurd e4 (jq k T)
      ·rcases Nat.lt_or_ge d' 1 with G|G
       ·obtain rfl:d=1:=dP;obtain rfl:d'=0:=dP;exact absurd T (jq k e4)
       ·omega
     rw[this])
  (by
   intro k e;have U:y.ext k:=by rw[Y]at e;exact e
   rintro⟨l,Z⟩;rcases hat l k Z with T|⟨T,_⟩
   ·exact h.nx k U ⟨l,T⟩
   ·have:=h.lt (.inr U);omega)
 refine⟨⟨y',H.1,by rw[Y];exact⟨rfl,rfl,rfl,rfl,rfl,rfl,rfl,rfl⟩,H.2,λk=>by rw[Y]⟩,⟨Dl,LH,Nq,hs,λk sL hn=>t k sL (λe=>hn (.inl ⟨.C,by rw[e];exact E⟩)) (λd _ e=>hn (.inl ⟨.on c d,e⟩))⟩⟩
theorem jl.box(h:jl w y n)(hi:i<n.n)(v:dO)(l:List wT)(hs:w.heap.size<=w'.heap.size)(Dl:w'.os=w.os)(LH:w'.tape=w.tape)(Nq:w'.output=w.output)
 (J:∀k,k<w.heap.size->k≠y.gI->(y.iv i).ownBlock≠μ k->w'.heap[k]? =w.heap[k]?) (Nj:oV w' y.gI 0 n.n (jy y.iv i v)) (A:Row w' 3 v l.length (pV l))
 (iY:∀k,v.ownBlock=μ k->(y.iv i).ownBlock=μ k \/w.heap.size<=k):il w w' y {n with jM:=jy n.jM i l} n.n:=by
 obtain⟨X,D⟩:∃X:Yt,X={y with iv:=jy y.iv i v}:=⟨_,rfl⟩
 obtain⟨y',Y⟩:∃y':Yt,y'={y with iv:=jy y.iv i v,z:=λj=>(y.z j).plus (xD w w' X)}:=⟨_,rfl⟩
 have jj:∀k,y'.own k↔X.own k:=λk=>by
  rw[Y,D];constructor
  ·rintro⟨l,e⟩;exact⟨l,by cases l<;>exact e⟩
  ·rintro⟨l,e⟩;exact⟨l,by cases l<;>exact e⟩
 have hX:xD w w' X=xD w w' y':=by
  funext k
  apply propext;unfold xD;rw[<-jj k];have:X.ext=y'.ext:=by rw[D,Y]
  rw[this]
 have hat:∀l k,y'.at l=μ k->y.at l=μ k \/(w.heap.size<=k/\l=.ib i/\v.ownBlock=μ k):=by
  intro l k e;rw[Y]at e;cases l with
  |N=>exact .inl e
  |R=>exact .inl e
  |I=>exact .inl e
  |C=>exact .inl e
  |on x d=>exact .inl e
  |ib x=>
   have e':(jy y.iv i v x).ownBlock=μ k:=e;by_cases hx:x=i
   ·subst hx;rw[ij]at e';rcases iY k e' with Z|Z
    ·exact .inl Z
    ·exact .inr ⟨Z,rfl,e'⟩
   ·rw[gW _ _ hx]at e';exact .inl e'
 have kc:∀k,y'.own k->k<w'.heap.size:=by
  rintro k ⟨l,e⟩;rcases hat l k e with Z|⟨_,rfl,Z⟩
  ·exact Nat.lt_of_lt_of_le (h.tq Z) hs
  ·exact A.lt k Z
 have T:∀l k,y.at l=μ k->l≠ .I->l≠ .ib i->w'.heap[k]? =w.heap[k]? :=by
  intro l k e Q h2;refine J k (h.tq e) (λZ=> ?_) (λZ=> ?_)
  ·exact h.uq e (show y.at .I=μ y.gI from rfl) Q Z
  ·exact h2 (h.inj _ _ k e (show y.at (.ib i)=μ k from Z))
 have H:=h.owned (y':=y') (n':={n with jM:=jy n.jM i l}) hs (λk G Q _=>J k G (λe=>Q ⟨.I,by rw[e];rfl⟩) (λe=>Q ⟨.ib i,e⟩)) (by rw[Y]) (by rw[<-hX,Y])
  (λk e=>e.elim (kc k) (λe=>by
   have e':y.ext k:=by rw[Y]at e;exact e
   exact Nat.lt_of_lt_of_le (h.lt (.inr e')) hs))
  (by
   rintro k ⟨l,e⟩;rcases hat l k e with Z|⟨Z,_⟩
   ·exact .inl ⟨l,Z⟩
   ·exact .inr Z) (λk e=>.inl (by rw[Y]at e;exact e)) rfl rfl rfl h.c9 (by rw[Y];exact h.m9.keep (T .N _ rfl (λe=>nomatch e) (λe=>nomatch e)))
  (by rw[Y];exact h.rr.keep (T .R _ rfl (λe=>nomatch e) (λe=>nomatch e))) (by rw[Y];exact Nj)
  (by
   intro U E x hx;have t:y.gC=μ U:=by rw[Y]at E;exact E
   have:=(h.rc U t x hx).keep (T .C U t (λe=>nomatch e) (λe=>nomatch e));rw[Y];exact this)
  (by
   intro x hx;obtain⟨U,e⟩:=h.gc x hx;exact⟨U,by rw[Y];exact e⟩)
  (by
   intro x hx;show Row w' 3 (y'.iv x) (jy n.jM i l x).length (pV (jy n.jM i l x));have S:y'.iv x=jy y.iv i v x:=by rw[Y]
   rw[S];by_cases e:x=i
   ·subst e;rw[ij,ij];exact A
   ·rw[gW _ _ e,gW _ _ e];exact(h.ib x hx).keep hs (λk Z=>T (.ib x) k Z (λe=>nomatch e) (λe'=>e (by injection e'))))
  (by
   intro x d hx hd;have:=(h.ob x d hx hd).keep hs (λk Z=>T (.on x d) k Z (λe=>nomatch e) (λe=>nomatch e));rw[Y];exact this)
  h.ol h.en
  (by
   intro l l' k e e';rcases hat l k e with Z|⟨Z,rfl,M⟩
   ·rcases hat l' k e' with V|⟨V,_⟩
    ·exact h.inj l l' k Z V
    ·have:=h.tq Z;omega
   ·rcases hat l' k e' with V|⟨V,rfl,e4⟩
    ·have:=h.tq V;omega
    ·rfl)
  (by
   intro k e;have S:y.ext k:=by rw[Y]at e;exact e
   rintro⟨l,Z⟩;rcases hat l k Z with M|⟨M,_⟩
   ·exact h.nx k S ⟨l,M⟩
   ·have:=h.lt (.inr S);omega)
 refine⟨⟨y',H.1,by rw[Y];exact⟨rfl,rfl,rfl,rfl,rfl,rfl,rfl,rfl⟩,H.2,λk=>by rw[Y]⟩,⟨Dl,LH,Nq,hs,λk G u=>J k G (λe=>u (.inl ⟨.I,by rw[e];rfl⟩)) (λe=>u (.inl ⟨.ib i,e⟩))⟩⟩
theorem jl.beside(h:jl w y n)(hs:w.heap.size<=w'.heap.size)(u:∀k,k<w.heap.size->¬y.ext k->w'.heap[k]? =w.heap[k]?)(X:Nat->Prop)(J:∀k,X k->w.heap.size<=k/\k<w'.heap.size):
 ∃y',jl w' y' n/\y.same y'/\(∀k,y'.all n.n k↔y.all n.n k)/\∀k,y'.ext k↔y.ext k \/X k:=by
 obtain⟨V,D⟩:∃V:Yt,V={y with ext:=λk=>y.ext k \/X k}:=⟨_,rfl⟩
 obtain⟨y',Z⟩:∃y':Yt,y'={y with ext:=λk=>y.ext k \/X k,z:=λj=>(y.z j).plus (xD w w' V)}:=⟨_,rfl⟩
 have hat:∀l,y'.at l=y.at l:=by
  intro l;rw[Z];cases l<;>rfl
 have M:∀l,V.at l=y.at l:=by
  intro l;rw[D];cases l<;>rfl
 have U:∀k,y'.own k↔y.own k:=λk=>by unfold Yt.own;simp only[hat]
 have jj:∀k,V.own k↔y.own k:=λk=>by unfold Yt.own;simp only[M]
 have G:xD w w' V=xD w w' y':=by
  funext k
  apply propext;unfold xD;rw[U k,jj k];have:V.ext=y'.ext:=by rw[D,Z]
  rw[this]
 have T:∀l k,y.at l=μ k->w'.heap[k]? =w.heap[k]? :=λl k e=>u k (h.tq e) (λY=>h.nx k Y ⟨l,e⟩);have Q:∀k,y'.ext k↔y.ext k \/X k:=λk=>by rw[Z]
 have H:=h.owned (y':=y') (n':=n) hs (λk sL _ A=>u k sL A) (by rw[Z]) (by rw[<-G,Z])
  (λk e=>by
   rcases e with e|e
   ·exact Nat.lt_of_lt_of_le (h.lt (.inl ((U k).1 e))) hs
   ·rcases(Q k).1 e with e|e
    ·exact Nat.lt_of_lt_of_le (h.lt (.inr e)) hs
    ·exact(J k e).2)
  (λk e=>.inl ((U k).1 e)) (λk e=>((Q k).1 e).imp_right (λe=>(J k e).1)) rfl rfl rfl h.c9 (by rw[Z];exact h.m9.keep (T .N _ rfl))
  (by rw[Z];exact h.rr.keep (T .R _ rfl)) (by rw[Z];exact h.ri.keep (T .I _ rfl))
  (by
   intro S E x hx;have t:y.gC=μ S:=by rw[Z]at E;exact E
   have:=(h.rc S t x hx).keep (T .C S t);rw[Z];exact this)
  (by
   intro x hx;obtain⟨S,e⟩:=h.gc x hx;exact⟨S,by rw[Z];exact e⟩)
  (by
   intro x hx;have:=(h.ib x hx).keep hs (λk Y=>T (.ib x) k Y);rw[Z];exact this)
  (by
   intro x d hx hd;have:=(h.ob x d hx hd).keep hs (λk Y=>T (.on x d) k Y);rw[Z];exact this)
  h.ol h.en (λl l' k e e'=>h.inj l l' k ((hat l).symm.trans e) ((hat l').symm.trans e'))
  (by
   intro k e Y;rcases(Q k).1 e with e|e
   ·exact h.nx k e ((U k).1 Y)
   ·have h1:=h.lt (.inl ((U k).1 Y));have A:=(J k e).1;omega)
 refine⟨y',H.1,by rw[Z];exact⟨rfl,rfl,rfl,rfl,rfl,rfl,rfl,rfl⟩,λk=> ?_,Q⟩;unfold Yt.all;rw[U k];have:∀j,(y'.z j).nZ k↔(y.z j).nZ k:=λj=>by rw[Z];exact dL
 simp only[this]
theorem jl.below {w w':dN} {y:Yt} {n:iB} (h:jl w y n)(hb:dV w w'):jl w' y n:=by
 refine⟨h.n1,h.n6,h.c9,h.m9.below hb,h.rr.below h.n1 hb,h.ri.below h.n1 hb,λg X c hc=>(h.rc g X c hc).below dS hb,h.gc,?_,λi hi=>(h.rt i hi).below hb,h.rn,λi hi=>(h.ib i hi).below hb,λc d hc hd=>(h.ob c d hc hd).below hb,h.ol,h.en,h.inj,h.away,h.nx,h.nM,h.z0⟩;obtain⟨E,Z,Y⟩:=h.mp;exact⟨E,Z.keep (hb.block _ h.DP),Y⟩
theorem vG.iD(y:Yt)(n:Nat)(h:dV w w'):vG w w' y n:=⟨h.os,h.tape,h.output,h.size,λk Z _=>h.block k Z⟩
theorem il.still(h:jl w y n)(hb:dV w w'):il w w' y n n.n:=⟨⟨y,h.below hb,y.DN,λ_ e=>.inl e,λ_=>dL⟩,vG.iD y n.n hb⟩
theorem il.below {c:dN} (h:il a b y n m)(Y:n.n=m)(hb:dV b c):il a c y n m:=by
 subst Y;exact h.step λy' Z _=>il.still Z hb
section
variable {P:Program}
theorem z9 {ops:Array Oper} {o:Oper} {a:Act} {K:Act->dN->Prop} {Q:Exit->Act->dN->Prop} {E:Prop}
 (Z:o.guard=ν) (sl x:Operand) (t u:TypeId) (S:o.op=.call {callee:=.builtin .append,args:= #[sl,x],argTypes:= #[t,u] })
 (e:TypeId) (i:TypeInfo) (z:dO) (J:P.underlying t=μ (.slice e)) (H:P.underlying u=μ .string) (hi:P.info? e=μ i) (D:i.zero=μ z) (j:i.size=1) (x6:i.bytes=1) (Y:z.cells.size=1)
 (v:dO) (n:Nat) (xs:List dO) (hs:a.eval sl=v) (A:Row w 1 v n xs) (s:ByteArray) (hx:a.eval x=.string s) (hsl:s.size<=1000000) (T:n<=1000000000)
 (h:∀v' w',Row w' 1 v' (n+s.size) (xs++iz s.data.toList)->w.grownBy w' v.ownBlock->(v'.ownBlock=v.ownBlock \/ ∃k,v'.ownBlock=μ k/\w.heap.size<=k)->K (a.put o.dst v') w'):
 if eA o (yielded ops a.tmps)=true then Oper.wp P o a w K Q else E:=by
 have G:eA o (yielded ops a.tmps)=true:=by simp[eA,Z]
 rw[ag G];obtain⟨v',w',M,X,V,U⟩:=ud (P:=P) w t u o.type e i z J H hi D j x6 Y v n xs A s hsl T;unfold Oper.wp execOp;simp only[S,resolve,invoke,builtin,Sem.run_bind,Sem.run_pure,Result.andThen_ok,List.map_toArray,List.map_cons,List.map_nil,hs,hx,M];exact h v' w' X V U
end
theorem Row.shape {sz:Nat} {v:dO} {n:Nat} {xs:List dO} (h:Row w sz v n xs):∃a c,v=fW a n c:=by
 rcases h.2 with⟨e,Z⟩|⟨g',c',e,_⟩
 ·exact⟨ν,0,by rw[e,Z]⟩
 ·exact⟨_,_,e⟩
structure O5(w w':dN)(g o d:Nat)(c:pz)(ov:Nat->dO)(v':dO):Prop where
 os:w'.os=w.os
 tape:w'.tape=w.tape
 output:w'.output=w.output
 size:w.heap.size<=w'.heap.size
 block:∀k,k<w.heap.size->k≠g->(ov d).ownBlock≠μ k->w'.heap[k]? =w.heap[k]?
 cell:∀j,j<o \/o+7<=j->w'.cell? ⟨g,j,ν⟩=w.cell? ⟨g,j,ν⟩
 fz:∀j,w'.frozen? ⟨g,j,ν⟩=w.frozen? ⟨g,j,ν⟩
 uV:oV w' g o 7 (zZ c (jy ov d v'))
 row:Row w' 1 v' (c.on d).length (iz (c.on d))
 own:∀k,v'.ownBlock=μ k->(ov d).ownBlock=μ k \/w.heap.size<=k
theorem XI(c:pz)(ov:Nat->dO)(d:Nat)(hd:d<2)(v:dO)(f:Nat->List UInt8):∀j,j<7->qV (zZ c ov) (5+d) v j=zZ {c with on:=f} (jy ov d v) j:=by
 intro j hj;have Y:d=0 \/d=1:=dP;rcases Y with rfl|rfl
 ·by_cases e:j=5
  ·subst e;rfl
  ·rw[jn _ _ dP];unfold zZ;simp only[e,if_false];rfl
 ·by_cases e:j=6
  ·subst e;rfl
  ·rw[jn _ _ dP];unfold zZ;have e6:¬j=6:=e;by_cases Z:j=5
   ·subst Z;rfl
   ·have:j<5:=dP;simp only[Z,if_false];by_cases T:j=4
    ·simp[T]
    ·have:j<4:=dP;by_cases U:j=3
     ·simp[U]
     ·by_cases V:j=2
      ·simp[V]
      ·by_cases X:j=1
       ·simp[X]
       ·have:j=0:=dP;simp[this]
theorem Rf(c:pz)(ov:Nat->dO)(d:Nat)(hd:d<2):zZ c ov (5+d)=ov d:=by
 have Z:d=0 \/d=1:=dP;rcases Z with rfl|rfl<;>rfl
theorem O5.still {c:pz} (hC:oV w g o 7 (zZ c ov))(Z:Row w 1 (ov d) (c.on d).length (iz (c.on d)))(hb:dV w w'):O5 w w' g o d c ov (ov d):=by
 have hl:=hC.lt dS;refine⟨hb.os,hb.tape,hb.output,hb.size,λk Y _ _=>hb.block k Y,λj _=>ai (a:=⟨g,j,ν⟩) (hb.block g hl),λj=>by simp only[gg,hb.block g hl],?_,Z.below hb,λk e=>.inl e⟩;rw[ui];exact hC.below dS hb
theorem O5.turn {x:dN} {c:pz} (hd:d<2)(hC:oV w g o 7 (zZ c ov))(X:(ov d).ownBlock≠μ g)(v:dO)(f:Nat->List UInt8)(os:x.os=w.os)(H:x.tape=w.tape)(ou:x.output=w.output)(hs:w.heap.size<=x.heap.size)
 (V:∀k,k<w.heap.size->(ov d).ownBlock≠μ k->x.heap[k]? =w.heap[k]?) (M:Row x 1 v (f d).length (iz (f d))) (U:∀k,v.ownBlock=μ k->(ov d).ownBlock=μ k \/w.heap.size<=k):
 O5 w (x.setCell ⟨g,o+5+d,ν⟩ v) g o d {c with on:=f} ov v:=by
 rw[Nat.add_assoc];have hl:=hC.lt dS;have Y:=V g hl X;have T:v.ownBlock≠μ g:=λe=>by
  rcases U g e with Z|Z
  ·exact X Z
  ·omega
 refine⟨os,H,ou,by simpa using hs,λk J S Q=>(ak _ _ _ k S).trans (V k J Q),λj hj=> ?_,λj=> ?_,?_,?_,U⟩
 ·rw[aP _ _ _ _ (λe=>by have:=congrArg Addr.off e;simp at this;omega)];exact ai (a:=⟨g,j,ν⟩) Y
 ·rw[lz];simp only[gg,Y]
 ·exact((hC.keep Y).set (5+d) dP v).congr (XI c ov d hd v f)
 ·exact M.keep gN (λk e=>ak _ _ _ k (λZ=>T (by rw[e,Z])))
theorem Rh(g o d:Nat)(c:pz)(ov:Nat->dO)(s:ByteArray)(w:dN)(hd:d<2)(hC:oV w g o 7 (zZ c ov))(V:Row w 1 (ov d) (c.on d).length (iz (c.on d)))(t:(ov d).ownBlock≠μ g)(hl:(c.on d).length<=2000)(hs:s.size<=1000000000):
 eM eN 161 #[π (μ ⟨g,o,ν⟩),ι κ (d:Int),.string s] w λe w'=>e=ρ (τ #[])/\∃v',O5 w w' g o d (c.put d s.data.toList) ov v':=by
 obtain⟨i0,hi,nH,l8,mZ⟩:=aT QJ;have hsl:s.data.toList.length=s.size:=gN;have c4:w.cell? ⟨g,o+4,ν⟩=μ (.bool c.jr):=hC.cell 4 dS;have A:w.cell? ⟨g,o+5+d,ν⟩=μ (ov d):=by rw[Nat.add_assoc,hC.cell (5+d) dP,Rf c ov d hd]
 have f5:w.frozen? ⟨g,o+5+d,ν⟩=false:=by rw[Nat.add_assoc];exact hC.fz (5+d) dP
 have u:=hC.lt dS;have kP:(d:Int)<2:=dP;have hd0:(0:Int)<=(d:Int):=dP;have J:Hid _:=hC;have qT:fC.wrap (((c.on d).length:Int)+(s.size:Int))=((c.on d).length:Int)+(s.size:Int):=aM _ ⟨dP,dP⟩;clear hC;cases M:c.jr with
 |false=>
  have Y:c.put d s.data.toList=c:=by unfold pz.put;rw[ae (by simp[M])]
  rw[Y];rw[M]at c4;have G:Hid _:=V;clear V
  go_in
  go_wp2
  first|go_end0|refine iq rfl rfl ?_
  exact⟨rfl,_,O5.still J.out G.out (aq _ _)⟩
 |true=>
  rw[M]at c4;obtain⟨v,hv⟩:=fP (ov d);obtain⟨n,T⟩:=fP ((c.on d).length);have E:Hid _:=hv;have HN:Hid _:=T;have S:=V;rw[hv]at A;rw[T]at qT hl;rw[hv,T]at S;have G:Hid _:=V;have Ub:∃a' c',v=fW a' n c':=by
   rcases S.2 with⟨e,e2⟩|⟨g',c',e,_⟩
   ·exact⟨ν,0,by rw[e,e2]⟩
   ·exact⟨_,_,e⟩
  obtain⟨a',c',U⟩:=Ub;rw[U]at A S;by_cases Tl:(n:Int)+(s.size:Int)<=2000
  ·have Y:c.put d s.data.toList={c with on:=jy c.on d (c.on d++s.data.toList)}:=by
    unfold pz.put;rw[ag ⟨M,dP⟩]
   have h:Hid _:=Y;have H:Hid (dQ (σ a' n c')≠μ g):=by rw[<-U,<-hv];exact t
   have Z:Hid _:=U;clear V Y hv T U t
   go_in
   go_wp2
   go_region_law ((refine z9 (by rfl) (.tmp 30) (.tmp 31) 140 9 (by rfl) 5 i0 (.int .u8 0) bF bT hi nH l8 mZ (by rfl) (σ a' n c') n (iz (c.on d)) (by rfl) (by exact S.drew) s (by rfl) dP dP ?_;intro v1 x1 j X jj;obtain⟨D,c1,XK⟩:=Row.shape j;subst XK;have y5:=(ai (a:=⟨g,o+5+d,ν⟩) (X.block g (by exact u) (λe=>H.out e.symm))).trans A;have z5:=(aH (a:=⟨g,o+5+d,ν⟩) (X.block g (by exact u) (λe=>H.out e.symm))).trans f5))
   all_goals
    go_wp2
    first|go_end0|refine iq rfl rfl ?_
    have kj:∀k,dQ (σ D (n+s.size) c1)=μ k->(ov d).ownBlock=μ k \/w.heap.size<=k:=by
     intro k Q;rw[E.out,Z.out];rcases jj with e|⟨k',e,sL⟩
     ·exact .inl (by rw[<-e];exact Q)
     ·rw[Q]at e;obtain rfl:=Option.some.inj e;exact .inr sL
    refine⟨rfl,σ D (n+s.size) c1,?_⟩;rw[h.out];refine O5.turn hd J.out (by rw[E.out,Z.out];exact H.out) (σ D (n+s.size) c1) _ X.os X.tape X.output X.size (λk Q h1=>X.block k Q (λe=>h1 (by rw[E.out,Z.out];exact e.symm))) ?_ kj;rw[ij,ay,kJ,HN.out,hsl];exact j
  ·have Y:c.put d s.data.toList=c:=by
    unfold pz.put;rw[ae (λe=>Tl (by have:=e.2;omega))]
   rw[Y];clear V Y hv T U
   go_in
   go_wp2
   first|go_end0|refine iq rfl rfl ?_
   exact⟨rfl,_,O5.still J.out G.out (aq _ _)⟩
theorem jl.k0(h:jl w y n):w.cell? ⟨y.N,0,ν⟩=μ (σ (μ ⟨y.gR,0,ν⟩) n.n y.rH):=h.m9.cell 0
theorem jl.k1(h:jl w y n):w.cell? ⟨y.N,1,ν⟩=μ (σ (μ ⟨y.gI,0,ν⟩) n.n y.wv):=h.m9.cell 1
theorem jl.k2(h:jl w y n):w.cell? ⟨y.N,2,ν⟩=μ (.map (μ y.bM)):=h.m9.cell 2
theorem jl.k3(h:jl w y n):w.cell? ⟨y.N,3,ν⟩=μ (y.cv n.nc):=h.m9.cell 3
theorem jl.vH(h:jl w y n):y.N<w.heap.size:=h.m9.lt
theorem jl.NF(h:jl w y n):y.gR<w.heap.size:=h.tq (l:=.R) rfl
theorem jl.XL(h:jl w y n):y.gI<w.heap.size:=h.tq (l:=.I) rfl
theorem jl.ptr(h:jl w y n)(hi:i<n.n):w.cell? ⟨y.gR,i,ν⟩=μ (π (μ ⟨(y.z i).R,0,ν⟩)):=by
 have:=h.rr.cell i hi
 rwa [Nat.zero_add]at this
theorem jl.Uq(h:jl w y n)(hi:i<n.n):w.cell? ⟨y.gI,i,ν⟩=μ (y.iv i):=by
 have:=h.ri.cell i hi
 rwa [Nat.zero_add]at this
theorem jl.XM(h:jl w y n):∃a cp,y.cv n.nc=σ a n.nc cp/\∀c,c<n.nc->∃g,y.gC=μ g/\a=μ ⟨g,0,ν⟩:=by
 unfold Yt.cv;cases X:y.gC with
 |none=>
  have Y:n.nc=0:=by
   rcases Nat.eq_zero_or_pos n.nc with e|e
   ·exact e
   ·obtain⟨g,Z⟩:=h.gc 0 e;rw[X]at Z;simp at Z
  exact⟨ν,0,by rw[Y],λc hc=>dP⟩
 |some g=>exact⟨_,_,rfl,λc hc=>⟨g,rfl,rfl⟩⟩
section
variable {w w':World} {y:Yt} {n:iB} {m:Nat}
theorem il.k0(h:il w w' y n m):w'.cell? ⟨y.N,0,ν⟩=μ (σ (μ ⟨y.gR,0,ν⟩) n.n y.rH):=by
 obtain⟨⟨y',Z,hs,_⟩,_⟩:=h;have:=Z.k0
 rwa [hs.N,hs.gR,hs.rH]at this
theorem il.k3(h:il w w' y n m):w'.cell? ⟨y.N,3,ν⟩=μ (y.cv n.nc):=by
 obtain⟨⟨y',Z,hs,_⟩,_⟩:=h;have:=Z.k3;have e:y'.cv n.nc=y.cv n.nc:=by unfold Yt.cv;rw[hs.gC,hs.uj]
 rwa [hs.N,e]at this
theorem il.lt(h:il w w' y n m):y.N<w'.heap.size:=af _ _ h.k0
theorem il.ptr(h:il w w' y n m) {i:Nat} (hi:i<n.n):∃R,w'.cell? ⟨y.gR,i,ν⟩=μ (π (μ ⟨R,0,ν⟩)):=by
 obtain⟨⟨y',Z,hs,_⟩,_⟩:=h;have:=Z.ptr hi;rw[hs.gR]at this;exact⟨_,this⟩
theorem il.LR(h:il w w' y n m)(hc:c<n.nc)(Y:y.gC=μ g):∃ov,oV w' g (c*7) 7 (zZ (n.C c) ov):=by
 obtain⟨⟨y',Z,hs,_⟩,_⟩:=h;exact⟨_,Z.rc g (by rw[hs.gC];exact Y) c hc⟩
theorem il.tab {n0:iB} (h:il w w' y n m)(V:jl w y n0)(M:n0.n=m)(U:iQ w):iQ w':=λe s S hs=>by
 subst M;refine(ai (a:=⟨0,e*10+s,ν⟩) (h.kept.block 0 U.lt (λQ=> ?_))).trans (U e s S hs);rcases Q with X|⟨j,T,X⟩
 ·exact V.z0 X
 ·have R:=V.rt j T;have h3:=(V.rn j T).1;rcases X with Y|Y|Y
  ·rcases Y with Z|Z|⟨i,hi,Z|Z⟩|Z
   ·exact R.sR.2.1 Z.symm
   ·exact(R.pt 0 R.n1).nz.1 Z.symm
   ·exact(R.pt i dP).nz.2.1 Z.symm
   ·exact(R.pt i dP).nz.2.2 Z
   ·exact R.Nv.1 Z
  ·exact R.Nv.2 0 (.inl Y) rfl
  ·exact R.Nv.2 0 (.inr Y) rfl
theorem il.first {c:dN} (hb:dV a b)(k:il b c y n' m):il a c y n' m:=by
 obtain⟨⟨T,g1,Y,X,V⟩,Z⟩:=k;exact⟨⟨T,g1,Y,λx hx=>(X x hx).imp_right (λe=>Nat.le_trans hb.size e),V⟩,⟨Z.os.trans hb.os,Z.tape.trans hb.tape,Z.output.trans hb.output,Nat.le_trans hb.size Z.size,λx hx U=>(Z.block x (Nat.lt_of_lt_of_le hx hb.size) U).trans (hb.block x hx)⟩⟩
end
def Kj(i:Int)(n:Nat):Bool:=decide (1<=i)&&decide (i<=(n:Int))
theorem wC(i:Int)(n:Nat):(Kj i n=false/\(i<1 \/(n:Int)<i)) \/ ∃k:Nat,k<n/\i=(k:Int)+1:=by
 by_cases Z:1<=i
 ·by_cases Y:i<=(n:Int)
  ·exact .inr ⟨(i-1).toNat,dP,dP⟩
  ·exact .inl ⟨by simp[Kj,Y],dP⟩
 ·exact .inl ⟨by simp[Kj,Z],dP⟩
theorem xF {n:Nat} (h:i<n):Kj ((i:Int)+1) n=true:=by simp[Kj];omega
def E8(i d:Int)(n:Nat):Bool:=hasB i n&& (decide (0<=d)&&decide (d<2))
theorem Kk(i d:Int)(n:Nat):(E8 i d n=false/\(i<0 \/(n:Int)<=i \/d<0 \/2<=d)) \/ ∃c k:Nat,c<n/\k<2/\i=(c:Int)/\d=(k:Int):=by
 by_cases Z:0<=i
 ·by_cases Y:i<(n:Int)
  ·by_cases X:0<=d
   ·by_cases V:d<2
    ·exact .inr ⟨i.toNat,d.toNat,dP,dP,dP,dP⟩
    ·exact .inl ⟨by simp[E8,V],dP⟩
   ·exact .inl ⟨by simp[E8,X],dP⟩
  ·exact .inl ⟨by simp[E8,hasB,Y],dP⟩
 ·exact .inl ⟨by simp[E8,hasB,Z],dP⟩
theorem Ri {n:Nat} (h:c<n)(hd:d<2):E8 (c:Int) (d:Int) n=true:=by simp[E8,hasB];omega
theorem pH(y:Yt)(n:iB)(i:Int)(w:dN)(h:jl w y n):
 eM eN 107 #[π (μ ⟨y.N,0,ν⟩),ι κ i] w λe w'=>e=ρ (.bool (Kj i n.n))/\w=w':=by
 have hl:=h.vH;have c1:=h.k0;unfold Kj;by_cases Z:1<=i
 ·by_cases Y:i<=(n.n:Int)
  ·have hv:(decide (1<=i)&&decide (i<=(n.n:Int)))=true:=by simp[Z,Y]
   rw[hv];clear hv h
   go_in
   go_wp2
   go_ret;exact⟨by first|rfl|(simp;omega),rfl⟩
  ·have hv:(decide (1<=i)&&decide (i<=(n.n:Int)))=false:=by simp[Y]
   rw[hv];clear hv h
   go_in
   go_wp2
   go_ret;exact⟨by first|rfl|(simp;omega),rfl⟩
 ·have hv:(decide (1<=i)&&decide (i<=(n.n:Int)))=false:=by simp[Z]
  rw[hv];clear hv h
  go_in
  go_wp2
  go_ret;exact⟨by first|rfl|(simp;omega),rfl⟩
theorem xG(y:Yt)(n:iB)(i:Int)(w:dN)(h:jl w y n):
 eM eN 112 #[π (μ ⟨y.N,0,ν⟩),ι κ i] w λe w'=>e=ρ (.bool (hasB i n.nc))/\w=w':=by
 have hl:=h.vH;have c1:=h.k3;obtain⟨a,cp,Z,_⟩:=h.XM;rw[Z]at c1;unfold hasB;by_cases Y:0<=i
 ·by_cases X:i<(n.nc:Int)
  ·have hv:(decide (0<=i)&&decide (i<(n.nc:Int)))=true:=by simp[Y,X]
   rw[hv];clear hv h Z
   go_in
   go_wp2
   go_ret;exact⟨by first|rfl|(simp;omega),rfl⟩
  ·have hv:(decide (0<=i)&&decide (i<(n.nc:Int)))=false:=by simp[X]
   rw[hv];clear hv h Z
   go_in
   go_wp2
   go_ret;exact⟨by first|rfl|(simp;omega),rfl⟩
 ·have hv:(decide (0<=i)&&decide (i<(n.nc:Int)))=false:=by simp[Y]
  rw[hv];clear hv h Z
  go_in
  go_wp2
  go_ret;exact⟨by first|rfl|(simp;omega),rfl⟩
theorem Kl(y:Yt)(n:iB)(i d:Int)(w:dN)(h:jl w y n):
 eM eN 108 #[π (μ ⟨y.N,0,ν⟩),ι κ i,ι κ d] w λe w'=>e=ρ (.bool (E8 i d n.nc))/\w=w':=by
 have hh:=xG y n i w h;unfold E8;cases hb:hasB i n.nc with
 |false=>
  rw[hb]at hh;have hv:(false&& (decide (0<=d)&&decide (d<2)))=false:=rfl;rw[hv];clear hv h hb
  go_in
  go_wp2_with(fail);refine hh.mono ?_;rintro e Z ⟨rfl,rfl⟩;clear hh
  go_wp2
  go_ret;exact⟨rfl,rfl⟩
 |true=>
  rw[hb]at hh;clear h hb;by_cases Y:0<=d
  ·by_cases X:d<2
   ·have hv:(true&& (decide (0<=d)&&decide (d<2)))=true:=by simp[Y,X]
    rw[hv];clear hv
    go_in
    go_wp2_with(fail);refine hh.mono ?_;rintro e Z ⟨rfl,rfl⟩;clear hh
    go_wp2
    go_ret;exact⟨by first|rfl|(simp;omega),rfl⟩
   ·have hv:(true&& (decide (0<=d)&&decide (d<2)))=false:=by simp[X]
    rw[hv];clear hv
    go_in
    go_wp2_with(fail);refine hh.mono ?_;rintro e Z ⟨rfl,rfl⟩;clear hh
    go_wp2
    go_ret;exact⟨by first|rfl|(simp;omega),rfl⟩
  ·have hv:(true&& (decide (0<=d)&&decide (d<2)))=false:=by simp[Y]
   rw[hv];clear hv
   go_in
   go_wp2_with(fail);refine hh.mono ?_;rintro e Z ⟨rfl,rfl⟩;clear hh
   go_wp2
   go_ret;exact⟨by first|rfl|(simp;omega),rfl⟩
theorem NG(d:Nat)(hd:d<2)(w:dN):eM eN 156 #[ι κ (d:Int)] w λe w'=>e=ρ (ι κ ((1-d:Nat):Int))/\w=w':=by
 have Z:((1-d:Nat):Int)=1-(d:Int):=dP;have hw:fC.wrap (1-(d:Int))=1-(d:Int):=aM _ ⟨dP,dP⟩;rw[Z]
 go_in
 go_wp2
 go_ret;exact⟨rfl,rfl⟩
theorem Km(y:Yt)(n:iB)(i:Nat)(p:Int)(w:dN)(h:jl w y n)(hi:i<n.n):
 eM eN 157 #[π (μ ⟨y.N,0,ν⟩),.agg #[ι κ ((i:Int)+1),ι κ p]] w λe w'=>e=ρ (π (μ ⟨(y.z i).R,0,ν⟩))/\dV w w':=by
 have bm:=gM w (γ #[ι κ ((i:Int)+1),ι κ p] 192);have Y:iM (w.alloc (γ #[ι κ ((i:Int)+1),ι κ p] 192)) w.heap.size #[ι κ ((i:Int)+1),ι κ p] 192:=iM.new w _ _;have Z:=h.below bm;obtain⟨Q,V⟩:=fP (w.alloc (γ #[ι κ ((i:Int)+1),ι κ p] 192));obtain⟨N,X⟩:=fP (w.heap.size);rw[V]at Y Z bm;rw[X]at Y;have e0:Q.cell? ⟨N,0,ν⟩=μ (ι κ ((i:Int)+1)):=Y.cell 0;have el:=Y.lt;have c0:=Z.k0;have cl:=Z.vH;have d0:=Z.ptr hi;have dl:=Z.NF;have n6:=h.n6;have hw:fC.wrap ((i:Int)+1-1)=(i:Int):=by
  have:(i:Int)+1-1=i:=dP;rw[this];exact aM _ ⟨dP,dP⟩
 have kV:(i:Int)<(n.n:Int):=dP;have Jv:(0:Int)<=(i:Int):=dP;have T:Hid _:=bm;have U:Hid _:=V;have S:Hid _:=X;clear h Z Y V X bm
 go_in
 go_wp2_with(fail);rw[U.out]
 try rw[S.out]
 go_quiet(fail)
 go_wp2
 go_ret;exact⟨rfl,below_drewN T.out _⟩
theorem BP(y:Yt)(n:iB)(i:Nat)(w:dN)(h:jl w y n)(hi:i<n.n):
 eM eN 40 #[π (μ ⟨y.N,0,ν⟩),ι κ ((i:Int)+1)] w λe w'=>e=ρ (τ #[π (μ ⟨(y.z i).R,0,ν⟩),η])/\w=w':=by
 have hh:=pH y n ((i:Int)+1) w h;rw[xF hi]at hh;have c0:=h.k0;have cl:=h.vH;have d0:=h.ptr hi;have dl:=h.NF;have n6:=h.n6;have hw:fC.wrap ((i:Int)+1-1)=(i:Int):=by
  have:(i:Int)+1-1=i:=dP;rw[this];exact aM _ ⟨dP,dP⟩
 have kV:(i:Int)<(n.n:Int):=dP;have Jv:(0:Int)<=(i:Int):=dP;clear h
 go_in
 go_wp2_with(fail);refine hh.mono ?_;rintro e w1 ⟨rfl,rfl⟩;clear hh
 go_wp2
 go_ret2
 exact⟨rfl,rfl⟩
