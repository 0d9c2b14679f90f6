import Derived.Test.YtieklnlbljejdaaGreatDoorM09
open Go.Value renaming int → ι, slice → σ, pointer → π, tuple → τ, nilIface → η
open Go.IntKind renaming i64 → κ
open Go.Ending renaming returned → ρ
open Go.Obj renaming cells → γ
open Option renaming none → ν, some → μ
open Go renaming Value → dZ, World → dY, Calls → eW
open Go.Proofs.Tryz renaming prog → eX, underlying184 → gw
open List renaming range → fW
open Go.Instr renaming findKey → gu, lookup → fe, mapUpdate → fa
open Go.Sem renaming run_bind → fP
open Go.Result renaming andThen_ok → eI
open Go.MapKept renaming run_getObj_map → gA
open Go.Value renaming ownBlock → eu
set_option maxRecDepth 100000
set_option maxHeartbeats 6000000
namespace Go.Proofs.YtieklnlbljejdaaGreatDoor
open Go.RowKit St
namespace Rt
variable {C args:Array Value} {E:List (Int×Int×Int)} {N i j k m n:Nat} {W w w' x:World} {a b c u v:Value} {es:List jE} {f:FuncId} {o:Obj} {p q:Addr} {r r' r0:iM} {t:TypeId} {α:Type}
theorem sg {k:Int} (h: -1000000<=k/\k<=1000000):sY k:=⟨eh,eh⟩
theorem Pr(K:Int->Option PS)(i:Int):CS K i=mS K i:=by
 unfold CS mS;cases K i<;>rfl
theorem Ps(K:Int->Option PS)(i:Int):A1 K i=qy K i:=by
 unfold A1 qy;cases K i<;>rfl
theorem mH(h:w.cell? p=μ v):(w.alloc o).cell? p=μ v:=by
 rw[World.cell?_alloc_lt]
 ·exact h
 ·exact ag w _ h
theorem oB(h:w.cell? p=μ u/\w.cell? q=μ v):(w.alloc o).cell? p=μ u/\(w.alloc o).cell? q=μ v:=⟨mH h.1,mH h.2⟩
theorem Ey {x:dZ} (h:w.cell? p=μ v)(Z:p.block≠N):(w.setCell ⟨N,j,ν⟩ x).cell? p=μ v:=by
 rw[aj (w:=w) (aq _ _ _ _ Z)];exact h
theorem xu(h:w.cell? p=μ v)(Z:p.block≠N):(((w.setCell ⟨N,0,ν⟩ a).setCell ⟨N,1,ν⟩ b).setCell ⟨N,2,ν⟩ c).cell? p=μ v:=Ey (Ey (Ey h Z) Z) Z
theorem uQ(h:w.cell? p=μ u/\w.cell? q=μ v)(Y:p.block≠N)(Z:q.block≠N):(((w.setCell ⟨N,0,ν⟩ a).setCell ⟨N,1,ν⟩ b).setCell ⟨N,2,ν⟩ c).cell? p=μ u/\(((w.setCell ⟨N,0,ν⟩ a).setCell ⟨N,1,ν⟩ b).setCell ⟨N,2,ν⟩ c).cell? q=μ v:=⟨xu h.1 Y,xu h.2 Z⟩
theorem Jf(hC:iX x N C t)(X:C.size=3)(Z:w.heap.size<=N)(hb:eE w x):
 (((x.setCell ⟨N,0,ν⟩ a).setCell ⟨N,1,ν⟩ b).setCell ⟨N,2,ν⟩ c).cell? ⟨N,1,ν⟩=μ b/\(((x.setCell ⟨N,0,ν⟩ a).setCell ⟨N,1,ν⟩ b).setCell ⟨N,2,ν⟩ c).cell? ⟨N,2,ν⟩=μ c/\eE w (((x.setCell ⟨N,0,ν⟩ a).setCell ⟨N,1,ν⟩ b).setCell ⟨N,2,ν⟩ c)/\∀j,j≠N->(((x.setCell ⟨N,0,ν⟩ a).setCell ⟨N,1,ν⟩ b).setCell ⟨N,2,ν⟩ c).heap[j]? =x.heap[j]? :=by
 have V:=((hC.set 0 a).set 1 b).set 2 c;refine⟨?_,?_,((hb.setCell (p:=⟨N,0,ν⟩) Z a).setCell (p:=⟨N,1,ν⟩) Z b).setCell (p:=⟨N,2,ν⟩) Z c,λj Y=> ?_⟩
 ·rw[V.cell 1];simp[X]
 ·rw[V.cell 2];simp[X]
 ·rw[aq _ _ _ _ Y,aq _ _ _ _ Y,aq _ _ _ _ Y]
theorem jc.not_zero {x':dY} {a:Option Addr} (h:jc x a n es)(S:iX x N #[ι κ 0,ι κ 0,σ ν 0 0] t)(Q:∀e∈es,1<=e.1)(V:∀j,j≠N->x'.heap[j]? =x.heap[j]?):jc x' a n es:=by
 refine⟨h.1,?_⟩;rcases h.2 with Y|⟨b,off,rfl,Y⟩
 ·exact .inl Y
 ·by_cases T:n=0
  ·exact .inl T
  ·have hl:0<es.length:=by have:=h.1;omega
   have X:b≠N:=by
    intro e;subst e;have Z:=(Y 0 hl).1;rw[S.cell]at Z;have h4:=Q es[0] (aG hl);have:off+0*2=0 \/off+0*2=1 \/off+0*2=2 \/3<=off+0*2:=eh;rcases this with e|e|e|e
    ·rw[e]at Z;simp at Z;omega
    ·rw[e]at Z;simp at Z;omega
    ·rw[e]at Z;simp at Z
    ·rw[bg (by simpa using e)]at Z;cases Z
   exact .inr ⟨b,off,rfl,λj U=>⟨(aj (a:=⟨b,_,ν⟩) (V b X)).trans (Y j U).1,(aj (a:=⟨b,_,ν⟩) (V b X)).trans (Y j U).2⟩⟩
theorem iZ(w:dY):eE w w.drew:=jD (av _ _)
theorem Ez(z:Zt)(r:iM)(seq:Int)(w:dY)(h:mr w z r)(J:ln r)(hs:0<=seq/\seq<=1000000):
 eW eX 180 #[π (μ ⟨z.R,0,ν⟩),ι κ seq] w λe w'=>e=ρ (τ #[])/\iD w w' z (r.behind seq) r.n:=by
 by_cases kB:seq<1000000
 ·have Q:Hid (r.behind seq=r.Eo (seq+1) (jx r)):=by
   show _=_;unfold iM.behind;rw[ai kB]
  have V:=h.below (iZ w);have y:=Ew z r w.drew V;have X:∀(w1:dY) (a:Option Addr) (cap:Nat),Made w.drew w1 (σ a (jx r).length cap) (jx r)->kI a cap->eW eX 67 #[π (μ ⟨z.Bb,0,ν⟩),.agg #[ι κ r.id,ι κ (seq+1),σ a (jx r).length cap]] w1 λe w'=>e=ρ η/\iD w w' z (r.behind seq) r.n/\(w'.cell? ⟨z.R,0,ν⟩=μ (ι κ r.id)/\w'.cell? ⟨z.R,2,ν⟩=μ (π (μ ⟨z.Bb,0,ν⟩))):=by
   intro w1 a cap Z S;have Y:=V.below Z.below;refine(K3 z.Bb z.fm 6 r.K r.O r.id (seq+1) a (jx r).length cap (jx r) w1 Y.bs (sg (by have:=J.id;omega)) Z.opts.2 S eh (zJ J eh)).mono ?_;rintro e w2 ⟨rfl,hB,H⟩;refine⟨rfl,?_,jC.cell H Y.bs Y.c0,jC.cell H Y.bs Y.c2⟩;rw[Q.out];exact iD.first h rfl (gk (iZ w) Z.below) (λ_=>Y.base hB H)
  have U:eW eX 179 #[π (μ ⟨z.R,0,ν⟩)] w.drew λe w'=>∃a cap,e=ρ (σ a (jx r).length cap)/\Made w.drew w' (σ a (jx r).length cap) (jx r)/\kI a cap/\(w'.cell? ⟨z.R,0,ν⟩=μ (ι κ r.id)/\w'.cell? ⟨z.R,2,ν⟩=μ (π (μ ⟨z.Bb,0,ν⟩))):=by
   refine y.mono ?_;rintro e w1 ⟨v,rfl,Z⟩;obtain⟨a,cap,rfl,S,hle⟩:=Z.shape;have Y:=V.below Z.below;exact⟨a,cap,rfl,Z,S,Y.c0,Y.c2⟩
  have c0:=V.c0;have c2:=V.c2;have cl:=V.lt;have ZT:=hs.1;obtain⟨n,A⟩:∃n:dY->Prop,(λx=>iD w x z (r.behind seq) r.n)=n:=⟨_,rfl⟩
  have T:∀x,iD w x z (r.behind seq) r.n=n x:=λx=>ct A x;simp only[T]at X⊢;generalize jx r=es at X U;generalize z.R=M at X U c0 c2 cl⊢;generalize z.Bb=Bb at X U c2;generalize r.id=id at X U c0;clear h J V hs y Q A T;have Xc:IntKind.i64.wrap (seq+1)=seq+1:=aX _ ⟨eh,eh⟩;have D:w.drew.cell? ⟨M,0,ν⟩=μ (ι κ id)/\w.drew.cell? ⟨M,2,ν⟩=μ (π (μ ⟨Bb,0,ν⟩)):=⟨c0,c2⟩
  go_in
  go_wp2
  go_region_held3(λx=>x.cell? ⟨M,0,ν⟩=μ (ι κ id)/\x.cell? ⟨M,2,ν⟩=μ (π (μ ⟨Bb,0,ν⟩)))
   (first|assumption|exact D|exact F1|exact G)
   (first
    |(go_at_call 179;refine U.mono ?_;rintro e w1 ⟨a,cap,rfl,Z,S,F1⟩;have HM:Hid _:=Z;clear Z)
    |(go_at_call 67;refine(X _ _ _ HM.out S).mono ?_;rintro e w2 ⟨rfl,nr,G⟩))
  all_goals
   clear X D F1 G
   go_wp2
   first|go_end0|refine iJ rfl rfl ?_
   exact⟨rfl,nr⟩
 ·have Q:Hid (r.behind seq=r):=by
   show _=_;unfold iM.behind;rw[af kB]
  have HR:Hid _:=h;clear h J hs
  go_in
  go_wp2
  first|go_end0|refine iJ rfl rfl ?_
  exact⟨rfl,by rw[Q.out];exact iD.refl HR.out⟩
theorem NI(z:Zt)(r:iM)(w:dY)(h:mr w z r)(G:ln r):
 eW eX 125 #[π (μ ⟨z.R,0,ν⟩)] w λe w'=>e=ρ (τ #[])/\iD w w' z r.change r.n:=by
 have La:=sg (k:=r.id) (by have:=G.id;omega);have T:∀W,eE w W->eW eX 177 #[π (μ ⟨z.Bb,0,ν⟩),ι κ r.id] W λe w'=>∃a cap,e=ρ (τ #[.agg #[ι κ (xT r.K r.id),ι κ (qy r.K r.id),σ a (mS r.K r.id).length cap],.bool (r.K r.id).isSome])/\jc w' a (mS r.K r.id).length (mS r.K r.id)/\eE W w'/\(w'.cell? ⟨z.R,0,ν⟩=μ (ι κ r.id)/\w'.cell? ⟨z.R,2,ν⟩=μ (π (μ ⟨z.Bb,0,ν⟩))):=by
  intro W V;refine(K6 z.Bb z.fm 6 r.K r.O r.id W (h.below V).bs La).mono ?_;rintro e w1 ⟨a,cap,rfl,y,_,_,b1⟩;have R1:=h.below (gk V b1);exact⟨a,cap,rfl,y,b1,R1.c0,R1.c2⟩
 have h6:(mS r.K r.id).length<=6:=by
  obtain⟨q,hq,ki⟩:=G.own;have:=(jt ki).2.2.1;unfold mS;rw[hq];exact this
 have Va:Hid (∀e∈mS r.K r.id,1<=e.1):=by
  obtain⟨q,hq,ki⟩:=G.own;have:=pU r.id q.2 0 (jt ki).2.2.2;unfold mS;rw[hq];exact λe A=>(this e A).1.1
 have h6e:(jx r).length<=6:=by
  have:=(rW G 6 0 0 eh eh).2;rw[<-B1]at this;omega
 have A:∀W,eE w W->eW eX 179 #[π (μ ⟨z.R,0,ν⟩)] W λe w'=>∃a cap,e=ρ (σ a (jx r).length cap)/\jc w' a (jx r).length (jx r)/\eE W w':=by
  intro W V;refine(Ew z r W (h.below V)).mono ?_;rintro e w1 ⟨v,rfl,hM⟩;obtain⟨a,cap,rfl,_,_⟩:=hM.shape;exact⟨a,cap,rfl,hM.opts.2,hM.below⟩
 have D:Hid (mS r.K r.id=jx r->∀W,eE w W->iD w W z r.change r.n):=by
  intro J W V;have HC:r.change=r:=by
   unfold iM.change;rw[ai ((Pr _ _).trans J)]
  rw[HC];exact iD.still h V
 have Y:Hid (mS r.K r.id≠jx r->∀W,eE w W->eW eX 180 #[π (μ ⟨z.R,0,ν⟩),ι κ (qy r.K r.id)] W λe w'=>e=ρ (τ #[])/\iD w w' z r.change r.n):=by
  intro J W V;have HC:r.change=r.behind (qy r.K r.id):=by
   unfold iM.change;rw[af (λe=>J ((Pr _ _).symm.trans e)),Ps]
  have hsq:=G.seq;rw[Ps]at hsq;refine(Ez z r (qy r.K r.id) W (h.below V) G eh).mono ?_;rintro e w5 ⟨rfl,Mt⟩;refine⟨rfl,?_⟩;rw[HC];exact iD.first h rfl V (λ_=>Mt)
 have R0:=h.below (iZ w);have X:=And.intro R0.c0 R0.c2;have cl:=R0.lt;obtain⟨n,hn⟩:∃n:dY->Prop,(λx=>iD w x z r.change r.n)=n:=⟨_,rfl⟩
 have hn':∀x,iD w x z r.change r.n=n x:=λx=>ct hn x;simp only[hn']at D Y⊢;generalize jx r=ed at A D Y h6e;generalize mS r.K r.id=es at T D Y h6 Va;generalize qy r.K r.id=sq at T Y;generalize xT r.K r.id=ow at T;generalize (r.K r.id).isSome=ok at T;generalize z.R=H at T A Y X cl⊢;generalize z.Bb=Bb at T X;generalize r.id=id at T X;clear h G R0 hn hn' La
 go_in
 go_wp2
 go_cut [2] (λv wx=>∃(Z:Nat) (a:Option Addr) (cap:Nat),v=π (μ ⟨Z,0,ν⟩)/\wx.cell? ⟨Z,1,ν⟩=μ (ι κ sq)/\wx.cell? ⟨Z,2,ν⟩=μ (σ a es.length cap)/\jc wx a es.length es/\eE w wx)
 case first=>
  obtain⟨c0,c2⟩:=X;have X:w.drew.cell? ⟨H,0,ν⟩=μ (ι κ id)/\w.drew.cell? ⟨H,2,ν⟩=μ (π (μ ⟨Bb,0,ν⟩)):=⟨c0,c2⟩
  have ba:=jD (gW w (γ #[ι κ 0,ι κ 0,σ ν 0 0] 40));have xX:iX (w.alloc (γ #[ι κ 0,ι κ 0,σ ν 0 0] 40)).drew w.heap.size #[ι κ 0,ι κ 0,σ ν 0 0] 40:=(iX.new w _ _).drew;have ju:H≠w.heap.size:=by have h2:H<w.heap.size:=cl;omega
  go_region_held3(λx=>x.cell? ⟨H,0,ν⟩=μ (ι κ id)/\x.cell? ⟨H,2,ν⟩=μ (π (μ ⟨Bb,0,ν⟩)))
   (first|assumption|exact X|exact M|exact oB M|exact oB X|exact uQ M ju ju)
   (first
    |(go_at_call 177;refine(T _ (by first|exact iZ w|exact ba)).mono ?_;rintro e w1 ⟨a,cap,rfl,y,b1,M⟩;first|(have Q:=xX.below b1;have y0:=Q.cell 0;have y1:=Q.cell 1;have y2:=Q.cell 2;have z0:=Q.frozen 0;have z1:=Q.frozen 1;have z2:=Q.frozen 2)|skip))
  all_goals
   go_wp2_with(fail)
   go_meet
   first
    |exact⟨_,a,cap,rfl,ar w1 _ _ (0,0) 1,ar w1 _ _ (0,0) 2,y.below (gW _ _),gk (gk (iZ w) b1) (gW _ _)⟩
    |(have h5:=Jf (a:=.int .i64 ow) (b:=.int .i64 sq) (c:=.slice a es.length cap) Q rfl (Nat.le_refl _) (gk ba b1)
      exact⟨_,a,cap,rfl,h5.1,h5.2.1,jc.not_zero y Q Va.out h5.2.2.2,h5.2.2.1⟩)
 case rest=>
  obtain⟨Z,a,cap,rfl,d1,d2,y,qG⟩:=hcut;have bd:=gk qG (iZ wc);have X:wc.drew.cell? ⟨Z,1,ν⟩=μ (ι κ sq)/\wc.drew.cell? ⟨Z,2,ν⟩=μ (σ a es.length cap):=⟨d1,d2⟩
  have zl:Z<wc.drew.heap.size:=ag wc.drew _ X.1;have YB:eW eX 179 #[π (μ ⟨H,0,ν⟩)] wc.drew λe w'=>∃U S,e=ρ (σ U ed.length S)/\jc w' U ed.length ed/\jc w' a es.length es/\eE w w'/\(w'.cell? ⟨Z,1,ν⟩=μ (ι κ sq)/\w'.cell? ⟨Z,2,ν⟩=μ (σ a es.length cap)):=by
   refine(A _ bd).mono ?_;rintro e w3 ⟨U,S,rfl,zq,b3⟩;exact⟨U,S,rfl,zq,(y.below (iZ wc)).below b3,gk bd b3,(aj (a:=⟨Z,1,ν⟩) (b3.block Z zl)).trans X.1,(aj (a:=⟨Z,2,ν⟩) (b3.block Z zl)).trans X.2⟩
  obtain⟨bb,Jb⟩:=gg (decide (es=ed));have heq:∀(W:dY) (U:Option Addr) (S:Nat),jc W U ed.length ed->jc W a es.length es->eW eX 178 #[σ a es.length cap,σ U ed.length S] W λe w'=>e=ρ (.bool bb)/\∃k,w'=W.drewN k:=by
   intro W U S h1 h2;rw[<-Jb];exact AR a U cap S _ _ es ed W h2 h1 eh eh
  clear A T d1 d2
  go_wp2
  go_region_held3(λx=>x.cell? ⟨Z,1,ν⟩=μ (ι κ sq)/\x.cell? ⟨Z,2,ν⟩=μ (σ a es.length cap))
   (first|assumption|exact X|exact M|exact F2)
   (first
    |(go_at_call 179;refine YB.mono ?_;rintro e w3 ⟨U,S,rfl,zq,XZ,b3,M⟩)
    |(go_at_call 178;refine(heq _ _ _ zq XZ).mono ?_;rintro e w4 ⟨rfl,kk,rfl⟩;have F2:(w3.drewN kk).cell? ⟨Z,1,none⟩=some (.int .i64 sq)/\(w3.drewN kk).cell? ⟨Z,2,none⟩=some (.slice a es.length cap):=M))
  all_goals
   have b4:=below_drewN b3 kk;cases bb
   ·have J:es≠ed:=by simpa using Jb
    have YC:=Y.out J _ b4;have f1:=F2.1;have fl:Z<(w3.drewN kk).heap.size:=ag (w3.drewN kk) _ f1;clear Y D heq YB X M F2 zq XZ;go_wp2_with(fail);refine YC.mono ?_;rintro e w5 ⟨rfl,V⟩;clear YC
    go_wp2
    first|go_end0|refine iJ rfl rfl ?_
    exact⟨rfl,V⟩
   ·have J:es=ed:=by simpa using Jb
    have V:=D.out J _ b4;clear Y D heq YB X M F2 zq XZ
    go_wp2
    first|go_end0|refine iJ rfl rfl ?_
    exact⟨rfl,V⟩
theorem iD.qK {a b c:dY} {z z':Zt} (h:iD a b z r n)(_hR:mr b z' r)(hl:z.like z')(S:∀k,z'.mine n k->z.mine n k \/a.heap.size<=k)(M:∀k,z.fm.no k->z'.fm.no k)(k:iD b c z' r' n):iD a c z r' n:=by
 have Z:=h.kept;obtain⟨⟨G,Q,H,J,D⟩,Y⟩:=k;refine⟨⟨G,Q,Zt.Er hl H,λx hx=> ?_,λx hx=>D x (M x hx)⟩,⟨Y.os.trans Z.os,Y.tape.trans Z.tape,Y.output.trans Z.output,Nat.le_trans Z.size Y.size,λx hx V U X=>(Y.block x (Nat.lt_of_lt_of_le hx Z.size) (λe=> ?_) (by rw[hl.bm];exact U) (by rw[hl.bs];exact X)).trans (Z.block x hx V U X)⟩⟩
 ·rcases J x hx with e|e
  ·exact S x e
  ·exact .inr (Nat.le_trans Z.size e)
 ·rcases S x e with T|T
  ·exact V T
  ·omega
section
variable {w w':World} {z:Zt} {r:iM} {n:Nat}
theorem iD.c0(h:iD w w' z r n):w'.cell? ⟨z.R,0,ν⟩=μ (ι κ r.id):=by
 obtain⟨⟨z',Z,hl,_⟩,_⟩:=h;have:=Z.c0
 rwa [hl.R]at this
theorem iD.c1(h:iD w w' z r n):w'.cell? ⟨z.R,1,ν⟩=μ (σ (μ ⟨z.g,0,ν⟩) r.n z.cap):=by
 obtain⟨⟨z',Z,hl,_⟩,_⟩:=h;have:=Z.c1
 rwa [hl.R,hl.g,hl.cap]at this
theorem iD.c2(h:iD w w' z r n):w'.cell? ⟨z.R,2,ν⟩=μ (π (μ ⟨z.Bb,0,ν⟩)):=by
 obtain⟨⟨z',Z,hl,_⟩,_⟩:=h;have:=Z.c2
 rwa [hl.R,hl.Bb]at this
theorem iD.lt(h:iD w w' z r n):z.R<w'.heap.size:=ag _ _ h.c0
theorem iD.pt(h:iD w w' z r n) {i:Nat} (hi:i<r.n):∃v,qz w' z.g (i*71) (z.B i) v (r.P i):=by
 obtain⟨⟨z',Z,hl,_⟩,_⟩:=h;have:=Z.pt i hi;rw[hl.g,hl.B]at this;exact⟨_,this⟩
theorem iD.JZ(h:iD w w' z r n):z.g<w'.heap.size:=by
 obtain⟨⟨z',Z,hl,_⟩,_⟩:=h;have:=Z.JZ
 rwa [hl.g]at this
theorem iD.keep(h:iD w w' z r n)(Z:mr w z r0)(Y:¬z.mine n k) {fr:Nat×Nat} (hc:w.heap[k]? =μ (Obj.cells C t fr)):w'.heap[k]? =w.heap[k]? :=
 h.kept.block k (ay.1 hc).1 Y (xU hc (Z.bs.maps _ (.inl rfl))) (λe=>xU hc (Z.bs.maps _ (.inr e)) rfl)
theorem iD.cell {r0:iM} (h:iD w w' z r n)(Z:mr w z r0) {p:Addr} {v:dZ} (Y:¬z.mine n p.block)(hc:w.cell? p=μ v):w'.cell? p=μ v:=by
 rw[aj (w:=w) (h.kept.block p.block (ag w _ hc) Y (qh hc (Z.bs.maps _ (.inl rfl))) (λe=>qh hc (Z.bs.maps _ (.inr e)) rfl))];exact hc
theorem mr.uo {z:Zt} (h:mr w z r)(hk:w.heap.size<=k):¬z.mine r.n k:=λe=>by have:=h.A3 k e;omega
end
structure oC(w w':dY)(z:Zt)(r:iM)(n N:Nat)(C:Array dZ)(t:TypeId):Prop where
 went:iD w w' z r n
 oe:iX w' N C t
 nn:r.n=n
 lt:N<w.heap.size
 no:¬z.mine n N
theorem oC.with {w a b:dY} {z z':Zt} {r r':iM} {n N:Nat} {C:Array dZ} {t:TypeId} (h:oC w a z r n N C t)(U:r'.n=n)(Z:mr a z' r)(hl:z.like z')(X:∀k,z'.mine n k->z.mine n k \/w.heap.size<=k)(V:∀k,z.fm.no k->z'.fm.no k)(k:iD a b z' r' n):oC w b z r' n N C t:=by
 refine⟨h.went.qK Z hl X V k,?_,U,h.lt,h.no⟩;refine h.oe.keep (k.keep Z (λe=> ?_) h.oe);rcases X N e with Y|Y
 ·exact h.no Y
 ·have:=h.lt;omega
theorem iD.call {z:Zt} {E:Ending->Prop} (h:iD w W z r n)(k:∀Z,mr W Z r->z.like Z->eW eX f args W λe w'=>E e/\iD W w' Z r' n):eW eX f args W λe w'=>E e/\iD w w' z r' n:=by
 obtain⟨Z,Y,hl,T,X⟩:=h.ex;refine(k Z Y hl).mono ?_;rintro e w' ⟨U,V⟩;exact⟨U,h.qK Y hl T X V⟩
theorem oC.call {z:Zt} {E:Ending->Prop} (h:oC w W z r n N C t)(U:r'.n=n)(k:∀Z,mr W Z r->z.like Z->eW eX f args W λe w'=>E e/\iD W w' Z r' n):eW eX f args W λe w'=>E e/\oC w w' z r' n N C t:=by
 obtain⟨Z,Y,hl,S,X⟩:=h.went.ex;refine(k Z Y hl).mono ?_;rintro e w' ⟨T,V⟩;exact⟨T,h.with U Y hl S X V⟩
theorem Vb(z:Zt)(r:iM)(i:Nat)(w:dY)(h:mr w z r)(hi:i<r.n):
 eW eX 124 #[π (μ ⟨z.Bb,0,ν⟩),ι κ (i:Int)] w λe w'=>e=ρ (τ #[])/\iD w w' z {r with O:=λx=>if x=i then λ_=>ν else r.O x} r.n:=by
 refine(Q7 z.Bb z.fm 6 r.K r.O i w h.bs (by rw[h.bl];exact hi)).mono ?_;rintro e w1 ⟨rfl,Y,Z⟩;exact⟨rfl,h.base Y Z⟩
theorem Rl(z:Zt)(r:iM)(i:Nat)(w:dY)(h:mr w z r)(hi:i<r.n):
 eW eX 126 #[π (μ ⟨z.Bb,0,ν⟩),ι κ (i:Int)] w λe w'=>e=ρ η/\iD w w' z {r with O:=λx=>if x=i then qw (r.O i) r.K else r.O x} r.n:=by
 refine(Q8 z.Bb z.fm 6 r.K r.O i w h.bs (by rw[h.bl];exact hi) eh).mono ?_;rintro e w1 ⟨rfl,Y,Z⟩;exact⟨rfl,h.base Y Z⟩
def jU {α:Type} (f:Nat->α)(i:Nat)(x:α):Nat->α:=λj=>if j=i then x else f j
theorem iE(f:Nat->α)(i:Nat)(x:α):jU f i x i=x:=by simp[jU]
theorem iC(f:Nat->α)(x:α)(h:j≠i):jU f i x j=f j:=by simp[jU,h]
theorem wu(f:Nat->α)(i:Nat):jU f i (f i)=f:=by
 funext j
 by_cases e:j=i
 ·subst e;exact iE _ _ _
 ·exact iC _ _ e
structure qA where
 e:Nat->Nat×Nat
 iQ:Bool
 on:Nat->List UInt8
structure iP where
 n:Nat
 R:Nat->iM
 j8:Nat->List za
 ms:Nat->Nat->Int
 nc:Nat
 C:Nat->qA
def iP.jB(y:iP)(i:Nat)(r:iM):iP:={y with R:=jU y.R i r}
def iP.lq(y:iP)(i:Nat)(c:qA):iP:={y with C:=jU y.C i c}
def qA.put(c:qA)(d:Nat)(s:List UInt8):qA:=if c.iQ=true/\(c.on d).length+s.length<=2000 then {c with on:=jU c.on d (c.on d++s)}else c
def iP.kZ(y:iP)(i d:Nat):iP:=
 (y.jB ((y.C i).e d).1 ((y.R ((y.C i).e d).1).out ((y.C i).e d).2)).lq i ((y.C i).put d ((y.R ((y.C i).e d).1).P ((y.C i).e d).2).out)
def iP.j2(y:iP):Nat->iP
 |0=>y
 |k+1=>((y.j2 k).kZ k 0).kZ k 1
def iP.xY(y:iP)(k:Nat):iP:={y with j8:=jU y.j8 k (y.j8 k++(y.R k).j8),R:=jU y.R k {y.R k with j8:=[] }}
def iP.mZ(y:iP):Nat->iP
 |0=>y
 |k+1=>(y.mZ k).xY k
def iP.gather(y:iP):iP:=(y.j2 y.nc).mZ y.n
def iP.mT(y:iP)(i d:Nat)(up:Bool):iP:=y.jB ((y.C i).e d).1 ((y.R ((y.C i).e d).1).iL ((y.C i).e d).2 up).1
def iP.jZ(y:iP)(i:Nat)(up:Bool):iP:=((y.lq i {y.C i with iQ:=up,on:=λ_=>[] }).mT i 0 up).mT i 1 up
def iP.iL(y:iP)(i:Int)(up:Bool):iP×Nat:=
 if i<0 \/(y.nc:Int)<=i then(y,6)else if(y.C i.toNat).iQ=up then(y,7)else((y.jZ i.toNat up).gather,0)
def iP.tick(y:iP)(i:Int):iP×Nat:=
 if i<1 \/(y.n:Int)<i then(y,6)else((y.jB (i-1).toNat (y.R (i-1).toNat).tick).gather,0)
def iP.jo(y:iP)(i d k:Nat):iP:=
 (y.lq i {y.C i with on:=jU (y.C i).on d (((y.C i).on d).drop k)}).jB ((y.C i).e (1-d)).1 ((y.R ((y.C i).e (1-d)).1).recv ((y.C i).e (1-d)).2 (((y.C i).on d).take k))
def iP.deliver(y:iP)(i d many:Int):iP×Nat:=
 if i<0 \/(y.nc:Int)<=i \/d<0 \/2<=d then(y,6)else((y.jo i.toNat d.toNat (min many.toNat ((y.C i.toNat).on d.toNat).length)).gather,0)
def iP.lA(y:iP)(k:Nat):List Nat:=(fW y.nc).filter λc=>(y.C c).iQ&& (((y.C c).e 0).1==k||((y.C c).e 1).1==k)
def iP.jL(y:iP)(up:Bool):List Nat->iP
 |[] =>y
 |c::l=>(y.jZ c up).jL up l
def iP.restart(y:iP)(i:Int):iP×Nat:=
 if i<1 \/(y.n:Int)<i then(y,6)else
  ((((y.jL false (y.lA (i-1).toNat)).jB (i-1).toNat (jN i 3 (y.ms (i-1).toNat))).jL true (y.lA (i-1).toNat)).gather,0)
def iP.send(y:iP)(f t:Int)(tx:List UInt8):iP×Nat:=
 if f<1 \/(y.n:Int)<f then(y,6)
 else if(kd (y.R (f-1).toNat) t tx).2≠0 then(y,(kd (y.R (f-1).toNat) t tx).2)
 else((y.jB (f-1).toNat (kd (y.R (f-1).toNat) t tx).1).gather,0)
def iP.ja(y:iP):Nat->iP
 |0=>y
 |k+1=>((y.ja k).tick ((k:Int)+1)).1
def iP.jO(y:iP):Nat->iP
 |0=>y
 |k+1=>(((y.jO k).deliver (k:Int) 0 2000).1.deliver (k:Int) 1 2000).1
def iP.turns(y:iP):Nat->iP
 |0=>y
 |k+1=>(y.turns k).jO y.nc
def iP.round(y:iP):iP:=(y.ja y.n).turns 12
structure oV where
 a:Int
 pa:Int
 b:Int
 pb:Int
 m:Int
def kQ:List (Int×Int×Int)->Int->Int->Option Int
 |[],_,_=>none
 |x::l,r,p=>if x.1=r/\x.2.1=p then some x.2.2 else kQ l r p
def kt(l:List oV):List (Int×Int×Int):=l.flatMap λc=>[(c.a,c.pa,c.m),(c.b,c.pb,c.m)]
def pg(l:List oV)(i p:Nat):Int:=(kQ (kt l) ((i:Int)+1) (p:Int)).getD 1
def oS(many r p:Int):Bool:=decide (1<=r)&&decide (r<=many)&&decide (0<=p)&&decide (p<3)
def yH(many:Int):List oV->List (Int×Int×Int)->Nat
 |[],_=>0
 |c::l,E=>
  if c.m<1 \/20<c.m then 1
  else if oS many c.a c.pa=false then 1
  else if(kQ E c.a c.pa).isSome=true then 8
  else if oS many c.b c.pb=false then 1
  else if(kQ (E++ [(c.a,c.pa,c.m)]) c.b c.pb).isSome=true then 8
  else yH many l (E++ [(c.a,c.pa,c.m),(c.b,c.pb,c.m)])
def nN(many:Int)(l:List oV):Nat:=if many<1 \/6<many then 1 else if 9<l.length then 2 else yH many l []
def oV.at(c:oV)(d:Nat):Nat×Nat:=if d=0 then((c.a-1).toNat,c.pa.toNat)else((c.b-1).toNat,c.pb.toNat)
def nG(l:List oV)(k:Nat):qA:=⟨(l.getD k ⟨1,0,1,0,1⟩).at,false,λ_=>[]⟩
def jQ(many:Nat)(l:List oV):iP:=⟨many,λi=>jN ((i:Int)+1) 3 (pg l i),λ_=>[],pg l,l.length,nG l⟩
def Zt.plus(z:Zt)(X:Nat->Prop):Zt:={z with fm:={z.fm with no:=λk=>z.fm.no k \/X k}}
theorem mr.besides {z:Zt} (h:mr w z r)(hs:w.heap.size<=w'.heap.size)(S:∀k,k<w.heap.size->(¬z.fm.no k \/z.mine r.n k)->w'.heap[k]? =w.heap[k]?)
 (X:Nat->Prop) (Y:∀k,X k->w.heap.size<=k/\k<w'.heap.size):mr w' (z.plus X) r:=by
 have U:∀k,z.mine r.n k->w'.heap[k]? =w.heap[k]? :=λk e=>S k (h.A3 k e) (.inr e);have M:=h.bs.still hs (λj V Q=>S j V (.inl Q)) h.nb.1 h.nb.2.1 h.nb.2.2 (λk=>z.fm.no k \/X k) (λj V=>V.imp_right (λe=>(Y j e).1)) (λj V=>V.elim (λe=>Nat.lt_of_lt_of_le (h.bs.Q5 j e) hs) (λe=>(Y j e).2));have ab6:z.Bb<w.heap.size:=by obtain⟨_,_,hF,_⟩:=h.bs.ex;exact hF.lt
 have ab7:z.fm.g<w.heap.size:=by obtain⟨_,_,hF,_⟩:=h.bs.ex;exact hF.row.lt _ rfl
 refine⟨h.n1,h.n3,h.NC,h.id,h.oe.keep (U _ (.inl rfl)),λi hi=> ?_,h.ib.keep hs (λk e=>U k (.inr (.inr (.inr e)))),M,h.bl,λk e=>.inl (h.no k e),⟨λe=> ?_,λe=> ?_,λb hb e=> ?_⟩,h.sR,h.sB,h.sV,h.sI,h.Rc⟩
 ·have Z:=h.pt i hi;obtain⟨F,hC,hF⟩:=Z.xm;exact⟨⟨F,hC.keep (U _ (.inr (.inl rfl))),hF⟩,Z.lk.keep (U _ (.inr (.inr (.inl ⟨i,hi,.inl rfl⟩)))),Z.ou.keep hs (λx hx=>U x (.inr (.inr (.inl ⟨i,hi,.inr hx⟩)))),Z.few,Z.ok,Z.gB,Z.vg,Z.vB,Z.nz⟩
 ·rcases e with e|e
  ·exact h.nb.1 e
  ·have T:w.heap.size<=z.Bb:=(Y _ e).1;omega
 ·rcases e with e|e
  ·exact h.nb.2.1 e
  ·have T:w.heap.size<=z.fm.g:=(Y _ e).1;omega
 ·rcases e with e|e
  ·exact h.nb.2.2 b hb e
  ·have h9:=h.bs.mlt b hb;have T:=(Y _ e).1;omega
inductive Lab where
 |N
 |R
 |I
 |C
 |ib (i:Nat)
 |on (c d:Nat)
structure Yt where
 N:Nat
 gR:Nat
 tQ:Nat
 gI:Nat
 yI:Nat
 gC:Option Nat
 wv:Nat
 bM:Nat
 z:Nat->Zt
 iv:Nat->dZ
 ov:Nat->Nat->dZ
 ext:Nat->Prop
def Yt.at(y:Yt):Lab->Option Nat
 | .N=>some y.N
 | .R=>some y.gR
 | .I=>some y.gI
 | .C=>y.gC
 | .ib i=>(y.iv i).ownBlock
 | .on c d=>(y.ov c d).ownBlock
def Yt.own(y:Yt)(k:Nat):Prop:=∃l,y.at l=μ k
def Zt.ph(z:Zt)(k:Nat):Prop:=z.mine 3 k \/k=z.fm.bm \/k∈z.fm.bs
def Yt.away(y:Yt)(n i k:Nat):Prop:=y.own k \/y.ext k \/ ∃j,j<n/\j≠i/\(y.z j).ph k
def Yt.all(y:Yt)(n k:Nat):Prop:=y.own k \/ ∃j,j<n/\(y.z j).ph k
def Yt.cv(y:Yt)(nc:Nat):dZ:=match y.gC with|none=>.slice none 0 0|some g=>.slice (some ⟨g,0,none⟩) nc y.wv
def CU(c:qA)(o:Nat->dZ):Nat->dZ:=λj=>
 if j=0 then ι κ (((c.e 0).1:Int)+1)else if j=1 then ι κ ((c.e 0).2:Int)else if j=2 then ι κ (((c.e 1).1:Int)+1)else if j=3 then ι κ ((c.e 1).2:Int)
 else if j=4 then .bool c.iQ else if j=5 then o 0 else o 1
def wy(r p:Int):dZ:=.agg #[ι κ r,ι κ p]
def oD(w:dY)(b:Nat)(E:List (Int×Int×Int)):Prop:=∃es clock,w.heap[b]? =μ (.map es clock)/\es.toList.map (λe=>(e.key,e.val))=E.map λx=>(wy x.1 x.2.1,.int .i64 x.2.2)
def Dl(E:List (Int×Int×Int)):Prop:=∀x∈E,(1<=x.1/\x.1<=6/\0<=x.2.1/\x.2.1<=2)/\kQ E x.1 x.2.1=μ x.2.2
def Vc(E:List (Int×Int×Int))(n:Nat)(ms:Nat->Nat->Int):Prop:=(∀(i p:Nat),i<n->p<3->(kQ E ((i:Int)+1) (p:Int)).getD 1=ms i p/\1<=ms i p/\ms i p<=20)/\Dl E
structure jG(w:dY)(y:Yt)(n:iP):Prop where
 n1:1<=n.n
 n6:n.n<=6
 c9:n.nc<=9
 oe:iX w y.N #[σ (μ ⟨y.gR,0,ν⟩) n.n y.tQ,σ (μ ⟨y.gI,0,ν⟩) n.n y.yI,.map (μ y.bM),y.cv n.nc] 190
 rr:qp w y.gR 0 n.n (λi=>π (μ ⟨(y.z i).R,0,ν⟩))
 ri:qp w y.gI 0 n.n y.iv
 rc:∀g,y.gC=μ g->∀c,c<n.nc->qp w g (c*7) 7 (CU (n.C c) (y.ov c))
 gc:∀c,c<n.nc->∃g,y.gC=μ g
 mp:∃E,oD w y.bM E/\Vc E n.n n.ms
 rt:∀i,i<n.n->mr w (y.z i) (n.R i)
 rn:∀i,i<n.n->(n.R i).n=3/\(n.R i).id=(i:Int)+1
 ib:∀i,i<n.n->Row w 3 (y.iv i) (n.j8 i).length (rM (n.j8 i))
 ob:∀c d,c<n.nc->d<2->Row w 1 (y.ov c d) ((n.C c).on d).length (iO ((n.C c).on d))
 ol:∀c d,c<n.nc->d<2->((n.C c).on d).length<=2000
 en:∀c d,c<n.nc->d<2->((n.C c).e d).1<n.n/\((n.C c).e d).2<3
 inj:∀l l' k,y.at l=μ k->y.at l'=μ k->l=l'
 away:∀i,i<n.n->∀k,y.away n.n i k->(y.z i).fm.no k/\¬(y.z i).mine 3 k
 nx:∀k,y.ext k->¬y.own k
 nM:¬y.own y.bM/\¬y.ext y.bM/\∀i,i<n.n->¬(y.z i).ph y.bM
 z0:¬y.own 0
structure Yt.same(y y':Yt):Prop where
 N:y'.N=y.N
 gR:y'.gR=y.gR
 tQ:y'.tQ=y.tQ
 gI:y'.gI=y.gI
 yI:y'.yI=y.yI
 gC:y'.gC=y.gC
 wv:y'.wv=y.wv
 bM:y'.bM=y.bM
theorem Yt.Ho(y:Yt):y.same y:=⟨rfl,rfl,rfl,rfl,rfl,rfl,rfl,rfl⟩
theorem Yt.yJ {a b c:Yt} (h:a.same b)(k:b.same c):a.same c:=⟨k.N.trans h.N,k.gR.trans h.gR,k.tQ.trans h.tQ,k.gI.trans h.gI,k.yI.trans h.yI,k.gC.trans h.gC,k.wv.trans h.wv,k.bM.trans h.bM⟩
structure xZ(w w':dY)(y:Yt)(n:Nat):Prop where
 os:w'.os=w.os
 tape:w'.tape=w.tape
 output:w'.output=w.output
 size:w.heap.size<=w'.heap.size
 block:∀k,k<w.heap.size->¬y.all n k->w'.heap[k]? =w.heap[k]?
structure iF(w w':dY)(y:Yt)(n:iP)(m:Nat):Prop where
 ex:∃y',jG w' y' n/\y.same y'/\(∀k,y'.all m k->y.all m k \/w.heap.size<=k)/\(∀k,y'.ext k↔y.ext k)
 kept:xZ w w' y m
theorem jG.lt {y:Yt} {n:iP} (h:jG w y n)(Z:y.own k \/y.ext k):k<w.heap.size:=by
 have Y:=(h.away 0 h.n1 k (Z.imp_right .inl)).1;exact(h.rt 0 h.n1).bs.Q5 k Y
theorem jG.Hp {y:Yt} {n:iP} (h:jG w y n):y.bM<w.heap.size:=by
 obtain⟨E,⟨es,clock,Z,_⟩,_⟩:=h.mp;exact(ay.1 Z).1
theorem jG.yK {y:Yt} {n:iP} (h:jG w y n)(hi:i<n.n)(Y:(y.z i).ph k):k<w.heap.size:=by
 rcases Y with e|e|e
 ·have Z:=(h.rt i hi).A3 k;rw[(h.rn i hi).1]at Z;exact Z e
 ·exact(h.rt i hi).bs.mlt k (.inl e)
 ·exact(h.rt i hi).bs.mlt k (.inr e)
theorem jG.Lc {y:Yt} {n:iP} (h:jG w y n)(hi:i<n.n)(Y:y.away n.n i k):¬(y.z i).ph k:=by
 obtain⟨Z,X⟩:=h.away i hi k Y;intro e;rcases e with e|e|e
 ·exact X e
 ·exact(h.rt i hi).nb.2.2 k (.inl e) Z
 ·exact(h.rt i hi).nb.2.2 k (.inr e) Z
theorem jG.Pt {y:Yt} {n:iP} (h:jG w y n)(hi:i<n.n)(Z:y.own k):¬(y.z i).ph k:=h.Lc hi (.inl Z)
theorem oD.keep {b:Nat} (h:oD w b E)(hb:w'.heap[b]? =w.heap[b]?):oD w' b E:=by
 obtain⟨es,clock,Z,Y⟩:=h;exact⟨es,clock,hb.trans Z,Y⟩
theorem xZ.refl(w:dY)(y:Yt)(n:Nat):xZ w w y n:=⟨rfl,rfl,rfl,Nat.le_refl _,λ_ _ _=>rfl⟩
theorem iF.refl {w:dY} {y:Yt} {n:iP} (h:jG w y n):iF w w y n n.n:=⟨⟨y,h,y.Ho,λ_ e=>.inl e,λ_=>dW⟩,xZ.refl w y n.n⟩
theorem iF.qK {a b c:dY} {y y':Yt} {n':iP} (h:xZ a b y m)(Q:y.same y')(T:∀k,y'.all m k->y.all m k \/a.heap.size<=k)(J:∀k,y'.ext k↔y.ext k)(k:iF b c y' n' m):iF a c y n' m:=by
 obtain⟨⟨H,M,Y,S,X⟩,Z⟩:=k;refine⟨⟨H,M,Yt.yJ Q Y,λx hx=> ?_,λx=>(X x).trans (J x)⟩,⟨Z.os.trans h.os,Z.tape.trans h.tape,Z.output.trans h.output,Nat.le_trans h.size Z.size,λx hx V=>(Z.block x (Nat.lt_of_lt_of_le hx h.size) (λe=> ?_)).trans (h.block x hx V)⟩⟩
 ·rcases S x hx with e|e
  ·exact T x e
  ·exact .inr (Nat.le_trans h.size e)
 ·rcases T x e with U|U
  ·exact V U
  ·omega
theorem iF.step {a b c:dY} {y:Yt} {n n':iP} (h:iF a b y n m)(k:∀y',jG b y' n->y.same y'->iF b c y' n' m):iF a c y n' m:=by
 obtain⟨⟨y',U,Z,Y,V⟩,X⟩:=h;exact iF.qK X Z Y V (k y' U Z)
theorem iF.call {y:Yt} {n n':iP} {E:Ending->Prop} (h:iF w W y n m)(k:∀Z,jG W Z n->y.same Z->eW eX f args W λe w'=>E e/\iF W w' Z n' m):eW eX f args W λe w'=>E e/\iF w w' y n' m:=by
 obtain⟨Z,U,Y,S,T⟩:=h.ex;refine(k Z U Y).mono ?_;rintro e w' ⟨X,V⟩;exact⟨X,iF.qK h.kept Y S T V⟩
theorem jG.EA {y:Yt} {n:iP} (h:jG w y n)(hi:i<n.n)(hW:iD w w' (y.z i) r 3)(hr:r.n=3/\r.id=(i:Int)+1):iF w w' y (n.jB i r) n.n:=by
 obtain⟨⟨z',hR,hl,hm,ll⟩,J⟩:=hW;have Pu:∀k,z'.ph k->(y.z i).ph k \/w.heap.size<=k:=by
  intro k Y;rcases Y with e|e|e
  ·exact(hm k e).imp_left .inl
  ·rw[hl.bm]at e;exact .inl (.inr (.inl e))
  ·rw[hl.bs]at e;exact .inl (.inr (.inr e))
 have D:∀k,k<w.heap.size->¬(y.z i).ph k->w'.heap[k]? =w.heap[k]? :=λk Y hf=>J.block k Y (λe=>hf (.inl e)) (λe=>hf (.inr (.inl e))) (λe=>hf (.inr (.inr e)));have H:∀k,y.own k->w'.heap[k]? =w.heap[k]? :=λk e=>D k (h.lt (.inl e)) (h.Pt hi e);obtain⟨X,Mq⟩:∃X:Nat->Prop,X=λk=>w.heap.size<=k/\k<w'.heap.size/\z'.mine 3 k:=⟨_,rfl⟩
 have hX:∀k,X k->w.heap.size<=k/\k<w'.heap.size:=λk e=>by rw[Mq]at e;exact⟨e.1,e.2.1⟩
 have afF:∀k,z'.mine 3 k->k<w'.heap.size:=λk e=>by
  have:=hR.A3 k;rw[hr.1]at this;exact this e
 obtain⟨Z,hZ⟩:∃Z:Nat->Zt,Z=λj=>if j=i then z' else(y.z j).plus X:=⟨_,rfl⟩
 have M:Z i=z':=by rw[hZ];simp
 have G:∀j,j≠i->Z j=(y.z j).plus X:=λj U=>by rw[hZ];simp[U]
 have hZR:∀j,(Z j).R=(y.z j).R:=λj=>by
  by_cases e:j=i
  ·subst e;rw[M];exact hl.R
  ·rw[G j e];rfl
 have A:∀j k,(Z j).ph k->(y.z j).ph k \/(j=i/\w.heap.size<=k/\z'.mine 3 k):=by
  intro j k Y;by_cases e:j=i
  ·subst e;rw[M]at Y;rcases Y with V|V|V
   ·rcases hm k V with T|T
    ·exact .inl (.inl T)
    ·exact .inr ⟨rfl,T,V⟩
   ·rw[hl.bm]at V;exact .inl (.inr (.inl V))
   ·rw[hl.bs]at V;exact .inl (.inr (.inr V))
  ·rw[G j e]at Y;exact .inl Y
 refine⟨⟨{y with z:=Z},⟨h.n1,h.n6,h.c9,h.oe.keep (H _ ⟨.N,rfl⟩),?_,h.ri.keep (H _ ⟨.I,rfl⟩),λg hg c hc=>(h.rc g hg c hc).keep (H _ ⟨.C,hg⟩),h.gc,?_,?_,?_,λj U=>(h.ib j U).keep J.size (λk Y=>H k ⟨.ib j,Y⟩),λc d hc hd=>(h.ob c d hc hd).keep J.size (λk Y=>H k ⟨.on c d,Y⟩),h.ol,h.en,h.inj,?_,h.nx,⟨h.nM.1,h.nM.2.1,?_⟩,h.z0⟩,⟨rfl,rfl,rfl,rfl,rfl,rfl,rfl,rfl⟩,?_,λ_=>dW⟩,⟨J.os,J.tape,J.output,J.size,λk Y hn=>D k Y (λe=>hn (.inr ⟨i,hi,e⟩))⟩⟩
 ·refine(h.rr.keep (H _ ⟨.R,rfl⟩)).congr λj _=> ?_;show Value.pointer (μ ⟨(y.z j).R,0,ν⟩)=π (μ ⟨(Z j).R,0,ν⟩);rw[hZR j]
 ·obtain⟨E,h1,h2⟩:=h.mp;exact⟨E,h1.keep (D _ h.Hp (h.nM.2.2 i hi)),h2⟩
 ·intro j U;show mr w' (Z j) (jU n.R i r j);by_cases e:j=i
  ·subst e;rw[M,iE];exact hR
  ·rw[G j e,iC _ _ e];refine(h.rt j U).besides J.size (λk Y hc=>D k Y (λef=> ?_)) X hX;have S:=h.away j U k (.inr (.inr ⟨i,hi,λe'=>e e'.symm,ef⟩));rcases hc with hc|hc
   ·exact hc S.1
   ·rw[(h.rn j U).1]at hc;exact S.2 hc
 ·intro j U;show(jU n.R i r j).n=3/\(jU n.R i r j).id=(j:Int)+1;by_cases e:j=i
  ·subst e;rw[iE];exact hr
  ·rw[iC _ _ e];exact h.rn j U
 ·intro j U k Y;show(Z j).fm.no k/\¬(Z j).mine 3 k;have hold:(y.own k \/y.ext k \/ ∃x,x<n.n/\x≠j/\(y.z x).ph k) \/(j≠i/\w.heap.size<=k/\z'.mine 3 k):=by
   rcases Y with e|e|⟨x,hx,ju,e⟩
   ·exact .inl (.inl e)
   ·exact .inl (.inr (.inl e))
   ·rcases A x k e with V|⟨V,T,e3⟩
    ·exact .inl (.inr (.inr ⟨x,hx,ju,V⟩))
    ·exact .inr ⟨λe'=>ju (V.trans e'.symm),T,e3⟩
  by_cases e:j=i
  ·subst e;rw[M];rcases hold with Q|Q
   ·have S:=h.away j U k Q;refine⟨ll k S.1,λV=> ?_⟩;rcases hm k V with T|T
    ·exact S.2 T
    ·have:=(h.rt j U).bs.Q5 k S.1;omega
   ·exact absurd rfl Q.1
  ·rw[G j e];rcases hold with Q|Q
   ·have S:=h.away j U k Q;exact⟨.inl S.1,S.2⟩
   ·refine⟨.inr ?_,λV=> ?_⟩
    ·rw[Mq];exact⟨Q.2.1,afF k Q.2.2,Q.2.2⟩
    ·have h1:k<w.heap.size:=h.yK U (.inl V);omega
 ·intro j U e;rcases A j _ e with V|⟨_,T,_⟩
  ·exact h.nM.2.2 j U V
  ·have:=h.Hp;have e2':w.heap.size<=y.bM:=T;omega
 ·intro k Y;rcases Y with e|⟨j,U,e⟩
  ·exact .inl (.inl e)
  ·rcases A j k e with V|⟨_,T,_⟩
   ·exact .inl (.inr ⟨j,U,V⟩)
   ·exact .inr T
open Go.ChangeMaps Go.MapKept
theorem Ld:laidOutB eX=true:=gq
theorem ace:192<eX.types.size:=of_decide_eq_true gq
theorem YE:(match eX.underlying 192 with|some (.array _ _)|some (.struct _)=>true|_=>false)=true:=gq
theorem NK:Maps.Keyed eX 192:=Maps.Keyed.of_law (deep_law_laid Ld (m:=3) eh ace gq YE)
theorem YF:((fW 7).all λi=>(fW 4).all λj=>(keyOf eX 192 (wy (i:Int) (j:Int))).isSome)=true:=gq
theorem Jg {a b:Int} (h:1<=a/\a<=6/\0<=b/\b<=2):∃l,keyOf eX 192 (wy a b)=μ l:=by
 have Z:=a8.1 (a8.1 YF a.toNat (aQ.2 eh)) b.toNat (aQ.2 eh);have Y:((a.toNat:Nat):Int)=a:=eh;have X:((b.toNat:Nat):Int)=b:=eh;rw[Y,X]at Z;exact Option.isSome_iff_exists.1 Z
theorem Vd {a b c d:Int} (h:wy a b=wy c d):a=c/\b=d:=by
 unfold wy at h;injection h with h
 have Z:=congrArg Array.toList h;simp at Z;exact Z
theorem EB:∀ {E:List (Int×Int×Int)} {r p:Int},(∀x∈E,¬(x.1=r/\x.2.1=p))->kQ E r p=ν
 |[],_,_,_=>rfl
 |x::E,r,p,h=>by
  unfold kQ;rw[af (h x gY)];exact EB (λz Z=>h z (by simp[Z]))
theorem Hq:∀ {E:List (Int×Int×Int)} {r p m:Int},kQ E r p=μ m->(r,p,m)∈E
 |[],_,_,_,h=>by simp[kQ]at h
 |x::E,r,p,m,h=>by
  unfold kQ at h;split at h
  ·rename_i hx
   have:=Option.some.inj h;have e:x=(r,p,m):=by
    obtain⟨x1,x2,x3⟩:=x;simp at hx this⊢;exact⟨hx.1,hx.2,this⟩
   rw[e];simp
  ·exact cQ _ (Hq h)
theorem NL(E:List (Int×Int×Int))(x:Int×Int×Int)(r p:Int):kQ (E++ [x]) r p=match kQ E r p with|some m=>some m|none=>if x.1=r/\x.2.1=p then some x.2.2 else none:=by
 induction E with
 |nil=>
  show kQ [x] r p=_;unfold kQ;split<;>rfl
 |cons z E ih=>
  show kQ (z::(E++ [x])) r p=_;unfold kQ;split
  ·rfl
  ·exact ih
theorem Dl.snoc(h:Dl E) {x:Int×Int×Int} (hx:1<=x.1/\x.1<=6/\0<=x.2.1/\x.2.1<=2)(X:kQ E x.1 x.2.1=ν):Dl (E++ [x]):=λz Y=>by
 rw[NL];rcases aw.1 Y with Z|Z
 ·have:=h z Z;exact⟨this.1,by rw[this.2]⟩
 ·have:z=x:=by simpa using Z
  subst this;exact⟨hx,by rw[X];simp⟩
theorem oD.find {w:dY} {b:Nat} {E:List (Int×Int×Int)} {es:Array MapEntry} {clock:Nat} (_hb:w.heap[b]? =μ (.map es clock))(M:es.toList.map (λe=>(e.key,e.val))=E.map λx=>(wy x.1 x.2.1,.int .i64 x.2.2))(S:Dl E) {r p:Int} (G:1<=r/\r<=6/\0<=p/\p<=2):
 (kQ E r p=ν/\(gu 192 (wy r p) es.toList).run eX w=.ok ν w) \/ ∃m j,kQ E r p=μ m/\(gu 192 (wy r p) es.toList).run eX w=.ok (μ (j,ι κ m)) w:=by
 obtain⟨l,hl⟩:=Jg G;have Q:∀e∈es.toList,∃x∈E,e.key=wy x.1 x.2.1/\e.val=.int .i64 x.2.2:=λe X=>by
  have Z:(e.key,e.val)∈es.toList.map (λe=>(e.key,e.val)):=bJ.2 ⟨e,X,rfl⟩;rw[M]at Z;obtain⟨x,hx,Y⟩:=bJ.1 Z;injection Y with U V
  exact⟨x,hx,U.symm,V.symm⟩
 have T:∀x∈E,∃e∈es.toList,e.key=wy x.1 x.2.1:=λx hx=>by
  have Z:(wy x.1 x.2.1,(ι κ x.2.2:dZ))∈E.map λx=>(wy x.1 x.2.1,(ι κ x.2.2:dZ)):=bJ.2 ⟨x,hx,rfl⟩;rw[<-M]at Z;obtain⟨e,X,Y⟩:=bJ.1 Z;injection Y with U V
  exact⟨e,X,U⟩
 rcases NK.find w hl es.toList (λe X=>by
  obtain⟨x,hx,Z,_⟩:=Q e X;rw[Z];exact Jg (S x hx).1)with⟨Z,Y⟩|⟨j,e,Z,Y,U⟩
 ·left;refine⟨EB (λx hx hc=> ?_),Z⟩;obtain⟨e,X,V⟩:=T x hx;exact Y e X (by rw[V,hc.1,hc.2])
 ·right;obtain⟨x,hx,V,H⟩:=Q e (bK Y);rw[U]at V;obtain⟨J,D⟩:=Vd V;refine⟨x.2.2,j,?_,by rw[Z,H]⟩;rw[J,D];exact(S x hx).2
theorem oD.look {b:Nat} (h:oD w b E)(V:Dl E) {r p:Int} (X:1<=r/\r<=6/\0<=p/\p<=2):
 (fe 184 (.map (μ b)) (wy r p) true).run eX w=.ok (τ #[ι κ ((kQ E r p).getD 0),.bool (kQ E r p).isSome]) w:=by
 obtain⟨es,clock,hb,T⟩:=h;obtain⟨l,hl⟩:=Jg X;have U:(zeroValue 3).run eX w=.ok (ι κ 0) w:=gq;have hc:=NK.check w es.isEmpty hl;unfold fe;simp only[fP,run_underlying gw,eI,gA hb,Sem.run_pure,hc];rcases oD.find hb T V X with⟨Z,Y⟩|⟨m,j,Z,Y⟩
 ·simp only[Y,eI,fP,U,Sem.run_pure,Z];rfl
 ·simp only[Y,eI,Z];rfl
theorem oD.store {b:Nat} (h:oD w b E)(U:Dl E) {r p m:Int} (V:1<=r/\r<=6/\0<=p/\p<=2)(T:kQ E r p=ν):
 ∃w',(fa 184 (.map (μ b)) (wy r p) (ι κ m)).run eX w=.ok () w'/\oD w' b (E++ [(r,p,m)])/\w'.os=w.os/\w'.tape=w.tape/\w'.output=w.output/\w'.heap.size=w.heap.size/\∀k,k≠b->w'.heap[k]? =w.heap[k]? :=by
 obtain⟨es,clock,hb,X⟩:=h;obtain⟨l,hl⟩:=Jg V;have hc:=NK.check w false hl;have Q:b<w.heap.size:=(ay.1 hb).1;rcases oD.find hb X U V with⟨Z,Y⟩|⟨m',j,Z,Y⟩
 ·refine⟨{w with heap:=w.heap.setIfInBounds b (.map (es.push {key:=wy r p,val:=.int .i64 m,born:=clock}) (clock+1))},?_,⟨es.push {key:=wy r p,val:=.int .i64 m,born:=clock},clock+1,?_,?_⟩,rfl,rfl,rfl,gY,λk S=> ?_⟩
  ·unfold fa;simp only[fP,run_underlying gw,eI,gA hb,hc,Y,Go.MapKept.run_setObj_map _ hb]
  ·simp[Q]
  ·simp[X]
  ·show(w.heap.setIfInBounds b _)[k]? =_;rw[Array.getElem?_setIfInBounds_ne (λe=>S e.symm)]
 ·rw[T]at Z;simp at Z
theorem EC(r:iM):r.change.n=r.n:=by
 unfold iM.change iM.behind;split
 ·rfl
 ·split<;>rfl
theorem A4(r:iM)(s:Int):(r.behind s).id=r.id:=by
 unfold iM.behind;split<;>rfl
theorem Ve(r:iM)(s:Int):(r.behind s).n=r.n:=by
 unfold iM.behind;split<;>rfl
theorem Hr(r:iM):r.change.id=r.id:=by
 unfold iM.change;split
 ·rfl
 ·exact A4 r _
theorem A5(r:iM)(i:Nat)(q:lD):(r.meet i q).n=r.n:=by
 unfold iM.meet;simp only;split
 ·rfl
 ·split
  ·exact EC _
  ·exact EC _
theorem Dm(r:iM)(i:Nat)(q:lD):(r.meet i q).id=r.id:=by
 unfold iM.meet;simp only;split
 ·rfl
 ·split
  ·exact Hr _
  ·exact Hr _
section
variable {w W:World} {z:Zt} {r:iM} {n N:Nat} {C:Array Value} {t:TypeId}
theorem Vf(h:oC w W z r n N C t)(i:Nat)(hi:i<r.n):
 eW eX 124 #[π (μ ⟨z.Bb,0,ν⟩),ι κ (i:Int)] W λe w'=>e=ρ (τ #[])/\oC w w' z {r with O:=λx=>if x=i then λ_=>ν else r.O x} n N C t:=by
 have Y:=h.nn;subst Y;refine h.call rfl λZ X hl=> ?_;rw[<-hl.Bb];exact Vb Z r i W X hi
theorem NM(h:oC w W z r n N C t)(X:ln r):
 eW eX 125 #[π (μ ⟨z.R,0,ν⟩)] W λe w'=>e=ρ (τ #[])/\oC w w' z r.change n N C t:=by
 have V:=h.nn;subst V;refine h.call (EC r) λZ Y hl=> ?_;rw[<-hl.R];exact NI Z r W Y X
theorem Vg(h:oC w W z r n N C t)(i:Nat)(hi:i<n):
 eW eX 126 #[π (μ ⟨z.Bb,0,ν⟩),ι κ (i:Int)] W λe w'=>e=ρ η/\iD w w' z {r with O:=λx=>if x=i then qw (r.O i) r.K else r.O x} n:=by
 have Y:=h.nn;subst Y;refine h.went.call λZ X hl=> ?_;rw[<-hl.Bb];exact Rl Z r i W X hi
end
theorem wz(z:Zt)(r:iM)(i:Nat)(q:lD)(w:dY)(h:mr w z r)(iN:ln r)(hi:i<r.n)(hq:oj r.id q):
 eW eX 74 #[π (μ ⟨z.R,0,ν⟩),.int .i64 (i:Int),.agg #[.int .i64 q.who,.bool q.both,.int .i64 q.left]] w λe w'=>e=ρ (τ #[])/\iD w w' z (r.meet i q) r.n:=by
 have kS:(i:Int)<(r.n:Int):=eh;have O1:(0:Int)<=(i:Int):=eh;have hzp:=D4;obtain⟨p,hp⟩:=gg (r.P i);have ba:=gW w (γ #[.int .i64 q.who,.bool q.both,.int .i64 q.left] 116);have bb:=gk ba (gW (w.alloc (γ #[.int .i64 q.who,.bool q.both,.int .i64 q.left] 116)) (γ #[.int .i64 p.pe.who,.bool p.pe.both,.int .i64 p.pe.left] 116));have Q:=h.below ba;have c1:=Q.c1;have cl:=Q.lt;have g1:=(Q.pt i hi).c67;have g2:=(Q.pt i hi).c68;have g3:=(Q.pt i hi).c69;have gl:=Q.JZ;rw[hp]at g1 g2 g3;have y:=h.below bb;have U:iX ((w.alloc (γ #[.int .i64 q.who,.bool q.both,.int .i64 q.left] 116)).alloc (γ #[.int .i64 p.pe.who,.bool p.pe.both,.int .i64 p.pe.left] 116)) w.heap.size #[.int .i64 q.who,.bool q.both,.int .i64 q.left] 116:=(iX.new w _ _).below (gW _ _);have X:iX ((w.alloc (γ #[.int .i64 q.who,.bool q.both,.int .i64 q.left] 116)).alloc (γ #[.int .i64 p.pe.who,.bool p.pe.both,.int .i64 p.pe.left] 116)) (w.heap.size+1) #[.int .i64 p.pe.who,.bool p.pe.both,.int .i64 p.pe.left] 116:=iX.F8 _ _ _ _ gY;have HR:Hid _:=h;have Vh:Hid _:=iN;have HP:Hid _:=hp;clear iN Q hp
 go_in
 go_wp2_with(fail);obtain⟨Z,j6⟩:=gg ((w.alloc (γ #[.int .i64 q.who,.bool q.both,.int .i64 q.left] 116)).alloc (γ #[.int .i64 p.pe.who,.bool p.pe.both,.int .i64 p.pe.left] 116));rw[j6]at bb y U X;rw[j6];have M:¬z.mine r.n w.heap.size:=h.uo (Nat.le_refl _);have hgN:z.g<w.heap.size:=h.JZ;obtain⟨N,hN⟩:=gg (w.heap.size);rw[hN]at U X M hgN;rw[hN];have Rd:=y.below (iZ Z);have hPe:=(Rd.pt i hi).peer q;have J:=Rd.port hi hPe;have A:oC Z (((Z.drew.setCell ⟨z.g,i*71+67,ν⟩ (.int .i64 q.who)).setCell ⟨z.g,i*71+68,ν⟩ (.bool q.both)).setCell ⟨z.g,i*71+69,ν⟩ (.int .i64 q.left)) z (r.iU i {p with pe:=q}) r.n N #[.int .i64 q.who,.bool q.both,.int .i64 q.left] 116:=by
  rw[HP.out]at J;exact⟨iD.first y rfl (iZ Z) (λ_=>J),((U.drew.other eh _).other eh _).other eh _,rfl,U.lt,M⟩
 have afH:iX (((Z.drew.setCell ⟨z.g,i*71+67,ν⟩ (.int .i64 q.who)).setCell ⟨z.g,i*71+68,ν⟩ (.bool q.both)).setCell ⟨z.g,i*71+69,ν⟩ (.int .i64 q.left)) (N+1) #[.int .i64 p.pe.who,.bool p.pe.both,.int .i64 p.pe.left] 116:=((X.drew.other eh _).other eh _).other eh _;have e1:=Rd.c1;have eg:=Rd.JZ;have el:=Rd.lt;have y0:Z.drew.cell? ⟨N,0,ν⟩=μ (ι κ q.who):=U.cell 0;have y1:Z.drew.cell? ⟨N,1,ν⟩=μ (.bool q.both):=U.cell 1;have y2:Z.drew.cell? ⟨N,2,ν⟩=μ (.int .i64 q.left):=U.cell 2;have x7:=(Rd.pt i hi).c67;have x8:=(Rd.pt i hi).c68;have x9:=(Rd.pt i hi).c69;have f7:=(Rd.pt i hi).fz 67 eA;have f8:=(Rd.pt i hi).fz 68 eA;have f9:=(Rd.pt i hi).fz 69 eA;rw[HP.out]at x7 x8 x9;have hS:((Z.setCell ⟨z.g,i*71+67,ν⟩ (.int .i64 q.who)).drew.cell? ⟨z.g,i*71+67+1,ν⟩=μ (.bool p.pe.both)/\(Z.setCell ⟨z.g,i*71+67,ν⟩ (.int .i64 q.who)).drew.frozen? ⟨z.g,i*71+67+1,ν⟩=false)/\(((Z.setCell ⟨z.g,i*71+67,ν⟩ (.int .i64 q.who)).setCell ⟨z.g,i*71+67+1,ν⟩ (.bool q.both)).drew.cell? ⟨z.g,i*71+67+2,ν⟩=μ (.int .i64 p.pe.left)/\((Z.setCell ⟨z.g,i*71+67,ν⟩ (.int .i64 q.who)).setCell ⟨z.g,i*71+67+1,ν⟩ (.bool q.both)).drew.frozen? ⟨z.g,i*71+67+2,ν⟩=false):=by
  obtain⟨F,hC,_⟩:=(Rd.pt i hi).xm;rw[HP.out]at hC;have h1:=hC.set 67 eA (ι κ q.who);have h2:=h1.set 68 eA (.bool q.both);exact⟨⟨h1.cell 68 eA,h1.fz 68 eA⟩,h2.cell 69 eA,h2.fz 69 eA⟩
 obtain⟨⟨s1,s2⟩,s3,s4⟩:=hS;clear x8 x9 f8 f9;have Yq:Hid _:=bb;have HR2:Hid _:=y;have HBs:Hid _:=A;have HQ:Hid _:=hq;clear h hq j6 Rd hPe J A bb y U X ba c1 cl g1 g2 g3 gl
 go_region
 obtain⟨S,nr⟩:=gg ((((Z.setCell ⟨z.g,i*71+67,ν⟩ (.int .i64 q.who)).setCell ⟨z.g,i*71+67+1,ν⟩ (.bool q.both)).setCell ⟨z.g,i*71+67+2,ν⟩ (.int .i64 q.left)).drew);rw[nr];have H:oC Z S z (r.iU i {p with pe:=q}) r.n N #[.int .i64 q.who,.bool q.both,.int .i64 q.left] 116:=by rw[<-nr];exact HBs.out
 have X:iX S (N+1) #[.int .i64 p.pe.who,.bool p.pe.both,.int .i64 p.pe.left] 116:=by rw[<-nr];exact afH
 have y0:S.cell? ⟨N,0,ν⟩=μ (ι κ q.who):=H.oe.cell 0;have y1:S.cell? ⟨N,1,ν⟩=μ (.bool q.both):=H.oe.cell 1;have u0:S.cell? ⟨N+1,0,ν⟩=μ (ι κ p.pe.who):=X.cell 0;have u1:S.cell? ⟨N+1,1,ν⟩=μ (.bool p.pe.both):=X.cell 1;have nl:=H.oe.lt;have nl6:=X.lt;have d2:=H.went.c2;have dl:=H.went.lt;have Ao:Hid _:=H;have V:Hid (r.meet i q=if q.who=p.pe.who/\q.both=p.pe.both then r.iU i {p with pe:=q}else if q.both=true then {(({r.iU i {p with pe:=q}with O:=λx=>if x=i then λ_=>ν else r.O x}:iM).change)with O:=λx=>if x=i then qw ((({r.iU i {p with pe:=q}with O:=λx=>if x=i then λ_=>ν else r.O x}:iM).change).O i) (({r.iU i {p with pe:=q}with O:=λx=>if x=i then λ_=>ν else r.O x}:iM).change).K else(({r.iU i {p with pe:=q}with O:=λx=>if x=i then λ_=>ν else r.O x}:iM).change).O x}else({r.iU i {p with pe:=q}with O:=λx=>if x=i then λ_=>ν else r.O x}:iM).change):=by
  show _=_;unfold iM.meet;rw[HP.out];rfl
 obtain⟨r1,k8⟩:=gg (r.iU i {p with pe:=q});have kX:ln r1:=by rw[<-k8];exact Vh.out.iU i _ (by rw[HP.out]) (λ_=>HQ.out)
 have mM:r1.n=r.n:=by rw[<-k8];rfl
 have hO1:r1.O=r.O:=by rw[<-k8];rfl
 rw[k8]at Ao V;rw[<-hO1]at V;have G:Hid (∀W rr,iD Z W z rr r.n->iD w W z rr r.n):=λW rr hw=>iD.first HR.out rfl Yq.out (λ_=>hw);have CV:Hid _:=kX;have D:Hid _:=mM;clear nr H X afH k8 kX mM hO1 HBs HP HQ Vh s1 s2 s3 s4 x7 f7 e1 eg el HR2 Yq HR hgN M hzp;by_cases hs:q.who=p.pe.who/\q.both=p.pe.both
 ·have q1:(q.who==p.pe.who)=true:=by simp[hs.1]
  have q2:(q.both==p.pe.both)=true:=by simp[hs.2]
  have HE:Hid (iD w S z (r.meet i q) r.n):=by
   show iD _ _ _ _ _;rw[V.out,ai hs];exact G.out _ _ Ao.out.went
  clear hs V G Ao
  go_wp2
  first|go_end0|refine iJ rfl rfl ?_
  exact⟨rfl,HE.out⟩
 ·obtain⟨Y,sT⟩:∃Y:iM,({r1 with O:=λx=>if x=i then λ_=>ν else r1.O x}:iM)=Y:=⟨_,rfl⟩
  have hp2:eW eX 124 #[π (μ ⟨z.Bb,0,ν⟩),.int .i64 (i:Int)] S λe w'=>e=ρ (τ #[])/\oC Z w' z Y r.n N #[.int .i64 q.who,.bool q.both,.int .i64 q.left] 116:=by
   refine(Vf Ao.out i (by rw[D.out];exact hi)).mono ?_;rintro e w3 ⟨rfl,hw⟩;exact⟨rfl,by rw[<-sT];exact hw⟩
  have hch:Hid (∀W,oC Z W z Y r.n N #[.int .i64 q.who,.bool q.both,.int .i64 q.left] 116->eW eX 125 #[π (μ ⟨z.R,0,ν⟩)] W λe w'=>e=ρ (τ #[])/\oC Z w' z Y.change r.n N #[.int .i64 q.who,.bool q.both,.int .i64 q.left] 116):=by
   intro W J;have acf:ln Y:=by rw[<-sT];exact CV.out.yG _
   exact NM J acf
  have Jh:Hid (∀W,oC Z W z Y.change r.n N #[.int .i64 q.who,.bool q.both,.int .i64 q.left] 116->eW eX 126 #[π (μ ⟨z.Bb,0,ν⟩),.int .i64 (i:Int)] W λe w'=>e=ρ η/\iD Z w' z {Y.change with O:=λx=>if x=i then qw (Y.change.O i) Y.change.K else Y.change.O x} r.n):=by
   intro W J;exact Vg J i hi
  rw[af hs,sT]at V;have HNE:Hid ((q.who==p.pe.who)=false \/(q.who==p.pe.who)=true/\(q.both==p.pe.both)=false):=by
   show _ \/_;cases h1:(q.who==p.pe.who)
   ·exact .inl rfl
   ·refine .inr ⟨rfl,?_⟩;cases h2:(q.both==p.pe.both)
    ·rfl
    ·exact absurd ⟨by simpa using h1,by simpa using h2⟩ hs
  clear hs sT CV D;rcases HNE.out with q1|⟨q1,q2⟩
  all_goals
   clear HNE;go_wp2_with(fail);refine hp2.mono ?_;rintro e W3 ⟨rfl,Te⟩;have hc3:=hch.out _ Te;clear hp2 hch Te Ao y0 y1 u0 u1 nl nl6 d2 dl;go_wp2_with(fail);refine hc3.mono ?_;rintro e W4 ⟨rfl,T⟩;have y1:W4.cell? ⟨N,1,ν⟩=μ (.bool q.both):=T.oe.cell 1;have nl:=T.oe.lt;have d2:=T.went.c2;have dl:=T.went.lt;clear hc3;cases hb:q.both with
   |false=>
    rw[hb]at y1;have HE:Hid (iD w W4 z (r.meet i q) r.n):=by
     show iD _ _ _ _ _;rw[V.out,hb,af gY];exact G.out _ _ T.went
    clear V G Jh T
    go_wp2
    first|go_end0|refine iJ rfl rfl ?_
    exact⟨rfl,HE.out⟩
   |true=>
    rw[hb]at y1;have hm5:=Jh.out _ T;have HE:Hid (∀W,iD Z W z {Y.change with O:=λx=>if x=i then qw (Y.change.O i) Y.change.K else Y.change.O x} r.n->iD w W z (r.meet i q) r.n):=by
     intro W hw;rw[V.out,hb,ai rfl];exact G.out _ _ hw
    clear V G Jh T;go_wp2_with(fail);refine hm5.mono ?_;rintro e W5 ⟨rfl,J1⟩;have Mv:=HE.out _ J1;clear hm5 J1
    go_wp2
    first|go_end0|refine iJ rfl rfl ?_
    exact⟨rfl,Mv⟩
theorem Ji(C:kV)(r:Nat):(qb C r).length<=7:=rj _ _
theorem A6(z:Zt)(r:iM)(w:dY)(h:mr w z r)(hK:Xn r.K):
 eW eX 64 #[π (μ ⟨z.R,0,ν⟩)] w λe w'=>∃b c,e=ρ (σ b (mc r).length c)/\ZZ w w' b (mc r).length (mc r)/\eE w w':=by
 have V:=h.below (iZ w);have A:r.id=((r.id.toNat:Nat):Int):=by have:=h.id;omega
 have X:eW eX 110 #[π (μ ⟨z.Bb,0,ν⟩)] w.drew λe w'=>∃a n cap,e=ρ (σ a n cap)/\(∀W,eE w' W->eW eX 116 #[σ a n cap,ι κ r.id] W λe Y=>∃b c,e=ρ (σ b (mc r).length c)/\ZZ w Y b (mc r).length (mc r)/\eE w Y/\(Y.cell? ⟨z.R,0,ν⟩=μ (ι κ r.id)/\Y.cell? ⟨z.R,2,ν⟩=μ (π (μ ⟨z.Bb,0,ν⟩))))/\(w'.cell? ⟨z.R,0,ν⟩=μ (ι κ r.id)/\w'.cell? ⟨z.R,2,ν⟩=μ (π (μ ⟨z.Bb,0,ν⟩))):=by
  refine(K5 z.Bb z.fm 6 r.K r.O w.drew V.bs).mono ?_;rintro e w1 ⟨a,n,cap,S,E,rfl,y,H,h6,_,b1⟩;have M:=V.below b1;refine⟨a,n,cap,rfl,λW T=> ?_,M.c0,M.c2⟩;have hh:=UR a n cap S E r.id.toNat W (y.below T) eh H.ok (by have:=h.id;omega) (by have:=h.id;omega);rw[<-A]at hh;rw[vp.grid H hK]at hh;refine hh.mono ?_;rintro e Y ⟨b,c,rfl,U,b2⟩;have G:=(M.below T).below b2;exact⟨b,c,rfl,⟨U.r,λx e=>Nat.le_trans (gk (gk (iZ w) b1) T).size (U.nw x e)⟩,gk (gk (gk (iZ w) b1) T) b2,G.c0,G.c2⟩
 have Z:=And.intro V.c0 V.c2;generalize mc r=L at X⊢;generalize z.R=Q at X Z⊢;generalize z.Bb=Bb at X Z;generalize r.id=id at X Z;clear h V A;have Z:w.drew.cell? ⟨Q,0,ν⟩=μ (ι κ id)/\w.drew.cell? ⟨Q,2,ν⟩=μ (π (μ ⟨Bb,0,ν⟩)):=Z
 go_in
 go_wp2
 go_region_held3(λx=>x.cell? ⟨Q,0,ν⟩=μ (ι κ id)/\x.cell? ⟨Q,2,ν⟩=μ (π (μ ⟨Bb,0,ν⟩)))
  (first|assumption|exact Z|exact D|exact J)
  (first
   |(go_at_call 110;refine X.mono ?_;rintro e w1 ⟨a,n,cap,rfl,hh,D⟩)
   |(go_at_call 116;refine(hh _ (av _ _)).mono ?_;rintro e Y ⟨b,c,rfl,U,b2,J⟩))
 all_goals
  have HH:Hid _:=U;clear X hh Z D J U
  go_wp2
  go_ret
  first|exact⟨b,c,rfl,HH.out,b2⟩|exact⟨b,⟨c,rfl,HH.out,b2⟩⟩
def YG(r:iM)(t h:Int):Option Nat:=if 1<=h then(AL (mc r) t).bind λx=>jP r.P x.rG r.n else ν
def sK(F:Int->Option PS)(j m:Nat):List (Int×PS):=(List.range' j m).filterMap λ(j:Nat)=>(F ((j:Int)+1)).map λq=>((j:Int)+1,q)
theorem NN(F:Int->Option PS):lE F=sK F 0 6:=by unfold lE sK;rw[dg]
theorem tR {F:Int->Option PS} {n:Nat} {S:Nat->SV} {E:Nat->List jE} (h:vp F n S E):∀(m j k:Nat),j+m=6->k<=n->(∀i,i<k->(S i).own<=j)->(∀i,k<=i->i<n->(j:Int)<(S i).own)->sK F j m=(List.range' k (n-k)).map λi=>((S i).own,((S i).seq,E i))
 |0,j,k,hj,hk,h1,h2=>by
  have:n-k=0:=by
   by_cases e:k<n
   ·have Y:=h2 k (Nat.le_refl _) e;have Z:=(jt (h.ok k e)).1;omega
   ·omega
  rw[this];rfl
 |m+1,j,k,hj,hk,h1,h2=>by
  have e:sK F j (m+1)=(match F ((j:Int)+1)with|none=>sK F (j+1) m|some q=>((j:Int)+1,q)::sK F (j+1) m):=by
   unfold sK;rw[dF,bk];cases F ((j:Int)+1)<;>simp
  rw[e];cases hF:F ((j:Int)+1)with
  |none=>
   simp only;refine tR h m (j+1) k eh hk (λi hi=>by have:=h1 i hi;omega) (λi Y Z=> ?_);have h5:=h2 i Y Z;have h6:(S i).own≠(j:Int)+1:=λe=>by
    have:=(h.at_ i Z).2;rw[e,hF]at this;cases this
   omega
  |some q=>
   simp only;obtain⟨i,hi,U⟩:=h.all ((j:Int)+1) ⟨eh,eh⟩ (by rw[hF];rfl);have hki:k<=i:=by
    by_cases e:i<k
    ·have:=h1 i e;omega
    ·omega
   have X:i=k:=by
    by_cases e:i=k
    ·exact e
    ·have Y:=h.Tc k i eh hi;have Z:=h2 k (Nat.le_refl _) eh;omega
   subst X;have V:=(h.at_ i hi).2;rw[U,hF]at V;have T:=Option.some.inj V;have en:n-i=(n-(i+1))+1:=eh;rw[en,dF,List.map_cons,U,<-T];congr 1;refine tR h m (j+1) (i+1) eh eh (λx hx=> ?_) (λx Y Z=> ?_)
   ·by_cases e:x=i
    ·subst e;omega
    ·have:=h1 x eh;omega
   ·have:=h.Tc i x eh Z;omega
theorem Rm {F:Int->Option PS} {S:Nat->SV} {E:Nat->List jE} (h:vp F n S E):lE F=(fW n).map λi=>((S i).own,((S i).seq,E i)):=by
 rw[NN,tR h 6 0 0 rfl (Nat.zero_le _) (λi hi=>eh) (λi _ hi=>by have:=(jt (h.ok i hi)).1;omega),dg];rfl
theorem Vi(B:Nat)(m:FM)(k:Nat)(K:Int->Option PS)(O:Nat->Int->Option PS)(p:Nat)(w:dY)(h:BR w B m k K O)(Y:p<m.bs.length):
 eW eX 151 #[π (μ ⟨B,0,ν⟩),ι κ (p:Int)] w λe w'=>∃a n cap S E,e=ρ (σ a n cap)/\vP w' a n S E/\vp (O p) n S E/\n<=6/\(∀j,eu (σ a n cap)=μ j->w.heap.size<j)/\(∀i,i<n->∀j,eu (σ (S i).a (S i).n (S i).cap)=μ j->w.heap.size<j)/\eE w w':=by
 obtain⟨kn,ow,hF,hT,X⟩:=h.ex;refine(U0 B m k kn ow (mS (O p)) p w hF Y (X p Y).fine).mono ?_;rintro e w1 ⟨v,ts,rfl,Z⟩;obtain⟨a,cap,rfl,U,T,V,M⟩:=Z.lists (X p Y);refine⟨a,ts.length,cap,_,_,rfl,U,T,V,M,λi hi j Q=> ?_,Z.nT⟩;have J:ts.getD i SV.zero∈ts:=by
  have:ts.getD i SV.zero=ts[i] :=by simp[List.getD,hi]
  rw[this];exact aG hi
 exact((Z.el _ J).new j Q).1
theorem B5:∀(l:List (Int×PS)) (p:jw) (q:Int×PS),p.kH (l++ [q])=(p.kH l).put 83 (rb q.1 q.2.1 q.2.2)
 |[],_,_=>rfl
 |x::l,p,q=>by
  show(p.put 83 (rb x.1 x.2.1 x.2.2)).kH (l++ [q])=((p.put 83 (rb x.1 x.2.1 x.2.2)).kH l).put _ _;exact B5 l _ q
theorem yL:∀(l:List (Int×PS)) (p:jw),(p.kH l).out.length<=p.out.length+126*l.length
 |[],p=>by simp[jw.kH]
 |x::l,p=>by
  have h1:=yL l (p.put 83 (rb x.1 x.2.1 x.2.2));have h2:=xr p 83 (rb x.1 x.2.1 x.2.2);have e:p.kH (x::l)=(p.put 83 (rb x.1 x.2.1 x.2.2)).kH l:=rfl;rw[e,cO];omega
theorem rN(p:jw)(c:UInt8)(s:List UInt8):(p.put c s).pe=p.pe:=by
 unfold jw.put;split
 ·rfl
 ·split<;>rfl
theorem A7(r:iM)(i:Nat)(p q:jw):(r.iU i p).iU i q=r.iU i q:=by
 have:la (la r.P i p) i q=la r.P i q:=by
  funext x
  unfold la;by_cases e:x=i
  ·simp[e]
  ·simp[e]
 show({r with P:=la (la r.P i p) i q}:iM)={r with P:=la r.P i q}
 rw[this]
def mI(r:iM)(i:Nat):iM:=
 let p:=(r.P i).put 72 [jY r.id,jY (r.P i).pe.who]
 r.iU i (if(r.P i).pe.both=true then p.kH (lE (r.O i))else p)
theorem jc.went {z:Zt} (h:iD w w' z r n)(U:mr w z r0) {a:Option Addr} {cap:Nat} (X:jc w a m es)(Y:∀j,eu (σ a m cap)=μ j->¬z.mine n j):jc w' a m es:=by
 refine⟨X.1,?_⟩;rcases X.2 with Z|⟨b,off,rfl,Z⟩
 ·exact .inl Z
 ·exact .inr ⟨b,off,rfl,λj V=>⟨h.cell U (p:=⟨b,_,ν⟩) (Y b rfl) (Z j V).1,h.cell U (p:=⟨b,_,ν⟩) (Y b rfl) (Z j V).2⟩⟩
theorem vP.went {w w':dY} {z:Zt} {r r0:iM} {n:Nat} (h:iD w w' z r n)(Y:mr w z r0) {a:Option Addr} {m cap:Nat} {S:Nat->SV} {E:Nat->List jE} (hs:vP w a m S E)(V:∀j,eu (σ a m cap)=μ j->¬z.mine n j)(U:∀i,i<m->∀j,eu (σ (S i).a (S i).n (S i).cap)=μ j->¬z.mine n j):vP w' a m S E:=by
 refine⟨?_,λj Z=>⟨jc.went h Y (hs.opt j Z).1 (U j Z),(hs.opt j Z).2⟩⟩;rcases hs.row with X|⟨b,off,rfl,X⟩
 ·exact .inl X
 ·refine .inr ⟨b,off,rfl,λj Z=> ?_⟩;obtain⟨c1,c2,c3⟩:=X j Z;exact⟨h.cell Y (p:=⟨b,_,ν⟩) (V b rfl) c1,h.cell Y (p:=⟨b,_,ν⟩) (V b rfl) c2,h.cell Y (p:=⟨b,_,ν⟩) (V b rfl) c3⟩
theorem Vj(z:Zt)(r:iM)(i:Nat)(w:dY)(h:mr w z r)(iN:ln r)(hi:i<r.n)(vA:(r.P i).out.length<=700000000):
 eW eX 85 #[π (μ ⟨z.R,0,ν⟩),ι κ (i:Int)] w λe w'=>e=ρ (τ #[])/\iD w w' z (mI r i) r.n:=by
 have kS:(i:Int)<(r.n:Int):=eh;have O1:(0:Int)<=(i:Int):=eh;obtain⟨p,D⟩:=gg (r.P i);rw[D]at vA;have xL:Hid (∀W,eE w W->W.cell? ⟨z.R,0,ν⟩=μ (.int .i64 r.id)/\W.cell? ⟨z.g,i*71+67,ν⟩=μ (.int .i64 p.pe.who)/\W.cell? ⟨z.g,i*71+67+1,ν⟩=μ (.bool p.pe.both)/\W.cell? ⟨z.g,i*71+67+2,ν⟩=μ (.int .i64 p.pe.left)):=by
  intro W V;have R:=h.below V;rw[<-D];exact⟨R.c0,(R.pt i hi).c67,(R.pt i hi).c68,(R.pt i hi).c69⟩
 have oP:=iN.pe i hi;rw[D]at oP;have Vk:∀W,eE w W->eW eX 149 #[.agg #[.int .i64 p.pe.who,.bool p.pe.both,.int .i64 p.pe.left],.int .i64 r.id] W λe w'=>e=ρ (.agg #[.int .i64 r.id,.int .i64 p.pe.who])/\eE w w'/\(w'.cell? ⟨z.R,0,ν⟩=μ (.int .i64 r.id)/\w'.cell? ⟨z.g,i*71+67,ν⟩=μ (.int .i64 p.pe.who)/\w'.cell? ⟨z.g,i*71+67+1,ν⟩=μ (.bool p.pe.both)/\w'.cell? ⟨z.g,i*71+67+2,ν⟩=μ (.int .i64 p.pe.left)):=by
  intro W V;refine(TY p.pe.who p.pe.left r.id p.pe.both W).mono ?_;rintro e w1 ⟨rfl,b1⟩;exact⟨rfl,gk V b1,xL.out _ (gk V b1)⟩
 have afI:∀W,eE w W->eW eX 148 #[.agg #[.int .i64 r.id,.int .i64 p.pe.who]] W λe w'=>e=ρ (τ #[.string ⟨#[u8 r.id,u8 p.pe.who]⟩,η])/\eE w w'/\(w'.cell? ⟨z.R,0,ν⟩=μ (.int .i64 r.id)/\w'.cell? ⟨z.g,i*71+67,ν⟩=μ (.int .i64 p.pe.who)/\w'.cell? ⟨z.g,i*71+67+1,ν⟩=μ (.bool p.pe.both)/\w'.cell? ⟨z.g,i*71+67+2,ν⟩=μ (.int .i64 p.pe.left)):=by
  intro W V;have h1:=iN.id;have h2:=oP.who;refine(Kv r.id p.pe.who W h1.1 h1.2 h2.1 h2.2 (by simp[ug];omega)).mono ?_;rintro e w1 ⟨rfl,b1⟩;exact⟨rfl,gk V b1,xL.out _ (gk V b1)⟩
 obtain⟨Z,CJ⟩:=gg (p.put 72 [jY r.id,jY p.pe.who]);have Dk:Z.out.length<=700000126:=by
  rw[<-CJ];have:=xr p 72 [jY r.id,jY p.pe.who];omega
 have Kt:Z.pe=p.pe:=by rw[<-CJ];exact rN _ _ _
 obtain⟨r1,H⟩:=gg (r.iU i Z);have T:r1.n=r.n:=by rw[<-H];rfl
 have ZL:r1.P i=Z:=by rw[<-H];exact jy _ _ _
 have hO1:r1.O=r.O:=by rw[<-H];rfl
 have oh:Hid (∀W,eE w W->eW eX 150 #[π (μ ⟨z.g,i*71,ν⟩),.string ⟨#[72]⟩,.string ⟨#[u8 r.id,u8 p.pe.who]⟩] W λe w'=>e=ρ (τ #[])/\iD w w' z r1 r.n):=by
  intro W V;have R:=h.below V;have B3:=R.pt i hi;rw[D]at B3;refine(Dj z.g (i*71) (z.B i) (z.v i) p ⟨#[72]⟩ ⟨#[u8 r.id,u8 p.pe.who]⟩ 72 W B3 rfl (by show 2<=1000;omega) eh).mono ?_;rintro e w1 ⟨rfl,M⟩;have vH:lO W w1 z.g (i*71) (z.B i) (z.v i) Z:=by rw[<-CJ];exact M
  rw[<-H];exact⟨rfl,iD.first h rfl V (λ_=>R.port hi vH)⟩
 have hE:mI r i=r.iU i (if p.pe.both=true then Z.kH (lE (r.O i))else Z):=by
  unfold mI;rw[D];simp only[CJ]
 have Vl:Hid (p.pe.both=false->mI r i=r1):=by
  intro e;rw[hE,af (by simp[e]),H]
 have G:Hid (p.pe.both=true->mI r i=r1.iU i (Z.kH (lE (r.O i)))):=by
  intro e;rw[hE,ai e,<-H];exact(A7 r i Z _).symm
 have b0:=iZ w;have R0:=h.below b0;have c1:=h.c1;have cl:=h.lt;have gl0:=h.JZ;have F0:w.drew.cell? ⟨z.R,0,ν⟩=μ (.int .i64 r.id)/\w.drew.cell? ⟨z.g,i*71+67,ν⟩=μ (.int .i64 p.pe.who)/\w.drew.cell? ⟨z.g,i*71+67+1,ν⟩=μ (.bool p.pe.both)/\w.drew.cell? ⟨z.g,i*71+67+2,ν⟩=μ (.int .i64 p.pe.left):=xL.out _ b0;have HR:Hid _:=h;clear h iN oP R0 hE D
 go_in
 go_wp2
 go_region_held3(λx=>x.cell? ⟨z.R,0,ν⟩=μ (.int .i64 r.id)/\x.cell? ⟨z.g,i*71+67,ν⟩=μ (.int .i64 p.pe.who)/\x.cell? ⟨z.g,i*71+67+1,ν⟩=μ (.bool p.pe.both)/\x.cell? ⟨z.g,i*71+67+2,ν⟩=μ (.int .i64 p.pe.left))
  (first|assumption|exact F0|exact F1|exact F2)
  (first
   |(go_at_call 149;refine(Vk _ b0).mono ?_;rintro e w1 ⟨rfl,b1,F1⟩)
   |(go_at_call 148;refine(afI _ b1).mono ?_;rintro e w2 ⟨rfl,b2,F2⟩))
 all_goals
  have B3:=oh.out _ b2;clear Vk afI oh xL F0 F1 F2 c1 cl gl0;go_wp2_with(fail);refine B3.mono ?_;rintro e W4 ⟨rfl,U⟩;obtain⟨v4,hv4⟩:=U.pt (i:=i) (by rw[T];exact hi);have g8:W4.cell? ⟨z.g,i*71+67+1,ν⟩=μ (.bool p.pe.both):=by
   have:=hv4.c68;rw[ZL,Kt]at this;exact this
  have gl:=U.JZ;have k2:=U.c2;have kl:=U.lt;clear B3 hv4 b1 b2;cases hb:p.pe.both with
  |false=>
   rw[hb]at g8;have HW:Hid (iD w W4 z (mI r i) r.n):=by show iD _ _ _ _ _;rw[Vl.out hb];exact U
   clear U Vl G
   go_wp2
   first|go_end0|refine iJ rfl rfl ?_
   exact⟨rfl,HW.out⟩
  |true=>
   rw[hb]at g8;have HE:=G.out hb;obtain⟨z4,R4,Q,Hs,afJ⟩:=U.ex;have how:=Vi z4.Bb z4.fm 6 r1.K r1.O i W4 R4.bs (by rw[R4.bl,T];exact hi);rw[Q.Bb]at how;have HF:Hid (∀W,iD W4 W z4 (mI r i) r.n->iD w W z (mI r i) r.n):=λW M=>U.qK R4 Q Hs afJ M;have X:Hid _:=R4;have HEq:Hid _:=HE;clear U HE Vl G R4 Hs afJ;go_wp2_with(fail);refine how.mono ?_;rintro e A ⟨a,m,cap,S,E,rfl,hS,hL,h6,jj,aat,b5⟩;have XY:=Rm hL;rw[hO1]at XY;have R5:=X.out.below b5;have vM:∀j,eu (σ a m cap)=μ j->¬z4.mine r.n j:=λj hj=>by
    have:=X.out.uo (Nat.le_of_lt (jj j hj))
    rwa [T]at this
   have CO:∀x,x<m->∀j,eu (σ (S x).a (S x).n (S x).cap)=μ j->¬z4.mine r.n j:=λx hx j hj=>by
    have:=X.out.uo (Nat.le_of_lt (aat x hx j hj))
    rwa [T]at this
   have vX:Hid (∀wr rr,iD A wr z4 rr r.n->vP wr a m S E):=λwr rr M=>vP.went (cap:=cap) M R5 hS vM CO;have akz:Hid (∀x,x<m->oy (S x).own (S x).seq (E x)=0):=hL.ok;have akA:Hid (∀k,k<m->(lE (r.O i)).take (k+1)=(lE (r.O i)).take k++ [((S k).own,((S k).seq,E k))]):=by
    intro k hk;have hlen:k<(lE (r.O i)).length:=by rw[XY];simpa using hk
    rw[aB hlen];congr 2;simp[XY]
   have akB:Hid ((lE (r.O i)).length=m):=by show _=_;rw[XY];simp
   have HF5:Hid (∀W,iD A W z4 (mI r i) r.n->iD w W z (mI r i) r.n):=λW M=>HF.out W (iD.first X.out T b5 (λ_=>M));have H0:Hid (iD A A z4 (r1.iU i (Z.kH ((lE (r.O i)).take 0))) r.n):=by
    show iD _ _ _ _ _;have e:r1.iU i (Z.kH ((lE (r.O i)).take 0))=r1:=by
     show r1.iU i Z=r1;rw[<-H,A7]
    rw[e,<-T];exact iD.refl R5
   have hG4:z4.g=z.g:=Q.g;have HG4:Hid _:=hG4;clear how hS hL jj aat XY R5 vM CO HF hG4 b5 X Q k2 kl g8 gl
   go_wp2
   go_loopw [46] (λx wr=>∃k:Nat,k<=m/\x=ι κ k/\iD A wr z4 (r1.iU i (Z.kH ((lE (r.O i)).take k))) r.n) (λx _=>m-(intOf x).toNat)
   case atStart=>exact⟨0,Nat.zero_le _,rfl,H0.out⟩
   case round=>
    obtain⟨k,hk,rfl,Y⟩:=hrel;by_cases kB:k<m
    ·have nQ:(k:Int)<(m:Int):=eh;have G6:(0:Int)<=(k:Int):=eh;have SR:=vX.out _ _ Y;rcases SR.row with h0|⟨b,off,rfl,iW⟩
     ·omega
     obtain⟨x0,x1,x2⟩:=iW k kB;have hop:=(SR.opt k kB).1;have ki:=akz.out k kB;have Yw:=akA.out k kB;have xl:=ag _ _ x0;have ba:=gW wr (γ #[ι κ (S k).own,ι κ (S k).seq,σ (S k).a (S k).n (S k).cap] 40);have J:=Y.below (by show r1.n=r.n;exact T) ba;obtain⟨pk,Jd⟩:=gg (Z.kH ((lE (r.O i)).take k));have pB:pk.out.length<=800000000:=by
      rw[<-Jd];have h1:=yL ((lE (r.O i)).take k) Z;have h2:((lE (r.O i)).take k).length<=k:=cy _ _;omega
     have uF:eW eX 152 #[π (μ ⟨z.g,i*71,ν⟩),.string ⟨#[83]⟩,.agg #[ι κ (S k).own,ι κ (S k).seq,σ (S k).a (S k).n (S k).cap]] (wr.alloc (γ #[ι κ (S k).own,ι κ (S k).seq,σ (S k).a (S k).n (S k).cap] 40)) λe w'=>e=ρ (τ #[])/\iD A w' z4 (r1.iU i (Z.kH ((lE (r.O i)).take (k+1)))) r.n:=by
      rw[Yw,B5];rw[Jd]at J⊢;refine J.call λz1 R1 hl=> ?_;have vh:i<(r1.iU i pk).n:=by show i<r1.n;rw[T];exact hi
      have y:=R1.pt i vh;have hPk:(r1.iU i pk).P i=pk:=jy _ _ _;rw[hPk]at y;rw[<-HG4.out,<-hl.g];refine(xW ⟨#[83]⟩ 83 (S k).own (S k).seq (S k).a (S k).n (S k).cap (E k) z1.g (i*71) (z1.B i) (z1.v i) pk _ y rfl (hop.below ba) ki pB).mono ?_;rintro e w6 ⟨rfl,Mv⟩;have h7:=R1.port vh Mv;rw[A7]at h7;exact⟨rfl,by rw[show r.n=(r1.iU i pk).n from T.symm];exact h7⟩
     clear SR iW hop ki Yw J Y Jd pB ba;go_wp2_with(fail);refine uF.mono ?_;rintro e w6 ⟨rfl,Mv⟩;have HW6:Hid _:=Mv;clear uF Mv
     go_wp2
     go_roundw
     case rel=>exact⟨k+1,eh,by go_num,HW6.out⟩
     case measure=>simp[intOf];omega
    ·have xP:¬(k:Int)<(m:Int):=eh;have HW:Hid (iD w wr z (mI r i) r.n):=by
      show iD _ _ _ _ _;refine HF5.out _ ?_;rw[HEq.out];have e1:(lE (r.O i)).take k=lE (r.O i):=aJ (by have:=akB.out;omega);rw[e1]at Y;exact Y
     clear Y
     go_wp2
     first|go_end0|refine iJ rfl rfl ?_
     exact⟨rfl,HW.out⟩
