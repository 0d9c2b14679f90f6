import Derived.Test.YtieklnlbljejdaaGreatDoorQ08
open Go.Value renaming int → ι, slice → σ, pointer → π, tuple → τ, nilIface → η
open Go.IntKind renaming i64 → κ
open Go.Ending renaming returned → ρ
open Go.Obj renaming cells → γ
open Option renaming none → ν, some → μ
open Go renaming Value → dT, World → dR, Calls → eT
open Go.Proofs.Tryz renaming prog → eU, underlying184 → gg
open List renaming range → fR
open Go.Instr renaming findKey → gb, lookup → e7, mapUpdate → eY
open Go.Sem renaming run_bind → fJ
open Go.Result renaming andThen_ok → eB
open Go.MapKept renaming run_getObj_map → gh
open Go.Value renaming ownBlock → dV
set_option maxRecDepth 100000
set_option maxHeartbeats 6000000
namespace Go.Proofs.YtieklnlbljejdaaGreatDoor
open Go.RowKit St
namespace Rt
variable {C args:Array Value} {E:List (Int×Int×Int)} {N i j k m n:Nat} {W w w' x:World} {a b c u v:Value} {f:FuncId} {o:Obj} {p q:Addr} {r r':iE} {t:TypeId} {α:Type}
theorem rD {k:Int} (h: -1000000<=k/\k<=1000000):sv k:=⟨dU,dU⟩
theorem NL(K:Int->Option PS)(i:Int):Dp K i=mA K i:=by
 unfold Dp mA;cases K i<;>rfl
theorem NM(K:Int->Option PS)(i:Int):zX K i=pR K i:=by
 unfold zX pR;cases K i<;>rfl
theorem lV(h:w.cell? p=μ v):(w.alloc o).cell? p=μ v:=by
 rw[World.cell?_alloc_lt]
 ·exact h
 ·exact af w _ h
theorem nT(h:w.cell? p=μ u/\w.cell? q=μ v):(w.alloc o).cell? p=μ u/\(w.alloc o).cell? q=μ v:=⟨lV h.1,lV h.2⟩
theorem DE {x:dT} (h:w.cell? p=μ v)(Z:p.block≠N):(w.setCell ⟨N,j,ν⟩ x).cell? p=μ v:=by
 rw[ai (w:=w) (aq _ _ _ _ Z)];exact h
theorem wE(h:w.cell? p=μ v)(Z:p.block≠N):(((w.setCell ⟨N,0,ν⟩ a).setCell ⟨N,1,ν⟩ b).setCell ⟨N,2,ν⟩ c).cell? p=μ v:=DE (DE (DE h Z) Z) Z
theorem uv(h:w.cell? p=μ u/\w.cell? q=μ v)(Z:p.block≠N)(Y:q.block≠N):(((w.setCell ⟨N,0,ν⟩ a).setCell ⟨N,1,ν⟩ b).setCell ⟨N,2,ν⟩ c).cell? p=μ u/\(((w.setCell ⟨N,0,ν⟩ a).setCell ⟨N,1,ν⟩ b).setCell ⟨N,2,ν⟩ c).cell? q=μ v:=⟨wE h.1 Z,wE h.2 Y⟩
theorem Hn(hC:jc x N C t)(V:C.size=3)(Z:w.heap.size<=N)(hb:eh w x):
 (((x.setCell ⟨N,0,ν⟩ a).setCell ⟨N,1,ν⟩ b).setCell ⟨N,2,ν⟩ c).cell? ⟨N,1,ν⟩=μ b/\(((x.setCell ⟨N,0,ν⟩ a).setCell ⟨N,1,ν⟩ b).setCell ⟨N,2,ν⟩ c).cell? ⟨N,2,ν⟩=μ c/\eh w (((x.setCell ⟨N,0,ν⟩ a).setCell ⟨N,1,ν⟩ b).setCell ⟨N,2,ν⟩ c)/\∀j,j≠N->(((x.setCell ⟨N,0,ν⟩ a).setCell ⟨N,1,ν⟩ b).setCell ⟨N,2,ν⟩ c).heap[j]? =x.heap[j]? :=by
 have X:=((hC.set 0 a).set 1 b).set 2 c;refine⟨?_,?_,((hb.setCell (p:=⟨N,0,ν⟩) Z a).setCell (p:=⟨N,1,ν⟩) Z b).setCell (p:=⟨N,2,ν⟩) Z c,λj Y=> ?_⟩
 ·rw[X.cell 1];simp[V]
 ·rw[X.cell 2];simp[V]
 ·rw[aq _ _ _ _ Y,aq _ _ _ _ Y,aq _ _ _ _ Y]
theorem iU.not_zero {x':dR} {a:Option Addr} {es:List jG} (h:iU x a n es)(M:jc x N #[ι κ 0,ι κ 0,σ ν 0 0] t)(T:∀e∈es,1<=e.1)(V:∀j,j≠N->x'.heap[j]? =x.heap[j]?):iU x' a n es:=by
 refine⟨h.1,?_⟩;rcases h.2 with Y|⟨b,off,rfl,Y⟩
 ·exact .inl Y
 ·by_cases Q:n=0
  ·exact .inl Q
  ·have hl:0<es.length:=by have:=h.1;omega
   have X:b≠N:=by
    intro e;subst e;have Z:=(Y 0 hl).1;rw[M.cell]at Z;have h4:=T es[0] (aK hl);have:off+0*2=0 \/off+0*2=1 \/off+0*2=2 \/3<=off+0*2:=dU;rcases this with e|e|e|e
    ·rw[e]at Z;simp at Z;omega
    ·rw[e]at Z;simp at Z;omega
    ·rw[e]at Z;simp at Z
    ·rw[a8 (by simpa using e)]at Z;cases Z
   exact .inr ⟨b,off,rfl,λj U=>⟨(ai (a:=⟨b,_,ν⟩) (V b X)).trans (Y j U).1,(ai (a:=⟨b,_,ν⟩) (V b X)).trans (Y j U).2⟩⟩
theorem iP(w:dR):eh w w.drew:=jt (au _ _)
theorem DF(z:Zt)(r:iE)(seq:Int)(w:dR)(h:lJ w z r)(M:kU r)(hs:0<=seq/\seq<=1000000):
 eT eU 180 #[π (μ ⟨z.R,0,ν⟩),ι κ seq] w λe w'=>e=ρ (τ #[])/\iw w w' z (r.behind seq) r.n:=by
 by_cases ka:seq<1000000
 ·have J:Hid (r.behind seq=r.Dq (seq+1) (jC r)):=by
   show _=_;unfold iE.behind;rw[ag ka]
  have X:=h.below (iP w);have G:=Dy z r w.drew X;have V:∀(w1:dR) (a:Option Addr) (cap:Nat),Made w.drew w1 (σ a (jC r).length cap) (jC r)->kt a cap->eT eU 67 #[π (μ ⟨z.Bb,0,ν⟩),.agg #[ι κ r.id,ι κ (seq+1),σ a (jC r).length cap]] w1 λe w'=>e=ρ η/\iw w w' z (r.behind seq) r.n/\(w'.cell? ⟨z.R,0,ν⟩=μ (ι κ r.id)/\w'.cell? ⟨z.R,2,ν⟩=μ (π (μ ⟨z.Bb,0,ν⟩))):=by
   intro w1 a cap Z U;have Y:=X.below Z.below;refine(JH z.Bb z.fm 6 r.K r.O r.id (seq+1) a (jC r).length cap (jC r) w1 Y.bs (rD (by have:=M.id;omega)) Z.opts.2 U dU (Dv M dU)).mono ?_;rintro e w2 ⟨rfl,hB,H⟩;refine⟨rfl,?_,jr.cell H Y.bs Y.c0,jr.cell H Y.bs Y.c2⟩;rw[J.out];exact iw.first h rfl (fY (iP w) Z.below) (λ_=>Y.base hB H)
  have T:eT eU 179 #[π (μ ⟨z.R,0,ν⟩)] w.drew λe w'=>∃a cap,e=ρ (σ a (jC r).length cap)/\Made w.drew w' (σ a (jC r).length cap) (jC r)/\kt a cap/\(w'.cell? ⟨z.R,0,ν⟩=μ (ι κ r.id)/\w'.cell? ⟨z.R,2,ν⟩=μ (π (μ ⟨z.Bb,0,ν⟩))):=by
   refine G.mono ?_;rintro e w1 ⟨v,rfl,Z⟩;obtain⟨a,cap,rfl,U,hle⟩:=Z.shape;have Y:=X.below Z.below;exact⟨a,cap,rfl,Z,U,Y.c0,Y.c2⟩
  have c0:=X.c0;have c2:=X.c2;have cl:=X.lt;have RS:=hs.1;obtain⟨n,y⟩:∃n:dR->Prop,(λx=>iw w x z (r.behind seq) r.n)=n:=⟨_,rfl⟩
  have Z6:∀x,iw w x z (r.behind seq) r.n=n x:=λx=>bY y x;simp only[Z6]at V⊢;generalize jC r=es at V T;generalize z.R=Q at V T c0 c2 cl⊢;generalize z.Bb=Bb at V T c2;generalize r.id=id at V T c0;clear h M X hs G J y Z6;have Sv:IntKind.i64.wrap (seq+1)=seq+1:=aP _ ⟨dU,dU⟩;have A:w.drew.cell? ⟨Q,0,ν⟩=μ (ι κ id)/\w.drew.cell? ⟨Q,2,ν⟩=μ (π (μ ⟨Bb,0,ν⟩)):=⟨c0,c2⟩
  go_in
  go_wp2
  go_region_held3(λx=>x.cell? ⟨Q,0,ν⟩=μ (ι κ id)/\x.cell? ⟨Q,2,ν⟩=μ (π (μ ⟨Bb,0,ν⟩)))
   (first|assumption|exact A|exact F1|exact D)
   (first
    |(go_at_call 179;refine T.mono ?_;rintro e w1 ⟨a,cap,rfl,Z,U,F1⟩;have HM:Hid _:=Z;clear Z)
    |(go_at_call 67;refine(V _ _ _ HM.out U).mono ?_;rintro e w2 ⟨rfl,nC,D⟩))
  all_goals
   clear V A F1 D
   go_wp2
   first|go_end0|refine iC rfl rfl ?_
   exact⟨rfl,nC⟩
 ·have J:Hid (r.behind seq=r):=by
   show _=_;unfold iE.behind;rw[ae ka]
  have HR:Hid _:=h;clear h M hs
  go_in
  go_wp2
  first|go_end0|refine iC rfl rfl ?_
  exact⟨rfl,by rw[J.out];exact iw.refl HR.out⟩
theorem Mh(z:Zt)(r:iE)(w:dR)(h:lJ w z r)(G:kU r):
 eT eU 125 #[π (μ ⟨z.R,0,ν⟩)] w λe w'=>e=ρ (τ #[])/\iw w w' z r.change r.n:=by
 have JO:=rD (k:=r.id) (by have:=G.id;omega);have U:∀W,eh w W->eT eU 177 #[π (μ ⟨z.Bb,0,ν⟩),ι κ r.id] W λe w'=>∃a cap,e=ρ (τ #[.agg #[ι κ (xd r.K r.id),ι κ (pR r.K r.id),σ a (mA r.K r.id).length cap],.bool (r.K r.id).isSome])/\iU w' a (mA r.K r.id).length (mA r.K r.id)/\eh W w'/\(w'.cell? ⟨z.R,0,ν⟩=μ (ι κ r.id)/\w'.cell? ⟨z.R,2,ν⟩=μ (π (μ ⟨z.Bb,0,ν⟩))):=by
  intro W X;refine(JI z.Bb z.fm 6 r.K r.O r.id W (h.below X).bs JO).mono ?_;rintro e w1 ⟨a,cap,rfl,ho,_,_,b1⟩;have R1:=h.below (fY X b1);exact⟨a,cap,rfl,ho,b1,R1.c0,R1.c2⟩
 have h6:(mA r.K r.id).length<=6:=by
  obtain⟨q,hq,jY⟩:=G.own;have:=(jw jY).2.2.1;unfold mA;rw[hq];exact this
 have Tt:Hid (∀e∈mA r.K r.id,1<=e.1):=by
  obtain⟨q,hq,jY⟩:=G.own;have:=rJ r.id q.2 0 (jw jY).2.2.2;unfold mA;rw[hq];exact λe A=>(this e A).1.1
 have h6e:(jC r).length<=6:=by
  have:=(rm G 6 0 0 dU dU).2;rw[<-A5]at this;omega
 have A:∀W,eh w W->eT eU 179 #[π (μ ⟨z.R,0,ν⟩)] W λe w'=>∃a cap,e=ρ (σ a (jC r).length cap)/\iU w' a (jC r).length (jC r)/\eh W w':=by
  intro W X;refine(Dy z r W (h.below X)).mono ?_;rintro e w1 ⟨v,rfl,hM⟩;obtain⟨a,cap,rfl,_,_⟩:=hM.shape;exact⟨a,cap,rfl,hM.opts.2,hM.below⟩
 have y:Hid (mA r.K r.id=jC r->∀W,eh w W->iw w W z r.change r.n):=by
  intro D W X;have HC:r.change=r:=by
   unfold iE.change;rw[ag ((NL _ _).trans D)]
  rw[HC];exact iw.still h X
 have M:Hid (mA r.K r.id≠jC r->∀W,eh w W->eT eU 180 #[π (μ ⟨z.R,0,ν⟩),ι κ (pR r.K r.id)] W λe w'=>e=ρ (τ #[])/\iw w w' z r.change r.n):=by
  intro D W X;have HC:r.change=r.behind (pR r.K r.id):=by
   unfold iE.change;rw[ae (λe=>D ((NL _ _).symm.trans e)),NM]
  have hsq:=G.seq;rw[NM]at hsq;refine(DF z r (pR r.K r.id) W (h.below X) G dU).mono ?_;rintro e w5 ⟨rfl,KZ⟩;refine⟨rfl,?_⟩;rw[HC];exact iw.first h rfl X (λ_=>KZ)
 have R0:=h.below (iP w);have Y:=And.intro R0.c0 R0.c2;have cl:=R0.lt;obtain⟨n,hn⟩:∃n:dR->Prop,(λx=>iw w x z r.change r.n)=n:=⟨_,rfl⟩
 have Z6:∀x,iw w x z r.change r.n=n x:=λx=>bY hn x;simp only[Z6]at y M⊢;generalize jC r=ed at A y M h6e;generalize mA r.K r.id=es at U y M h6 Tt;generalize pR r.K r.id=sq at U M;generalize xd r.K r.id=ow at U;generalize (r.K r.id).isSome=ok at U;generalize z.R=H at U A M Y cl⊢;generalize z.Bb=Bb at U Y;generalize r.id=id at U Y;clear h G R0 hn Z6 JO
 go_in
 go_wp2
 go_cut [2] (λv wx=>∃(Z:Nat) (a:Option Addr) (cap:Nat),v=π (μ ⟨Z,0,ν⟩)/\wx.cell? ⟨Z,1,ν⟩=μ (ι κ sq)/\wx.cell? ⟨Z,2,ν⟩=μ (σ a es.length cap)/\iU wx a es.length es/\eh w wx)
 case first=>
  obtain⟨c0,c2⟩:=Y;have Y:w.drew.cell? ⟨H,0,ν⟩=μ (ι κ id)/\w.drew.cell? ⟨H,2,ν⟩=μ (π (μ ⟨Bb,0,ν⟩)):=⟨c0,c2⟩
  have ba:=jt (gN w (γ #[ι κ 0,ι κ 0,σ ν 0 0] 40));have xh:jc (w.alloc (γ #[ι κ 0,ι κ 0,σ ν 0 0] 40)).drew w.heap.size #[ι κ 0,ι κ 0,σ ν 0 0] 40:=(jc.new w _ _).drew;have jm:H≠w.heap.size:=by have h2:H<w.heap.size:=cl;omega
  go_region_held3(λx=>x.cell? ⟨H,0,ν⟩=μ (ι κ id)/\x.cell? ⟨H,2,ν⟩=μ (π (μ ⟨Bb,0,ν⟩)))
   (first|assumption|exact Y|exact J|exact nT J|exact nT Y|exact uv J jm jm)
   (first
    |(go_at_call 177;refine(U _ (by first|exact iP w|exact ba)).mono ?_;rintro e w1 ⟨a,cap,rfl,ho,b1,J⟩;first|(have Q:=xh.below b1;have y0:=Q.cell 0;have y1:=Q.cell 1;have y2:=Q.cell 2;have z0:=Q.frozen 0;have z1:=Q.frozen 1;have z2:=Q.frozen 2)|skip))
  all_goals
   go_wp2_with(fail)
   go_meet
   first
    |exact⟨_,a,cap,rfl,aj w1 _ _ (0,0) 1,aj w1 _ _ (0,0) 2,ho.below (gN _ _),fY (fY (iP w) b1) (gN _ _)⟩
    |(have h5:=Hn (a:=.int .i64 ow) (b:=.int .i64 sq) (c:=.slice a es.length cap) Q rfl (Nat.le_refl _) (fY ba b1)
      exact⟨_,a,cap,rfl,h5.1,h5.2.1,iU.not_zero ho Q Tt.out h5.2.2.2,h5.2.2.1⟩)
 case rest=>
  obtain⟨Z,a,cap,rfl,d1,d2,ho,qp⟩:=hcut;have bd:=fY qp (iP wc);have Y:wc.drew.cell? ⟨Z,1,ν⟩=μ (ι κ sq)/\wc.drew.cell? ⟨Z,2,ν⟩=μ (σ a es.length cap):=⟨d1,d2⟩
  have zl:Z<wc.drew.heap.size:=af wc.drew _ Y.1;have Wv:eT eU 179 #[π (μ ⟨H,0,ν⟩)] wc.drew λe w'=>∃V T,e=ρ (σ V ed.length T)/\iU w' V ed.length ed/\iU w' a es.length es/\eh w w'/\(w'.cell? ⟨Z,1,ν⟩=μ (ι κ sq)/\w'.cell? ⟨Z,2,ν⟩=μ (σ a es.length cap)):=by
   refine(A _ bd).mono ?_;rintro e w3 ⟨V,T,rfl,yI,b3⟩;exact⟨V,T,rfl,yI,(ho.below (iP wc)).below b3,fY bd b3,(ai (a:=⟨Z,1,ν⟩) (b3.block Z zl)).trans Y.1,(ai (a:=⟨Z,2,ν⟩) (b3.block Z zl)).trans Y.2⟩
  obtain⟨bb,Tp⟩:=fW (decide (es=ed));have heq:∀(W:dR) (V:Option Addr) (T:Nat),iU W V ed.length ed->iU W a es.length es->eT eU 178 #[σ a es.length cap,σ V ed.length T] W λe w'=>e=ρ (.bool bb)/\∃k,w'=W.drewN k:=by
   intro W V T h1 h2;rw[<-Tp];exact zT a V cap T _ _ es ed W h2 h1 dU dU
  clear A U d1 d2
  go_wp2
  go_region_held3(λx=>x.cell? ⟨Z,1,ν⟩=μ (ι κ sq)/\x.cell? ⟨Z,2,ν⟩=μ (σ a es.length cap))
   (first|assumption|exact Y|exact J|exact F2)
   (first
    |(go_at_call 179;refine Wv.mono ?_;rintro e w3 ⟨V,T,rfl,yI,V6,b3,J⟩)
    |(go_at_call 178;refine(heq _ _ _ yI V6).mono ?_;rintro e w4 ⟨rfl,kk,rfl⟩;have F2:(w3.drewN kk).cell? ⟨Z,1,none⟩=some (.int .i64 sq)/\(w3.drewN kk).cell? ⟨Z,2,none⟩=some (.slice a es.length cap):=J))
  all_goals
   have b4:=below_drewN b3 kk;cases bb
   ·have D:es≠ed:=by simpa using Tp
    have Ww:=M.out D _ b4;have f1:=F2.1;have fl:Z<(w3.drewN kk).heap.size:=af (w3.drewN kk) _ f1;clear M y heq Wv Y J F2 yI V6;go_wp2_with(fail);refine Ww.mono ?_;rintro e w5 ⟨rfl,X⟩;clear Ww
    go_wp2
    first|go_end0|refine iC rfl rfl ?_
    exact⟨rfl,X⟩
   ·have D:es=ed:=by simpa using Tp
    have X:=y.out D _ b4;clear M y heq Wv Y J F2 yI V6
    go_wp2
    first|go_end0|refine iC rfl rfl ?_
    exact⟨rfl,X⟩
theorem iw.qf {a b c:dR} {z z':Zt} (h:iw a b z r n)(_hR:lJ b z' r)(hl:z.like z')(Q:∀k,z'.mine n k->z.mine n k \/a.heap.size<=k)(D:∀k,z.fm.no k->z'.fm.no k)(k:iw b c z' r' n):iw a c z r' n:=by
 have Z:=h.kept;obtain⟨⟨M,J,A,G,H⟩,Y⟩:=k;refine⟨⟨M,J,Zt.Dt hl A,λx hx=> ?_,λx hx=>H x (D x hx)⟩,⟨Y.os.trans Z.os,Y.tape.trans Z.tape,Y.output.trans Z.output,Nat.le_trans Z.size Y.size,λx hx U X T=>(Y.block x (Nat.lt_of_lt_of_le hx Z.size) (λe=> ?_) (by rw[hl.bm];exact X) (by rw[hl.bs];exact T)).trans (Z.block x hx U X T)⟩⟩
 ·rcases G x hx with e|e
  ·exact Q x e
  ·exact .inr (Nat.le_trans Z.size e)
 ·rcases Q x e with V|V
  ·exact U V
  ·omega
section
variable {w w':World} {z:Zt} {r:iE} {n:Nat}
theorem iw.c0(h:iw w w' z r n):w'.cell? ⟨z.R,0,ν⟩=μ (ι κ r.id):=by
 obtain⟨⟨z',Z,hl,_⟩,_⟩:=h;have:=Z.c0
 rwa [hl.R]at this
theorem iw.c1(h:iw w w' z r n):w'.cell? ⟨z.R,1,ν⟩=μ (σ (μ ⟨z.g,0,ν⟩) r.n z.cap):=by
 obtain⟨⟨z',Z,hl,_⟩,_⟩:=h;have:=Z.c1
 rwa [hl.R,hl.g,hl.cap]at this
theorem iw.c2(h:iw w w' z r n):w'.cell? ⟨z.R,2,ν⟩=μ (π (μ ⟨z.Bb,0,ν⟩)):=by
 obtain⟨⟨z',Z,hl,_⟩,_⟩:=h;have:=Z.c2
 rwa [hl.R,hl.Bb]at this
theorem iw.lt(h:iw w w' z r n):z.R<w'.heap.size:=af _ _ h.c0
theorem iw.pt(h:iw w w' z r n) {i:Nat} (hi:i<r.n):∃v,pS w' z.g (i*71) (z.B i) v (r.P i):=by
 obtain⟨⟨z',Z,hl,_⟩,_⟩:=h;have:=Z.pt i hi;rw[hl.g,hl.B]at this;exact⟨_,this⟩
theorem iw.FQ(h:iw w w' z r n):z.g<w'.heap.size:=by
 obtain⟨⟨z',Z,hl,_⟩,_⟩:=h;have:=Z.FQ
 rwa [hl.g]at this
theorem iw.keep {r0:iE} (h:iw w w' z r n)(Z:lJ w z r0)(Y:¬z.mine n k) {fr:Nat×Nat} (hc:w.heap[k]? =μ (Obj.cells C t fr)):w'.heap[k]? =w.heap[k]? :=
 h.kept.block k (aw.1 hc).1 Y (xe hc (Z.bs.maps _ (.inl rfl))) (λe=>xe hc (Z.bs.maps _ (.inr e)) rfl)
theorem iw.cell {r0:iE} (h:iw w w' z r n)(Z:lJ w z r0) {p:Addr} {v:dT} (Y:¬z.mine n p.block)(hc:w.cell? p=μ v):w'.cell? p=μ v:=by
 rw[ai (w:=w) (h.kept.block p.block (af w _ hc) Y (pG hc (Z.bs.maps _ (.inl rfl))) (λe=>pG hc (Z.bs.maps _ (.inr e)) rfl))];exact hc
theorem lJ.tK {z:Zt} (h:lJ w z r)(hk:w.heap.size<=k):¬z.mine r.n k:=λe=>by have:=h.zZ k e;omega
end
structure nU(w w':dR)(z:Zt)(r:iE)(n N:Nat)(C:Array dT)(t:TypeId):Prop where
 went:iw w w' z r n
 nN:jc w' N C t
 nn:r.n=n
 lt:N<w.heap.size
 no:¬z.mine n N
theorem nU.with {w a b:dR} {z z':Zt} {r r':iE} {n N:Nat} {C:Array dT} {t:TypeId} (h:nU w a z r n N C t)(U:r'.n=n)(Y:lJ a z' r)(hl:z.like z')(X:∀k,z'.mine n k->z.mine n k \/w.heap.size<=k)(V:∀k,z.fm.no k->z'.fm.no k)(k:iw a b z' r' n):nU w b z r' n N C t:=by
 refine⟨h.went.qf Y hl X V k,?_,U,h.lt,h.no⟩;refine h.nN.keep (k.keep Y (λe=> ?_) h.nN);rcases X N e with Z|Z
 ·exact h.no Z
 ·have:=h.lt;omega
theorem iw.call {z:Zt} {E:Ending->Prop} (h:iw w W z r n)(k:∀Z,lJ W Z r->z.like Z->eT eU f args W λe w'=>E e/\iw W w' Z r' n):eT eU f args W λe w'=>E e/\iw w w' z r' n:=by
 obtain⟨Z,Y,hl,T,U⟩:=h.ex;refine(k Z Y hl).mono ?_;rintro e w' ⟨X,V⟩;exact⟨X,h.qf Y hl T U V⟩
theorem nU.call {z:Zt} {E:Ending->Prop} (h:nU w W z r n N C t)(T:r'.n=n)(k:∀Z,lJ W Z r->z.like Z->eT eU f args W λe w'=>E e/\iw W w' Z r' n):eT eU f args W λe w'=>E e/\nU w w' z r' n N C t:=by
 obtain⟨Z,Y,hl,Q,U⟩:=h.went.ex;refine(k Z Y hl).mono ?_;rintro e w' ⟨X,V⟩;exact⟨X,h.with T Y hl Q U V⟩
theorem Tv(z:Zt)(r:iE)(i:Nat)(w:dR)(h:lJ w z r)(hi:i<r.n):
 eT eU 124 #[π (μ ⟨z.Bb,0,ν⟩),ι κ (i:Int)] w λe w'=>e=ρ (τ #[])/\iw w w' z {r with O:=λx=>if x=i then λ_=>ν else r.O x} r.n:=by
 refine(Ph z.Bb z.fm 6 r.K r.O i w h.bs (by rw[h.bl];exact hi)).mono ?_;rintro e w1 ⟨rfl,Z,Y⟩;exact⟨rfl,h.base Z Y⟩
theorem Py(z:Zt)(r:iE)(i:Nat)(w:dR)(h:lJ w z r)(hi:i<r.n):
 eT eU 126 #[π (μ ⟨z.Bb,0,ν⟩),ι κ (i:Int)] w λe w'=>e=ρ η/\iw w w' z {r with O:=λx=>if x=i then pQ (r.O i) r.K else r.O x} r.n:=by
 refine(Pj z.Bb z.fm 6 r.K r.O i w h.bs (by rw[h.bl];exact hi) dU).mono ?_;rintro e w1 ⟨rfl,Z,Y⟩;exact⟨rfl,h.base Z Y⟩
def jK {α:Type} (f:Nat->α)(i:Nat)(x:α):Nat->α:=λj=>if j=i then x else f j
theorem iu(f:Nat->α)(i:Nat)(x:α):jK f i x i=x:=by simp[jK]
theorem iq(f:Nat->α)(x:α)(h:j≠i):jK f i x j=f j:=by simp[jK,h]
theorem vG(f:Nat->α)(i:Nat):jK f i (f i)=f:=by
 funext j
 by_cases e:j=i
 ·subst e;exact iu _ _ _
 ·exact iq _ _ e
structure pT where
 e:Nat->Nat×Nat
 iR:Bool
 on:Nat->List UInt8
structure iI where
 n:Nat
 R:Nat->iE
 jZ:Nat->List yn
 ms:Nat->Nat->Int
 nc:Nat
 C:Nat->pT
def iI.jq(y:iI)(i:Nat)(r:iE):iI:={y with R:=jK y.R i r}
def iI.kX(y:iI)(i:Nat)(c:pT):iI:={y with C:=jK y.C i c}
def pT.put(c:pT)(d:Nat)(s:List UInt8):pT:=if c.iR=true/\(c.on d).length+s.length<=2000 then {c with on:=jK c.on d (c.on d++s)}else c
def iI.kD(y:iI)(i d:Nat):iI:=
 (y.jq ((y.C i).e d).1 ((y.R ((y.C i).e d).1).out ((y.C i).e d).2)).kX i ((y.C i).put d ((y.R ((y.C i).e d).1).P ((y.C i).e d).2).out)
def iI.jQ(y:iI):Nat->iI
 |0=>y
 |k+1=>((y.jQ k).kD k 0).kD k 1
def iI.xj(y:iI)(k:Nat):iI:={y with jZ:=jK y.jZ k (y.jZ k++(y.R k).jZ),R:=jK y.R k {y.R k with jZ:=[] }}
def iI.lW(y:iI):Nat->iI
 |0=>y
 |k+1=>(y.lW k).xj k
def iI.gather(y:iI):iI:=(y.jQ y.nc).lW y.n
def iI.mB(y:iI)(i d:Nat)(up:Bool):iI:=y.jq ((y.C i).e d).1 ((y.R ((y.C i).e d).1).iD ((y.C i).e d).2 up).1
def iI.jP(y:iI)(i:Nat)(up:Bool):iI:=((y.kX i {y.C i with iR:=up,on:=λ_=>[] }).mB i 0 up).mB i 1 up
def iI.iD(y:iI)(i:Int)(up:Bool):iI×Nat:=
 if i<0 \/(y.nc:Int)<=i then(y,6)else if(y.C i.toNat).iR=up then(y,7)else((y.jP i.toNat up).gather,0)
def iI.tick(y:iI)(i:Int):iI×Nat:=
 if i<1 \/(y.n:Int)<i then(y,6)else((y.jq (i-1).toNat (y.R (i-1).toNat).tick).gather,0)
def iI.jg(y:iI)(i d k:Nat):iI:=
 (y.kX i {y.C i with on:=jK (y.C i).on d (((y.C i).on d).drop k)}).jq ((y.C i).e (1-d)).1 ((y.R ((y.C i).e (1-d)).1).recv ((y.C i).e (1-d)).2 (((y.C i).on d).take k))
def iI.deliver(y:iI)(i d many:Int):iI×Nat:=
 if i<0 \/(y.nc:Int)<=i \/d<0 \/2<=d then(y,6)else((y.jg i.toNat d.toNat (min many.toNat ((y.C i.toNat).on d.toNat).length)).gather,0)
def iI.k7(y:iI)(k:Nat):List Nat:=(fR y.nc).filter λc=>(y.C c).iR&& (((y.C c).e 0).1==k||((y.C c).e 1).1==k)
def iI.jB(y:iI)(up:Bool):List Nat->iI
 |[] =>y
 |c::l=>(y.jP c up).jB up l
def iI.restart(y:iI)(i:Int):iI×Nat:=
 if i<1 \/(y.n:Int)<i then(y,6)else
  ((((y.jB false (y.k7 (i-1).toNat)).jq (i-1).toNat (jE i 3 (y.ms (i-1).toNat))).jB true (y.k7 (i-1).toNat)).gather,0)
def iI.send(y:iI)(f t:Int)(tx:List UInt8):iI×Nat:=
 if f<1 \/(y.n:Int)<f then(y,6)
 else if(j2 (y.R (f-1).toNat) t tx).2≠0 then(y,(j2 (y.R (f-1).toNat) t tx).2)
 else((y.jq (f-1).toNat (j2 (y.R (f-1).toNat) t tx).1).gather,0)
def iI.iN(y:iI):Nat->iI
 |0=>y
 |k+1=>((y.iN k).tick ((k:Int)+1)).1
def iI.jF(y:iI):Nat->iI
 |0=>y
 |k+1=>(((y.jF k).deliver (k:Int) 0 2000).1.deliver (k:Int) 1 2000).1
def iI.turns(y:iI):Nat->iI
 |0=>y
 |k+1=>(y.turns k).jF y.nc
def iI.round(y:iI):iI:=(y.iN y.n).turns 12
structure oR where
 a:Int
 pa:Int
 b:Int
 pb:Int
 m:Int
def kJ:List (Int×Int×Int)->Int->Int->Option Int
 |[],_,_=>none
 |x::l,r,p=>if x.1=r/\x.2.1=p then some x.2.2 else kJ l r p
def ki(l:List oR):List (Int×Int×Int):=l.flatMap λc=>[(c.a,c.pa,c.m),(c.b,c.pb,c.m)]
def pH(l:List oR)(i p:Nat):Int:=(kJ (ki l) ((i:Int)+1) (p:Int)).getD 1
def ot(many r p:Int):Bool:=decide (1<=r)&&decide (r<=many)&&decide (0<=p)&&decide (p<3)
def xS(many:Int):List oR->List (Int×Int×Int)->Nat
 |[],_=>0
 |c::l,E=>
  if c.m<1 \/20<c.m then 1
  else if ot many c.a c.pa=false then 1
  else if(kJ E c.a c.pa).isSome=true then 8
  else if ot many c.b c.pb=false then 1
  else if(kJ (E++ [(c.a,c.pa,c.m)]) c.b c.pb).isSome=true then 8
  else xS many l (E++ [(c.a,c.pa,c.m),(c.b,c.pb,c.m)])
def ng(many:Int)(l:List oR):Nat:=if many<1 \/6<many then 1 else if 9<l.length then 2 else xS many l []
def oR.at(c:oR)(d:Nat):Nat×Nat:=if d=0 then((c.a-1).toNat,c.pa.toNat)else((c.b-1).toNat,c.pb.toNat)
def rP(l:List oR)(k:Nat):pT:=⟨(l.getD k ⟨1,0,1,0,1⟩).at,false,λ_=>[]⟩
def jH(many:Nat)(l:List oR):iI:=⟨many,λi=>jE ((i:Int)+1) 3 (pH l i),λ_=>[],pH l,l.length,rP l⟩
def Zt.plus(z:Zt)(X:Nat->Prop):Zt:={z with fm:={z.fm with no:=λk=>z.fm.no k \/X k}}
theorem lJ.besides {z:Zt} (h:lJ w z r)(hs:w.heap.size<=w'.heap.size)(Q:∀k,k<w.heap.size->(¬z.fm.no k \/z.mine r.n k)->w'.heap[k]? =w.heap[k]?)
 (X:Nat->Prop) (Y:∀k,X k->w.heap.size<=k/\k<w'.heap.size):lJ w' (z.plus X) r:=by
 have U:∀k,z.mine r.n k->w'.heap[k]? =w.heap[k]? :=λk e=>Q k (h.zZ k e) (.inr e);have M:=h.bs.still hs (λj V J=>Q j V (.inl J)) h.nb.1 h.nb.2.1 h.nb.2.2 (λk=>z.fm.no k \/X k) (λj V=>V.imp_right (λe=>(Y j e).1)) (λj V=>V.elim (λe=>Nat.lt_of_lt_of_le (h.bs.Pf j e) hs) (λe=>(Y j e).2));have ZY:z.Bb<w.heap.size:=by obtain⟨_,_,hF,_⟩:=h.bs.ex;exact hF.lt
 have ZZ:z.fm.g<w.heap.size:=by obtain⟨_,_,hF,_⟩:=h.bs.ex;exact hF.row.lt _ rfl
 refine⟨h.n1,h.n3,h.Ma,h.id,h.nN.keep (U _ (.inl rfl)),λi hi=> ?_,h.ib.keep hs (λk e=>U k (.inr (.inr (.inr e)))),M,h.bl,λk e=>.inl (h.no k e),⟨λe=> ?_,λe=> ?_,λb hb e=> ?_⟩,h.sR,h.sB,h.sV,h.sI,h.Pq⟩
 ·have Z:=h.pt i hi;obtain⟨F,hC,hF⟩:=Z.wC;exact⟨⟨F,hC.keep (U _ (.inr (.inl rfl))),hF⟩,Z.lk.keep (U _ (.inr (.inr (.inl ⟨i,hi,.inl rfl⟩)))),Z.ou.keep hs (λx hx=>U x (.inr (.inr (.inl ⟨i,hi,.inr hx⟩)))),Z.few,Z.ok,Z.gB,Z.vg,Z.vB,Z.nz⟩
 ·rcases e with e|e
  ·exact h.nb.1 e
  ·have T:w.heap.size<=z.Bb:=(Y _ e).1;omega
 ·rcases e with e|e
  ·exact h.nb.2.1 e
  ·have T:w.heap.size<=z.fm.g:=(Y _ e).1;omega
 ·rcases e with e|e
  ·exact h.nb.2.2 b hb e
  ·have h9:=h.bs.mlt b hb;have T:=(Y _ e).1;omega
inductive Lab where
 |N
 |R
 |I
 |C
 |ib (i:Nat)
 |on (c d:Nat)
structure Yt where
 N:Nat
 gR:Nat
 sT:Nat
 gI:Nat
 xT:Nat
 gC:Option Nat
 vH:Nat
 bM:Nat
 z:Nat->Zt
 iv:Nat->dT
 ov:Nat->Nat->dT
 ext:Nat->Prop
def Yt.at(y:Yt):Lab->Option Nat
 | .N=>some y.N
 | .R=>some y.gR
 | .I=>some y.gI
 | .C=>y.gC
 | .ib i=>(y.iv i).ownBlock
 | .on c d=>(y.ov c d).ownBlock
def Yt.own(y:Yt)(k:Nat):Prop:=∃l,y.at l=μ k
def Zt.oJ(z:Zt)(k:Nat):Prop:=z.mine 3 k \/k=z.fm.bm \/k∈z.fm.bs
def Yt.away(y:Yt)(n i k:Nat):Prop:=y.own k \/y.ext k \/ ∃j,j<n/\j≠i/\(y.z j).oJ k
def Yt.all(y:Yt)(n k:Nat):Prop:=y.own k \/ ∃j,j<n/\(y.z j).oJ k
def Yt.cv(y:Yt)(nc:Nat):dT:=match y.gC with|none=>.slice none 0 0|some g=>.slice (some ⟨g,0,none⟩) nc y.vH
def BS(c:pT)(o:Nat->dT):Nat->dT:=λj=>
 if j=0 then ι κ (((c.e 0).1:Int)+1)else if j=1 then ι κ ((c.e 0).2:Int)else if j=2 then ι κ (((c.e 1).1:Int)+1)else if j=3 then ι κ ((c.e 1).2:Int)
 else if j=4 then .bool c.iR else if j=5 then o 0 else o 1
def vI(r p:Int):dT:=.agg #[ι κ r,ι κ p]
def nV(w:dR)(b:Nat)(E:List (Int×Int×Int)):Prop:=∃es clock,w.heap[b]? =μ (.map es clock)/\es.toList.map (λe=>(e.key,e.val))=E.map λx=>(vI x.1 x.2.1,.int .i64 x.2.2)
def Co(E:List (Int×Int×Int)):Prop:=∀x∈E,(1<=x.1/\x.1<=6/\0<=x.2.1/\x.2.1<=2)/\kJ E x.1 x.2.1=μ x.2.2
def Tw(E:List (Int×Int×Int))(n:Nat)(ms:Nat->Nat->Int):Prop:=(∀(i p:Nat),i<n->p<3->(kJ E ((i:Int)+1) (p:Int)).getD 1=ms i p/\1<=ms i p/\ms i p<=20)/\Co E
structure ju(w:dR)(y:Yt)(n:iI):Prop where
 n1:1<=n.n
 n6:n.n<=6
 c9:n.nc<=9
 nN:jc w y.N #[σ (μ ⟨y.gR,0,ν⟩) n.n y.sT,σ (μ ⟨y.gI,0,ν⟩) n.n y.xT,.map (μ y.bM),y.cv n.nc] 190
 rr:pP w y.gR 0 n.n (λi=>π (μ ⟨(y.z i).R,0,ν⟩))
 ri:pP w y.gI 0 n.n y.iv
 rc:∀g,y.gC=μ g->∀c,c<n.nc->pP w g (c*7) 7 (BS (n.C c) (y.ov c))
 gc:∀c,c<n.nc->∃g,y.gC=μ g
 mp:∃E,nV w y.bM E/\Tw E n.n n.ms
 rt:∀i,i<n.n->lJ w (y.z i) (n.R i)
 rn:∀i,i<n.n->(n.R i).n=3/\(n.R i).id=(i:Int)+1
 ib:∀i,i<n.n->Row w 3 (y.iv i) (n.jZ i).length (qS (n.jZ i))
 ob:∀c d,c<n.nc->d<2->Row w 1 (y.ov c d) ((n.C c).on d).length (iH ((n.C c).on d))
 ol:∀c d,c<n.nc->d<2->((n.C c).on d).length<=2000
 en:∀c d,c<n.nc->d<2->((n.C c).e d).1<n.n/\((n.C c).e d).2<3
 inj:∀l l' k,y.at l=μ k->y.at l'=μ k->l=l'
 away:∀i,i<n.n->∀k,y.away n.n i k->(y.z i).fm.no k/\¬(y.z i).mine 3 k
 nx:∀k,y.ext k->¬y.own k
 nM:¬y.own y.bM/\¬y.ext y.bM/\∀i,i<n.n->¬(y.z i).oJ y.bM
 z0:¬y.own 0
structure Yt.same(y y':Yt):Prop where
 N:y'.N=y.N
 gR:y'.gR=y.gR
 sT:y'.sT=y.sT
 gI:y'.gI=y.gI
 xT:y'.xT=y.xT
 gC:y'.gC=y.gC
 vH:y'.vH=y.vH
 bM:y'.bM=y.bM
theorem Yt.FV(y:Yt):y.same y:=⟨rfl,rfl,rfl,rfl,rfl,rfl,rfl,rfl⟩
theorem Yt.xU {a b c:Yt} (h:a.same b)(k:b.same c):a.same c:=⟨k.N.trans h.N,k.gR.trans h.gR,k.sT.trans h.sT,k.gI.trans h.gI,k.xT.trans h.xT,k.gC.trans h.gC,k.vH.trans h.vH,k.bM.trans h.bM⟩
structure xk(w w':dR)(y:Yt)(n:Nat):Prop where
 os:w'.os=w.os
 tape:w'.tape=w.tape
 output:w'.output=w.output
 size:w.heap.size<=w'.heap.size
 block:∀k,k<w.heap.size->¬y.all n k->w'.heap[k]? =w.heap[k]?
structure iy(w w':dR)(y:Yt)(n:iI)(m:Nat):Prop where
 ex:∃y',ju w' y' n/\y.same y'/\(∀k,y'.all m k->y.all m k \/w.heap.size<=k)/\(∀k,y'.ext k↔y.ext k)
 kept:xk w w' y m
theorem ju.lt {y:Yt} {n:iI} (h:ju w y n)(Z:y.own k \/y.ext k):k<w.heap.size:=by
 have Y:=(h.away 0 h.n1 k (Z.imp_right .inl)).1;exact(h.rt 0 h.n1).bs.Pf k Y
theorem ju.FX {y:Yt} {n:iI} (h:ju w y n):y.bM<w.heap.size:=by
 obtain⟨E,⟨es,clock,Z,_⟩,_⟩:=h.mp;exact(aw.1 Z).1
theorem ju.xV {y:Yt} {n:iI} (h:ju w y n)(hi:i<n.n)(Y:(y.z i).oJ k):k<w.heap.size:=by
 rcases Y with e|e|e
 ·have Z:=(h.rt i hi).zZ k;rw[(h.rn i hi).1]at Z;exact Z e
 ·exact(h.rt i hi).bs.mlt k (.inl e)
 ·exact(h.rt i hi).bs.mlt k (.inr e)
theorem ju.JR {y:Yt} {n:iI} (h:ju w y n)(hi:i<n.n)(X:y.away n.n i k):¬(y.z i).oJ k:=by
 obtain⟨Z,Y⟩:=h.away i hi k X;intro e;rcases e with e|e|e
 ·exact Y e
 ·exact(h.rt i hi).nb.2.2 k (.inl e) Z
 ·exact(h.rt i hi).nb.2.2 k (.inr e) Z
theorem ju.NN {y:Yt} {n:iI} (h:ju w y n)(hi:i<n.n)(Z:y.own k):¬(y.z i).oJ k:=h.JR hi (.inl Z)
theorem nV.keep {b:Nat} (h:nV w b E)(hb:w'.heap[b]? =w.heap[b]?):nV w' b E:=by
 obtain⟨es,clock,Y,Z⟩:=h;exact⟨es,clock,hb.trans Y,Z⟩
theorem xk.refl(w:dR)(y:Yt)(n:Nat):xk w w y n:=⟨rfl,rfl,rfl,Nat.le_refl _,λ_ _ _=>rfl⟩
theorem iy.refl {w:dR} {y:Yt} {n:iI} (h:ju w y n):iy w w y n n.n:=⟨⟨y,h,y.FV,λ_ e=>.inl e,λ_=>dP⟩,xk.refl w y n.n⟩
theorem iy.qf {a b c:dR} {y y':Yt} {n':iI} (h:xk a b y m)(H:y.same y')(T:∀k,y'.all m k->y.all m k \/a.heap.size<=k)(Q:∀k,y'.ext k↔y.ext k)(k:iy b c y' n' m):iy a c y n' m:=by
 obtain⟨⟨J,G,X,M,Y⟩,Z⟩:=k;refine⟨⟨J,G,Yt.xU H X,λx hx=> ?_,λx=>(Y x).trans (Q x)⟩,⟨Z.os.trans h.os,Z.tape.trans h.tape,Z.output.trans h.output,Nat.le_trans h.size Z.size,λx hx U=>(Z.block x (Nat.lt_of_lt_of_le hx h.size) (λe=> ?_)).trans (h.block x hx U)⟩⟩
 ·rcases M x hx with e|e
  ·exact T x e
  ·exact .inr (Nat.le_trans h.size e)
 ·rcases T x e with V|V
  ·exact U V
  ·omega
theorem iy.step {a b c:dR} {y:Yt} {n n':iI} (h:iy a b y n m)(k:∀y',ju b y' n->y.same y'->iy b c y' n' m):iy a c y n' m:=by
 obtain⟨⟨y',V,Z,U,Y⟩,X⟩:=h;exact iy.qf X Z U Y (k y' V Z)
theorem iy.call {y:Yt} {n n':iI} {E:Ending->Prop} (h:iy w W y n m)(k:∀Z,ju W Z n->y.same Z->eT eU f args W λe w'=>E e/\iy W w' Z n' m):eT eU f args W λe w'=>E e/\iy w w' y n' m:=by
 obtain⟨Z,T,Y,Q,X⟩:=h.ex;refine(k Z T Y).mono ?_;rintro e w' ⟨V,U⟩;exact⟨V,iy.qf h.kept Y Q X U⟩
theorem ju.Aa {y:Yt} {n:iI} (h:ju w y n)(hi:i<n.n)(hW:iw w w' (y.z i) r 3)(hr:r.n=3/\r.id=(i:Int)+1):iy w w' y (n.jq i r) n.n:=by
 obtain⟨⟨z',hR,hl,hm,kT⟩,H⟩:=hW;have NP:∀k,z'.oJ k->(y.z i).oJ k \/w.heap.size<=k:=by
  intro k V;rcases V with e|e|e
  ·exact(hm k e).imp_left .inl
  ·rw[hl.bm]at e;exact .inl (.inr (.inl e))
  ·rw[hl.bs]at e;exact .inl (.inr (.inr e))
 have A:∀k,k<w.heap.size->¬(y.z i).oJ k->w'.heap[k]? =w.heap[k]? :=λk V hf=>H.block k V (λe=>hf (.inl e)) (λe=>hf (.inr (.inl e))) (λe=>hf (.inr (.inr e)));have G:∀k,y.own k->w'.heap[k]? =w.heap[k]? :=λk e=>A k (h.lt (.inl e)) (h.NN hi e);obtain⟨X,KW⟩:∃X:Nat->Prop,X=λk=>w.heap.size<=k/\k<w'.heap.size/\z'.mine 3 k:=⟨_,rfl⟩
 have hX:∀k,X k->w.heap.size<=k/\k<w'.heap.size:=λk e=>by rw[KW]at e;exact⟨e.1,e.2.1⟩
 have adg:∀k,z'.mine 3 k->k<w'.heap.size:=λk e=>by
  have:=hR.zZ k;rw[hr.1]at this;exact this e
 obtain⟨Z,hZ⟩:∃Z:Nat->Zt,Z=λj=>if j=i then z' else(y.z j).plus X:=⟨_,rfl⟩
 have M:Z i=z':=by rw[hZ];simp
 have D:∀j,j≠i->Z j=(y.z j).plus X:=λj U=>by rw[hZ];simp[U]
 have hZR:∀j,(Z j).R=(y.z j).R:=λj=>by
  by_cases e:j=i
  ·subst e;rw[M];exact hl.R
  ·rw[D j e];rfl
 have Mi:∀j k,(Z j).oJ k->(y.z j).oJ k \/(j=i/\w.heap.size<=k/\z'.mine 3 k):=by
  intro j k V;by_cases e:j=i
  ·subst e;rw[M]at V;rcases V with Y|Y|Y
   ·rcases hm k Y with T|T
    ·exact .inl (.inl T)
    ·exact .inr ⟨rfl,T,Y⟩
   ·rw[hl.bm]at Y;exact .inl (.inr (.inl Y))
   ·rw[hl.bs]at Y;exact .inl (.inr (.inr Y))
  ·rw[D j e]at V;exact .inl V
 refine⟨⟨{y with z:=Z},⟨h.n1,h.n6,h.c9,h.nN.keep (G _ ⟨.N,rfl⟩),?_,h.ri.keep (G _ ⟨.I,rfl⟩),λg hg c hc=>(h.rc g hg c hc).keep (G _ ⟨.C,hg⟩),h.gc,?_,?_,?_,λj U=>(h.ib j U).keep H.size (λk V=>G k ⟨.ib j,V⟩),λc d hc hd=>(h.ob c d hc hd).keep H.size (λk V=>G k ⟨.on c d,V⟩),h.ol,h.en,h.inj,?_,h.nx,⟨h.nM.1,h.nM.2.1,?_⟩,h.z0⟩,⟨rfl,rfl,rfl,rfl,rfl,rfl,rfl,rfl⟩,?_,λ_=>dP⟩,⟨H.os,H.tape,H.output,H.size,λk V hn=>A k V (λe=>hn (.inr ⟨i,hi,e⟩))⟩⟩
 ·refine(h.rr.keep (G _ ⟨.R,rfl⟩)).congr λj _=> ?_;show Value.pointer (μ ⟨(y.z j).R,0,ν⟩)=π (μ ⟨(Z j).R,0,ν⟩);rw[hZR j]
 ·obtain⟨E,h1,h2⟩:=h.mp;exact⟨E,h1.keep (A _ h.FX (h.nM.2.2 i hi)),h2⟩
 ·intro j U;show lJ w' (Z j) (jK n.R i r j);by_cases e:j=i
  ·subst e;rw[M,iu];exact hR
  ·rw[D j e,iq _ _ e];refine(h.rt j U).besides H.size (λk V hc=>A k V (λef=> ?_)) X hX;have Q:=h.away j U k (.inr (.inr ⟨i,hi,λe'=>e e'.symm,ef⟩));rcases hc with hc|hc
   ·exact hc Q.1
   ·rw[(h.rn j U).1]at hc;exact Q.2 hc
 ·intro j U;show(jK n.R i r j).n=3/\(jK n.R i r j).id=(j:Int)+1;by_cases e:j=i
  ·subst e;rw[iu];exact hr
  ·rw[iq _ _ e];exact h.rn j U
 ·intro j U k V;show(Z j).fm.no k/\¬(Z j).mine 3 k;have hold:(y.own k \/y.ext k \/ ∃x,x<n.n/\x≠j/\(y.z x).oJ k) \/(j≠i/\w.heap.size<=k/\z'.mine 3 k):=by
   rcases V with e|e|⟨x,hx,jm,e⟩
   ·exact .inl (.inl e)
   ·exact .inl (.inr (.inl e))
   ·rcases Mi x k e with Y|⟨Y,T,e3⟩
    ·exact .inl (.inr (.inr ⟨x,hx,jm,Y⟩))
    ·exact .inr ⟨λe'=>jm (Y.trans e'.symm),T,e3⟩
  by_cases e:j=i
  ·subst e;rw[M];rcases hold with J|J
   ·have Q:=h.away j U k J;refine⟨kT k Q.1,λY=> ?_⟩;rcases hm k Y with T|T
    ·exact Q.2 T
    ·have:=(h.rt j U).bs.Pf k Q.1;omega
   ·exact absurd rfl J.1
  ·rw[D j e];rcases hold with J|J
   ·have Q:=h.away j U k J;exact⟨.inl Q.1,Q.2⟩
   ·refine⟨.inr ?_,λY=> ?_⟩
    ·rw[KW];exact⟨J.2.1,adg k J.2.2,J.2.2⟩
    ·have h1:k<w.heap.size:=h.xV U (.inl Y);omega
 ·intro j U e;rcases Mi j _ e with Y|⟨_,T,_⟩
  ·exact h.nM.2.2 j U Y
  ·have:=h.FX;have e2':w.heap.size<=y.bM:=T;omega
 ·intro k V;rcases V with e|⟨j,U,e⟩
  ·exact .inl (.inl e)
  ·rcases Mi j k e with Y|⟨_,T,_⟩
   ·exact .inl (.inr ⟨j,U,Y⟩)
   ·exact .inr T
open Go.ChangeMaps Go.MapKept
theorem JT:laidOutB eU=true:=gL
theorem Z7:192<eU.types.size:=of_decide_eq_true gL
theorem Wy:(match eU.underlying 192 with|some (.array _ _)|some (.struct _)=>true|_=>false)=true:=gL
theorem Mj:Maps.Keyed eU 192:=Maps.Keyed.of_law (deep_law_laid JT (m:=3) dU Z7 gL Wy)
theorem Wz:((fR 7).all λi=>(fR 4).all λj=>(keyOf eU 192 (vI (i:Int) (j:Int))).isSome)=true:=gL
theorem Ho {a b:Int} (h:1<=a/\a<=6/\0<=b/\b<=2):∃l,keyOf eU 192 (vI a b)=μ l:=by
 have Z:=aX.1 (aX.1 Wz a.toNat (aS.2 dU)) b.toNat (aS.2 dU);have Y:((a.toNat:Nat):Int)=a:=dU;have X:((b.toNat:Nat):Int)=b:=dU;rw[Y,X]at Z;exact Option.isSome_iff_exists.1 Z
theorem Tx {a b c d:Int} (h:vI a b=vI c d):a=c/\b=d:=by
 unfold vI at h;injection h with h
 have Z:=congrArg Array.toList h;simp at Z;exact Z
theorem DG:∀ {E:List (Int×Int×Int)} {r p:Int},(∀x∈E,¬(x.1=r/\x.2.1=p))->kJ E r p=ν
 |[],_,_,_=>rfl
 |x::E,r,p,h=>by
  unfold kJ;rw[ae (h x gO)];exact DG (λz Z=>h z (by simp[Z]))
theorem FY:∀ {E:List (Int×Int×Int)} {r p m:Int},kJ E r p=μ m->(r,p,m)∈E
 |[],_,_,_,h=>by simp[kJ]at h
 |x::E,r,p,m,h=>by
  unfold kJ at h;split at h
  ·rename_i hx
   have:=Option.some.inj h;have e:x=(r,p,m):=by
    obtain⟨x1,x2,x3⟩:=x;simp at hx this⊢;exact⟨hx.1,hx.2,this⟩
   rw[e];simp
  ·exact cS _ (FY h)
theorem Ml(E:List (Int×Int×Int))(x:Int×Int×Int)(r p:Int):kJ (E++ [x]) r p=match kJ E r p with|some m=>some m|none=>if x.1=r/\x.2.1=p then some x.2.2 else none:=by
 induction E with
 |nil=>
  show kJ [x] r p=_;unfold kJ;split<;>rfl
 |cons z E ih=>
  show kJ (z::(E++ [x])) r p=_;unfold kJ;split
  ·rfl
  ·exact ih
theorem Co.snoc(h:Co E) {x:Int×Int×Int} (hx:1<=x.1/\x.1<=6/\0<=x.2.1/\x.2.1<=2)(X:kJ E x.1 x.2.1=ν):Co (E++ [x]):=λz Y=>by
 rw[Ml];rcases av.1 Y with Z|Z
 ·have:=h z Z;exact⟨this.1,by rw[this.2]⟩
 ·have:z=x:=by simpa using Z
  subst this;exact⟨hx,by rw[X];simp⟩
theorem nV.find {w:dR} {b:Nat} {E:List (Int×Int×Int)} {es:Array MapEntry} {clock:Nat} (_hb:w.heap[b]? =μ (.map es clock))(Q:es.toList.map (λe=>(e.key,e.val))=E.map λx=>(vI x.1 x.2.1,.int .i64 x.2.2))(M:Co E) {r p:Int} (G:1<=r/\r<=6/\0<=p/\p<=2):
 (kJ E r p=ν/\(gb 192 (vI r p) es.toList).run eU w=.ok ν w) \/ ∃m j,kJ E r p=μ m/\(gb 192 (vI r p) es.toList).run eU w=.ok (μ (j,ι κ m)) w:=by
 obtain⟨l,hl⟩:=Ho G;have J:∀e∈es.toList,∃x∈E,e.key=vI x.1 x.2.1/\e.val=.int .i64 x.2.2:=λe V=>by
  have Z:(e.key,e.val)∈es.toList.map (λe=>(e.key,e.val)):=bH.2 ⟨e,V,rfl⟩;rw[Q]at Z;obtain⟨x,hx,Y⟩:=bH.1 Z;injection Y with U X
  exact⟨x,hx,U.symm,X.symm⟩
 have T:∀x∈E,∃e∈es.toList,e.key=vI x.1 x.2.1:=λx hx=>by
  have Z:(vI x.1 x.2.1,(ι κ x.2.2:dT))∈E.map λx=>(vI x.1 x.2.1,(ι κ x.2.2:dT)):=bH.2 ⟨x,hx,rfl⟩;rw[<-Q]at Z;obtain⟨e,V,Y⟩:=bH.1 Z;injection Y with U X
  exact⟨e,V,U⟩
 rcases Mj.find w hl es.toList (λe V=>by
  obtain⟨x,hx,Z,_⟩:=J e V;rw[Z];exact Ho (M x hx).1)with⟨Z,Y⟩|⟨j,e,Z,Y,U⟩
 ·left;refine⟨DG (λx hx hc=> ?_),Z⟩;obtain⟨e,V,X⟩:=T x hx;exact Y e V (by rw[X,hc.1,hc.2])
 ·right;obtain⟨x,hx,X,H⟩:=J e (bz Y);rw[U]at X;obtain⟨D,A⟩:=Tx X;refine⟨x.2.2,j,?_,by rw[Z,H]⟩;rw[D,A];exact(M x hx).2
theorem nV.look {b:Nat} (h:nV w b E)(U:Co E) {r p:Int} (X:1<=r/\r<=6/\0<=p/\p<=2):
 (e7 184 (.map (μ b)) (vI r p) true).run eU w=.ok (τ #[ι κ ((kJ E r p).getD 0),.bool (kJ E r p).isSome]) w:=by
 obtain⟨es,clock,hb,V⟩:=h;obtain⟨l,hl⟩:=Ho X;have T:(zeroValue 3).run eU w=.ok (ι κ 0) w:=gL;have hc:=Mj.check w es.isEmpty hl;unfold e7;simp only[fJ,run_underlying gg,eB,gh hb,Sem.run_pure,hc];rcases nV.find hb V U X with⟨Y,Z⟩|⟨m,j,Y,Z⟩
 ·simp only[Z,eB,fJ,T,Sem.run_pure,Y];rfl
 ·simp only[Z,eB,Y];rfl
theorem nV.store {b:Nat} (h:nV w b E)(U:Co E) {r p m:Int} (V:1<=r/\r<=6/\0<=p/\p<=2)(M:kJ E r p=ν):
 ∃w',(eY 184 (.map (μ b)) (vI r p) (ι κ m)).run eU w=.ok () w'/\nV w' b (E++ [(r,p,m)])/\w'.os=w.os/\w'.tape=w.tape/\w'.output=w.output/\w'.heap.size=w.heap.size/\∀k,k≠b->w'.heap[k]? =w.heap[k]? :=by
 obtain⟨es,clock,hb,Y⟩:=h;obtain⟨l,hl⟩:=Ho V;have hc:=Mj.check w false hl;have T:b<w.heap.size:=(aw.1 hb).1;rcases nV.find hb Y U V with⟨Z,X⟩|⟨m',j,Z,X⟩
 ·refine⟨{w with heap:=w.heap.setIfInBounds b (.map (es.push {key:=vI r p,val:=.int .i64 m,born:=clock}) (clock+1))},?_,⟨es.push {key:=vI r p,val:=.int .i64 m,born:=clock},clock+1,?_,?_⟩,rfl,rfl,rfl,gO,λk Q=> ?_⟩
  ·unfold eY;simp only[fJ,run_underlying gg,eB,gh hb,hc,X,Go.MapKept.run_setObj_map _ hb]
  ·simp[T]
  ·simp[Y]
  ·show(w.heap.setIfInBounds b _)[k]? =_;rw[Array.getElem?_setIfInBounds_ne (λe=>Q e.symm)]
 ·rw[M]at Z;simp at Z
theorem DH(r:iE):r.change.n=r.n:=by
 unfold iE.change iE.behind;split
 ·rfl
 ·split<;>rfl
theorem Ab(r:iE)(s:Int):(r.behind s).id=r.id:=by
 unfold iE.behind;split<;>rfl
theorem Ty(r:iE)(s:Int):(r.behind s).n=r.n:=by
 unfold iE.behind;split<;>rfl
theorem FZ(r:iE):r.change.id=r.id:=by
 unfold iE.change;split
 ·rfl
 ·exact Ab r _
theorem Ac(r:iE)(i:Nat)(q:kN):(r.meet i q).n=r.n:=by
 unfold iE.meet;simp only;split
 ·rfl
 ·split
  ·exact DH _
  ·exact DH _
theorem Cp(r:iE)(i:Nat)(q:kN):(r.meet i q).id=r.id:=by
 unfold iE.meet;simp only;split
 ·rfl
 ·split
  ·exact FZ _
  ·exact FZ _
section
variable {w W:World} {z:Zt} {r:iE} {n N:Nat} {C:Array Value} {t:TypeId}
theorem Tz(h:nU w W z r n N C t)(i:Nat)(hi:i<r.n):
 eT eU 124 #[π (μ ⟨z.Bb,0,ν⟩),ι κ (i:Int)] W λe w'=>e=ρ (τ #[])/\nU w w' z {r with O:=λx=>if x=i then λ_=>ν else r.O x} n N C t:=by
 have Y:=h.nn;subst Y;refine h.call rfl λX Z hl=> ?_;rw[<-hl.Bb];exact Tv X r i W Z hi
theorem Mm(h:nU w W z r n N C t)(V:kU r):
 eT eU 125 #[π (μ ⟨z.R,0,ν⟩)] W λe w'=>e=ρ (τ #[])/\nU w w' z r.change n N C t:=by
 have Y:=h.nn;subst Y;refine h.call (DH r) λZ X hl=> ?_;rw[<-hl.R];exact Mh Z r W X V
theorem TA(h:nU w W z r n N C t)(i:Nat)(hi:i<n):
 eT eU 126 #[π (μ ⟨z.Bb,0,ν⟩),ι κ (i:Int)] W λe w'=>e=ρ η/\iw w w' z {r with O:=λx=>if x=i then pQ (r.O i) r.K else r.O x} n:=by
 have Y:=h.nn;subst Y;refine h.went.call λX Z hl=> ?_;rw[<-hl.Bb];exact Py X r i W Z hi
end
theorem vJ(z:Zt)(r:iE)(i:Nat)(q:kN)(w:dR)(h:lJ w z r)(iF:kU r)(hi:i<r.n)(hq:nQ r.id q):
 eT eU 74 #[π (μ ⟨z.R,0,ν⟩),.int .i64 (i:Int),.agg #[.int .i64 q.who,.bool q.both,.int .i64 q.left]] w λe w'=>e=ρ (τ #[])/\iw w w' z (r.meet i q) r.n:=by
 have kB:(i:Int)<(r.n:Int):=dU;have KU:(0:Int)<=(i:Int):=dU;have hzp:=yF;obtain⟨p,hp⟩:=fW (r.P i);have ba:=gN w (γ #[.int .i64 q.who,.bool q.both,.int .i64 q.left] 116);have bb:=fY ba (gN (w.alloc (γ #[.int .i64 q.who,.bool q.both,.int .i64 q.left] 116)) (γ #[.int .i64 p.pe.who,.bool p.pe.both,.int .i64 p.pe.left] 116));have H:=h.below ba;have c1:=H.c1;have cl:=H.lt;have g1:=(H.pt i hi).c67;have g2:=(H.pt i hi).Wo;have g3:=(H.pt i hi).c69;have gl:=H.FQ;rw[hp]at g1 g2 g3;have R2:=h.below bb;have U:jc ((w.alloc (γ #[.int .i64 q.who,.bool q.both,.int .i64 q.left] 116)).alloc (γ #[.int .i64 p.pe.who,.bool p.pe.both,.int .i64 p.pe.left] 116)) w.heap.size #[.int .i64 q.who,.bool q.both,.int .i64 q.left] 116:=(jc.new w _ _).below (gN _ _);have V:jc ((w.alloc (γ #[.int .i64 q.who,.bool q.both,.int .i64 q.left] 116)).alloc (γ #[.int .i64 p.pe.who,.bool p.pe.both,.int .i64 p.pe.left] 116)) (w.heap.size+1) #[.int .i64 p.pe.who,.bool p.pe.both,.int .i64 p.pe.left] 116:=jc.IP _ _ _ _ gO;have HR:Hid _:=h;have TB:Hid _:=iF;have HP:Hid _:=hp;clear iF H hp
 go_in
 go_wp2_with(fail);obtain⟨Z,j0⟩:=fW ((w.alloc (γ #[.int .i64 q.who,.bool q.both,.int .i64 q.left] 116)).alloc (γ #[.int .i64 p.pe.who,.bool p.pe.both,.int .i64 p.pe.left] 116));rw[j0]at bb R2 U V;rw[j0];have M:¬z.mine r.n w.heap.size:=h.tK (Nat.le_refl _);have hgN:z.g<w.heap.size:=h.FQ;obtain⟨N,hN⟩:=fW (w.heap.size);rw[hN]at U V M hgN;rw[hN];have Rd:=R2.below (iP Z);have hPe:=(Rd.pt i hi).peer q;have G:=Rd.port hi hPe;have A:nU Z (((Z.drew.setCell ⟨z.g,i*71+67,ν⟩ (.int .i64 q.who)).setCell ⟨z.g,i*71+68,ν⟩ (.bool q.both)).setCell ⟨z.g,i*71+69,ν⟩ (.int .i64 q.left)) z (r.iK i {p with pe:=q}) r.n N #[.int .i64 q.who,.bool q.both,.int .i64 q.left] 116:=by
  rw[HP.out]at G;exact⟨iw.first R2 rfl (iP Z) (λ_=>G),((U.drew.other dU _).other dU _).other dU _,rfl,U.lt,M⟩
 have adi:jc (((Z.drew.setCell ⟨z.g,i*71+67,ν⟩ (.int .i64 q.who)).setCell ⟨z.g,i*71+68,ν⟩ (.bool q.both)).setCell ⟨z.g,i*71+69,ν⟩ (.int .i64 q.left)) (N+1) #[.int .i64 p.pe.who,.bool p.pe.both,.int .i64 p.pe.left] 116:=((V.drew.other dU _).other dU _).other dU _;have e1:=Rd.c1;have eg:=Rd.FQ;have el:=Rd.lt;have y0:Z.drew.cell? ⟨N,0,ν⟩=μ (ι κ q.who):=U.cell 0;have y1:Z.drew.cell? ⟨N,1,ν⟩=μ (.bool q.both):=U.cell 1;have y2:Z.drew.cell? ⟨N,2,ν⟩=μ (.int .i64 q.left):=U.cell 2;have x7:=(Rd.pt i hi).c67;have x8:=(Rd.pt i hi).Wo;have x9:=(Rd.pt i hi).c69;have f7:=(Rd.pt i hi).fz 67 dX;have f8:=(Rd.pt i hi).fz 68 dX;have f9:=(Rd.pt i hi).fz 69 dX;rw[HP.out]at x7 x8 x9;have hS:((Z.setCell ⟨z.g,i*71+67,ν⟩ (.int .i64 q.who)).drew.cell? ⟨z.g,i*71+67+1,ν⟩=μ (.bool p.pe.both)/\(Z.setCell ⟨z.g,i*71+67,ν⟩ (.int .i64 q.who)).drew.frozen? ⟨z.g,i*71+67+1,ν⟩=false)/\(((Z.setCell ⟨z.g,i*71+67,ν⟩ (.int .i64 q.who)).setCell ⟨z.g,i*71+67+1,ν⟩ (.bool q.both)).drew.cell? ⟨z.g,i*71+67+2,ν⟩=μ (.int .i64 p.pe.left)/\((Z.setCell ⟨z.g,i*71+67,ν⟩ (.int .i64 q.who)).setCell ⟨z.g,i*71+67+1,ν⟩ (.bool q.both)).drew.frozen? ⟨z.g,i*71+67+2,ν⟩=false):=by
  obtain⟨F,hC,_⟩:=(Rd.pt i hi).wC;rw[HP.out]at hC;have h1:=hC.set 67 dX (ι κ q.who);have h2:=h1.set 68 dX (.bool q.both);exact⟨⟨h1.cell 68 dX,h1.fz 68 dX⟩,h2.cell 69 dX,h2.fz 69 dX⟩
 obtain⟨⟨s1,s2⟩,s3,s4⟩:=hS;clear x8 x9 f8 f9;have Z8:Hid _:=bb;have HR2:Hid _:=R2;have HBs:Hid _:=A;have HQ:Hid _:=hq;clear h hq j0 Rd hPe G A bb R2 U V ba c1 cl g1 g2 g3 gl
 go_region
 obtain⟨T,nC⟩:=fW ((((Z.setCell ⟨z.g,i*71+67,ν⟩ (.int .i64 q.who)).setCell ⟨z.g,i*71+67+1,ν⟩ (.bool q.both)).setCell ⟨z.g,i*71+67+2,ν⟩ (.int .i64 q.left)).drew);rw[nC];have J:nU Z T z (r.iK i {p with pe:=q}) r.n N #[.int .i64 q.who,.bool q.both,.int .i64 q.left] 116:=by rw[<-nC];exact HBs.out
 have V:jc T (N+1) #[.int .i64 p.pe.who,.bool p.pe.both,.int .i64 p.pe.left] 116:=by rw[<-nC];exact adi
 have y0:T.cell? ⟨N,0,ν⟩=μ (ι κ q.who):=J.nN.cell 0;have y1:T.cell? ⟨N,1,ν⟩=μ (.bool q.both):=J.nN.cell 1;have u0:T.cell? ⟨N+1,0,ν⟩=μ (ι κ p.pe.who):=V.cell 0;have u1:T.cell? ⟨N+1,1,ν⟩=μ (.bool p.pe.both):=V.cell 1;have nl:=J.nN.lt;have nl6:=V.lt;have d2:=J.went.c2;have dl:=J.went.lt;have FA:Hid _:=J;have X:Hid (r.meet i q=if q.who=p.pe.who/\q.both=p.pe.both then r.iK i {p with pe:=q}else if q.both=true then {(({r.iK i {p with pe:=q}with O:=λx=>if x=i then λ_=>ν else r.O x}:iE).change)with O:=λx=>if x=i then pQ ((({r.iK i {p with pe:=q}with O:=λx=>if x=i then λ_=>ν else r.O x}:iE).change).O i) (({r.iK i {p with pe:=q}with O:=λx=>if x=i then λ_=>ν else r.O x}:iE).change).K else(({r.iK i {p with pe:=q}with O:=λx=>if x=i then λ_=>ν else r.O x}:iE).change).O x}else({r.iK i {p with pe:=q}with O:=λx=>if x=i then λ_=>ν else r.O x}:iE).change):=by
  show _=_;unfold iE.meet;rw[HP.out];rfl
 obtain⟨r1,kQ⟩:=fW (r.iK i {p with pe:=q});have kK:kU r1:=by rw[<-kQ];exact TB.out.iK i _ (by rw[HP.out]) (λ_=>HQ.out)
 have l9:r1.n=r.n:=by rw[<-kQ];rfl
 have hO1:r1.O=r.O:=by rw[<-kQ];rfl
 rw[kQ]at FA X;rw[<-hO1]at X;have D:Hid (∀W rr,iw Z W z rr r.n->iw w W z rr r.n):=λW rr hw=>iw.first HR.out rfl Z8.out (λ_=>hw);have BU:Hid _:=kK;have HN1:Hid _:=l9;clear nC J V adi kQ kK l9 hO1 HBs HP HQ TB s1 s2 s3 s4 x7 f7 e1 eg el HR2 Z8 HR hgN M hzp;by_cases hs:q.who=p.pe.who/\q.both=p.pe.both
 ·have q1:(q.who==p.pe.who)=true:=by simp[hs.1]
  have q2:(q.both==p.pe.both)=true:=by simp[hs.2]
  have HE:Hid (iw w T z (r.meet i q) r.n):=by
   show iw _ _ _ _ _;rw[X.out,ag hs];exact D.out _ _ FA.out.went
  clear hs X D FA
  go_wp2
  first|go_end0|refine iC rfl rfl ?_
  exact⟨rfl,HE.out⟩
 ·obtain⟨Y,rB⟩:∃Y:iE,({r1 with O:=λx=>if x=i then λ_=>ν else r1.O x}:iE)=Y:=⟨_,rfl⟩
  have Yj:eT eU 124 #[π (μ ⟨z.Bb,0,ν⟩),.int .i64 (i:Int)] T λe w'=>e=ρ (τ #[])/\nU Z w' z Y r.n N #[.int .i64 q.who,.bool q.both,.int .i64 q.left] 116:=by
   refine(Tz FA.out i (by rw[HN1.out];exact hi)).mono ?_;rintro e w3 ⟨rfl,hw⟩;exact⟨rfl,by rw[<-rB];exact hw⟩
  have hch:Hid (∀W,nU Z W z Y r.n N #[.int .i64 q.who,.bool q.both,.int .i64 q.left] 116->eT eU 125 #[π (μ ⟨z.R,0,ν⟩)] W λe w'=>e=ρ (τ #[])/\nU Z w' z Y.change r.n N #[.int .i64 q.who,.bool q.both,.int .i64 q.left] 116):=by
   intro W G;have TC:kU Y:=by rw[<-rB];exact BU.out.xR _
   exact Mm G TC
  have Hp:Hid (∀W,nU Z W z Y.change r.n N #[.int .i64 q.who,.bool q.both,.int .i64 q.left] 116->eT eU 126 #[π (μ ⟨z.Bb,0,ν⟩),.int .i64 (i:Int)] W λe w'=>e=ρ η/\iw Z w' z {Y.change with O:=λx=>if x=i then pQ (Y.change.O i) Y.change.K else Y.change.O x} r.n):=by
   intro W G;exact TA G i hi
  rw[ae hs,rB]at X;have HNE:Hid ((q.who==p.pe.who)=false \/(q.who==p.pe.who)=true/\(q.both==p.pe.both)=false):=by
   show _ \/_;cases h1:(q.who==p.pe.who)
   ·exact .inl rfl
   ·refine .inr ⟨rfl,?_⟩;cases h2:(q.both==p.pe.both)
    ·rfl
    ·exact absurd ⟨by simpa using h1,by simpa using h2⟩ hs
  clear hs rB BU HN1;rcases HNE.out with q1|⟨q1,q2⟩
  all_goals
   clear HNE;go_wp2_with(fail);refine Yj.mono ?_;rintro e W3 ⟨rfl,Q9⟩;have y:=hch.out _ Q9;clear Yj hch Q9 FA y0 y1 u0 u1 nl nl6 d2 dl;go_wp2_with(fail);refine y.mono ?_;rintro e W4 ⟨rfl,Q⟩;have y1:W4.cell? ⟨N,1,ν⟩=μ (.bool q.both):=Q.nN.cell 1;have nl:=Q.nN.lt;have d2:=Q.went.c2;have dl:=Q.went.lt;clear y;cases hb:q.both with
   |false=>
    rw[hb]at y1;have HE:Hid (iw w W4 z (r.meet i q) r.n):=by
     show iw _ _ _ _ _;rw[X.out,hb,ae gO];exact D.out _ _ Q.went
    clear X D Hp Q
    go_wp2
    first|go_end0|refine iC rfl rfl ?_
    exact⟨rfl,HE.out⟩
   |true=>
    rw[hb]at y1;have hm5:=Hp.out _ Q;have HE:Hid (∀W,iw Z W z {Y.change with O:=λx=>if x=i then pQ (Y.change.O i) Y.change.K else Y.change.O x} r.n->iw w W z (r.meet i q) r.n):=by
     intro W hw;rw[X.out,hb,ag rfl];exact D.out _ _ hw
    clear X D Hp Q;go_wp2_with(fail);refine hm5.mono ?_;rintro e W5 ⟨rfl,IC⟩;have K3:=HE.out _ IC;clear hm5 IC
    go_wp2
    first|go_end0|refine iC rfl rfl ?_
    exact⟨rfl,K3⟩
theorem Hq(C:mU)(r:Nat):(yD C r).length<=7:=vu _ _
theorem F8(z:Zt)(r:iE)(w:dR)(h:lJ w z r)(y:Wt r.K):
 eT eU 64 #[π (μ ⟨z.R,0,ν⟩)] w λe w'=>∃b c,e=ρ (σ b (pj r).length c)/\HsN w w' b (pj r).length (pj r)/\eh w w':=by
 have V:=h.below (iP w);have G:r.id=((r.id.toNat:Nat):Int):=by have:=h.id;omega
 have X:eT eU 110 #[π (μ ⟨z.Bb,0,ν⟩)] w.drew λe w'=>∃a n cap,e=ρ (σ a n cap)/\(∀W,eh w' W->eT eU 116 #[σ a n cap,ι κ r.id] W λe Y=>∃b c,e=ρ (σ b (pj r).length c)/\HsN w Y b (pj r).length (pj r)/\eh w Y/\(Y.cell? ⟨z.R,0,ν⟩=μ (ι κ r.id)/\Y.cell? ⟨z.R,2,ν⟩=μ (π (μ ⟨z.Bb,0,ν⟩))))/\(w'.cell? ⟨z.R,0,ν⟩=μ (ι κ r.id)/\w'.cell? ⟨z.R,2,ν⟩=μ (π (μ ⟨z.Bb,0,ν⟩))):=by
  refine(A3 z.Bb z.fm 6 r.K r.O w.drew V.bs).mono ?_;rintro e w1 ⟨a,n,cap,S,E,rfl,hS,A,h6,_,b1⟩;have M:=V.below b1;refine⟨a,n,cap,rfl,λW Q=> ?_,M.c0,M.c2⟩;have hh:=SG a n cap S E r.id.toNat W (hS.below Q) dU A.ok (by have:=h.id;omega) (by have:=h.id;omega);rw[<-G]at hh;rw[oH.grid A y]at hh;refine hh.mono ?_;rintro e Y ⟨b,c,rfl,U,b2⟩;have J:=(M.below Q).below b2;exact⟨b,c,rfl,⟨U.r,λx e=>Nat.le_trans (fY (fY (iP w) b1) Q).size (U.nw x e)⟩,fY (fY (fY (iP w) b1) Q) b2,J.c0,J.c2⟩
 have Z:=And.intro V.c0 V.c2;generalize pj r=L at X⊢;generalize z.R=T at X Z⊢;generalize z.Bb=Bb at X Z;generalize r.id=id at X Z;clear h V G;have Z:w.drew.cell? ⟨T,0,ν⟩=μ (ι κ id)/\w.drew.cell? ⟨T,2,ν⟩=μ (π (μ ⟨Bb,0,ν⟩)):=Z
 go_in
 go_wp2
 go_region_held3(λx=>x.cell? ⟨T,0,ν⟩=μ (ι κ id)/\x.cell? ⟨T,2,ν⟩=μ (π (μ ⟨Bb,0,ν⟩)))
  (first|assumption|exact Z|exact D|exact H)
  (first
   |(go_at_call 110;refine X.mono ?_;rintro e w1 ⟨a,n,cap,rfl,hh,D⟩)
   |(go_at_call 116;refine(hh _ (au _ _)).mono ?_;rintro e Y ⟨b,c,rfl,U,b2,H⟩))
 all_goals
  have HH:Hid _:=U;clear X hh Z D H U
  go_wp2
  go_ret
  first|exact⟨b,c,rfl,HH.out,b2⟩|exact⟨b,⟨c,rfl,HH.out,b2⟩⟩
def WB(r:iE)(t h:Int):Option Nat:=if 1<=h then(zN (pj r) t).bind λx=>jX r.P x.uF r.n else ν
def rQ(F:Int->Option PS)(j m:Nat):List (Int×PS):=(List.range' j m).filterMap λ(j:Nat)=>(F ((j:Int)+1)).map λq=>((j:Int)+1,q)
theorem Mn(F:Int->Option PS):kO F=rQ F 0 6:=by unfold kO rQ;rw[cT]
theorem sU {F:Int->Option PS} {n:Nat} {S:Nat->SV} {E:Nat->List jG} (h:oH F n S E):∀(m j k:Nat),j+m=6->k<=n->(∀i,i<k->(S i).own<=j)->(∀i,k<=i->i<n->(j:Int)<(S i).own)->rQ F j m=(List.range' k (n-k)).map λi=>((S i).own,((S i).seq,E i))
 |0,j,k,hj,hk,h1,h2=>by
  have:n-k=0:=by
   by_cases e:k<n
   ·have Y:=h2 k (Nat.le_refl _) e;have Z:=(jw (h.ok k e)).1;omega
   ·omega
  rw[this];rfl
 |m+1,j,k,hj,hk,h1,h2=>by
  have e:rQ F j (m+1)=(match F ((j:Int)+1)with|none=>rQ F (j+1) m|some q=>((j:Int)+1,q)::rQ F (j+1) m):=by
   unfold rQ;rw[dv,bh];cases F ((j:Int)+1)<;>simp
  rw[e];cases hF:F ((j:Int)+1)with
  |none=>
   simp only;refine sU h m (j+1) k dU hk (λi hi=>by have:=h1 i hi;omega) (λi Y Z=> ?_);have h5:=h2 i Y Z;have h6:(S i).own≠(j:Int)+1:=λe=>by
    have:=(h.at_ i Z).2;rw[e,hF]at this;cases this
   omega
  |some q=>
   simp only;obtain⟨i,hi,U⟩:=h.all ((j:Int)+1) ⟨dU,dU⟩ (by rw[hF];rfl);have hki:k<=i:=by
    by_cases e:i<k
    ·have:=h1 i e;omega
    ·omega
   have X:i=k:=by
    by_cases e:i=k
    ·exact e
    ·have Y:=h.KT k i dU hi;have Z:=h2 k (Nat.le_refl _) dU;omega
   subst X;have V:=(h.at_ i hi).2;rw[U,hF]at V;have T:=Option.some.inj V;have en:n-i=(n-(i+1))+1:=dU;rw[en,dv,List.map_cons,U,<-T];congr 1;refine sU h m (j+1) (i+1) dU dU (λx hx=> ?_) (λx Y Z=> ?_)
   ·by_cases e:x=i
    ·subst e;omega
    ·have:=h1 x dU;omega
   ·have:=h.KT i x dU Z;omega
theorem Pz {F:Int->Option PS} {S:Nat->SV} {E:Nat->List jG} (h:oH F n S E):kO F=(fR n).map λi=>((S i).own,((S i).seq,E i)):=by
 rw[Mn,sU h 6 0 0 rfl (Nat.zero_le _) (λi hi=>dU) (λi _ hi=>by have:=(jw (h.ok i hi)).1;omega),cT];rfl
theorem TD(B:Nat)(m:FM)(k:Nat)(K:Int->Option PS)(O:Nat->Int->Option PS)(p:Nat)(w:dR)(h:BR w B m k K O)(Z:p<m.bs.length):
 eT eU 151 #[π (μ ⟨B,0,ν⟩),ι κ (p:Int)] w λe w'=>∃a n cap S E,e=ρ (σ a n cap)/\qQ w' a n S E/\oH (O p) n S E/\n<=6/\(∀j,dV (σ a n cap)=μ j->w.heap.size<j)/\(∀i,i<n->∀j,dV (σ (S i).a (S i).n (S i).cap)=μ j->w.heap.size<j)/\eh w w':=by
 obtain⟨kn,ow,hF,hT,X⟩:=h.ex;refine(S9 B m k kn ow (mA (O p)) p w hF Z (X p Z).fine).mono ?_;rintro e w1 ⟨v,ts,rfl,Y⟩;obtain⟨a,cap,rfl,T,V,M,Q⟩:=Y.lists (X p Z);refine⟨a,ts.length,cap,_,_,rfl,T,V,M,Q,λi hi j U=> ?_,Y.ny⟩;have J:ts.getD i SV.zero∈ts:=by
  have:ts.getD i SV.zero=ts[i] :=by simp[List.getD,hi]
  rw[this];exact aK hi
 exact((Y.el _ J).new j U).1
theorem pv {l:List UInt8} {own seq:Int} {os:List jG} (h:il l=(own,seq,os,0)):oD own seq os=0:=by
 unfold il at h;split at h
 ·simp at h
 ·split at h
  ·rename_i Z
   simp only[Prod.mk.injEq,and_true]at h;obtain⟨rfl,rfl,rfl⟩:=h;exact Z
  ·simp at h
theorem Mp(z:Zt)(r:iE)(i:Nat)(own seq:Int)(a:Option Addr)(n cap:Nat)(es:List jG)(w:dR)(h:lJ w z r)(hi:i<r.n)(Z:iU w a n es)(hf:oD own seq es=0):
 eT eU 191 #[π (μ ⟨z.Bb,0,ν⟩),ι κ (i:Int),.agg #[ι κ own,ι κ seq,σ a n cap]] w λe w'=>e=ρ η/\iw w w' z {r with O:=λx=>if x=i/\0<=newF r.K own seq es then xN (r.O i) own else r.O x} r.n:=by
 refine(L8 z.Bb z.fm 6 r.K r.O i own seq a n cap es w h.bs (rD (by have:=(jw hf).1;omega)) (by rw[h.bl];exact hi) Z hf (λ_=>CP _ _ _ _)).mono ?_;rintro e w1 ⟨rfl,X,Y⟩;exact⟨rfl,h.base X Y⟩
def kd(r:iE)(i:Nat)(l:List UInt8):iE:=
 let q:=St.il l
 if q.2.2.2=0 then {r with O:=λx=>if x=i/\0<=newF r.K q.1 q.2.1 q.2.2.1 then xN (r.O i) q.1 else r.O x}else r
theorem EZ(s:ByteArray)(z:Zt)(r:iE)(i:Nat)(w:dR)(h:lJ w z r)(hi:i<r.n)(hs:s.size<=1000):
 eT eU 136 #[π (μ ⟨z.R,0,ν⟩),ι κ (i:Int),.string s] w λe w'=>e=ρ (τ #[])/\iw w w' z (kd r i s.data.toList) r.n:=by
 have hp:=DC s w (by unfold maxLen;omega);have G:Hid _:=h;clear h
 go_in
 go_wp2_with(fail);refine hp.mono ?_;rintro e w1 ⟨a,n,cap,f,own,seq,os,rfl,A,D,V,b1,j5⟩;clear hp;by_cases hf:f=0
 ·subst hf;have e0:jb 0=η:=rfl;rw[e0];have jY:=pv V;have U:kd r i s.data.toList={r with O:=λx=>if x=i/\0<=newF r.K own seq os then xN (r.O i) own else r.O x}:=by
   unfold kd;rw[V];rfl
  have ba:=gN w1 (γ #[ι κ own,ι κ seq,σ a n cap] 40);have hA:=λj=>aj w1 #[ι κ own,ι κ seq,σ a n cap] 40 (0,0) j;have b2:=fY b1 (fY ba (iP _));have J:=G.out.below b2;have hh:=Mp z r i own seq a n cap os _ J hi (A.below (fY ba (iP _))) jY;have Y:eT eU 191 #[π (μ ⟨z.Bb,0,ν⟩),ι κ (i:Int),.agg #[ι κ own,ι κ seq,σ a n cap]] (w1.alloc (γ #[ι κ own,ι κ seq,σ a n cap] 40)).drew λe w'=>e=ρ η/\iw w w' z (kd r i s.data.toList) r.n:=by
   refine hh.mono ?_;rintro e w3 ⟨rfl,hw⟩;exact⟨rfl,by rw[U];exact iw.first G.out rfl b2 (λ_=>hw)⟩
  have c2:=J.c2;have cl:=J.lt;obtain⟨M,X⟩:=fW (w1.alloc (γ #[ι κ own,ι κ seq,σ a n cap] 40));obtain⟨Z,Q⟩:=fW (w1.heap.size);rw[X]at Y c2 cl;have d0:M.drew.cell? ⟨Z,0,ν⟩=μ (ι κ own):=by rw[<-X,<-Q];exact hA 0
  have d1:M.drew.cell? ⟨Z,1,ν⟩=μ (ι κ seq):=by rw[<-X,<-Q];exact hA 1
  have d2:M.drew.cell? ⟨Z,2,ν⟩=μ (σ a n cap):=by rw[<-X,<-Q];exact hA 2
  have zl:Z<M.drew.heap.size:=af _ _ d0;obtain⟨T,y⟩:∃T:dR->Prop,(λx=>iw w x z (kd r i s.data.toList) r.n)=T:=⟨_,rfl⟩
  have H:∀x,iw w x z (kd r i s.data.toList) r.n=T x:=λx=>bY y x;simp only[H]at Y;have HT:Hid _:=H;clear hh hA ba b2 J A V jY U D j5 b1 y H;go_wp2_with(fail)
  try rw[X]
  try rw[Q]
  clear X Q
  go_region_with(go_at_call 191;refine Y.mono ?_;rintro e w3 ⟨rfl,hW⟩)
  all_goals
   clear Y
   go_wp2
   first|go_end0|refine iC rfl rfl ?_
   exact⟨rfl,by rw[HT.out];exact hW⟩
 ·have ee:jb f=.iface 128 (ι κ (f:Int)):=by simp only[jb];rw[ae hf]
  rw[ee];have U:kd r i s.data.toList=r:=by
   unfold kd;rw[V];simp only;rw[ae hf]
  have HW:Hid (iw w (w1.alloc (γ #[ι κ own,ι κ seq,σ a n cap] 40)) z (kd r i s.data.toList) r.n):=by
   show iw _ _ _ _ _;rw[U];exact iw.still G.out (fY b1 (gN _ _))
  clear V A hf ee U
  go_wp2
  first|go_end0|refine iC rfl rfl ?_
  exact⟨rfl,HW.out⟩
