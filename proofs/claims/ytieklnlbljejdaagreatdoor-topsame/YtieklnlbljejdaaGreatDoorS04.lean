import Derived.Test.YtieklnlbljejdaaGreatDoorS03
open Go.Value renaming int → ι, slice → σ, pointer → π, tuple → τ, nilIface → η, ownBlock → eD
open Go.IntKind renaming i64 → κ
open Go.Ending renaming returned → ρ
open Go.Obj renaming cells → γ
open Option renaming none → ν, some → μ
open Go renaming Value → eA, World → ew, Addr → eh, Calls → fc
open Go.Proofs.Tryz renaming prog → fe
open List renaming range → ft, map_cons → eQ, setIfInBounds_toArray → gS, set_cons_zero → gT, set_cons_succ → gU, take → gX
open Go.Instr renaming findKey → gN, lookup → fF, mapUpdate → fD
open Go.Sem renaming run_bind → fT, run_pure → fU
open Go.Result renaming andThen_ok → eO
open Go.MapKept renaming run_getObj_map → gO
open Prod.mk renaming injEq → fC
open Go.Act renaming put → gQ
open Go.Region renaming wanted → eT
open Go.World renaming frozen? → gW
set_option maxRecDepth 100000
set_option maxHeartbeats 8000000
open Go.Proofs.Tryz
namespace Go.Proofs.YtieklnlbljejdaaGreatDoor
open Go.RowKit St
namespace Rt
variable {C args:Array Value} {E:List (Int×Int×Int)} {N d g i j k m n:Nat} {W a b c w w' x:World} {es:List jQ} {f:FuncId} {l:List UInt8} {o:Obj} {ov:Nat->Value} {p q:Addr} {r r' r0:iW} {seq:Int} {t:TypeId} {u v:Value} {α:Type}
theorem sW {k:Int} (h: -1000000<=k/\k<=1000000):sd k:=⟨eB,eB⟩
theorem P8(K:Int->Option PS)(i:Int):Bw K i=nj K i:=by
 unfold Bw nj;cases K i<;>rfl
theorem P9(K:Int->Option PS)(i:Int):y8 K i=qV K i:=by
 unfold y8 qV;cases K i<;>rfl
theorem kV(h:w.cell? p=μ v):(w.alloc o).cell? p=μ v:=by
 rw[World.cell?_alloc_lt];{exact h};{exact ag w _ h}
theorem oS(h:w.cell? p=μ u/\w.cell? q=μ v):(w.alloc o).cell? p=μ u/\(w.alloc o).cell? q=μ v:=⟨kV h.1,kV h.2⟩
theorem E7 {x:eA} (h:w.cell? p=μ v)(Z:p.block≠N):(w.setCell ⟨N,j,ν⟩ x).cell? p=μ v:=by
 rw[aj (w:=w) (aq _ _ _ _ Z)];exact h
theorem qw {a b c:eA} (h:w.cell? p=μ v)(Z:p.block≠N):(((w.setCell ⟨N,0,ν⟩ a).setCell ⟨N,1,ν⟩ b).setCell ⟨N,2,ν⟩ c).cell? p=μ v:=E7 (E7 (E7 h Z) Z) Z
theorem vC {a b c:eA} (h:w.cell? p=μ u/\w.cell? q=μ v)(Z:p.block≠N)(Y:q.block≠N):(((w.setCell ⟨N,0,ν⟩ a).setCell ⟨N,1,ν⟩ b).setCell ⟨N,2,ν⟩ c).cell? p=μ u/\(((w.setCell ⟨N,0,ν⟩ a).setCell ⟨N,1,ν⟩ b).setCell ⟨N,2,ν⟩ c).cell? q=μ v:=⟨qw h.1 Z,qw h.2 Y⟩
theorem vD {a b c:eA} (hC:ji x N C t)(V:C.size=3)(Z:w.heap.size<=N)(hb:eH w x):
 (((x.setCell ⟨N,0,ν⟩ a).setCell ⟨N,1,ν⟩ b).setCell ⟨N,2,ν⟩ c).cell? ⟨N,1,ν⟩=μ b/\(((x.setCell ⟨N,0,ν⟩ a).setCell ⟨N,1,ν⟩ b).setCell ⟨N,2,ν⟩ c).cell? ⟨N,2,ν⟩=μ c/\eH w (((x.setCell ⟨N,0,ν⟩ a).setCell ⟨N,1,ν⟩ b).setCell ⟨N,2,ν⟩ c)/\∀j,j≠N->(((x.setCell ⟨N,0,ν⟩ a).setCell ⟨N,1,ν⟩ b).setCell ⟨N,2,ν⟩ c).heap[j]? =x.heap[j]? :=by
 have X:=((hC.set 0 a).set 1 b).set 2 c;refine⟨?_,?_,((hb.setCell (p:=⟨N,0,ν⟩) Z a).setCell (p:=⟨N,1,ν⟩) Z b).setCell (p:=⟨N,2,ν⟩) Z c,λj Y=> ?_⟩;{rw[X.cell 1];simp[V]};{rw[X.cell 2];simp[V]};{rw[aq _ _ _ _ Y,aq _ _ _ _ Y,aq _ _ _ _ Y]}
theorem jm.not_zero {x':ew} {a:Option eh} (h:jm x a n es)(S:ji x N #[ι κ 0,ι κ 0,σ ν 0 0] t)(Q:∀e∈es,1<=e.1)(U:∀j,j≠N->x'.heap[j]? =x.heap[j]?):jm x' a n es:=by
 refine⟨h.1,?_⟩;rcases h.2 with Y|⟨b,off,rfl,Y⟩
 ·exact .inl Y
 ·by_cases T:n=0;{exact .inl T}
  ·have hl:0<es.length:=by have:=h.1;omega
   have X:b≠N:=by
    intro e;subst e;have Z:=(Y 0 hl).1;rw[S.cell]at Z;have h4:=Q es[0] (aF hl);have:off+0*2=0 \/off+0*2=1 \/off+0*2=2 \/3<=off+0*2:=eB;rcases this with e|e|e|e
    {rw[e]at Z;simp at Z;omega};{rw[e]at Z;simp at Z;omega};{rw[e]at Z;simp at Z};{rw[bh (by simpa using e)]at Z;cases Z}
   exact .inr ⟨b,off,rfl,λj V=>⟨(aj (a:=⟨b,_,ν⟩) (U b X)).trans (Y j V).1,(aj (a:=⟨b,_,ν⟩) (U b X)).trans (Y j V).2⟩⟩
theorem jl(w:ew):eH w w.drew:=jK (au _ _)
theorem E8(z:Zt)(r:iW)(seq:Int)(w:ew)(h:mM w z r)(J:lM r)(hs:0<=seq/\seq<=1000000):
 fc fe 180 #[π (μ ⟨z.R,0,ν⟩),ι κ seq] w λe w'=>e=ρ (τ #[])/\iP w w' z (r.behind seq) r.n:=by
 by_cases kL:seq<1000000
 ·have Q:Hid (r.behind seq=r.EP (seq+1) (jJ r)):=by
   show _=_;unfold iW.behind;rw[ai kL]
  have X:=h.below (jl w);have he:=EY z r w.drew X;have V:∀(w1:ew) (a:Option eh) (cap:Nat),Made w.drew w1 (σ a (jJ r).length cap) (jJ r)->kY a cap->fc fe 67 #[π (μ ⟨z.Bb,0,ν⟩),.agg #[ι κ r.id,ι κ (seq+1),σ a (jJ r).length cap]] w1 λe w'=>e=ρ η/\iP w w' z (r.behind seq) r.n/\(w'.cell? ⟨z.R,0,ν⟩=μ (ι κ r.id)/\w'.cell? ⟨z.R,2,ν⟩=μ (π (μ ⟨z.Bb,0,ν⟩))):=by
   intro w1 a cap Z S;have Y:=X.below Z.below;refine(Lb z.Bb z.fm 6 r.K r.O r.id (seq+1) a (jJ r).length cap (jJ r) w1 Y.bs (sW (by have:=J.id;omega)) Z.opts.2 S eB (Ah J eB)).mono ?_;rintro e w2 ⟨rfl,hB,H⟩;refine⟨rfl,?_,jP.cell H Y.bs Y.c0,jP.cell H Y.bs Y.c2⟩;rw[Q.out];exact iP.first h rfl (fP (jl w) Z.below) (λ_=>Y.base hB H)
  have U:fc fe 179 #[π (μ ⟨z.R,0,ν⟩)] w.drew λe w'=>∃a cap,e=ρ (σ a (jJ r).length cap)/\Made w.drew w' (σ a (jJ r).length cap) (jJ r)/\kY a cap/\(w'.cell? ⟨z.R,0,ν⟩=μ (ι κ r.id)/\w'.cell? ⟨z.R,2,ν⟩=μ (π (μ ⟨z.Bb,0,ν⟩))):=by
   refine he.mono ?_;rintro e w1 ⟨v,rfl,Z⟩;obtain⟨a,cap,rfl,S,hle⟩:=Z.shape;have Y:=X.below Z.below;exact⟨a,cap,rfl,Z,S,Y.c0,Y.c2⟩
  have c0:=X.c0;have c2:=X.c2;have cl:=X.lt;have TU:=hs.1;obtain⟨n,hn⟩:∃n:ew->Prop,(λx=>iP w x z (r.behind seq) r.n)=n:=⟨_,rfl⟩
  have T:∀x,iP w x z (r.behind seq) r.n=n x:=λx=>cy hn x;simp only[T]at V⊢;generalize jJ r=es at V U;generalize z.R=M at V U c0 c2 cl⊢;generalize z.Bb=Bb at V U c2;generalize r.id=id at V U c0;clear h J X hs he Q hn T;have X8:κ.wrap (seq+1)=seq+1:=aS _ ⟨eB,eB⟩;have G:w.drew.cell? ⟨M,0,ν⟩=μ (ι κ id)/\w.drew.cell? ⟨M,2,ν⟩=μ (π (μ ⟨Bb,0,ν⟩)):=⟨c0,c2⟩
  go_in
  go_wp2
  go_region_held3(λx=>x.cell? ⟨M,0,ν⟩=μ (ι κ id)/\x.cell? ⟨M,2,ν⟩=μ (π (μ ⟨Bb,0,ν⟩)))
   (first|assumption|exact G|exact D|exact A)
   (first
    |(go_at_call 179;refine U.mono ?_;rintro e w1 ⟨a,cap,rfl,Z,S,D⟩;have HM:Hid _:=Z;clear Z)
    |(go_at_call 67;refine(V _ _ _ HM.out S).mono ?_;rintro e w2 ⟨rfl,nK,A⟩))
  all_goals
   clear V G D A
   go_wp2
   first|go_end0|refine iX rfl rfl ?_
   exact⟨rfl,nK⟩
 ·have Q:Hid (r.behind seq=r):=by
   show _=_;unfold iW.behind;rw[af kL]
  have HR:Hid _:=h;clear h J hs
  go_in
  go_wp2
  first|go_end0|refine iX rfl rfl ?_
  exact⟨rfl,by rw[Q.out];exact iP.refl HR.out⟩
theorem Oq(z:Zt)(r:iW)(w:ew)(h:mM w z r)(G:lM r):
 fc fe 125 #[π (μ ⟨z.R,0,ν⟩)] w λe w'=>e=ρ (τ #[])/\iP w w' z r.change r.n:=by
 have LG:=sW (k:=r.id) (by have:=G.id;omega);have T:∀W,eH w W->fc fe 177 #[π (μ ⟨z.Bb,0,ν⟩),ι κ r.id] W λe w'=>∃a cap,e=ρ (τ #[.agg #[ι κ (yr r.K r.id),ι κ (qV r.K r.id),σ a (nj r.K r.id).length cap],.bool (r.K r.id).isSome])/\jm w' a (nj r.K r.id).length (nj r.K r.id)/\eH W w'/\(w'.cell? ⟨z.R,0,ν⟩=μ (ι κ r.id)/\w'.cell? ⟨z.R,2,ν⟩=μ (π (μ ⟨z.Bb,0,ν⟩))):=by
  intro W V;refine(Ld z.Bb z.fm 6 r.K r.O r.id W (h.below V).bs LG).mono ?_;rintro e w1 ⟨a,cap,rfl,A,_,_,b1⟩;have R1:=h.below (fP V b1);exact⟨a,cap,rfl,A,b1,R1.c0,R1.c2⟩
 have h6:(nj r.K r.id).length<=6:=by
  obtain⟨q,hq,kC⟩:=G.own;have:=(jC kC).2.2.1;unfold nj;rw[hq];exact this
 have VR:Hid (∀e∈nj r.K r.id,1<=e.1):=by
  obtain⟨q,hq,kC⟩:=G.own;have:=pI r.id q.2 0 (jC kC).2.2.2;unfold nj;rw[hq];exact λe D=>(this e D).1.1
 have h6e:(jJ r).length<=6:=by
  have:=(sO G 6 0 0 eB eB).2;rw[<-CB]at this;omega
 have D:∀W,eH w W->fc fe 179 #[π (μ ⟨z.R,0,ν⟩)] W λe w'=>∃a cap,e=ρ (σ a (jJ r).length cap)/\jm w' a (jJ r).length (jJ r)/\eH W w':=by
  intro W V;refine(EY z r W (h.below V)).mono ?_;rintro e w1 ⟨v,rfl,hM⟩;obtain⟨a,cap,rfl,_,_⟩:=hM.shape;exact⟨a,cap,rfl,hM.opts.2,hM.below⟩
 have kJ:Hid (nj r.K r.id=jJ r->∀W,eH w W->iP w W z r.change r.n):=by
  intro H W V;have HC:r.change=r:=by
   unfold iW.change;rw[ai ((P8 _ _).trans H)]
  rw[HC];exact iP.still h V
 have Y:Hid (nj r.K r.id≠jJ r->∀W,eH w W->fc fe 180 #[π (μ ⟨z.R,0,ν⟩),ι κ (qV r.K r.id)] W λe w'=>e=ρ (τ #[])/\iP w w' z r.change r.n):=by
  intro H W V;have HC:r.change=r.behind (qV r.K r.id):=by
   unfold iW.change;rw[af (λe=>H ((P8 _ _).symm.trans e)),P9]
  have hsq:=G.seq;rw[P9]at hsq;refine(E8 z r (qV r.K r.id) W (h.below V) G eB).mono ?_;rintro e w5 ⟨rfl,M3⟩;refine⟨rfl,?_⟩;rw[HC];exact iP.first h rfl V (λ_=>M3)
 have R0:=h.below (jl w);have X:=And.intro R0.c0 R0.c2;have cl:=R0.lt;obtain⟨n,hn⟩:∃n:ew->Prop,(λx=>iP w x z r.change r.n)=n:=⟨_,rfl⟩
 have hn':∀x,iP w x z r.change r.n=n x:=λx=>cy hn x;simp only[hn']at kJ Y⊢;generalize jJ r=ed at D kJ Y h6e;generalize nj r.K r.id=es at T kJ Y h6 VR;generalize qV r.K r.id=sq at T Y;generalize yr r.K r.id=ow at T;generalize (r.K r.id).isSome=ok at T;generalize z.R=J at T D Y X cl⊢;generalize z.Bb=Bb at T X;generalize r.id=id at T X;clear h G R0 hn hn' LG
 go_in
 go_wp2
 go_cut [2] (λv wx=>∃(Z:Nat) (a:Option eh) (cap:Nat),v=π (μ ⟨Z,0,ν⟩)/\wx.cell? ⟨Z,1,ν⟩=μ (ι κ sq)/\wx.cell? ⟨Z,2,ν⟩=μ (σ a es.length cap)/\jm wx a es.length es/\eH w wx)
 case first=>
  obtain⟨c0,c2⟩:=X;have X:w.drew.cell? ⟨J,0,ν⟩=μ (ι κ id)/\w.drew.cell? ⟨J,2,ν⟩=μ (π (μ ⟨Bb,0,ν⟩)):=⟨c0,c2⟩
  have ba:=jK (gK w (γ #[ι κ 0,ι κ 0,σ ν 0 0] 40));have wj:ji (w.alloc (γ #[ι κ 0,ι κ 0,σ ν 0 0] 40)).drew w.heap.size #[ι κ 0,ι κ 0,σ ν 0 0] 40:=(ji.new w _ _).drew;have jx:J≠w.heap.size:=by have h2:J<w.heap.size:=cl;omega
  go_region_held3(λx=>x.cell? ⟨J,0,ν⟩=μ (ι κ id)/\x.cell? ⟨J,2,ν⟩=μ (π (μ ⟨Bb,0,ν⟩)))
   (first|assumption|exact X|exact S|exact oS S|exact oS X|exact vC S jx jx)
   (first
    |(go_at_call 177;refine(T _ (by first|exact jl w|exact ba)).mono ?_;rintro e w1 ⟨a,cap,rfl,A,b1,S⟩;first|(have M:=wj.below b1;have y0:=M.cell 0;have y1:=M.cell 1;have y2:=M.cell 2;have z0:=M.frozen 0;have z1:=M.frozen 1;have z2:=M.frozen 2)|skip))
  all_goals
   go_wp2_with(fail)
   go_meet
   first
    |exact⟨_,a,cap,rfl,ak w1 _ _ (0,0) 1,ak w1 _ _ (0,0) 2,A.below (gK _ _),fP (fP (jl w) b1) (gK _ _)⟩
    |(have h5:=vD (a:=.int .i64 ow) (b:=.int .i64 sq) (c:=.slice a es.length cap) M rfl (Nat.le_refl _) (fP ba b1)
      exact⟨_,a,cap,rfl,h5.1,h5.2.1,jm.not_zero A M VR.out h5.2.2.2,h5.2.2.1⟩)
 case rest=>
  obtain⟨Z,a,cap,rfl,d1,d2,A,qO⟩:=hcut;have bd:=fP qO (jl wc);have X:wc.drew.cell? ⟨Z,1,ν⟩=μ (ι κ sq)/\wc.drew.cell? ⟨Z,2,ν⟩=μ (σ a es.length cap):=⟨d1,d2⟩
  have zl:Z<wc.drew.heap.size:=ag wc.drew _ X.1;have Zs:fc fe 179 #[π (μ ⟨J,0,ν⟩)] wc.drew λe w'=>∃U Q,e=ρ (σ U ed.length Q)/\jm w' U ed.length ed/\jm w' a es.length es/\eH w w'/\(w'.cell? ⟨Z,1,ν⟩=μ (ι κ sq)/\w'.cell? ⟨Z,2,ν⟩=μ (σ a es.length cap)):=by
   refine(D _ bd).mono ?_;rintro e w3 ⟨U,Q,rfl,zM,b3⟩;exact⟨U,Q,rfl,zM,(A.below (jl wc)).below b3,fP bd b3,(aj (a:=⟨Z,1,ν⟩) (b3.block Z zl)).trans X.1,(aj (a:=⟨Z,2,ν⟩) (b3.block Z zl)).trans X.2⟩
  obtain⟨bb,JB⟩:=fq (decide (es=ed));have heq:∀(W:ew) (U:Option eh) (Q:Nat),jm W U ed.length ed->jm W a es.length es->fc fe 178 #[σ a es.length cap,σ U ed.length Q] W λe w'=>e=ρ (.bool bb)/\∃k,w'=W.drewN k:=by
   intro W U Q h1 h2;rw[<-JB];exact A7 a U cap Q _ _ es ed W h2 h1 eB eB
  clear D T d1 d2
  go_wp2
  go_region_held3(λx=>x.cell? ⟨Z,1,ν⟩=μ (ι κ sq)/\x.cell? ⟨Z,2,ν⟩=μ (σ a es.length cap))
   (first|assumption|exact X|exact S|exact F2)
   (first
    |(go_at_call 179;refine Zs.mono ?_;rintro e w3 ⟨U,Q,rfl,zM,YC,b3,S⟩)
    |(go_at_call 178;refine(heq _ _ _ zM YC).mono ?_;rintro e w4 ⟨rfl,kk,rfl⟩;have F2:(w3.drewN kk).cell? ⟨Z,1,none⟩=some (.int .i64 sq)/\(w3.drewN kk).cell? ⟨Z,2,none⟩=some (.slice a es.length cap):=S))
  all_goals
   have b4:=below_drewN b3 kk;cases bb
   ·have H:es≠ed:=by simpa using JB
    have hb5:=Y.out H _ b4;have f1:=F2.1;have fl:Z<(w3.drewN kk).heap.size:=ag (w3.drewN kk) _ f1;clear Y kJ heq Zs X S F2 zM YC;go_wp2_with(fail);refine hb5.mono ?_;rintro e w5 ⟨rfl,V⟩;clear hb5
    go_wp2
    first|go_end0|refine iX rfl rfl ?_
    exact⟨rfl,V⟩
   ·have H:es=ed:=by simpa using JB
    have V:=kJ.out H _ b4;clear Y kJ heq Zs X S F2 zM YC
    go_wp2
    first|go_end0|refine iX rfl rfl ?_
    exact⟨rfl,V⟩
theorem iP.ry {z z':Zt} (h:iP a b z r n)(_hR:mM b z' r)(hl:z.like z')(S:∀k,z'.mine n k->z.mine n k \/a.heap.size<=k)(G:∀k,z.fm.no k->z'.fm.no k)(k:iP b c z' r' n):iP a c z r' n:=by
 have Z:=h.kept;obtain⟨⟨D,M,J,Q,H⟩,Y⟩:=k;refine⟨⟨D,M,Zt.EU hl J,λx hx=> ?_,λx hx=>H x (G x hx)⟩,⟨Y.os.trans Z.os,Y.tape.trans Z.tape,Y.output.trans Z.output,Nat.le_trans Z.size Y.size,λx hx V U T=>(Y.block x (Nat.lt_of_lt_of_le hx Z.size) (λe=> ?_) (by rw[hl.bm];exact U) (by rw[hl.bs];exact T)).trans (Z.block x hx V U T)⟩⟩
 ·rcases Q x hx with e|e
  {exact S x e};{exact .inr (Nat.le_trans Z.size e)}
 ·rcases S x e with X|X
  {exact V X};{omega}
section
variable {w w':World} {z:Zt} {r:iW} {n:Nat}
theorem iP.c0(h:iP w w' z r n):w'.cell? ⟨z.R,0,ν⟩=μ (ι κ r.id):=by
 obtain⟨⟨z',Z,hl,_⟩,_⟩:=h;have:=Z.c0
 rwa [hl.R]at this
theorem iP.c1(h:iP w w' z r n):w'.cell? ⟨z.R,1,ν⟩=μ (σ (μ ⟨z.g,0,ν⟩) r.n z.cap):=by
 obtain⟨⟨z',Z,hl,_⟩,_⟩:=h;have:=Z.c1
 rwa [hl.R,hl.g,hl.cap]at this
theorem iP.c2(h:iP w w' z r n):w'.cell? ⟨z.R,2,ν⟩=μ (π (μ ⟨z.Bb,0,ν⟩)):=by
 obtain⟨⟨z',Z,hl,_⟩,_⟩:=h;have:=Z.c2
 rwa [hl.R,hl.Bb]at this
theorem iP.lt(h:iP w w' z r n):z.R<w'.heap.size:=ag _ _ h.c0
theorem iP.pt(h:iP w w' z r n) {i:Nat} (hi:i<r.n):∃v,qW w' z.g (i*71) (z.B i) v (r.P i):=by
 obtain⟨⟨z',Z,hl,_⟩,_⟩:=h;have:=Z.pt i hi;rw[hl.g,hl.B]at this;exact⟨_,this⟩
theorem iP.Kt(h:iP w w' z r n):z.g<w'.heap.size:=by
 obtain⟨⟨z',Z,hl,_⟩,_⟩:=h;have:=Z.Kt
 rwa [hl.g]at this
theorem iP.keep(h:iP w w' z r n)(Z:mM w z r0)(Y:¬z.mine n k) {fr:Nat×Nat} (hc:w.heap[k]? =μ (Obj.cells C t fr)):w'.heap[k]? =w.heap[k]? :=
 h.kept.block k (ay.1 hc).1 Y (yt hc (Z.bs.maps _ (.inl rfl))) (λe=>yt hc (Z.bs.maps _ (.inr e)) rfl)
theorem iP.cell {r0:iW} (h:iP w w' z r n)(Z:mM w z r0) {p:eh} {v:eA} (Y:¬z.mine n p.block)(hc:w.cell? p=μ v):w'.cell? p=μ v:=by
 rw[aj (w:=w) (h.kept.block p.block (ag w _ hc) Y (qD hc (Z.bs.maps _ (.inl rfl))) (λe=>qD hc (Z.bs.maps _ (.inr e)) rfl))];exact hc
theorem mM.uR {z:Zt} (h:mM w z r)(hk:w.heap.size<=k):¬z.mine r.n k:=λe=>by have:=h.Bz k e;omega
end
structure oT(w w':ew)(z:Zt)(r:iW)(n N:Nat)(C:Array eA)(t:TypeId):Prop where
 went:iP w w' z r n
 oE:ji w' N C t
 nn:r.n=n
 lt:N<w.heap.size
 no:¬z.mine n N
theorem oT.with {w a b:ew} {z z':Zt} {r r':iW} {n N:Nat} {C:Array eA} {t:TypeId} (h:oT w a z r n N C t)(V:r'.n=n)(Y:mM a z' r)(hl:z.like z')(X:∀k,z'.mine n k->z.mine n k \/w.heap.size<=k)(U:∀k,z.fm.no k->z'.fm.no k)(k:iP a b z' r' n):oT w b z r' n N C t:=by
 refine⟨h.went.ry Y hl X U k,?_,V,h.lt,h.no⟩;refine h.oE.keep (k.keep Y (λe=> ?_) h.oE);rcases X N e with Z|Z
 {exact h.no Z};{have:=h.lt;omega}
theorem iP.call {z:Zt} {E:Ending->Prop} (h:iP w W z r n)(k:∀Z,mM W Z r->z.like Z->fc fe f args W λe w'=>E e/\iP W w' Z r' n):fc fe f args W λe w'=>E e/\iP w w' z r' n:=by
 obtain⟨Z,Y,hl,V,T⟩:=h.ex;refine(k Z Y hl).mono ?_;rintro e w' ⟨X,U⟩;exact⟨X,h.ry Y hl V T U⟩
theorem oT.call {z:Zt} {E:Ending->Prop} (h:oT w W z r n N C t)(U:r'.n=n)(k:∀Z,mM W Z r->z.like Z->fc fe f args W λe w'=>E e/\iP W w' Z r' n):fc fe f args W λe w'=>E e/\oT w w' z r' n N C t:=by
 obtain⟨Z,Y,hl,V,S⟩:=h.went.ex;refine(k Z Y hl).mono ?_;rintro e w' ⟨X,T⟩;exact⟨X,h.with U Y hl V S T⟩
theorem VT(z:Zt)(r:iW)(i:Nat)(w:ew)(h:mM w z r)(hi:i<r.n):
 fc fe 124 #[π (μ ⟨z.Bb,0,ν⟩),ι κ (i:Int)] w λe w'=>e=ρ (τ #[])/\iP w w' z {r with O:=λx=>if x=i then λ_=>ν else r.O x} r.n:=by
 refine(Rn z.Bb z.fm 6 r.K r.O i w h.bs (by rw[h.bl];exact hi)).mono ?_;rintro e w1 ⟨rfl,Z,Y⟩;exact⟨rfl,h.base Z Y⟩
theorem R7(z:Zt)(r:iW)(i:Nat)(w:ew)(h:mM w z r)(hi:i<r.n):
 fc fe 126 #[π (μ ⟨z.Bb,0,ν⟩),ι κ (i:Int)] w λe w'=>e=ρ η/\iP w w' z {r with O:=λx=>if x=i then qU (r.O i) r.K else r.O x} r.n:=by
 refine(Ro z.Bb z.fm 6 r.K r.O i w h.bs (by rw[h.bl];exact hi) eB).mono ?_;rintro e w1 ⟨rfl,Z,Y⟩;exact⟨rfl,h.base Z Y⟩
def j6 {α:Type} (f:Nat->α)(i:Nat)(x:α):Nat->α:=λj=>if j=i then x else f j
theorem iQ(f:Nat->α)(i:Nat)(x:α):j6 f i x i=x:=by simp[j6]
theorem iI(f:Nat->α)(x:α)(h:j≠i):j6 f i x j=f j:=by simp[j6,h]
theorem wU(f:Nat->α)(i:Nat):j6 f i (f i)=f:=by
 funext j
 by_cases e:j=i;{subst e;exact iQ _ _ _};{exact iI _ _ e}
structure qX where
 e:Nat->Nat×Nat
 jc:Bool
 on:Nat->List UInt8
structure ja where
 n:Nat
 R:Nat->iW
 kx:Nat->List zD
 ms:Nat->Nat->Int
 nc:Nat
 C:Nat->qX
def ja.jO(y:ja)(i:Nat)(r:iW):ja:={y with R:=j6 y.R i r}
def ja.lP(y:ja)(i:Nat)(c:qX):ja:={y with C:=j6 y.C i c}
def qX.put(c:qX)(d:Nat)(s:List UInt8):qX:=if c.jc=true/\(c.on d).length+s.length<=2000 then {c with on:=j6 c.on d (c.on d++s)}else c
def ja.lz(y:ja)(i d:Nat):ja:=
 (y.jO ((y.C i).e d).1 ((y.R ((y.C i).e d).1).out ((y.C i).e d).2)).lP i ((y.C i).put d ((y.R ((y.C i).e d).1).P ((y.C i).e d).2).out)
def ja.kh(y:ja):Nat->ja
 |0=>y
 |k+1=>((y.kh k).lz k 0).lz k 1
def ja.yy(y:ja)(k:Nat):ja:={y with kx:=j6 y.kx k (y.kx k++(y.R k).kx),R:=j6 y.R k {y.R k with kx:=[] }}
def ja.nA(y:ja):Nat->ja
 |0=>y
 |k+1=>(y.nA k).yy k
def ja.gather(y:ja):ja:=(y.kh y.nc).nA y.n
def ja.np(y:ja)(i d:Nat)(up:Bool):ja:=y.jO ((y.C i).e d).1 ((y.R ((y.C i).e d).1).iZ ((y.C i).e d).2 up).1
def ja.kd(y:ja)(i:Nat)(up:Bool):ja:=((y.lP i {y.C i with jc:=up,on:=λ_=>[] }).np i 0 up).np i 1 up
def ja.iZ(y:ja)(i:Int)(up:Bool):ja×Nat:=
 if i<0 \/(y.nc:Int)<=i then(y,6)else if(y.C i.toNat).jc=up then(y,7)else((y.kd i.toNat up).gather,0)
def ja.tick(y:ja)(i:Int):ja×Nat:=
 if i<1 \/(y.n:Int)<i then(y,6)else((y.jO (i-1).toNat (y.R (i-1).toNat).tick).gather,0)
def ja.jE(y:ja)(i d k:Nat):ja:=
 (y.lP i {y.C i with on:=j6 (y.C i).on d (((y.C i).on d).drop k)}).jO ((y.C i).e (1-d)).1 ((y.R ((y.C i).e (1-d)).1).recv ((y.C i).e (1-d)).2 (((y.C i).on d).take k))
def ja.deliver(y:ja)(i d many:Int):ja×Nat:=
 if i<0 \/(y.nc:Int)<=i \/d<0 \/2<=d then(y,6)else((y.jE i.toNat d.toNat (min many.toNat ((y.C i.toNat).on d.toNat).length)).gather,0)
def ja.lT(y:ja)(k:Nat):List Nat:=(ft y.nc).filter λc=>(y.C c).jc&& (((y.C c).e 0).1==k||((y.C c).e 1).1==k)
def ja.jX(y:ja)(up:Bool):List Nat->ja
 |[] =>y
 |c::l=>(y.kd c up).jX up l
def ja.restart(y:ja)(i:Int):ja×Nat:=
 if i<1 \/(y.n:Int)<i then(y,6)else
  ((((y.jX false (y.lT (i-1).toNat)).jO (i-1).toNat (jZ i 3 (y.ms (i-1).toNat))).jX true (y.lT (i-1).toNat)).gather,0)
def ja.send(y:ja)(f t:Int)(tx:List UInt8):ja×Nat:=
 if f<1 \/(y.n:Int)<f then(y,6)
 else if(kD (y.R (f-1).toNat) t tx).2≠0 then(y,(kD (y.R (f-1).toNat) t tx).2)
 else((y.jO (f-1).toNat (kD (y.R (f-1).toNat) t tx).1).gather,0)
def ja.jn(y:ja):Nat->ja
 |0=>y
 |k+1=>((y.jn k).tick ((k:Int)+1)).1
def ja.j0(y:ja):Nat->ja
 |0=>y
 |k+1=>(((y.j0 k).deliver (k:Int) 0 2000).1.deliver (k:Int) 1 2000).1
def ja.turns(y:ja):Nat->ja
 |0=>y
 |k+1=>(y.turns k).j0 y.nc
def ja.round(y:ja):ja:=(y.jn y.n).turns 12
structure pz where
 a:Int
 pa:Int
 b:Int
 pb:Int
 m:Int
def lg:List (Int×Int×Int)->Int->Int->Option Int
 |[],_,_=>none
 |x::l,r,p=>if x.1=r/\x.2.1=p then some x.2.2 else lg l r p
def kK(l:List pz):List (Int×Int×Int):=l.flatMap λc=>[(c.a,c.pa,c.m),(c.b,c.pb,c.m)]
def pL(l:List pz)(i p:Nat):Int:=(lg (kK l) ((i:Int)+1) (p:Int)).getD 1
def pA(many r p:Int):Bool:=decide (1<=r)&&decide (r<=many)&&decide (0<=p)&&decide (p<3)
def ze(many:Int):List pz->List (Int×Int×Int)->Nat
 |[],_=>0
 |c::l,E=>
  if c.m<1 \/20<c.m then 1
  else if pA many c.a c.pa=false then 1
  else if(lg E c.a c.pa).isSome=true then 8
  else if pA many c.b c.pb=false then 1
  else if(lg (E++ [(c.a,c.pa,c.m)]) c.b c.pb).isSome=true then 8
  else ze many l (E++ [(c.a,c.pa,c.m),(c.b,c.pb,c.m)])
def oc(many:Int)(l:List pz):Nat:=if many<1 \/6<many then 1 else if 9<l.length then 2 else ze many l []
def pz.at(c:pz)(d:Nat):Nat×Nat:=if d=0 then((c.a-1).toNat,c.pa.toNat)else((c.b-1).toNat,c.pb.toNat)
def nh(l:List pz)(k:Nat):qX:=⟨(l.getD k ⟨1,0,1,0,1⟩).at,false,λ_=>[]⟩
def j2(many:Nat)(l:List pz):ja:=⟨many,λi=>jZ ((i:Int)+1) 3 (pL l i),λ_=>[],pL l,l.length,nh l⟩
def Zt.plus(z:Zt)(X:Nat->Prop):Zt:={z with fm:={z.fm with no:=λk=>z.fm.no k \/X k}}
theorem mM.besides {z:Zt} (h:mM w z r)(hs:w.heap.size<=w'.heap.size)(S:∀k,k<w.heap.size->(¬z.fm.no k \/z.mine r.n k)->w'.heap[k]? =w.heap[k]?)
 (X:Nat->Prop) (Y:∀k,X k->w.heap.size<=k/\k<w'.heap.size):mM w' (z.plus X) r:=by
 have U:∀k,z.mine r.n k->w'.heap[k]? =w.heap[k]? :=λk e=>S k (h.Bz k e) (.inr e);have Q:=h.bs.still hs (λj V M=>S j V (.inl M)) h.nb.1 h.nb.2.1 h.nb.2.2 (λk=>z.fm.no k \/X k) (λj V=>V.imp_right (λe=>(Y j e).1)) (λj V=>V.elim (λe=>Nat.lt_of_lt_of_le (h.bs.Rl j e) hs) (λe=>(Y j e).2));have adk:z.Bb<w.heap.size:=by obtain⟨_,_,hF,_⟩:=h.bs.ex;exact hF.lt
 have adl:z.fm.g<w.heap.size:=by obtain⟨_,_,hF,_⟩:=h.bs.ex;exact hF.row.lt _ rfl
 refine⟨h.n1,h.n3,h.Og,h.id,h.oE.keep (U _ (.inl rfl)),λi hi=> ?_,h.ib.keep hs (λk e=>U k (.inr (.inr (.inr e)))),Q,h.bl,λk e=>.inl (h.no k e),⟨λe=> ?_,λe=> ?_,λb hb e=> ?_⟩,h.sR,h.sB,h.sV,h.sI,h.RT⟩;{have Z:=h.pt i hi;obtain⟨F,hC,hF⟩:=Z.xR;exact⟨⟨F,hC.keep (U _ (.inr (.inl rfl))),hF⟩,Z.lk.keep (U _ (.inr (.inr (.inl ⟨i,hi,.inl rfl⟩)))),Z.ou.keep hs (λx hx=>U x (.inr (.inr (.inl ⟨i,hi,.inr hx⟩)))),Z.few,Z.ok,Z.gB,Z.vg,Z.vB,Z.nz⟩}
 ·rcases e with e|e
  {exact h.nb.1 e};{have T:w.heap.size<=z.Bb:=(Y _ e).1;omega}
 ·rcases e with e|e
  {exact h.nb.2.1 e};{have T:w.heap.size<=z.fm.g:=(Y _ e).1;omega}
 ·rcases e with e|e
  {exact h.nb.2.2 b hb e};{have h9:=h.bs.mlt b hb;have T:=(Y _ e).1;omega}
inductive Lab where
 |N
 |R
 |I
 |C
 |ib (i:Nat)
 |on (c d:Nat)
structure Yt where
 N:Nat
 gR:Nat
 uz:Nat
 gI:Nat
 zf:Nat
 gC:Option Nat
 wV:Nat
 bM:Nat
 z:Nat->Zt
 iv:Nat->eA
 ov:Nat->Nat->eA
 ext:Nat->Prop
def Yt.at(y:Yt):Lab->Option Nat
 | .N=>some y.N
 | .R=>some y.gR
 | .I=>some y.gI
 | .C=>y.gC
 | .ib i=>(y.iv i).ownBlock
 | .on c d=>(y.ov c d).ownBlock
def Yt.own(y:Yt)(k:Nat):Prop:=∃l,y.at l=μ k
def Zt.pM(z:Zt)(k:Nat):Prop:=z.mine 3 k \/k=z.fm.bm \/k∈z.fm.bs
def Yt.away(y:Yt)(n i k:Nat):Prop:=y.own k \/y.ext k \/ ∃j,j<n/\j≠i/\(y.z j).pM k
def Yt.all(y:Yt)(n k:Nat):Prop:=y.own k \/ ∃j,j<n/\(y.z j).pM k
def Yt.cv(y:Yt)(nc:Nat):eA:=match y.gC with|none=>.slice none 0 0|some g=>.slice (some ⟨g,0,none⟩) nc y.wV
def Dm(c:qX)(o:Nat->eA):Nat->eA:=λj=>
 if j=0 then ι κ (((c.e 0).1:Int)+1)else if j=1 then ι κ ((c.e 0).2:Int)else if j=2 then ι κ (((c.e 1).1:Int)+1)else if j=3 then ι κ ((c.e 1).2:Int)
 else if j=4 then .bool c.jc else if j=5 then o 0 else o 1
def wW(r p:Int):eA:=.agg #[ι κ r,ι κ p]
def oU(w:ew)(b:Nat)(E:List (Int×Int×Int)):Prop:=∃es clock,w.heap[b]? =μ (.map es clock)/\es.toList.map (λe=>(e.key,e.val))=E.map λx=>(wW x.1 x.2.1,.int .i64 x.2.2)
def DL(E:List (Int×Int×Int)):Prop:=∀x∈E,(1<=x.1/\x.1<=6/\0<=x.2.1/\x.2.1<=2)/\lg E x.1 x.2.1=μ x.2.2
def VU(E:List (Int×Int×Int))(n:Nat)(ms:Nat->Nat->Int):Prop:=(∀(i p:Nat),i<n->p<3->(lg E ((i:Int)+1) (p:Int)).getD 1=ms i p/\1<=ms i p/\ms i p<=20)/\DL E
structure jS(w:ew)(y:Yt)(n:ja):Prop where
 n1:1<=n.n
 n6:n.n<=6
 c9:n.nc<=9
 oE:ji w y.N #[σ (μ ⟨y.gR,0,ν⟩) n.n y.uz,σ (μ ⟨y.gI,0,ν⟩) n.n y.zf,.map (μ y.bM),y.cv n.nc] 190
 rr:qR w y.gR 0 n.n (λi=>π (μ ⟨(y.z i).R,0,ν⟩))
 ri:qR w y.gI 0 n.n y.iv
 rc:∀g,y.gC=μ g->∀c,c<n.nc->qR w g (c*7) 7 (Dm (n.C c) (y.ov c))
 gc:∀c,c<n.nc->∃g,y.gC=μ g
 mp:∃E,oU w y.bM E/\VU E n.n n.ms
 rt:∀i,i<n.n->mM w (y.z i) (n.R i)
 rn:∀i,i<n.n->(n.R i).n=3/\(n.R i).id=(i:Int)+1
 ib:∀i,i<n.n->Row w 3 (y.iv i) (n.kx i).length (sA (n.kx i))
 ob:∀c d,c<n.nc->d<2->Row w 1 (y.ov c d) ((n.C c).on d).length (jd ((n.C c).on d))
 ol:∀c d,c<n.nc->d<2->((n.C c).on d).length<=2000
 en:∀c d,c<n.nc->d<2->((n.C c).e d).1<n.n/\((n.C c).e d).2<3
 inj:∀l l' k,y.at l=μ k->y.at l'=μ k->l=l'
 away:∀i,i<n.n->∀k,y.away n.n i k->(y.z i).fm.no k/\¬(y.z i).mine 3 k
 nx:∀k,y.ext k->¬y.own k
 nM:¬y.own y.bM/\¬y.ext y.bM/\∀i,i<n.n->¬(y.z i).pM y.bM
 z0:¬y.own 0
structure Yt.same(y y':Yt):Prop where
 N:y'.N=y.N
 gR:y'.gR=y.gR
 uz:y'.uz=y.uz
 gI:y'.gI=y.gI
 zf:y'.zf=y.zf
 gC:y'.gC=y.gC
 wV:y'.wV=y.wV
 bM:y'.bM=y.bM
theorem Yt.Il(y:Yt):y.same y:=⟨rfl,rfl,rfl,rfl,rfl,rfl,rfl,rfl⟩
theorem Yt.zg {a b c:Yt} (h:a.same b)(k:b.same c):a.same c:=⟨k.N.trans h.N,k.gR.trans h.gR,k.uz.trans h.uz,k.gI.trans h.gI,k.zf.trans h.zf,k.gC.trans h.gC,k.wV.trans h.wV,k.bM.trans h.bM⟩
structure yz(w w':ew)(y:Yt)(n:Nat):Prop where
 os:w'.os=w.os
 tape:w'.tape=w.tape
 output:w'.output=w.output
 size:w.heap.size<=w'.heap.size
 block:∀k,k<w.heap.size->¬y.all n k->w'.heap[k]? =w.heap[k]?
structure iR(w w':ew)(y:Yt)(n:ja)(m:Nat):Prop where
 ex:∃y',jS w' y' n/\y.same y'/\(∀k,y'.all m k->y.all m k \/w.heap.size<=k)/\(∀k,y'.ext k↔y.ext k)
 kept:yz w w' y m
theorem jS.lt {y:Yt} {n:ja} (h:jS w y n)(Y:y.own k \/y.ext k):k<w.heap.size:=by
 have Z:=(h.away 0 h.n1 k (Y.imp_right .inl)).1;exact(h.rt 0 h.n1).bs.Rl k Z
theorem jS.Io {y:Yt} {n:ja} (h:jS w y n):y.bM<w.heap.size:=by
 obtain⟨E,⟨es,clock,Z,_⟩,_⟩:=h.mp;exact(ay.1 Z).1
theorem jS.zh {y:Yt} {n:ja} (h:jS w y n)(hi:i<n.n)(Y:(y.z i).pM k):k<w.heap.size:=by
 rcases Y with e|e|e
 {have Z:=(h.rt i hi).Bz k;rw[(h.rn i hi).1]at Z;exact Z e};{exact(h.rt i hi).bs.mlt k (.inl e)};{exact(h.rt i hi).bs.mlt k (.inr e)}
theorem jS.LJ {y:Yt} {n:ja} (h:jS w y n)(hi:i<n.n)(X:y.away n.n i k):¬(y.z i).pM k:=by
 obtain⟨Z,Y⟩:=h.away i hi k X;intro e;rcases e with e|e|e
 {exact Y e};{exact(h.rt i hi).nb.2.2 k (.inl e) Z};{exact(h.rt i hi).nb.2.2 k (.inr e) Z}
theorem jS.Qa {y:Yt} {n:ja} (h:jS w y n)(hi:i<n.n)(Z:y.own k):¬(y.z i).pM k:=h.LJ hi (.inl Z)
theorem oU.keep {b:Nat} (h:oU w b E)(hb:w'.heap[b]? =w.heap[b]?):oU w' b E:=by
 obtain⟨es,clock,Z,Y⟩:=h;exact⟨es,clock,hb.trans Z,Y⟩
theorem yz.refl(w:ew)(y:Yt)(n:Nat):yz w w y n:=⟨rfl,rfl,rfl,Nat.le_refl _,λ_ _ _=>rfl⟩
theorem iR.refl {w:ew} {y:Yt} {n:ja} (h:jS w y n):iR w w y n n.n:=⟨⟨y,h,y.Il,λ_ e=>.inl e,λ_=>dZ⟩,yz.refl w y n.n⟩
theorem iR.ry {y y':Yt} {n':ja} (h:yz a b y m)(Q:y.same y')(T:∀k,y'.all m k->y.all m k \/a.heap.size<=k)(J:∀k,y'.ext k↔y.ext k)(k:iR b c y' n' m):iR a c y n' m:=by
 obtain⟨⟨H,M,Y,S,X⟩,Z⟩:=k;refine⟨⟨H,M,Yt.zg Q Y,λx hx=> ?_,λx=>(X x).trans (J x)⟩,⟨Z.os.trans h.os,Z.tape.trans h.tape,Z.output.trans h.output,Nat.le_trans h.size Z.size,λx hx U=>(Z.block x (Nat.lt_of_lt_of_le hx h.size) (λe=> ?_)).trans (h.block x hx U)⟩⟩
 ·rcases S x hx with e|e
  {exact T x e};{exact .inr (Nat.le_trans h.size e)}
 ·rcases T x e with V|V
  {exact U V};{omega}
theorem iR.step {y:Yt} {n n':ja} (h:iR a b y n m)(k:∀y',jS b y' n->y.same y'->iR b c y' n' m):iR a c y n' m:=by
 obtain⟨⟨y',X,Z,U,V⟩,Y⟩:=h;exact iR.ry Y Z U V (k y' X Z)
theorem iR.call {y:Yt} {n n':ja} {E:Ending->Prop} (h:iR w W y n m)(k:∀Z,jS W Z n->y.same Z->fc fe f args W λe w'=>E e/\iR W w' Z n' m):fc fe f args W λe w'=>E e/\iR w w' y n' m:=by
 obtain⟨Z,V,Y,T,U⟩:=h.ex;refine(k Z V Y).mono ?_;rintro e w' ⟨X,S⟩;exact⟨X,iR.ry h.kept Y T U S⟩
theorem jS.E9 {y:Yt} {n:ja} (h:jS w y n)(hi:i<n.n)(hW:iP w w' (y.z i) r 3)(hr:r.n=3/\r.id=(i:Int)+1):iR w w' y (n.jO i r) n.n:=by
 obtain⟨⟨z',hR,hl,hm,lL⟩,J⟩:=hW;have Qb:∀k,z'.pM k->(y.z i).pM k \/w.heap.size<=k:=by
  intro k V;rcases V with e|e|e
  {exact(hm k e).imp_left .inl};{rw[hl.bm]at e;exact .inl (.inr (.inl e))};{rw[hl.bs]at e;exact .inl (.inr (.inr e))}
 have D:∀k,k<w.heap.size->¬(y.z i).pM k->w'.heap[k]? =w.heap[k]? :=λk V hf=>J.block k V (λe=>hf (.inl e)) (λe=>hf (.inr (.inl e))) (λe=>hf (.inr (.inr e)));have H:∀k,y.own k->w'.heap[k]? =w.heap[k]? :=λk e=>D k (h.lt (.inl e)) (h.Qa hi e);obtain⟨X,MW⟩:∃X:Nat->Prop,X=λk=>w.heap.size<=k/\k<w'.heap.size/\z'.mine 3 k:=⟨_,rfl⟩
 have hX:∀k,X k->w.heap.size<=k/\k<w'.heap.size:=λk e=>by rw[MW]at e;exact⟨e.1,e.2.1⟩
 have agM:∀k,z'.mine 3 k->k<w'.heap.size:=λk e=>by
  have:=hR.Bz k;rw[hr.1]at this;exact this e
 obtain⟨Z,hZ⟩:∃Z:Nat->Zt,Z=λj=>if j=i then z' else(y.z j).plus X:=⟨_,rfl⟩
 have S:Z i=z':=by rw[hZ];simp
 have G:∀j,j≠i->Z j=(y.z j).plus X:=λj U=>by rw[hZ];simp[U]
 have hZR:∀j,(Z j).R=(y.z j).R:=λj=>by
  by_cases e:j=i;{subst e;rw[S];exact hl.R};{rw[G j e];rfl}
 have A:∀j k,(Z j).pM k->(y.z j).pM k \/(j=i/\w.heap.size<=k/\z'.mine 3 k):=by
  intro j k V;by_cases e:j=i
  ·subst e;rw[S]at V;rcases V with Y|Y|Y
   ·rcases hm k Y with T|T
    {exact .inl (.inl T)};{exact .inr ⟨rfl,T,Y⟩}
   {rw[hl.bm]at Y;exact .inl (.inr (.inl Y))};{rw[hl.bs]at Y;exact .inl (.inr (.inr Y))}
  ·rw[G j e]at V;exact .inl V
 refine⟨⟨{y with z:=Z},⟨h.n1,h.n6,h.c9,h.oE.keep (H _ ⟨.N,rfl⟩),?_,h.ri.keep (H _ ⟨.I,rfl⟩),λg hg c hc=>(h.rc g hg c hc).keep (H _ ⟨.C,hg⟩),h.gc,?_,?_,?_,λj U=>(h.ib j U).keep J.size (λk V=>H k ⟨.ib j,V⟩),λc d hc hd=>(h.ob c d hc hd).keep J.size (λk V=>H k ⟨.on c d,V⟩),h.ol,h.en,h.inj,?_,h.nx,⟨h.nM.1,h.nM.2.1,?_⟩,h.z0⟩,⟨rfl,rfl,rfl,rfl,rfl,rfl,rfl,rfl⟩,?_,λ_=>dZ⟩,⟨J.os,J.tape,J.output,J.size,λk V hn=>D k V (λe=>hn (.inr ⟨i,hi,e⟩))⟩⟩;{refine(h.rr.keep (H _ ⟨.R,rfl⟩)).congr λj _=> ?_;show Value.pointer (μ ⟨(y.z j).R,0,ν⟩)=π (μ ⟨(Z j).R,0,ν⟩);rw[hZR j]};{obtain⟨E,h1,h2⟩:=h.mp;exact⟨E,h1.keep (D _ h.Io (h.nM.2.2 i hi)),h2⟩}
 ·intro j U;show mM w' (Z j) (j6 n.R i r j);by_cases e:j=i;{subst e;rw[S,iQ];exact hR}
  ·rw[G j e,iI _ _ e];refine(h.rt j U).besides J.size (λk V hc=>D k V (λef=> ?_)) X hX;have Q:=h.away j U k (.inr (.inr ⟨i,hi,λe'=>e e'.symm,ef⟩));rcases hc with hc|hc
   {exact hc Q.1};{rw[(h.rn j U).1]at hc;exact Q.2 hc}
 ·intro j U;show(j6 n.R i r j).n=3/\(j6 n.R i r j).id=(j:Int)+1;by_cases e:j=i;{subst e;rw[iQ];exact hr};{rw[iI _ _ e];exact h.rn j U}
 ·intro j U k V;show(Z j).fm.no k/\¬(Z j).mine 3 k;have hold:(y.own k \/y.ext k \/ ∃x,x<n.n/\x≠j/\(y.z x).pM k) \/(j≠i/\w.heap.size<=k/\z'.mine 3 k):=by
   rcases V with e|e|⟨x,hx,jx,e⟩
   {exact .inl (.inl e)};{exact .inl (.inr (.inl e))}
   ·rcases A x k e with Y|⟨Y,T,e3⟩
    {exact .inl (.inr (.inr ⟨x,hx,jx,Y⟩))};{exact .inr ⟨λe'=>jx (Y.trans e'.symm),T,e3⟩}
  by_cases e:j=i
  ·subst e;rw[S];rcases hold with M|M
   ·have Q:=h.away j U k M;refine⟨lL k Q.1,λY=> ?_⟩;rcases hm k Y with T|T
    {exact Q.2 T};{have:=(h.rt j U).bs.Rl k Q.1;omega}
   ·exact absurd rfl M.1
  ·rw[G j e];rcases hold with M|M
   {have Q:=h.away j U k M;exact⟨.inl Q.1,Q.2⟩};{refine⟨.inr ?_,λY=> ?_⟩;{rw[MW];exact⟨M.2.1,agM k M.2.2,M.2.2⟩};{have h1:k<w.heap.size:=h.zh U (.inl Y);omega}}
 ·intro j U e;rcases A j _ e with Y|⟨_,T,_⟩
  {exact h.nM.2.2 j U Y};{have:=h.Io;have e2':w.heap.size<=y.bM:=T;omega}
 ·intro k V;rcases V with e|⟨j,U,e⟩
  ·exact .inl (.inl e)
  ·rcases A j k e with Y|⟨_,T,_⟩
   {exact .inl (.inr ⟨j,U,Y⟩)};{exact .inr T}
open Go.ChangeMaps Go.MapKept
theorem LK:laidOutB fe=true:=ga
theorem ads:192<fe.types.size:=of_decide_eq_true ga
theorem Zv:(match fe.underlying 192 with|some (.array _ _)|some (.struct _)=>true|_=>false)=true:=ga
theorem Ou:Maps.Keyed fe 192:=Maps.Keyed.of_law (deep_law_laid LK (m:=3) eB ads ga Zv)
theorem Zw:((ft 7).all λi=>(ft 4).all λj=>(keyOf fe 192 (wW (i:Int) (j:Int))).isSome)=true:=ga
theorem JJ {a b:Int} (h:1<=a/\a<=6/\0<=b/\b<=2):∃l,keyOf fe 192 (wW a b)=μ l:=by
 have Z:=aZ.1 (aZ.1 Zw a.toNat (aN.2 eB)) b.toNat (aN.2 eB);have Y:((a.toNat:Nat):Int)=a:=eB;have X:((b.toNat:Nat):Int)=b:=eB;rw[Y,X]at Z;exact Option.isSome_iff_exists.1 Z
theorem VW {a b c d:Int} (h:wW a b=wW c d):a=c/\b=d:=by
 unfold wW at h;injection h with h
 have Z:=congrArg Array.toList h;simp at Z;exact Z
theorem Fa:∀ {E:List (Int×Int×Int)} {r p:Int},(∀x∈E,¬(x.1=r/\x.2.1=p))->lg E r p=ν
 |[],_,_,_=>rfl
 |x::E,r,p,h=>by
  unfold lg;rw[af (h x ik)];exact Fa (λz Z=>h z (by simp[Z]))
theorem Ip:∀ {E:List (Int×Int×Int)} {r p m:Int},lg E r p=μ m->(r,p,m)∈E
 |[],_,_,_,h=>by simp[lg]at h
 |x::E,r,p,m,h=>by
  unfold lg at h;split at h
  ·rename_i hx
   have:=Option.some.inj h;have e:x=(r,p,m):=by
    obtain⟨x1,x2,x3⟩:=x;simp at hx this⊢;exact⟨hx.1,hx.2,this⟩
   rw[e];simp
  ·exact cT _ (Ip h)
theorem Ov(E:List (Int×Int×Int))(x:Int×Int×Int)(r p:Int):lg (E++ [x]) r p=match lg E r p with|some m=>some m|none=>if x.1=r/\x.2.1=p then some x.2.2 else none:=by
 induction E with
 |nil=>
  show lg [x] r p=_;unfold lg;split<;>rfl
 |cons z E ih=>
  show lg (z::(E++ [x])) r p=_;unfold lg;split;{rfl};{exact ih}
theorem DL.snoc(h:DL E) {x:Int×Int×Int} (hx:1<=x.1/\x.1<=6/\0<=x.2.1/\x.2.1<=2)(Y:lg E x.1 x.2.1=ν):DL (E++ [x]):=λz X=>by
 rw[Ov];rcases av.1 X with Z|Z
 ·have:=h z Z;exact⟨this.1,by rw[this.2]⟩
 ·have:z=x:=by simpa using Z
  subst this;exact⟨hx,by rw[Y];simp⟩
theorem oU.find {w:ew} {b:Nat} {E:List (Int×Int×Int)} {es:Array MapEntry} {clock:Nat} (_hb:w.heap[b]? =μ (.map es clock))(Q:es.toList.map (λe=>(e.key,e.val))=E.map λx=>(wW x.1 x.2.1,.int .i64 x.2.2))(S:DL E) {r p:Int} (D:1<=r/\r<=6/\0<=p/\p<=2):
 (lg E r p=ν/\(gN 192 (wW r p) es.toList).run fe w=.ok ν w) \/ ∃m j,lg E r p=μ m/\(gN 192 (wW r p) es.toList).run fe w=.ok (μ (j,ι κ m)) w:=by
 obtain⟨l,hl⟩:=JJ D;have M:∀e∈es.toList,∃x∈E,e.key=wW x.1 x.2.1/\e.val=.int .i64 x.2.2:=λe V=>by
  have Z:(e.key,e.val)∈es.toList.map (λe=>(e.key,e.val)):=bK.2 ⟨e,V,rfl⟩;rw[Q]at Z;obtain⟨x,hx,Y⟩:=bK.1 Z;injection Y with U X
  exact⟨x,hx,U.symm,X.symm⟩
 have T:∀x∈E,∃e∈es.toList,e.key=wW x.1 x.2.1:=λx hx=>by
  have Z:(wW x.1 x.2.1,(ι κ x.2.2:eA))∈E.map λx=>(wW x.1 x.2.1,(ι κ x.2.2:eA)):=bK.2 ⟨x,hx,rfl⟩;rw[<-Q]at Z;obtain⟨e,V,Y⟩:=bK.1 Z;injection Y with U X
  exact⟨e,V,U⟩
 rcases Ou.find w hl es.toList (λe V=>by
  obtain⟨x,hx,Z,_⟩:=M e V;rw[Z];exact JJ (S x hx).1)with⟨Z,Y⟩|⟨j,e,Z,Y,U⟩
 {left;refine⟨Fa (λx hx hc=> ?_),Z⟩;obtain⟨e,V,X⟩:=T x hx;exact Y e V (by rw[X,hc.1,hc.2])};{right;obtain⟨x,hx,X,G⟩:=M e (bL Y);rw[U]at X;obtain⟨J,H⟩:=VW X;refine⟨x.2.2,j,?_,by rw[Z,G]⟩;rw[J,H];exact(S x hx).2}
theorem oU.look {b:Nat} (h:oU w b E)(V:DL E) {r p:Int} (X:1<=r/\r<=6/\0<=p/\p<=2):
 (fF 184 (.map (μ b)) (wW r p) true).run fe w=.ok (τ #[ι κ ((lg E r p).getD 0),.bool (lg E r p).isSome]) w:=by
 obtain⟨es,clock,hb,U⟩:=h;obtain⟨l,hl⟩:=JJ X;have T:(zeroValue 3).run fe w=.ok (ι κ 0) w:=ga;have hc:=Ou.check w es.isEmpty hl;unfold fF;simp only[fT,run_underlying underlying184,eO,gO hb,fU,hc];rcases oU.find hb U V X with⟨Z,Y⟩|⟨m,j,Z,Y⟩
 {simp only[Y,eO,fT,T,fU,Z];rfl};{simp only[Y,eO,Z];rfl}
theorem oU.store {b:Nat} (h:oU w b E)(U:DL E) {r p m:Int} (V:1<=r/\r<=6/\0<=p/\p<=2)(S:lg E r p=ν):
 ∃w',(fD 184 (.map (μ b)) (wW r p) (ι κ m)).run fe w=.ok () w'/\oU w' b (E++ [(r,p,m)])/\w'.os=w.os/\w'.tape=w.tape/\w'.output=w.output/\w'.heap.size=w.heap.size/\∀k,k≠b->w'.heap[k]? =w.heap[k]? :=by
 obtain⟨es,clock,hb,X⟩:=h;obtain⟨l,hl⟩:=JJ V;have hc:=Ou.check w false hl;have Q:b<w.heap.size:=(ay.1 hb).1;rcases oU.find hb X U V with⟨Z,Y⟩|⟨m',j,Z,Y⟩
 {refine⟨{w with heap:=w.heap.setIfInBounds b (.map (es.push {key:=wW r p,val:=.int .i64 m,born:=clock}) (clock+1))},?_,⟨es.push {key:=wW r p,val:=.int .i64 m,born:=clock},clock+1,?_,?_⟩,rfl,rfl,rfl,ik,λk T=> ?_⟩;{unfold fD;simp only[fT,run_underlying underlying184,eO,gO hb,hc,Y,Go.MapKept.run_setObj_map _ hb]};{simp[Q]};{simp[X]};{show(w.heap.setIfInBounds b _)[k]? =_;rw[Array.getElem?_setIfInBounds_ne (λe=>T e.symm)]}};{rw[S]at Z;simp at Z}
theorem Fb(r:iW):r.change.n=r.n:=by
 unfold iW.change iW.behind;split;{rfl};{split<;>rfl}
theorem BD(r:iW)(s:Int):(r.behind s).id=r.id:=by
 unfold iW.behind;split<;>rfl
theorem VX(r:iW)(s:Int):(r.behind s).n=r.n:=by
 unfold iW.behind;split<;>rfl
theorem Iq(r:iW):r.change.id=r.id:=by
 unfold iW.change;split;{rfl};{exact BD r _}
theorem BF(r:iW)(i:Nat)(q:lK):(r.meet i q).n=r.n:=by
 unfold iW.meet;simp only;split;{rfl};{split;{exact Fb _};{exact Fb _}}
theorem DM(r:iW)(i:Nat)(q:lK):(r.meet i q).id=r.id:=by
 unfold iW.meet;simp only;split;{rfl};{split;{exact Iq _};{exact Iq _}}
section
variable {w W:World} {z:Zt} {r:iW} {n N:Nat} {C:Array Value} {t:TypeId}
theorem VY(h:oT w W z r n N C t)(i:Nat)(hi:i<r.n):
 fc fe 124 #[π (μ ⟨z.Bb,0,ν⟩),ι κ (i:Int)] W λe w'=>e=ρ (τ #[])/\oT w w' z {r with O:=λx=>if x=i then λ_=>ν else r.O x} n N C t:=by
 have Y:=h.nn;subst Y;refine h.call rfl λX Z hl=> ?_;rw[<-hl.Bb];exact VT X r i W Z hi
theorem Ow(h:oT w W z r n N C t)(X:lM r):
 fc fe 125 #[π (μ ⟨z.R,0,ν⟩)] W λe w'=>e=ρ (τ #[])/\oT w w' z r.change n N C t:=by
 have Y:=h.nn;subst Y;refine h.call (Fb r) λV Z hl=> ?_;rw[<-hl.R];exact Oq V r W Z X
theorem VZ(h:oT w W z r n N C t)(i:Nat)(hi:i<n):
 fc fe 126 #[π (μ ⟨z.Bb,0,ν⟩),ι κ (i:Int)] W λe w'=>e=ρ η/\iP w w' z {r with O:=λx=>if x=i then qU (r.O i) r.K else r.O x} n:=by
 have Y:=h.nn;subst Y;refine h.went.call λX Z hl=> ?_;rw[<-hl.Bb];exact R7 X r i W Z hi
end
theorem wX(z:Zt)(r:iW)(i:Nat)(q:lK)(w:ew)(h:mM w z r)(jb:lM r)(hi:i<r.n)(hq:oI r.id q):
 fc fe 74 #[π (μ ⟨z.R,0,ν⟩),.int .i64 (i:Int),.agg #[.int .i64 q.who,.bool q.both,.int .i64 q.left]] w λe w'=>e=ρ (τ #[])/\iP w w' z (r.meet i q) r.n:=by
 have ll:(i:Int)<(r.n:Int):=eB;have PH:(0:Int)<=(i:Int):=eB;have hzp:=EO;obtain⟨p,hp⟩:=fq (r.P i);have ba:=gK w (γ #[.int .i64 q.who,.bool q.both,.int .i64 q.left] 116);have bb:=fP ba (gK (w.alloc (γ #[.int .i64 q.who,.bool q.both,.int .i64 q.left] 116)) (γ #[.int .i64 p.pe.who,.bool p.pe.both,.int .i64 p.pe.left] 116));have M:=h.below ba;have c1:=M.c1;have cl:=M.lt;have g1:=(M.pt i hi).c67;have g2:=(M.pt i hi).c68;have g3:=(M.pt i hi).c69;have gl:=M.Kt;rw[hp]at g1 g2 g3;have R2:=h.below bb;have T:ji ((w.alloc (γ #[.int .i64 q.who,.bool q.both,.int .i64 q.left] 116)).alloc (γ #[.int .i64 p.pe.who,.bool p.pe.both,.int .i64 p.pe.left] 116)) w.heap.size #[.int .i64 q.who,.bool q.both,.int .i64 q.left] 116:=(ji.new w _ _).below (gK _ _);have X:ji ((w.alloc (γ #[.int .i64 q.who,.bool q.both,.int .i64 q.left] 116)).alloc (γ #[.int .i64 p.pe.who,.bool p.pe.both,.int .i64 p.pe.left] 116)) (w.heap.size+1) #[.int .i64 p.pe.who,.bool p.pe.both,.int .i64 p.pe.left] 116:=ji.Gy _ _ _ _ ik;have HR:Hid _:=h;have V5:Hid _:=jb;have HP:Hid _:=hp;clear jb M hp
 go_in
 go_wp2_with(fail);obtain⟨Z,kt⟩:=fq ((w.alloc (γ #[.int .i64 q.who,.bool q.both,.int .i64 q.left] 116)).alloc (γ #[.int .i64 p.pe.who,.bool p.pe.both,.int .i64 p.pe.left] 116));rw[kt]at bb R2 T X;rw[kt];have J:¬z.mine r.n w.heap.size:=h.uR (Nat.le_refl _);have hgN:z.g<w.heap.size:=h.Kt;obtain⟨N,hN⟩:=fq (w.heap.size);rw[hN]at T X J hgN;rw[hN];have Rd:=R2.below (jl Z);have hPe:=(Rd.pt i hi).peer q;have H:=Rd.port hi hPe;have hBs:oT Z (((Z.drew.setCell ⟨z.g,i*71+67,ν⟩ (.int .i64 q.who)).setCell ⟨z.g,i*71+68,ν⟩ (.bool q.both)).setCell ⟨z.g,i*71+69,ν⟩ (.int .i64 q.left)) z (r.jh i {p with pe:=q}) r.n N #[.int .i64 q.who,.bool q.both,.int .i64 q.left] 116:=by
  rw[HP.out]at H;exact⟨iP.first R2 rfl (jl Z) (λ_=>H),((T.drew.other eB _).other eB _).other eB _,rfl,T.lt,J⟩
 have agO:ji (((Z.drew.setCell ⟨z.g,i*71+67,ν⟩ (.int .i64 q.who)).setCell ⟨z.g,i*71+68,ν⟩ (.bool q.both)).setCell ⟨z.g,i*71+69,ν⟩ (.int .i64 q.left)) (N+1) #[.int .i64 p.pe.who,.bool p.pe.both,.int .i64 p.pe.left] 116:=((X.drew.other eB _).other eB _).other eB _;have e1:=Rd.c1;have eg:=Rd.Kt;have el:=Rd.lt;have y0:Z.drew.cell? ⟨N,0,ν⟩=μ (ι κ q.who):=T.cell 0;have y1:Z.drew.cell? ⟨N,1,ν⟩=μ (.bool q.both):=T.cell 1;have y2:Z.drew.cell? ⟨N,2,ν⟩=μ (.int .i64 q.left):=T.cell 2;have x7:=(Rd.pt i hi).c67;have x8:=(Rd.pt i hi).c68;have x9:=(Rd.pt i hi).c69;have f7:=(Rd.pt i hi).fz 67 eF;have f8:=(Rd.pt i hi).fz 68 eF;have f9:=(Rd.pt i hi).fz 69 eF;rw[HP.out]at x7 x8 x9;have hS:((Z.setCell ⟨z.g,i*71+67,ν⟩ (.int .i64 q.who)).drew.cell? ⟨z.g,i*71+67+1,ν⟩=μ (.bool p.pe.both)/\(Z.setCell ⟨z.g,i*71+67,ν⟩ (.int .i64 q.who)).drew.frozen? ⟨z.g,i*71+67+1,ν⟩=false)/\(((Z.setCell ⟨z.g,i*71+67,ν⟩ (.int .i64 q.who)).setCell ⟨z.g,i*71+67+1,ν⟩ (.bool q.both)).drew.cell? ⟨z.g,i*71+67+2,ν⟩=μ (.int .i64 p.pe.left)/\((Z.setCell ⟨z.g,i*71+67,ν⟩ (.int .i64 q.who)).setCell ⟨z.g,i*71+67+1,ν⟩ (.bool q.both)).drew.frozen? ⟨z.g,i*71+67+2,ν⟩=false):=by
  obtain⟨F,hC,_⟩:=(Rd.pt i hi).xR;rw[HP.out]at hC;have h1:=hC.set 67 eF (ι κ q.who);have h2:=h1.set 68 eF (.bool q.both);exact⟨⟨h1.cell 68 eF,h1.fz 68 eF⟩,h2.cell 69 eF,h2.fz 69 eF⟩
 obtain⟨⟨s1,s2⟩,s3,s4⟩:=hS;clear x8 x9 f8 f9;have Vs:Hid _:=bb;have HR2:Hid _:=R2;have A:Hid _:=hBs;have HQ:Hid _:=hq;clear h hq kt Rd hPe H hBs bb R2 T X ba c1 cl g1 g2 g3 gl
 go_region
 obtain⟨S,nK⟩:=fq ((((Z.setCell ⟨z.g,i*71+67,ν⟩ (.int .i64 q.who)).setCell ⟨z.g,i*71+67+1,ν⟩ (.bool q.both)).setCell ⟨z.g,i*71+67+2,ν⟩ (.int .i64 q.left)).drew);rw[nK];have Q:oT Z S z (r.jh i {p with pe:=q}) r.n N #[.int .i64 q.who,.bool q.both,.int .i64 q.left] 116:=by rw[<-nK];exact A.out
 have X:ji S (N+1) #[.int .i64 p.pe.who,.bool p.pe.both,.int .i64 p.pe.left] 116:=by rw[<-nK];exact agO
 have y0:S.cell? ⟨N,0,ν⟩=μ (ι κ q.who):=Q.oE.cell 0;have y1:S.cell? ⟨N,1,ν⟩=μ (.bool q.both):=Q.oE.cell 1;have u0:S.cell? ⟨N+1,0,ν⟩=μ (ι κ p.pe.who):=X.cell 0;have u1:S.cell? ⟨N+1,1,ν⟩=μ (.bool p.pe.both):=X.cell 1;have nl:=Q.oE.lt;have nl6:=X.lt;have d2:=Q.went.c2;have dl:=Q.went.lt;have D:Hid _:=Q;have V:Hid (r.meet i q=if q.who=p.pe.who/\q.both=p.pe.both then r.jh i {p with pe:=q}else if q.both=true then {(({r.jh i {p with pe:=q}with O:=λx=>if x=i then λ_=>ν else r.O x}:iW).change)with O:=λx=>if x=i then qU ((({r.jh i {p with pe:=q}with O:=λx=>if x=i then λ_=>ν else r.O x}:iW).change).O i) (({r.jh i {p with pe:=q}with O:=λx=>if x=i then λ_=>ν else r.O x}:iW).change).K else(({r.jh i {p with pe:=q}with O:=λx=>if x=i then λ_=>ν else r.O x}:iW).change).O x}else({r.jh i {p with pe:=q}with O:=λx=>if x=i then λ_=>ν else r.O x}:iW).change):=by
  show _=_;unfold iW.meet;rw[HP.out];rfl
 obtain⟨r1,lE⟩:=fq (r.jh i {p with pe:=q});have lq:lM r1:=by rw[<-lE];exact V5.out.jh i _ (by rw[HP.out]) (λ_=>HQ.out)
 have mP:r1.n=r.n:=by rw[<-lE];rfl
 have hO1:r1.O=r.O:=by rw[<-lE];rfl
 rw[lE]at D V;rw[<-hO1]at V;have G:Hid (∀W rr,iP Z W z rr r.n->iP w W z rr r.n):=λW rr hw=>iP.first HR.out rfl Vs.out (λ_=>hw);have Dn:Hid _:=lq;have HN1:Hid _:=mP;clear nK Q X agO lE lq mP hO1 A HP HQ V5 s1 s2 s3 s4 x7 f7 e1 eg el HR2 Vs HR hgN J hzp;by_cases hs:q.who=p.pe.who/\q.both=p.pe.both
 ·have q1:(q.who==p.pe.who)=true:=by simp[hs.1]
  have q2:(q.both==p.pe.both)=true:=by simp[hs.2]
  have HE:Hid (iP w S z (r.meet i q) r.n):=by
   show iP _ _ _ _ _;rw[V.out,ai hs];exact G.out _ _ D.out.went
  clear hs V G D
  go_wp2
  first|go_end0|refine iX rfl rfl ?_
  exact⟨rfl,HE.out⟩
 ·obtain⟨Y,sH⟩:∃Y:iW,({r1 with O:=λx=>if x=i then λ_=>ν else r1.O x}:iW)=Y:=⟨_,rfl⟩
  have hp2:fc fe 124 #[π (μ ⟨z.Bb,0,ν⟩),.int .i64 (i:Int)] S λe w'=>e=ρ (τ #[])/\oT Z w' z Y r.n N #[.int .i64 q.who,.bool q.both,.int .i64 q.left] 116:=by
   refine(VY D.out i (by rw[HN1.out];exact hi)).mono ?_;rintro e w3 ⟨rfl,hw⟩;exact⟨rfl,by rw[<-sH];exact hw⟩
  have hch:Hid (∀W,oT Z W z Y r.n N #[.int .i64 q.who,.bool q.both,.int .i64 q.left] 116->fc fe 125 #[π (μ ⟨z.R,0,ν⟩)] W λe w'=>e=ρ (τ #[])/\oT Z w' z Y.change r.n N #[.int .i64 q.who,.bool q.both,.int .i64 q.left] 116):=by
   intro W H;have adt:lM Y:=by rw[<-sH];exact Dn.out.zd _
   exact Ow H adt
  have JK:Hid (∀W,oT Z W z Y.change r.n N #[.int .i64 q.who,.bool q.both,.int .i64 q.left] 116->fc fe 126 #[π (μ ⟨z.Bb,0,ν⟩),.int .i64 (i:Int)] W λe w'=>e=ρ η/\iP Z w' z {Y.change with O:=λx=>if x=i then qU (Y.change.O i) Y.change.K else Y.change.O x} r.n):=by
   intro W H;exact VZ H i hi
  rw[af hs,sH]at V;have HNE:Hid ((q.who==p.pe.who)=false \/(q.who==p.pe.who)=true/\(q.both==p.pe.both)=false):=by
   show _ \/_;cases h1:(q.who==p.pe.who);{exact .inl rfl};{refine .inr ⟨rfl,?_⟩;cases h2:(q.both==p.pe.both);{rfl};{exact absurd ⟨by simpa using h1,by simpa using h2⟩ hs}}
  clear hs sH Dn HN1;rcases HNE.out with q1|⟨q1,q2⟩
  all_goals
   clear HNE;go_wp2_with(fail);refine hp2.mono ?_;rintro e W3 ⟨rfl,H4⟩;have hc3:=hch.out _ H4;clear hp2 hch H4 D y0 y1 u0 u1 nl nl6 d2 dl;go_wp2_with(fail);refine hc3.mono ?_;rintro e W4 ⟨rfl,U⟩;have y1:W4.cell? ⟨N,1,ν⟩=μ (.bool q.both):=U.oE.cell 1;have nl:=U.oE.lt;have d2:=U.went.c2;have dl:=U.went.lt;clear hc3;cases hb:q.both with
   |false=>
    rw[hb]at y1;have HE:Hid (iP w W4 z (r.meet i q) r.n):=by
     show iP _ _ _ _ _;rw[V.out,hb,af ik];exact G.out _ _ U.went
    clear V G JK U
    go_wp2
    first|go_end0|refine iX rfl rfl ?_
    exact⟨rfl,HE.out⟩
   |true=>
    rw[hb]at y1;have hm5:=JK.out _ U;have HE:Hid (∀W,iP Z W z {Y.change with O:=λx=>if x=i then qU (Y.change.O i) Y.change.K else Y.change.O x} r.n->iP w W z (r.meet i q) r.n):=by
     intro W hw;rw[V.out,hb,ai rfl];exact G.out _ _ hw
    clear V G JK U;go_wp2_with(fail);refine hm5.mono ?_;rintro e W5 ⟨rfl,Kv⟩;have M6:=HE.out _ Kv;clear hm5 Kv
    go_wp2
    first|go_end0|refine iX rfl rfl ?_
    exact⟨rfl,M6⟩
theorem JL(C:k8)(r:Nat):(qq C r).length<=7:=rQ _ _
theorem BG(z:Zt)(r:iW)(w:ew)(h:mM w z r)(hK:Yf r.K):
 fc fe 64 #[π (μ ⟨z.R,0,ν⟩)] w λe w'=>∃b c,e=ρ (σ b (lv r).length c)/\HsN w w' b (lv r).length (lv r)/\eH w w':=by
 have V:=h.below (jl w);have A:r.id=((r.id.toNat:Nat):Int):=by have:=h.id;omega
 have Y:fc fe 110 #[π (μ ⟨z.Bb,0,ν⟩)] w.drew λe w'=>∃a n cap,e=ρ (σ a n cap)/\(∀W,eH w' W->fc fe 116 #[σ a n cap,ι κ r.id] W λe X=>∃b c,e=ρ (σ b (lv r).length c)/\HsN w X b (lv r).length (lv r)/\eH w X/\(X.cell? ⟨z.R,0,ν⟩=μ (ι κ r.id)/\X.cell? ⟨z.R,2,ν⟩=μ (π (μ ⟨z.Bb,0,ν⟩))))/\(w'.cell? ⟨z.R,0,ν⟩=μ (ι κ r.id)/\w'.cell? ⟨z.R,2,ν⟩=μ (π (μ ⟨z.Bb,0,ν⟩))):=by
  refine(Co z.Bb z.fm 6 r.K r.O w.drew V.bs).mono ?_;rintro e w1 ⟨a,n,cap,S,E,rfl,hS,D,h6,_,b1⟩;have M:=V.below b1;refine⟨a,n,cap,rfl,λW Q=> ?_,M.c0,M.c2⟩;have hh:=Vj a n cap S E r.id.toNat W (hS.below Q) eB D.ok (by have:=h.id;omega) (by have:=h.id;omega);rw[<-A]at hh;rw[tD.grid D hK]at hh;refine hh.mono ?_;rintro e X ⟨b,c,rfl,U,b2⟩;have G:=(M.below Q).below b2;exact⟨b,c,rfl,⟨U.r,λx e=>Nat.le_trans (fP (fP (jl w) b1) Q).size (U.nw x e)⟩,fP (fP (fP (jl w) b1) Q) b2,G.c0,G.c2⟩
 have Z:=And.intro V.c0 V.c2;generalize lv r=L at Y⊢;generalize z.R=T at Y Z⊢;generalize z.Bb=Bb at Y Z;generalize r.id=id at Y Z;clear h V A;have Z:w.drew.cell? ⟨T,0,ν⟩=μ (ι κ id)/\w.drew.cell? ⟨T,2,ν⟩=μ (π (μ ⟨Bb,0,ν⟩)):=Z
 go_in
 go_wp2
 go_region_held3(λx=>x.cell? ⟨T,0,ν⟩=μ (ι κ id)/\x.cell? ⟨T,2,ν⟩=μ (π (μ ⟨Bb,0,ν⟩)))
  (first|assumption|exact Z|exact J|exact H)
  (first
   |(go_at_call 110;refine Y.mono ?_;rintro e w1 ⟨a,n,cap,rfl,hh,J⟩)
   |(go_at_call 116;refine(hh _ (au _ _)).mono ?_;rintro e X ⟨b,c,rfl,U,b2,H⟩))
 all_goals
  have HH:Hid _:=U;clear Y hh Z J H U
  go_wp2
  go_ret
  first|exact⟨b,c,rfl,HH.out,b2⟩|exact⟨b,⟨c,rfl,HH.out,b2⟩⟩
def Zx(r:iW)(t h:Int):Option Nat:=if 1<=h then(Bl (lv r) t).bind λx=>j1 r.P x.sj r.n else ν
def tG(F:Int->Option PS)(j m:Nat):List (Int×PS):=(List.range' j m).filterMap λ(j:Nat)=>(F ((j:Int)+1)).map λq=>((j:Int)+1,q)
theorem Ox(F:Int->Option PS):lV F=tG F 0 6:=by unfold lV tG;rw[di]
theorem uA {F:Int->Option PS} {n:Nat} {S:Nat->SV} {E:Nat->List jQ} (h:tD F n S E):∀(m j k:Nat),j+m=6->k<=n->(∀i,i<k->(S i).own<=j)->(∀i,k<=i->i<n->(j:Int)<(S i).own)->tG F j m=(List.range' k (n-k)).map λi=>((S i).own,((S i).seq,E i))
 |0,j,k,hj,hk,h1,h2=>by
  have:n-k=0:=by
   by_cases e:k<n;{have Y:=h2 k (Nat.le_refl _) e;have Z:=(jC (h.ok k e)).1;omega};{omega}
  rw[this];rfl
 |m+1,j,k,hj,hk,h1,h2=>by
  have e:tG F j (m+1)=(match F ((j:Int)+1)with|none=>tG F (j+1) m|some q=>((j:Int)+1,q)::tG F (j+1) m):=by
   unfold tG;rw[dH,br];cases F ((j:Int)+1)<;>simp
  rw[e];cases hF:F ((j:Int)+1)with
  |none=>
   simp only;refine uA h m (j+1) k eB hk (λi hi=>by have:=h1 i hi;omega) (λi Y Z=> ?_);have h5:=h2 i Y Z;have h6:(S i).own≠(j:Int)+1:=λe=>by
    have:=(h.at_ i Z).2;rw[e,hF]at this;cases this
   omega
  |some q=>
   simp only;obtain⟨i,hi,V⟩:=h.all ((j:Int)+1) ⟨eB,eB⟩ (by rw[hF];rfl);have hki:k<=i:=by
    by_cases e:i<k;{have:=h1 i e;omega};{omega}
   have X:i=k:=by
    by_cases e:i=k;{exact e};{have Y:=h.Rj k i eB hi;have Z:=h2 k (Nat.le_refl _) eB;omega}
   subst X;have U:=(h.at_ i hi).2;rw[V,hF]at U;have T:=Option.some.inj U;have en:n-i=(n-(i+1))+1:=eB;rw[en,dH,eQ,V,<-T];congr 1;refine uA h m (j+1) (i+1) eB eB (λx hx=> ?_) (λx Y Z=> ?_);{by_cases e:x=i;{subst e;omega};{have:=h1 x eB;omega}};{have:=h.Rj i x eB Z;omega}
theorem R8 {F:Int->Option PS} {S:Nat->SV} {E:Nat->List jQ} (h:tD F n S E):lV F=(ft n).map λi=>((S i).own,((S i).seq,E i)):=by
 rw[Ox,uA h 6 0 0 rfl (Nat.zero_le _) (λi hi=>eB) (λi _ hi=>by have:=(jC (h.ok i hi)).1;omega),di];rfl
theorem V6(B:Nat)(m:FM)(k:Nat)(K:Int->Option PS)(O:Nat->Int->Option PS)(p:Nat)(w:ew)(h:BR w B m k K O)(Y:p<m.bs.length):
 fc fe 151 #[π (μ ⟨B,0,ν⟩),ι κ (p:Int)] w λe w'=>∃a n cap S E,e=ρ (σ a n cap)/\uv w' a n S E/\tD (O p) n S E/\n<=6/\(∀j,eD (σ a n cap)=μ j->w.heap.size<j)/\(∀i,i<n->∀j,eD (σ (S i).a (S i).n (S i).cap)=μ j->w.heap.size<j)/\eH w w':=by
 obtain⟨kn,ow,hF,hT,X⟩:=h.ex;refine(U1 B m k kn ow (nj (O p)) p w hF Y (X p Y).fine).mono ?_;rintro e w1 ⟨v,ts,rfl,Z⟩;obtain⟨a,cap,rfl,V,U,T,Q⟩:=Z.lists (X p Y);refine⟨a,ts.length,cap,_,_,rfl,V,U,T,Q,λi hi j M=> ?_,Z.ox⟩;have J:ts.getD i SV.zero∈ts:=by
  have:ts.getD i SV.zero=ts[i] :=by simp[List.getD,hi]
  rw[this];exact aF hi
 exact((Z.el _ J).new j M).1
theorem CF:∀(l:List (Int×PS)) (p:jI) (q:Int×PS),p.kU (l++ [q])=(p.kU l).put 83 (rN q.1 q.2.1 q.2.2)
 |[],_,_=>rfl
 |x::l,p,q=>by
  show(p.put 83 (rN x.1 x.2.1 x.2.2)).kU (l++ [q])=((p.put 83 (rN x.1 x.2.1 x.2.2)).kU l).put _ _;exact CF l _ q
theorem zi:∀(l:List (Int×PS)) (p:jI),(p.kU l).out.length<=p.out.length+126*l.length
 |[],p=>by simp[jI.kU]
 |x::l,p=>by
  have h1:=zi l (p.put 83 (rN x.1 x.2.1 x.2.2));have h2:=xS p 83 (rN x.1 x.2.1 x.2.2);have e:p.kU (x::l)=(p.put 83 (rN x.1 x.2.1 x.2.2)).kU l:=rfl;rw[e,cS];omega
theorem sC(p:jI)(c:UInt8)(s:List UInt8):(p.put c s).pe=p.pe:=by
 unfold jI.put;split;{rfl};{split<;>rfl}
theorem BH(r:iW)(i:Nat)(p q:jI):(r.jh i p).jh i q=r.jh i q:=by
 have:lF (lF r.P i p) i q=lF r.P i q:=by
  funext x
  unfold lF;by_cases e:x=i;{simp[e]};{simp[e]}
 show({r with P:=lF (lF r.P i p) i q}:iW)={r with P:=lF r.P i q}
 rw[this]
def mX(r:iW)(i:Nat):iW:=
 let p:=(r.P i).put 72 [kc r.id,kc (r.P i).pe.who]
 r.jh i (if(r.P i).pe.both=true then p.kU (lV (r.O i))else p)
theorem jm.went {z:Zt} (h:iP w w' z r n)(Y:mM w z r0) {a:Option eh} {cap:Nat} (U:jm w a m es)(V:∀j,eD (σ a m cap)=μ j->¬z.mine n j):jm w' a m es:=by
 refine⟨U.1,?_⟩;rcases U.2 with Z|⟨b,off,rfl,Z⟩
 {exact .inl Z};{exact .inr ⟨b,off,rfl,λj X=>⟨h.cell Y (p:=⟨b,_,ν⟩) (V b rfl) (Z j X).1,h.cell Y (p:=⟨b,_,ν⟩) (V b rfl) (Z j X).2⟩⟩}
theorem uv.went {w w':ew} {z:Zt} {r r0:iW} {n:Nat} (h:iP w w' z r n)(Y:mM w z r0) {a:Option eh} {m cap:Nat} {S:Nat->SV} {E:Nat->List jQ} (hs:uv w a m S E)(X:∀j,eD (σ a m cap)=μ j->¬z.mine n j)(U:∀i,i<m->∀j,eD (σ (S i).a (S i).n (S i).cap)=μ j->¬z.mine n j):uv w' a m S E:=by
 refine⟨?_,λj Z=>⟨jm.went h Y (hs.opt j Z).1 (U j Z),(hs.opt j Z).2⟩⟩;rcases hs.row with V|⟨b,off,rfl,V⟩
 {exact .inl V};{refine .inr ⟨b,off,rfl,λj Z=> ?_⟩;obtain⟨c1,c2,c3⟩:=V j Z;exact⟨h.cell Y (p:=⟨b,_,ν⟩) (X b rfl) c1,h.cell Y (p:=⟨b,_,ν⟩) (X b rfl) c2,h.cell Y (p:=⟨b,_,ν⟩) (X b rfl) c3⟩}
theorem V7(z:Zt)(r:iW)(i:Nat)(w:ew)(h:mM w z r)(jb:lM r)(hi:i<r.n)(vW:(r.P i).out.length<=700000000):
 fc fe 85 #[π (μ ⟨z.R,0,ν⟩),ι κ (i:Int)] w λe w'=>e=ρ (τ #[])/\iP w w' z (mX r i) r.n:=by
 have ll:(i:Int)<(r.n:Int):=eB;have PH:(0:Int)<=(i:Int):=eB;obtain⟨p,A⟩:=fq (r.P i);rw[A]at vW;have yj:Hid (∀W,eH w W->W.cell? ⟨z.R,0,ν⟩=μ (.int .i64 r.id)/\W.cell? ⟨z.g,i*71+67,ν⟩=μ (.int .i64 p.pe.who)/\W.cell? ⟨z.g,i*71+67+1,ν⟩=μ (.bool p.pe.both)/\W.cell? ⟨z.g,i*71+67+2,ν⟩=μ (.int .i64 p.pe.left)):=by
  intro W V;have R:=h.below V;rw[<-A];exact⟨R.c0,(R.pt i hi).c67,(R.pt i hi).c68,(R.pt i hi).c69⟩
 have oQ:=jb.pe i hi;rw[A]at oQ;have V8:∀W,eH w W->fc fe 149 #[.agg #[.int .i64 p.pe.who,.bool p.pe.both,.int .i64 p.pe.left],.int .i64 r.id] W λe w'=>e=ρ (.agg #[.int .i64 r.id,.int .i64 p.pe.who])/\eH w w'/\(w'.cell? ⟨z.R,0,ν⟩=μ (.int .i64 r.id)/\w'.cell? ⟨z.g,i*71+67,ν⟩=μ (.int .i64 p.pe.who)/\w'.cell? ⟨z.g,i*71+67+1,ν⟩=μ (.bool p.pe.both)/\w'.cell? ⟨z.g,i*71+67+2,ν⟩=μ (.int .i64 p.pe.left)):=by
  intro W V;refine(VG p.pe.who p.pe.left r.id p.pe.both W).mono ?_;rintro e w1 ⟨rfl,b1⟩;exact⟨rfl,fP V b1,yj.out _ (fP V b1)⟩
 have agP:∀W,eH w W->fc fe 148 #[.agg #[.int .i64 r.id,.int .i64 p.pe.who]] W λe w'=>e=ρ (τ #[.string ⟨#[u8 r.id,u8 p.pe.who]⟩,η])/\eH w w'/\(w'.cell? ⟨z.R,0,ν⟩=μ (.int .i64 r.id)/\w'.cell? ⟨z.g,i*71+67,ν⟩=μ (.int .i64 p.pe.who)/\w'.cell? ⟨z.g,i*71+67+1,ν⟩=μ (.bool p.pe.both)/\w'.cell? ⟨z.g,i*71+67+2,ν⟩=μ (.int .i64 p.pe.left)):=by
  intro W V;have h1:=jb.id;have h2:=oQ.who;refine(Ly r.id p.pe.who W h1.1 h1.2 h2.1 h2.2 (by simp[uQ];omega)).mono ?_;rintro e w1 ⟨rfl,b1⟩;exact⟨rfl,fP V b1,yj.out _ (fP V b1)⟩
 obtain⟨Z,Db⟩:=fq (p.put 72 [kc r.id,kc p.pe.who]);have DK:Z.out.length<=700000126:=by
  rw[<-Db];have:=xS p 72 [kc r.id,kc p.pe.who];omega
 have Lw:Z.pe=p.pe:=by rw[<-Db];exact sC _ _ _
 obtain⟨r1,G⟩:=fq (r.jh i Z);have T:r1.n=r.n:=by rw[<-G];rfl
 have hP1:r1.P i=Z:=by rw[<-G];exact jL _ _ _
 have hO1:r1.O=r.O:=by rw[<-G];rfl
 have oH:Hid (∀W,eH w W->fc fe 150 #[π (μ ⟨z.g,i*71,ν⟩),.string ⟨#[72]⟩,.string ⟨#[u8 r.id,u8 p.pe.who]⟩] W λe w'=>e=ρ (τ #[])/\iP w w' z r1 r.n):=by
  intro W V;have R:=h.below V;have CC:=R.pt i hi;rw[A]at CC;refine(DJ z.g (i*71) (z.B i) (z.v i) p ⟨#[72]⟩ ⟨#[u8 r.id,u8 p.pe.who]⟩ 72 W CC rfl (by show 2<=1000;omega) eB).mono ?_;rintro e w1 ⟨rfl,J⟩;have wi:mc W w1 z.g (i*71) (z.B i) (z.v i) Z:=by rw[<-Db];exact J
  rw[<-G];exact⟨rfl,iP.first h rfl V (λ_=>R.port hi wi)⟩
 have hE:mX r i=r.jh i (if p.pe.both=true then Z.kU (lV (r.O i))else Z):=by
  unfold mX;rw[A];simp only[Db]
 have V9:Hid (p.pe.both=false->mX r i=r1):=by
  intro e;rw[hE,af (by simp[e]),G]
 have M:Hid (p.pe.both=true->mX r i=r1.jh i (Z.kU (lV (r.O i)))):=by
  intro e;rw[hE,ai e,<-G];exact(BH r i Z _).symm
 have b0:=jl w;have R0:=h.below b0;have c1:=h.c1;have cl:=h.lt;have gl0:=h.Kt;have F0:w.drew.cell? ⟨z.R,0,ν⟩=μ (.int .i64 r.id)/\w.drew.cell? ⟨z.g,i*71+67,ν⟩=μ (.int .i64 p.pe.who)/\w.drew.cell? ⟨z.g,i*71+67+1,ν⟩=μ (.bool p.pe.both)/\w.drew.cell? ⟨z.g,i*71+67+2,ν⟩=μ (.int .i64 p.pe.left):=yj.out _ b0;have HR:Hid _:=h;clear h jb oQ R0 hE A
 go_in
 go_wp2
 go_region_held3(λx=>x.cell? ⟨z.R,0,ν⟩=μ (.int .i64 r.id)/\x.cell? ⟨z.g,i*71+67,ν⟩=μ (.int .i64 p.pe.who)/\x.cell? ⟨z.g,i*71+67+1,ν⟩=μ (.bool p.pe.both)/\x.cell? ⟨z.g,i*71+67+2,ν⟩=μ (.int .i64 p.pe.left))
  (first|assumption|exact F0|exact F1|exact F2)
  (first
   |(go_at_call 149;refine(V8 _ b0).mono ?_;rintro e w1 ⟨rfl,b1,F1⟩)
   |(go_at_call 148;refine(agP _ b1).mono ?_;rintro e w2 ⟨rfl,b2,F2⟩))
 all_goals
  have CC:=oH.out _ b2;clear V8 agP oH yj F0 F1 F2 c1 cl gl0;go_wp2_with(fail);refine CC.mono ?_;rintro e W4 ⟨rfl,Q⟩;obtain⟨v4,hv4⟩:=Q.pt (i:=i) (by rw[T];exact hi);have g8:W4.cell? ⟨z.g,i*71+67+1,ν⟩=μ (.bool p.pe.both):=by
   have:=hv4.c68;rw[hP1,Lw]at this;exact this
  have gl:=Q.Kt;have k2:=Q.c2;have kl:=Q.lt;clear CC hv4 b1 b2;cases hb:p.pe.both with
  |false=>
   rw[hb]at g8;have HW:Hid (iP w W4 z (mX r i) r.n):=by show iP _ _ _ _ _;rw[V9.out hb];exact Q
   clear Q V9 M
   go_wp2
   first|go_end0|refine iX rfl rfl ?_
   exact⟨rfl,HW.out⟩
  |true=>
   rw[hb]at g8;have HE:=M.out hb;obtain⟨z4,R4,U,Ir,agQ⟩:=Q.ex;have how:=V6 z4.Bb z4.fm 6 r1.K r1.O i W4 R4.bs (by rw[R4.bl,T];exact hi);rw[U.Bb]at how;have HF:Hid (∀W,iP W4 W z4 (mX r i) r.n->iP w W z (mX r i) r.n):=λW J=>Q.ry R4 U Ir agQ J;have X:Hid _:=R4;have HEq:Hid _:=HE;clear Q HE V9 M R4 Ir agQ;go_wp2_with(fail);refine how.mono ?_;rintro e D ⟨a,m,cap,S,E,rfl,hS,hL,h6,jy,abp,b5⟩;have YB:=R8 hL;rw[hO1]at YB;have R5:=X.out.below b5;have wv:∀j,eD (σ a m cap)=μ j->¬z4.mine r.n j:=λj hj=>by
    have:=X.out.uR (Nat.le_of_lt (jy j hj))
    rwa [T]at this
   have Dh:∀x,x<m->∀j,eD (σ (S x).a (S x).n (S x).cap)=μ j->¬z4.mine r.n j:=λx hx j hj=>by
    have:=X.out.uR (Nat.le_of_lt (abp x hx j hj))
    rwa [T]at this
   have wJ:Hid (∀wr rr,iP D wr z4 rr r.n->uv wr a m S E):=λwr rr J=>uv.went (cap:=cap) J R5 hS wv Dh;have alN:Hid (∀x,x<m->oK (S x).own (S x).seq (E x)=0):=hL.ok;have alO:Hid (∀k,k<m->(lV (r.O i)).take (k+1)=(lV (r.O i)).take k++ [((S k).own,((S k).seq,E k))]):=by
    intro k hk;have hlen:k<(lV (r.O i)).length:=by rw[YB];simpa using hk
    rw[az hlen];congr 2;simp[YB]
   have alP:Hid ((lV (r.O i)).length=m):=by show _=_;rw[YB];simp
   have HF5:Hid (∀W,iP D W z4 (mX r i) r.n->iP w W z (mX r i) r.n):=λW J=>HF.out W (iP.first X.out T b5 (λ_=>J));have H0:Hid (iP D D z4 (r1.jh i (Z.kU ((lV (r.O i)).take 0))) r.n):=by
    show iP _ _ _ _ _;have e:r1.jh i (Z.kU ((lV (r.O i)).take 0))=r1:=by
     show r1.jh i Z=r1;rw[<-G,BH]
    rw[e,<-T];exact iP.refl R5
   have hG4:z4.g=z.g:=U.g;have HG4:Hid _:=hG4;clear how hS hL jy abp YB R5 wv Dh HF hG4 b5 X U k2 kl g8 gl
   go_wp2
   go_loopw [46] (λx wr=>∃k:Nat,k<=m/\x=ι κ k/\iP D wr z4 (r1.jh i (Z.kU ((lV (r.O i)).take k))) r.n) (λx _=>m-(intOf x).toNat)
   case atStart=>exact⟨0,Nat.zero_le _,rfl,H0.out⟩
   case round=>
    obtain⟨k,hk,rfl,Y⟩:=hrel;by_cases kL:k<m
    ·have n9:(k:Int)<(m:Int):=eB;have GF:(0:Int)<=(k:Int):=eB;have SR:=wJ.out _ _ Y;rcases SR.row with h0|⟨b,off,rfl,jf⟩
     ·omega
     obtain⟨x0,x1,x2⟩:=jf k kL;have hop:=(SR.opt k kL).1;have kC:=alN.out k kL;have Zl:=alO.out k kL;have xl:=ag _ _ x0;have ba:=gK wr (γ #[ι κ (S k).own,ι κ (S k).seq,σ (S k).a (S k).n (S k).cap] 40);have H:=Y.below (by show r1.n=r.n;exact T) ba;obtain⟨pk,JH⟩:=fq (Z.kU ((lV (r.O i)).take k));have pV:pk.out.length<=800000000:=by
      rw[<-JH];have h1:=zi ((lV (r.O i)).take k) Z;have h2:((lV (r.O i)).take k).length<=k:=cB _ _;omega
     have vf:fc fe 152 #[π (μ ⟨z.g,i*71,ν⟩),.string ⟨#[83]⟩,.agg #[ι κ (S k).own,ι κ (S k).seq,σ (S k).a (S k).n (S k).cap]] (wr.alloc (γ #[ι κ (S k).own,ι κ (S k).seq,σ (S k).a (S k).n (S k).cap] 40)) λe w'=>e=ρ (τ #[])/\iP D w' z4 (r1.jh i (Z.kU ((lV (r.O i)).take (k+1)))) r.n:=by
      rw[Zl,CF];rw[JH]at H⊢;refine H.call λz1 R1 hl=> ?_;have vP:i<(r1.jh i pk).n:=by show i<r1.n;rw[T];exact hi
      have agR:=R1.pt i vP;have hPk:(r1.jh i pk).P i=pk:=jL _ _ _;rw[hPk]at agR;rw[<-HG4.out,<-hl.g];refine(yx ⟨#[83]⟩ 83 (S k).own (S k).seq (S k).a (S k).n (S k).cap (E k) z1.g (i*71) (z1.B i) (z1.v i) pk _ agR rfl (hop.below ba) kC pV).mono ?_;rintro e w6 ⟨rfl,M6⟩;have h7:=R1.port vP M6;rw[BH]at h7;exact⟨rfl,by rw[show r.n=(r1.jh i pk).n from T.symm];exact h7⟩
     clear SR jf hop kC Zl H Y JH pV ba;go_wp2_with(fail);refine vf.mono ?_;rintro e w6 ⟨rfl,M6⟩;have HW6:Hid _:=M6;clear vf M6
     go_wp2
     go_roundw
     case rel=>exact⟨k+1,eB,by go_num,HW6.out⟩
     case measure=>simp[intOf];omega
    ·have yc:¬(k:Int)<(m:Int):=eB;have HW:Hid (iP w wr z (mX r i) r.n):=by
      show iP _ _ _ _ _;refine HF5.out _ ?_;rw[HEq.out];have e1:(lV (r.O i)).take k=lV (r.O i):=aH (by have:=alP.out;omega);rw[e1]at Y;exact Y
     clear Y
     go_wp2
     first|go_end0|refine iX rfl rfl ?_
     exact⟨rfl,HW.out⟩
theorem qy {own:Int} {os:List jQ} (h:iB l=(own,seq,os,0)):oK own seq os=0:=by
 unfold iB at h;split at h;{simp at h}
 ·split at h
  ·rename_i Z
   simp only[fC,and_true]at h;obtain⟨rfl,rfl,rfl⟩:=h;exact Z
  ·simp at h
theorem Oy(z:Zt)(r:iW)(i:Nat)(own seq:Int)(a:Option eh)(n cap:Nat)(es:List jQ)(w:ew)(h:mM w z r)(hi:i<r.n)(X:jm w a n es)(hf:oK own seq es=0):
 fc fe 191 #[π (μ ⟨z.Bb,0,ν⟩),ι κ (i:Int),.agg #[ι κ own,ι κ seq,σ a n cap]] w λe w'=>e=ρ η/\iP w w' z {r with O:=λx=>if x=i/\0<=newF r.K own seq es then yU (r.O i) own else r.O x} r.n:=by
 refine(NJ z.Bb z.fm 6 r.K r.O i own seq a n cap es w h.bs (sW (by have:=(jC hf).1;omega)) (by rw[h.bl];exact hi) X hf (λ_=>Ek _ _ _ _)).mono ?_;rintro e w1 ⟨rfl,Z,Y⟩;exact⟨rfl,h.base Z Y⟩
def kQ(r:iW)(i:Nat)(l:List UInt8):iW:=
 let q:=St.iB l
 if q.2.2.2=0 then {r with O:=λx=>if x=i/\0<=newF r.K q.1 q.2.1 q.2.2.1 then yU (r.O i) q.1 else r.O x}else r
theorem G4(s:ByteArray)(z:Zt)(r:iW)(i:Nat)(w:ew)(h:mM w z r)(hi:i<r.n)(hs:s.size<=1000):
 fc fe 136 #[π (μ ⟨z.R,0,ν⟩),ι κ (i:Int),.string s] w λe w'=>e=ρ (τ #[])/\iP w w' z (kQ r i s.data.toList) r.n:=by
 have hp:=E6 s w (by unfold maxLen;omega);have J:Hid _:=h;clear h
 go_in
 go_wp2_with(fail);refine hp.mono ?_;rintro e w1 ⟨a,n,cap,f,own,seq,os,rfl,D,G,U,b1,kH⟩;clear hp;by_cases hf:f=0
 ·subst hf;have e0:jB 0=η:=rfl;rw[e0];have kC:=qy U;have V:kQ r i s.data.toList={r with O:=λx=>if x=i/\0<=newF r.K own seq os then yU (r.O i) own else r.O x}:=by
   unfold kQ;rw[U];rfl
  have ba:=gK w1 (γ #[ι κ own,ι κ seq,σ a n cap] 40);have hA:=λj=>ak w1 #[ι κ own,ι κ seq,σ a n cap] 40 (0,0) j;have b2:=fP b1 (fP ba (jl _));have Q:=J.out.below b2;have hh:=Oy z r i own seq a n cap os _ Q hi (D.below (fP ba (jl _))) kC;have Y:fc fe 191 #[π (μ ⟨z.Bb,0,ν⟩),ι κ (i:Int),.agg #[ι κ own,ι κ seq,σ a n cap]] (w1.alloc (γ #[ι κ own,ι κ seq,σ a n cap] 40)).drew λe w'=>e=ρ η/\iP w w' z (kQ r i s.data.toList) r.n:=by
   refine hh.mono ?_;rintro e w3 ⟨rfl,hw⟩;exact⟨rfl,by rw[V];exact iP.first J.out rfl b2 (λ_=>hw)⟩
  have c2:=Q.c2;have cl:=Q.lt;obtain⟨M,X⟩:=fq (w1.alloc (γ #[ι κ own,ι κ seq,σ a n cap] 40));obtain⟨Z,S⟩:=fq (w1.heap.size);rw[X]at Y c2 cl;have d0:M.drew.cell? ⟨Z,0,ν⟩=μ (ι κ own):=by rw[<-X,<-S];exact hA 0
  have d1:M.drew.cell? ⟨Z,1,ν⟩=μ (ι κ seq):=by rw[<-X,<-S];exact hA 1
  have d2:M.drew.cell? ⟨Z,2,ν⟩=μ (σ a n cap):=by rw[<-X,<-S];exact hA 2
  have zl:Z<M.drew.heap.size:=ag _ _ d0;obtain⟨T,A⟩:∃T:ew->Prop,(λx=>iP w x z (kQ r i s.data.toList) r.n)=T:=⟨_,rfl⟩
  have H:∀x,iP w x z (kQ r i s.data.toList) r.n=T x:=λx=>cy A x;simp only[H]at Y;have HT:Hid _:=H;clear hh hA ba b2 Q D U kC V G kH b1 A H;go_wp2_with(fail)
  try rw[X]
  try rw[S]
  clear X S
  go_region_with(go_at_call 191;refine Y.mono ?_;rintro e w3 ⟨rfl,hW⟩)
  all_goals
   clear Y
   go_wp2
   first|go_end0|refine iX rfl rfl ?_
   exact⟨rfl,by rw[HT.out];exact hW⟩
 ·have ee:jB f=.iface 128 (ι κ (f:Int)):=by simp only[jB];rw[af hf]
  rw[ee];have V:kQ r i s.data.toList=r:=by
   unfold kQ;rw[U];simp only;rw[af hf]
  have HW:Hid (iP w (w1.alloc (γ #[ι κ own,ι κ seq,σ a n cap] 40)) z (kQ r i s.data.toList) r.n):=by
   show iP _ _ _ _ _;rw[V];exact iP.still J.out (fP b1 (gK _ _))
  clear U D hf ee V
  go_wp2
  first|go_end0|refine iX rfl rfl ?_
  exact⟨rfl,HW.out⟩
theorem Sb(z:Zt)(r:iW)(i:Nat)(own seq:Int)(a:Option eh)(n cap:Nat)(es:List jQ)(w:ew)(h:mM w z r)(hi:i<r.n)(Y:jm w a n es)(V:kY a cap)(hf:oK own seq es=0):
 fc fe 190 #[π (μ ⟨z.Bb,0,ν⟩),ι κ (i:Int),.agg #[ι κ own,ι κ seq,σ a n cap]] w λe w'=>e=ρ (τ #[ι κ (newF r.K own seq es),η])/\iP w w' z {r with K:=lQ r.K own seq es,O:=pw r.K r.O i own seq es} r.n/\jm w' a n es/\∀p v,w.cell? p=μ v->w'.cell? p=μ v:=by
 refine(Rm z.Bb z.fm 6 r.K r.O i own seq a n cap es w h.bs (sW (by have:=(jC hf).1;omega)) (by rw[h.bl];exact hi) Y V eB hf (λ_=>Ek _ _ _ _)).mono ?_;rintro e w1 ⟨rfl,X,Z⟩;exact⟨rfl,h.base X Z,Y.two Z h.bs,λp v hc=>jP.cell Z h.bs hc⟩
def jw(r:iW)(i:Nat)(l:List UInt8):iW:=
 let q:=St.iB l
 if q.2.2.2≠0 \/(r.P i).pe.both=false then r
 else if q.1=r.id/\0<newF r.K q.1 q.2.1 q.2.2.1 then r.behind q.2.1
 else
  let r2:iW:={r with K:=lQ r.K q.1 q.2.1 q.2.2.1,O:=pw r.K r.O i q.1 q.2.1 q.2.2.1}
  if 0<=newF r.K q.1 q.2.1 q.2.2.1 then r2.jh i ((r2.P i).put 65 (rN q.1 q.2.1 q.2.2.1))else r2
def S3(x:ew)(Z:Nat)(own seq:Int)(v:eA):Prop:=x.cell? ⟨Z,0,ν⟩=μ (ι κ own)/\x.cell? ⟨Z,1,ν⟩=μ (ι κ seq)/\x.cell? ⟨Z,2,ν⟩=μ v
theorem S3.below {y:ew} {Z:Nat} {own:Int} (h:S3 x Z own seq v)(hb:eH x y):S3 y Z own seq v:=by
 have Y:=ag _ _ h.1;exact⟨(aj (a:=⟨Z,0,ν⟩) (hb.block Z Y)).trans h.1,(aj (a:=⟨Z,1,ν⟩) (hb.block Z Y)).trans h.2.1,(aj (a:=⟨Z,2,ν⟩) (hb.block Z Y)).trans h.2.2⟩
theorem G5(s:ByteArray)(z:Zt)(r:iW)(i:Nat)(w:ew)(h:mM w z r)(jb:lM r)(hi:i<r.n)(hs:s.size<=1000)(vW:(r.P i).out.length<=800000000):
 fc fe 135 #[π (μ ⟨z.R,0,ν⟩),ι κ (i:Int),.string s] w λe w'=>e=ρ (τ #[])/\iP w w' z (jw r i s.data.toList) r.n:=by
 have hp:=E6 s w (by unfold maxLen;omega);have ll:(i:Int)<(r.n:Int):=eB;have PH:(0:Int)<=(i:Int):=eB;have HR:Hid _:=h;have V5:Hid _:=jb;clear h jb
 go_in
 go_wp2_with(fail);refine hp.mono ?_;rintro e w1 ⟨a,n,cap,f,own,seq,os,rfl,ho,hle,hR,b1,kH⟩;clear hp;have ba:=gK w1 (γ #[ι κ own,ι κ seq,σ a n cap] 40);have hA:=λj=>ak w1 #[ι κ own,ι κ seq,σ a n cap] 40 (0,0) j;by_cases hf:f=0
 ·subst hf;have e0:jB 0=η:=rfl;rw[e0];cases hb:(r.P i).pe.both with
  |false=>
   have hE:jw r i s.data.toList=r:=by
    unfold jw;rw[hR];simp only;rw[ai (.inr hb)]
   have S:=HR.out.below (fP b1 ba);have HW:Hid (iP w (w1.alloc (γ #[ι κ own,ι κ seq,σ a n cap] 40)) z (jw r i s.data.toList) r.n):=by
    show iP _ _ _ _ _;rw[hE];exact iP.still HR.out (fP b1 ba)
   have c1:=S.c1;have cl:=S.lt;have gl:=S.Kt;have g1:=(S.pt i hi).c68;rw[hb]at g1;clear hR ho hE S hA ba
   go_wp2
   first|go_end0|refine iX rfl rfl ?_
   exact⟨rfl,HW.out⟩
  |true=>
   have kC:=qy hR;have b2:=fP b1 ba;obtain⟨U,nK⟩:=fq (w1.alloc (γ #[ι κ own,ι κ seq,σ a n cap] 40));obtain⟨Z,hZ⟩:=fq (w1.heap.size);have Zn:=ho.below ba;rw[nK]at b2 Zn;have S2:S3 U Z own seq (σ a n cap):=by rw[<-nK,<-hZ];exact⟨hA 0,hA 1,hA 2⟩
   have hZw:w.heap.size<=Z:=by rw[<-hZ];exact b1.size
   have S:=HR.out.below b2;have c1:=S.c1;have cl:=S.lt;have gl:=S.Kt;have g1:=(S.pt i hi).c68;rw[hb]at g1;have LG:=sW (k:=r.id) (by have:=V5.out.id;omega);have Oz:∀W,eH U W->fc fe 177 #[π (μ ⟨z.Bb,0,ν⟩),ι κ r.id] W λe w'=>∃b V,e=ρ (τ #[.agg #[ι κ (yr r.K r.id),ι κ (qV r.K r.id),σ b (nj r.K r.id).length V],.bool (r.K r.id).isSome])/\jm w' b (nj r.K r.id).length (nj r.K r.id)/\eH W w'/\(w'.cell? ⟨z.R,0,ν⟩=μ (ι κ r.id)/\w'.cell? ⟨z.R,2,ν⟩=μ (π (μ ⟨z.Bb,0,ν⟩))):=by
    intro W D;refine(Ld z.Bb z.fm 6 r.K r.O r.id W (S.below D).bs LG).mono ?_;rintro e w3 ⟨b,V,rfl,Wa,_,_,b3⟩;have R3:=(S.below D).below b3;exact⟨b,V,rfl,Wa,b3,R3.c0,R3.c2⟩
   have VR:Hid (∀e∈nj r.K r.id,1<=e.1):=by
    obtain⟨q,hq,kC⟩:=V5.out.own;have:=pI r.id q.2 0 (jC kC).2.2.2;unfold nj;rw[hq];exact λe he=>(this e he).1.1
   have hn6:n<=6:=by have:=(jC kC).2.2.1;rw[ho.1]at this;exact this
   have tP:Hid (∀W b V,jm W a n os->jm W b (nj r.K r.id).length (nj r.K r.id)->fc fe 189 #[.agg #[ι κ own,ι κ seq,σ a n cap],.agg #[ι κ (yr r.K r.id),ι κ (qV r.K r.id),σ b (nj r.K r.id).length V]] W λe w'=>e=ρ (ι κ (mC seq os (qV r.K r.id) (nj r.K r.id)))/\eH W w'):=λW b V h1 h2=>Hv own seq _ _ a b n _ cap V os _ W h1 h2 eB;have A:Hid (own=r.id->newF r.K own seq os=mC seq os (qV r.K r.id) (nj r.K r.id)):=by
    intro e;obtain⟨q,hq,_⟩:=V5.out.own;unfold newF qV nj;rw[e,hq];rfl
   have hsq:(1<=own/\own<=6)/\(1<=seq/\seq<=1000000):=⟨(jC kC).1,(jC kC).2.1⟩
   have JM:Hid (own=r.id->0<newF r.K own seq os->∀W,eH U W->fc fe 180 #[π (μ ⟨z.R,0,ν⟩),ι κ seq] W λe w'=>e=ρ (τ #[])/\iP w w' z (jw r i s.data.toList) r.n):=by
    intro e1 e2 W D;have hE:jw r i s.data.toList=r.behind seq:=by
     unfold jw;rw[hR];simp only;rw[af (by simp[hb]),ai ⟨e1,e2⟩]
    refine(E8 z r seq W (S.below D) V5.out eB).mono ?_;rintro e w5 ⟨rfl,M3⟩;exact⟨rfl,by rw[hE];exact iP.first HR.out rfl (fP b2 D) (λ_=>M3)⟩
   obtain⟨M,tu⟩:∃M:iW,({r with K:=lQ r.K own seq os,O:=pw r.K r.O i own seq os}:iW)=M:=⟨_,rfl⟩
   obtain⟨nf,hnf⟩:=fq (newF r.K own seq os);have zE:Hid (∀W,eH U W->jm W a n os->fc fe 190 #[π (μ ⟨z.Bb,0,ν⟩),ι κ (i:Int),.agg #[ι κ own,ι κ seq,σ a n cap]] W λe w'=>e=ρ (τ #[ι κ nf,η])/\iP w w' z M r.n/\jm w' a n os/\∀p v,W.cell? p=μ v->w'.cell? p=μ v):=by
    intro W D hoW;refine(Sb z r i own seq a n cap os W (S.below D) hi hoW kH kC).mono ?_;rintro e w5 ⟨rfl,M3,X3,hc5⟩;rw[tu]at M3;rw[hnf];exact⟨rfl,iP.first HR.out rfl (fP b2 D) (λ_=>M3),X3,hc5⟩
   have hP3:M.P=r.P:=by rw[<-tu]
   have wj:M.n=r.n:=by rw[<-tu]
   have oH:Hid (¬(own=r.id/\0<nf)->0<=nf->∀W,iP w W z M r.n->jm W a n os->fc fe 152 #[π (μ ⟨z.g,i*71,ν⟩),.string ⟨#[65]⟩,.agg #[ι κ own,ι κ seq,σ a n cap]] W λe w'=>e=ρ (τ #[])/\iP w w' z (jw r i s.data.toList) r.n):=by
    intro e1 e2 W D hoW;have hE:jw r i s.data.toList=M.jh i ((M.P i).put 65 (rN own seq os)):=by
     unfold jw;rw[hR];simp only;rw[af (by simp[hb]),hnf,af e1,ai e2,tu,hP3]
    rw[hE];refine D.call (r':=M.jh i ((M.P i).put 65 (rN own seq os))) λz1 R1 hl=> ?_;rw[<-hl.g];have hi3:i<M.n:=by rw[wj];exact hi
    refine(yx ⟨#[65]⟩ 65 own seq a n cap os z1.g (i*71) (z1.B i) (z1.v i) (M.P i) W (R1.pt i hi3) rfl hoW kC (by rw[hP3];exact vW)).mono ?_;rintro e X ⟨rfl,M6⟩;have:=R1.port hi3 M6;rw[wj]at this;exact⟨rfl,this⟩
   have uB:Hid (¬(own=r.id/\0<nf)->¬0<=nf->∀W,iP w W z M r.n->iP w W z (jw r i s.data.toList) r.n):=by
    intro e1 e2 W D;have hE:jw r i s.data.toList=M:=by
     unfold jw;rw[hR];simp only;rw[af (by simp[hb]),hnf,af e1,af e2,tu]
    rw[hE];exact D
   rw[hnf]at JM A;obtain⟨T,hT⟩:∃T:ew->Prop,(λx=>iP w x z (jw r i s.data.toList) r.n)=T:=⟨_,rfl⟩
   have LL:∀x,iP w x z (jw r i s.data.toList) r.n=T x:=λx=>cy hT x;simp only[LL]at JM oH uB;have HT:Hid _:=LL;obtain⟨T3,hT3⟩:∃T:ew->Prop,(λx=>iP w x z M r.n)=T:=⟨_,rfl⟩
   have Zy:∀x,iP w x z M r.n=T3 x:=λx=>cy hT3 x;have HR3:Hid (∀x,T3 x->x.cell? ⟨z.R,1,ν⟩=μ (σ (μ ⟨z.g,0,ν⟩) r.n z.cap)):=λx hx=>by
    rw[<-Zy]at hx;have:=hx.c1;rw[wj]at this;exact this
   simp only[Zy]at zE oH uB;have agU:Hid (∀x,T3 x->T3 x.drew):=λx hx=>by
    rw[<-Zy]at hx⊢;exact hx.below wj (jl x)
   have HR0:Hid (∀W,eH U W->W.cell? ⟨z.R,0,ν⟩=μ (ι κ r.id)/\W.cell? ⟨z.R,2,ν⟩=μ (π (μ ⟨z.Bb,0,ν⟩))):=λW D=>⟨(S.below D).c0,(S.below D).c2⟩
   clear hT LL hT3 Zy S hR LG HR V5 b1 ba hA ho vW hP3 wj tu hnf kC;go_wp2_with(fail)
   try rw[nK]
   try rw[hZ]
   clear nK hZ;generalize yr r.K r.id=ow at Oz tP;generalize qV r.K r.id=sq at Oz tP A;generalize nj r.K r.id=es at Oz tP A VR;generalize (r.K r.id).isSome=okb at Oz
   go_cut [8] (λv wx=>∃(Y:Nat) (b:Option eh) (V:Nat),v=π (μ ⟨Y,0,ν⟩)/\S3 wx Y ow sq (σ b es.length V)/\jm wx b es.length es/\eH U wx)
   case first=>
    have F0:=HR0.out _ (jl U);have F0:U.drew.cell? ⟨z.R,0,ν⟩=μ (ι κ r.id)/\U.drew.cell? ⟨z.R,2,ν⟩=μ (π (μ ⟨z.Bb,0,ν⟩)):=F0;have ba:eH U (U.alloc (γ #[ι κ 0,ι κ 0,σ ν 0 0] 40)).drew:=jK (gK U _);have wj:ji (U.alloc (γ #[ι κ 0,ι κ 0,σ ν 0 0] 40)).drew U.heap.size #[ι κ 0,ι κ 0,σ ν 0 0] 40:=(ji.new U _ _).drew;have jx:z.R≠U.heap.size:=eB;clear tP A JM zE oH uB HR3 c1 g1 gl S2 Zn
    go_region_held3(λx=>x.cell? ⟨z.R,0,ν⟩=μ (ι κ r.id)/\x.cell? ⟨z.R,2,ν⟩=μ (π (μ ⟨z.Bb,0,ν⟩)))
     (first|assumption|exact F0|exact F1|exact oS F1|exact oS F0|exact vC F1 jx jx)
     (first
      |(go_at_call 177;refine(Oz _ (by first|exact jl U|exact ba)).mono ?_;rintro e w3 ⟨b,V,rfl,Wa,b3,F1⟩;first|(have mP:=wj.below b3;have y0:=mP.cell 0;have y1:=mP.cell 1;have y2:=mP.cell 2;have z0:=mP.frozen 0;have z1:=mP.frozen 1;have z2:=mP.frozen 2)|skip))
    all_goals
     go_wp2_with(fail)
     go_meet
     first
      |exact⟨_,b,V,rfl,⟨ak w3 _ _ (0,0) 0,ak w3 _ _ (0,0) 1,ak w3 _ _ (0,0) 2⟩,Wa.below (gK _ _),fP (fP (jl U) b3) (gK _ _)⟩
      |(have h5:=vD (a:=.int .i64 ow) (b:=.int .i64 sq) (c:=.slice b es.length V) mP rfl (Nat.le_refl _) (fP ba b3)
        have h6:=((mP.set 0 (ι κ ow)).set 1 (ι κ sq)).set 2 (σ b es.length V);exact⟨_,b,V,rfl,⟨h6.cell 0,h5.1,h5.2.1⟩,jm.not_zero Wa mP VR.out h5.2.2.2,h5.2.2.1⟩)
   case rest=>
    obtain⟨Y,b,V,rfl,SY,Wa,qO⟩:=hcut;have SZ:=S2.below qO;have hoa:=Zn.below qO;have hR0:=HR0.out _ qO;have zl:=ag _ _ SZ.1;have yl:=ag _ _ SY.1;have rl:=ag _ _ hR0.1;cases q1:(own==r.id)with
    |false=>
     have lL:¬(own=r.id/\0<nf):=λe=>by simp[e.1]at q1
     obtain⟨d0,d1,d2⟩:=SZ;have d3:=hR0.1;clear tP A Oz
     go_wp2
     go_quiet(fail)
     have b5:=below_drewN qO nq;obtain⟨Q,M3⟩:=fq (wc.drewN nq);rw[M3]at b5;rw[M3];clear M3 d0 d1 d2 d3 hR0 hoa Wa SY qO zl yl rl;have SZ5:=S2.below b5;have X3:=Zn.below b5;have R5:=HR0.out _ (fP b5 (jl Q));have ht5:=zE.out _ (fP b5 (jl Q)) (X3.below (jl Q));have J:Q.drew.cell? ⟨z.R,2,ν⟩=μ (π (μ ⟨z.Bb,0,ν⟩))/\Q.drew.cell? ⟨Z,0,ν⟩=μ (ι κ own)/\Q.drew.cell? ⟨Z,1,ν⟩=μ (ι κ seq)/\Q.drew.cell? ⟨Z,2,ν⟩=μ (σ a n cap):=⟨R5.2,SZ5⟩
     have H:fc fe 190 #[π (μ ⟨z.Bb,0,ν⟩),ι κ (i:Int),.agg #[ι κ own,ι κ seq,σ a n cap]] Q.drew λe w'=>e=ρ (τ #[ι κ nf,η])/\T3 w'/\jm w' a n os/\(w'.cell? ⟨z.R,2,ν⟩=μ (π (μ ⟨z.Bb,0,ν⟩))/\w'.cell? ⟨Z,0,ν⟩=μ (ι κ own)/\w'.cell? ⟨Z,1,ν⟩=μ (ι κ seq)/\w'.cell? ⟨Z,2,ν⟩=μ (σ a n cap)):=by
      refine ht5.mono ?_;rintro e X ⟨rfl,h1,h2,h3⟩;exact⟨rfl,h1,h2,h3 _ _ J.1,h3 _ _ J.2.1,h3 _ _ J.2.2.1,h3 _ _ J.2.2.2⟩
     clear ht5 zE R5 SZ5 X3
     go_wp2
     go_region_held3(λx=>x.cell? ⟨z.R,2,ν⟩=μ (π (μ ⟨z.Bb,0,ν⟩))/\x.cell? ⟨Z,0,ν⟩=μ (ι κ own)/\x.cell? ⟨Z,1,ν⟩=μ (ι κ seq)/\x.cell? ⟨Z,2,ν⟩=μ (σ a n cap))
      (first|assumption|exact J|exact F6)
      (first
       |(go_at_call 190;refine H.mono ?_;rintro e X ⟨rfl,G,ho6,F6⟩))
     all_goals
      have m1:=HR3.out _ G;by_cases U0:0<=nf
      ·have hp7:=oH.out lL U0;have F7:X.drew.cell? ⟨z.R,1,ν⟩=μ (σ (μ ⟨z.g,0,ν⟩) r.n z.cap)/\X.drew.cell? ⟨Z,0,ν⟩=μ (ι κ own)/\X.drew.cell? ⟨Z,1,ν⟩=μ (ι κ seq)/\X.drew.cell? ⟨Z,2,ν⟩=μ (σ a n cap):=⟨m1,F6.2⟩
       have hp8:=hp7 X.drew (agU.out _ G) (ho6.below (jl X));have m1':X.drew.cell? ⟨z.R,1,ν⟩=μ (σ (μ ⟨z.g,0,ν⟩) r.n z.cap):=F7.1;have m2:X.drew.cell? ⟨Z,0,ν⟩=μ (ι κ own):=F7.2.1;have m3:X.drew.cell? ⟨Z,1,ν⟩=μ (ι κ seq):=F7.2.2.1;have m4:X.drew.cell? ⟨Z,2,ν⟩=μ (σ a n cap):=F7.2.2.2;have m5:=ag _ _ m1';have m6:=ag _ _ m2;clear H oH uB hp7 J F6 F7 JM
       go_wp2
       go_region_with(go_at_call 152;refine hp8.mono ?_;rintro e w8 ⟨rfl,Zz⟩)
       all_goals
        clear hp8
        go_wp2
        first|go_end0|refine iX rfl rfl ?_
        exact⟨rfl,by rw[HT.out];exact Zz⟩
      ·have Zz:=uB.out lL eB _ G;clear H oH uB J F6 JM
       go_wp2
       first|go_end0|refine iX rfl rfl ?_
       exact⟨rfl,by rw[HT.out];exact Zz⟩
    |true=>
     have HID:Hid (own=r.id):=by show own=r.id;simpa using q1
     have hns:=A.out HID.out;obtain⟨d0,d1,d2⟩:=SZ;obtain⟨y0,y1,y2⟩:=SY;have F0:wc.drew.cell? ⟨z.R,0,ν⟩=μ (ι κ r.id)/\wc.drew.cell? ⟨Z,0,ν⟩=μ (ι κ own)/\wc.drew.cell? ⟨Z,1,ν⟩=μ (ι κ seq)/\wc.drew.cell? ⟨Z,2,ν⟩=μ (σ a n cap)/\wc.drew.cell? ⟨Y,0,ν⟩=μ (ι κ ow)/\wc.drew.cell? ⟨Y,1,ν⟩=μ (ι κ sq)/\wc.drew.cell? ⟨Y,2,ν⟩=μ (σ b es.length V):=⟨hR0.1,d0,d1,d2,y0,y1,y2⟩
     have pG:=tP.out wc.drew b V (hoa.below (jl wc)) (Wa.below (jl wc));rw[<-hns]at pG;clear hns;have ng:fc fe 189 #[.agg #[ι κ own,ι κ seq,σ a n cap],.agg #[ι κ ow,ι κ sq,σ b es.length V]] wc.drew λe w'=>e=ρ (ι κ nf)/\eH U w'/\(w'.cell? ⟨z.R,0,ν⟩=μ (ι κ r.id)/\w'.cell? ⟨Z,0,ν⟩=μ (ι κ own)/\w'.cell? ⟨Z,1,ν⟩=μ (ι κ seq)/\w'.cell? ⟨Z,2,ν⟩=μ (σ a n cap)/\w'.cell? ⟨Y,0,ν⟩=μ (ι κ ow)/\w'.cell? ⟨Y,1,ν⟩=μ (ι κ sq)/\w'.cell? ⟨Y,2,ν⟩=μ (σ b es.length V)):=by
      refine pG.mono ?_;rintro e w5 ⟨rfl,b5⟩;have bb:=fP qO (fP (jl wc) b5);have SY5:=S3.below (x:=wc.drew) ⟨y0,y1,y2⟩ b5;exact⟨rfl,bb,(HR0.out _ bb).1,(S2.below bb).1,(S2.below bb).2.1,(S2.below bb).2.2,SY5.1,SY5.2.1,SY5.2.2⟩
     clear tP A Oz pG d0 d1 d2 y0 y1 y2 hR0 hoa Wa
     go_wp2
     go_region_held3(λx=>x.cell? ⟨z.R,0,ν⟩=μ (ι κ r.id)/\x.cell? ⟨Z,0,ν⟩=μ (ι κ own)/\x.cell? ⟨Z,1,ν⟩=μ (ι κ seq)/\x.cell? ⟨Z,2,ν⟩=μ (σ a n cap)/\x.cell? ⟨Y,0,ν⟩=μ (ι κ ow)/\x.cell? ⟨Y,1,ν⟩=μ (ι κ sq)/\x.cell? ⟨Y,2,ν⟩=μ (σ b es.length V))
      (first|assumption|exact F0|exact F1)
      (first
       |(go_at_call 189;refine ng.mono ?_;rintro e Q ⟨rfl,b5,F1⟩))
     all_goals
      by_cases h0:0<nf
      ·have hb5:=JM.out HID.out h0 _ b5;have m3:=F1.2.2.1;have m6:=ag _ _ m3;clear ng zE oH uB F0 F1 JM;go_wp2_with(fail);refine hb5.mono ?_;rintro e w8 ⟨rfl,Zz⟩;clear hb5
       go_wp2
       first|go_end0|refine iX rfl rfl ?_
       exact⟨rfl,by rw[HT.out];exact Zz⟩
      ·have lL:¬(own=r.id/\0<nf):=λe=>h0 e.2;clear ng F0 F1 qO zl yl rl;have SZ5:=S2.below b5;have X3:=Zn.below b5;have R5:=HR0.out _ (fP b5 (jl Q));have ht5:=zE.out _ (fP b5 (jl Q)) (X3.below (jl Q));have J:Q.drew.cell? ⟨z.R,2,ν⟩=μ (π (μ ⟨z.Bb,0,ν⟩))/\Q.drew.cell? ⟨Z,0,ν⟩=μ (ι κ own)/\Q.drew.cell? ⟨Z,1,ν⟩=μ (ι κ seq)/\Q.drew.cell? ⟨Z,2,ν⟩=μ (σ a n cap):=⟨R5.2,SZ5⟩
       have H:fc fe 190 #[π (μ ⟨z.Bb,0,ν⟩),ι κ (i:Int),.agg #[ι κ own,ι κ seq,σ a n cap]] Q.drew λe w'=>e=ρ (τ #[ι κ nf,η])/\T3 w'/\jm w' a n os/\(w'.cell? ⟨z.R,2,ν⟩=μ (π (μ ⟨z.Bb,0,ν⟩))/\w'.cell? ⟨Z,0,ν⟩=μ (ι κ own)/\w'.cell? ⟨Z,1,ν⟩=μ (ι κ seq)/\w'.cell? ⟨Z,2,ν⟩=μ (σ a n cap)):=by
        refine ht5.mono ?_;rintro e X ⟨rfl,h1,h2,h3⟩;exact⟨rfl,h1,h2,h3 _ _ J.1,h3 _ _ J.2.1,h3 _ _ J.2.2.1,h3 _ _ J.2.2.2⟩
       clear ht5 zE R5 SZ5 X3
       go_wp2
       go_region_held3(λx=>x.cell? ⟨z.R,2,ν⟩=μ (π (μ ⟨z.Bb,0,ν⟩))/\x.cell? ⟨Z,0,ν⟩=μ (ι κ own)/\x.cell? ⟨Z,1,ν⟩=μ (ι κ seq)/\x.cell? ⟨Z,2,ν⟩=μ (σ a n cap))
        (first|assumption|exact J|exact F6)
        (first
         |(go_at_call 190;refine H.mono ?_;rintro e X ⟨rfl,G,ho6,F6⟩))
       all_goals
        have m1:=HR3.out _ G;by_cases U0:0<=nf
        ·have hp7:=oH.out lL U0;have F7:X.drew.cell? ⟨z.R,1,ν⟩=μ (σ (μ ⟨z.g,0,ν⟩) r.n z.cap)/\X.drew.cell? ⟨Z,0,ν⟩=μ (ι κ own)/\X.drew.cell? ⟨Z,1,ν⟩=μ (ι κ seq)/\X.drew.cell? ⟨Z,2,ν⟩=μ (σ a n cap):=⟨m1,F6.2⟩
         have hp8:=hp7 X.drew (agU.out _ G) (ho6.below (jl X));have m1':X.drew.cell? ⟨z.R,1,ν⟩=μ (σ (μ ⟨z.g,0,ν⟩) r.n z.cap):=F7.1;have m2:X.drew.cell? ⟨Z,0,ν⟩=μ (ι κ own):=F7.2.1;have m3:X.drew.cell? ⟨Z,1,ν⟩=μ (ι κ seq):=F7.2.2.1;have m4:X.drew.cell? ⟨Z,2,ν⟩=μ (σ a n cap):=F7.2.2.2;have m5:=ag _ _ m1';have m6:=ag _ _ m2;clear H oH uB hp7 J F6 F7 JM
         go_wp2
         go_region_with(go_at_call 152;refine hp8.mono ?_;rintro e w8 ⟨rfl,Zz⟩)
         all_goals
          clear hp8
          go_wp2
          first|go_end0|refine iX rfl rfl ?_
          exact⟨rfl,by rw[HT.out];exact Zz⟩
        ·have Zz:=uB.out lL eB _ G;clear H oH uB J F6 JM
         go_wp2
         first|go_end0|refine iX rfl rfl ?_
         exact⟨rfl,by rw[HT.out];exact Zz⟩
 ·have ee:jB f=.iface 128 (ι κ (f:Int)):=by simp only[jB];rw[af hf]
  rw[ee];have hE:jw r i s.data.toList=r:=by
   unfold jw;rw[hR];simp only;rw[ai (.inl hf)]
  have HW:Hid (iP w (w1.alloc (γ #[ι κ own,ι κ seq,σ a n cap] 40)) z (jw r i s.data.toList) r.n):=by
   show iP _ _ _ _ _;rw[hE];exact iP.still HR.out (fP b1 ba)
  clear hR ho hf ee hE
  go_wp2
  first|go_end0|refine iX rfl rfl ?_
  exact⟨rfl,HW.out⟩
theorem Sc(a c me f s:Int)(b:Bool)(w:ew):fc fe 187 #[.agg #[ι κ a,.bool b,ι κ c],ι κ me,.agg #[ι κ f,ι κ s]] w λe w'=>
 e=ρ (.agg #[.int .i64 (ju me f s).who,.bool (ju me f s).both,.int .i64 (ju me f s).left])/\eH w w':=by
 have h:=VE a c me f s b w;have e:Ab me f s=((ju me f s).who,(ju me f s).both,(ju me f s).left):=by
  unfold Ab ju;split;{rfl};{simp only[fC,true_and,and_true];by_cases h:s=me;{simp[h]};{simp[h]}}
 rw[e]at h;exact h
theorem G6(s:ByteArray)(z:Zt)(r:iW)(i:Nat)(w:ew)(h:mM w z r)(jb:lM r)(hi:i<r.n):
 fc fe 134 #[π (μ ⟨z.R,0,ν⟩),ι κ (i:Int),.string s] w λe w'=>e=ρ (τ #[])/\iP w w' z (if(kT s.data.toList).2.2=0 then r.meet i (ju r.id (kT s.data.toList).1 (kT s.data.toList).2.1)else r) r.n:=by
 have V:=Ob s w;have ll:(i:Int)<(r.n:Int):=eB;have PH:(0:Int)<=(i:Int):=eB;by_cases D:(kT s.data.toList).2.2=0
 ·rw[ai D];rw[D]at V;have hf:1<=(kT s.data.toList).1/\(kT s.data.toList).1<=6:=by
   unfold kT at D⊢;split at D
   ·rename_i hc
    rw[ai hc];have:=hc.2;simp only[uQ,Bool.and_eq_true,decide_eq_true_eq]at this;simp only;omega
   ·simp at D
  have e0:jB 0=η:=rfl;rw[e0]at V;generalize (kT s.data.toList).1=f at V hf⊢;generalize (kT s.data.toList).2.1=g at V⊢;have M:∀W Z,eH w W->w.heap.size<=Z->(W.cell? ⟨Z,0,ν⟩=μ (.int .i64 f)/\W.cell? ⟨Z,1,ν⟩=μ (.int .i64 g))->fc fe 74 #[π (μ ⟨z.R,0,ν⟩),.int .i64 (i:Int),.agg #[.int .i64 (ju r.id f g).who,.bool (ju r.id f g).both,.int .i64 (ju r.id f g).left]] W λe w'=>e=ρ (τ #[])/\iP w w' z (r.meet i (ju r.id f g)) r.n/\(w'.cell? ⟨Z,0,ν⟩=μ (.int .i64 f)/\w'.cell? ⟨Z,1,ν⟩=μ (.int .i64 g)/\w'.cell? ⟨z.R,0,ν⟩=μ (.int .i64 r.id)/\w'.cell? ⟨z.R,1,ν⟩=μ (σ (μ ⟨z.g,0,ν⟩) r.n z.cap)):=by
   intro W Z hW hZ hc;have R:=h.below hW;refine(wX z r i (ju r.id f g) W R jb hi (oI.Zr jb.id.1 hf)).mono ?_;rintro e w' ⟨rfl,hw⟩;have Pt:¬z.mine r.n Z:=h.uR hZ;have k0:=hw.c0;have k1:=hw.c1;rw[DM]at k0;rw[BF]at k1;exact⟨rfl,iP.first h rfl hW (λ_=>hw),hw.cell R (p:=⟨Z,0,ν⟩) Pt hc.1,hw.cell R (p:=⟨Z,1,ν⟩) Pt hc.2,k0,k1⟩
  have J:Hid (∀W,eH w W->W.cell? ⟨z.R,0,ν⟩=μ (.int .i64 r.id)/\W.cell? ⟨z.R,1,ν⟩=μ (σ (μ ⟨z.g,0,ν⟩) r.n z.cap)/\W.cell? ⟨z.g,i*71+67,ν⟩=μ (.int .i64 (r.P i).pe.who)/\W.cell? ⟨z.g,i*71+67+1,ν⟩=μ (.bool (r.P i).pe.both)/\W.cell? ⟨z.g,i*71+67+2,ν⟩=μ (.int .i64 (r.P i).pe.left)):=by
   intro W hW;have R:=h.below hW;exact⟨R.c0,R.c1,(R.pt i hi).c67,(R.pt i hi).c68,(R.pt i hi).c69⟩
  obtain⟨T,hT⟩:∃T:ew->Prop,(λx=>iP w x z (r.meet i (ju r.id f g)) r.n)=T:=⟨_,rfl⟩
  have LL:∀x,iP w x z (r.meet i (ju r.id f g)) r.n=T x:=λx=>cy hT x;simp only[LL]at M⊢;have H:=Sc (r.P i).pe.who (r.P i).pe.left r.id f g (r.P i).pe.both;generalize (ju r.id f g).who=q1 at M H;generalize (ju r.id f g).both=q2 at M H;generalize (ju r.id f g).left=q3 at M H;generalize (r.P i).pe.who=p1 at J H;generalize (r.P i).pe.both=p2 at J H;generalize (r.P i).pe.left=p3 at J H;generalize r.id=id at J H M;have hRl:=h.lt;have GU:=h.Kt;generalize z.R=RR at M J hRl⊢;generalize z.g=G at J GU M;generalize z.cap=cp at J M;generalize r.n=n at J ll M;clear h jb hT LL D hf
  go_in
  go_wp2_with(fail);refine V.mono ?_;rintro e w1 ⟨rfl,b1⟩;have ba:=gK w1 (γ #[ι κ f,ι κ g] 230);have hA:=λj=>ak w1 #[ι κ f,ι κ g] 230 (0,0) j;have b2:=fP b1 ba;obtain⟨Q,nK⟩:=fq (w1.alloc (γ #[ι κ f,ι κ g] 230));obtain⟨Z,hZ⟩:=fq (w1.heap.size);rw[nK]at b2;have z0:Q.cell? ⟨Z,0,ν⟩=μ (ι κ f):=by rw[<-nK,<-hZ];exact hA 0
  have z1:Q.cell? ⟨Z,1,ν⟩=μ (ι κ g):=by rw[<-nK,<-hZ];exact hA 1
  have b3:=fP b2 (jl Q);have U:=J.out _ b3;have F0:Q.drew.cell? ⟨Z,0,ν⟩=μ (ι κ f)/\Q.drew.cell? ⟨Z,1,ν⟩=μ (ι κ g)/\Q.drew.cell? ⟨RR,0,ν⟩=μ (ι κ id)/\Q.drew.cell? ⟨RR,1,ν⟩=μ (σ (μ ⟨G,0,ν⟩) n cp):=⟨z0,z1,U.1,U.2.1⟩
  have m1:=U.2.2.1;have m2:=U.2.2.2.1;have m3:=U.2.2.2.2;have zl:Z<Q.drew.heap.size:=ag _ _ F0.1;have hZw:w.heap.size<=Z:=by rw[<-hZ];exact b1.size
  have gl2:G<Q.drew.heap.size:=ag _ _ m1;have hh:fc fe 187 #[.agg #[ι κ p1,.bool p2,ι κ p3],ι κ id,.agg #[ι κ f,ι κ g]] Q.drew λe w'=>e=ρ (.agg #[ι κ q1,.bool q2,ι κ q3])/\eH w w'/\(w'.cell? ⟨Z,0,ν⟩=μ (ι κ f)/\w'.cell? ⟨Z,1,ν⟩=μ (ι κ g)/\w'.cell? ⟨RR,0,ν⟩=μ (ι κ id)/\w'.cell? ⟨RR,1,ν⟩=μ (σ (μ ⟨G,0,ν⟩) n cp)):=by
   refine(H Q.drew).mono ?_;rintro e w' ⟨rfl,b4⟩;have F4:=J.out _ (fP b3 b4);exact⟨rfl,fP b3 b4,(aj (a:=⟨Z,0,ν⟩) (b4.block Z zl)).trans F0.1,(aj (a:=⟨Z,1,ν⟩) (b4.block Z zl)).trans F0.2.1,F4.1,F4.2.1⟩
  clear V H hA ba b1 b2;go_wp2_with(fail)
  try rw[nK]
  try rw[hZ]
  clear nK hZ;refine cC (S:=λx=>x.cell? ⟨Z,0,ν⟩=μ (ι κ f)/\x.cell? ⟨Z,1,ν⟩=μ (ι κ g)/\x.cell? ⟨RR,0,ν⟩=μ (ι κ id)/\x.cell? ⟨RR,1,ν⟩=μ (σ (μ ⟨G,0,ν⟩) n cp)) ga F0 (λlW=> ?_);refine jD 0 (μ 15) rfl rfl ga ga ga (λ_ _ _ h=>h) (by rfl) (v:= ?_) ?_ jr ?_
  rotate_left
  ·intro X Y
   (try dsimp only at Y)
   go_simp
   try with_reducible rfl
  simp only[gQ,gS,gT,gU];refine jD 1 (μ 16) rfl rfl ga ga ga (λ_ _ _ h=>h) (by rfl) (v:= ?_) ?_ jr ?_
  rotate_left
  ·intro X Y
   (try dsimp only at Y)
   go_simp
   try with_reducible rfl
  simp only[gQ,gS,gT,gU];refine jD 2 (μ 17) rfl rfl ga ga ga (λ_ _ _ h=>h) (by rfl) (v:= ?_) ?_ jr ?_
  rotate_left
  ·intro X Y
   (try dsimp only at Y)
   go_simp
   try with_reducible rfl
  simp only[gQ,gS,gT,gU];refine jD 3 (μ 18) rfl rfl ga ga ga (λ_ _ _ h=>h) (by rfl) (v:= ?_) ?_ jr ?_
  rotate_left
  ·intro X Y
   (try dsimp only at Y)
   go_simp
   try with_reducible rfl
  simp only[gQ,gS,gT,gU];refine jD 4 (μ 19) rfl rfl ga ga ga (λ_ _ _ h=>h) (by rfl) (v:= ?_) ?_ jr ?_
  rotate_left
  ·intro X Y
   (try dsimp only at Y)
   go_simp
   try with_reducible rfl
  simp only[gQ,gS,gT,gU];refine jD 5 (μ 20) rfl rfl ga ga ga (λ_ _ _ h=>h) (by rfl) (v:= ?_) ?_ jr ?_
  rotate_left
  ·intro X Y
   (try dsimp only at Y)
   go_simp
   try with_reducible rfl
  simp only[gQ,gS,gT,gU];refine jD 6 (μ 21) rfl rfl ga ga ga (λ_ _ _ h=>h) (by rfl) (v:= ?_) ?_ jr ?_
  rotate_left
  ·intro X Y
   (try dsimp only at Y)
   go_simp
   try with_reducible rfl
  simp only[gQ,gS,gT,gU];refine jD 7 (μ 22) rfl rfl ga ga ga (λ_ _ _ h=>h) (by rfl) (v:= ?_) ?_ jr ?_
  rotate_left
  ·intro X Y
   (try dsimp only at Y)
   go_simp
   try with_reducible rfl
  simp only[gQ,gS,gT,gU];refine jD 8 (μ 23) rfl rfl ga ga ga (λ_ _ _ h=>h) (by rfl) (v:= ?_) ?_ jr ?_
  rotate_left
  ·intro X Y
   (try dsimp only at Y)
   go_simp
   try with_reducible rfl
  simp only[gQ,gS,gT,gU];refine jD 10 (μ 25) rfl rfl ga ga ga (λ_ _ _ h=>h) (by rfl) (v:= ?_) ?_ jr ?_
  rotate_left
  ·intro X Y
   (try dsimp only at Y)
   go_simp
   try with_reducible rfl
  simp only[gQ,gS,gT,gU];refine jD 11 (μ 26) rfl rfl ga ga ga (λ_ _ _ h=>h) (by rfl) (v:= ?_) ?_ jr ?_
  rotate_left
  ·intro X Y
   (try dsimp only at Y)
   go_simp
   try with_reducible rfl
  simp only[gQ,gS,gT,gU];refine jD 12 (μ 27) rfl rfl ga ga ga (λ_ _ _ h=>h) (by rfl) (v:= ?_) ?_ jr ?_
  rotate_left
  ·intro X Y
   (try dsimp only at Y)
   go_simp
   try with_reducible rfl
  simp only[gQ,gS,gT,gU];refine jD 13 (μ 28) rfl rfl ga ga ga (λ_ _ _ h=>h) (by rfl) (v:= ?_) ?_ jr ?_
  rotate_left
  ·intro X Y
   (try dsimp only at Y)
   go_simp
   try with_reducible rfl
  simp only[gQ,gS,gT,gU];refine jD 14 (μ 29) rfl rfl ga ga ga (λ_ _ _ h=>h) (by rfl) (v:= ?_) ?_ jr ?_
  rotate_left
  ·intro X Y
   (try dsimp only at Y)
   go_simp
   try with_reducible rfl
  simp only[gQ,gS,gT,gU];refine aQ (rs:=[9]) ga ik ?_;refine aI (o:=_) rfl (λK A=> ?_) aO
  go_simp
  refine A.out _ _ ?_ (λlW=> ?_);{exact F0};clear A K;refine aQ (rs:=[15]) ga ik ?_;refine aI (o:=_) rfl (λK A=> ?_) aO
  go_simp
  refine hh.mono ?_;rintro e w4 ⟨rfl,b4,F1⟩
  (try go_wp2_with(fail))
  refine A.out _ _ ?_ (λlW=> ?_);{exact F1};clear A K;refine aQ (rs:=[16]) ga ik ?_;refine aI (o:=_) rfl (λK A=> ?_) aO
  go_simp
  refine(M _ Z b4 hZw ⟨F1.1,F1.2.1⟩).mono ?_;rintro e w5 ⟨rfl,hW,F2⟩
  (try go_wp2_with(fail))
  refine A.out _ _ ?_ (λlW=> ?_);{exact F2};clear A K;refine cV ga ?_ _
  all_goals
   clear M hh F0 F1 F2 J
   go_wp2
   first|go_end0|refine iX rfl rfl ?_
   exact⟨rfl,hW⟩
 ·rw[af D];have ee:jB (kT s.data.toList).2.2=.iface 128 (ι κ ((kT s.data.toList).2.2:Int)):=by simp only[jB];rw[af D]
  rw[ee]at V;generalize (kT s.data.toList).1=f at V;generalize (kT s.data.toList).2.1=g at V;generalize (kT s.data.toList).2.2=k at V;have HR:Hid _:=h;clear h jb ee D
  go_in
  go_wp2_with(fail);refine V.mono ?_;rintro e w1 ⟨rfl,b1⟩;have HW:Hid _:=iP.still HR.out (fP b1 (gK w1 (γ #[ι κ f,ι κ g] 230)));clear V
  go_wp2
  first|go_end0|refine iX rfl rfl ?_
  exact⟨rfl,HW.out⟩
def Aj(w w':ew)(y':Yt):Nat->Prop:=λk=>w.heap.size<=k/\k<w'.heap.size/\(y'.own k \/y'.ext k)
theorem jS.owned {y y':Yt} {n n':ja} (h:jS w y n)(hs:w.heap.size<=w'.heap.size)(hk:∀k,k<w.heap.size->¬y.own k->¬y.ext k->w'.heap[k]? =w.heap[k]?)
 (V:y'.bM=y.bM) (U:y'.z=λj=>(y.z j).plus (Aj w w' y')) (jy:∀k,y'.own k \/y'.ext k->k<w'.heap.size)
 (T:∀k,y'.own k->y.own k \/w.heap.size<=k) (G:∀k,y'.ext k->y.ext k \/w.heap.size<=k) (X:n'.n=n.n) (J:n'.ms=n.ms) (A:n'.R=n.R)
 (c9:n'.nc<=9)
 (oE:ji w' y'.N #[σ (μ ⟨y'.gR,0,ν⟩) n'.n y'.uz,σ (μ ⟨y'.gI,0,ν⟩) n'.n y'.zf,.map (μ y'.bM),y'.cv n'.nc] 190)
 (rr:qR w' y'.gR 0 n'.n (λi=>π (μ ⟨(y.z i).R,0,ν⟩))) (ri:qR w' y'.gI 0 n'.n y'.iv) (rc:∀g,y'.gC=μ g->∀c,c<n'.nc->qR w' g (c*7) 7 (Dm (n'.C c) (y'.ov c))) (gc:∀c,c<n'.nc->∃g,y'.gC=μ g)
 (ib:∀i,i<n'.n->Row w' 3 (y'.iv i) (n'.kx i).length (sA (n'.kx i))) (ob:∀c d,c<n'.nc->d<2->Row w' 1 (y'.ov c d) ((n'.C c).on d).length (jd ((n'.C c).on d))) (ol:∀c d,c<n'.nc->d<2->((n'.C c).on d).length<=2000)
 (en:∀c d,c<n'.nc->d<2->((n'.C c).e d).1<n'.n/\((n'.C c).e d).2<3) (inj:∀l l' k,y'.at l=μ k->y'.at l'=μ k->l=l') (nx:∀k,y'.ext k->¬y'.own k):
 jS w' y' n'/\∀k,y'.all n.n k->y.all n.n k \/w.heap.size<=k:=by
 have S:∀j k,(y'.z j).pM k↔(y.z j).pM k:=λj k=>by rw[U];exact dZ
 have M:=h.Io;refine⟨⟨by rw[X];exact h.n1,by rw[X];exact h.n6,c9,oE,?_,ri,rc,gc,?_,λi hi=> ?_,λi hi=> ?_,ib,ob,ol,en,inj,λi hi k Y=> ?_,nx,⟨λe=> ?_,λe=> ?_,λi hi e=> ?_⟩,λe=> ?_⟩,λk H=> ?_⟩;{refine rr.congr λj _=> ?_;rw[U];rfl};{obtain⟨E,h1,h2⟩:=h.mp;refine⟨E,?_,by rw[X,J];exact h2⟩;rw[V];exact h1.keep (hk _ M h.nM.1 h.nM.2.1)}
 ·rw[X]at hi;rw[U,A];refine(h.rt i hi).besides hs (λk H hc=>hk k H (λe=> ?_) (λe=> ?_)) _ (λk e=>⟨e.1,e.2.1⟩)
  ·have Y:=h.away i hi k (.inl e);rcases hc with hc|hc
   {exact hc Y.1};{rw[(h.rn i hi).1]at hc;exact Y.2 hc}
  ·have Y:=h.away i hi k (.inr (.inl e));rcases hc with hc|hc
   {exact hc Y.1};{rw[(h.rn i hi).1]at hc;exact Y.2 hc}
 ·rw[X]at hi;rw[A];exact h.rn i hi
 ·rw[X]at hi Y;rw[U];show((y.z i).fm.no k \/Aj w w' y' k)/\¬(y.z i).mine 3 k;have D:w.heap.size<=k->¬(y.z i).mine 3 k:=λe Z=>by
   have:=h.zh hi (.inl Z);omega
  rcases Y with e|e|⟨j,Q,jx,e⟩
  ·rcases T k e with Z|Z
   {have Y:=h.away i hi k (.inl Z);exact⟨.inl Y.1,Y.2⟩};{exact⟨.inr ⟨Z,jy k (.inl e),.inl e⟩,D Z⟩}
  ·rcases G k e with Z|Z
   {have Y:=h.away i hi k (.inr (.inl Z));exact⟨.inl Y.1,Y.2⟩};{exact⟨.inr ⟨Z,jy k (.inr e),.inr e⟩,D Z⟩}
  ·have Y:=h.away i hi k (.inr (.inr ⟨j,Q,jx,(S j k).1 e⟩));exact⟨.inl Y.1,Y.2⟩
 ·rw[V]at e;rcases T _ e with Z|Z
  {exact h.nM.1 Z};{omega}
 ·rw[V]at e;rcases G _ e with Z|Z
  {exact h.nM.2.1 Z};{omega}
 ·rw[X]at hi;rw[V]at e;exact h.nM.2.2 i hi ((S i _).1 e)
 ·rcases T 0 e with Z|Z
  {exact h.z0 Z};{have:=h.Io;omega}
 ·rcases H with e|⟨j,Q,e⟩
  {exact(T k e).imp_left .inl};{exact .inl (.inr ⟨j,Q,(S j k).1 e⟩)}
theorem jS.vQ {y:Yt} {n:ja} (h:jS w y n) {l:Lab} (e:y.at l=μ k):k<w.heap.size:=h.lt (.inl ⟨l,e⟩)
theorem jS.wZ {y:Yt} {n:ja} (h:jS w y n) {l l':Lab} {k':Nat} (e:y.at l=μ k)(e':y.at l'=μ k')(Z:l≠l'):k≠k':=λx=>Z (h.inj l l' k e (by rw[e',x]))
theorem jS.Qc {y:Yt} {n:ja} {c:Nat} (h:jS w y n)(hc:c<n.nc)(D:y.gC=μ g)(X:qX)(o:Nat->eA)(hs:w.heap.size<=w'.heap.size)(Hg:w'.os=w.os)(P4:w'.tape=w.tape)(MZ:w'.output=w.output)
 (hk:∀k,k<w.heap.size->k≠g->(∀d,d<2->(y.ov c d).ownBlock≠μ k)->w'.heap[k]? =w.heap[k]?)
 (hcell:∀j,j<c*7 \/c*7+7<=j->w'.cell? ⟨g,j,ν⟩=w.cell? ⟨g,j,ν⟩) (TV:∀j,w'.frozen? ⟨g,j,ν⟩=w.frozen? ⟨g,j,ν⟩) (vr:qR w' g (c*7) 7 (Dm X o))
 (Wa:∀d,d<2->Row w' 1 (o d) (X.on d).length (jd (X.on d))) (YB:∀d,d<2->(X.on d).length<=2000) (AZ:X.e=(n.C c).e)
 (jA:∀d k,d<2->(o d).ownBlock=μ k->(y.ov c d).ownBlock=μ k \/w.heap.size<=k) (jx:∀k,(o 0).ownBlock=μ k->(o 1).ownBlock≠μ k):iR w w' y (n.lP c X) n.n:=by
 obtain⟨ov,A⟩:∃ov:Nat->Nat->eA,ov=λx d=>if x=c/\d<2 then o d else y.ov x d:=⟨_,rfl⟩
 have V:∀d,d<2->ov c d=o d:=λd hd=>by rw[A];simp[hd]
 have Q:∀x d,¬(x=c/\d<2)->ov x d=y.ov x d:=λx d hx=>by rw[A];simp only[if_neg hx]
 obtain⟨M,CG⟩:∃M:Yt,M={y with ov:=ov}:=⟨_,rfl⟩
 obtain⟨y',Y⟩:∃y':Yt,y'={y with ov:=ov,z:=λj=>(y.z j).plus (Aj w w' M)}:=⟨_,rfl⟩
 have jR:∀k,y'.own k↔M.own k:=λk=>by
  rw[Y,CG];constructor;{rintro⟨l,e⟩;exact⟨l,by cases l<;>exact e⟩};{rintro⟨l,e⟩;exact⟨l,by cases l<;>exact e⟩}
 have hX:Aj w w' M=Aj w w' y':=by
  funext k
  apply propext;unfold Aj;rw[<-jR k];have:M.ext=y'.ext:=by rw[CG,Y]
  rw[this]
 have hat:∀l k,y'.at l=μ k->y.at l=μ k \/(w.heap.size<=k/\∃d,d<2/\l=.on c d/\(o d).ownBlock=μ k):=by
  intro l k e;rw[Y]at e;cases l with
  |N=>exact .inl e
  |R=>exact .inl e
  |I=>exact .inl e
  |C=>exact .inl e
  |ib i=>exact .inl e
  |on x d=>
   have e':(ov x d).ownBlock=μ k:=e;by_cases hx:x=c/\d<2
   ·obtain⟨rfl,hd⟩:=hx;rw[V d hd]at e';rcases jA d k hd e' with Z|Z
    {exact .inl Z};{exact .inr ⟨Z,d,hd,rfl,e'⟩}
   ·rw[Q x d hx]at e';exact .inl e'
 have kL:∀k,y'.own k->k<w'.heap.size:=by
  rintro k ⟨l,e⟩;rcases hat l k e with Z|⟨_,d,hd,rfl,Z⟩
  {exact Nat.lt_of_lt_of_le (h.vQ Z) hs};{exact(Wa d hd).lt k Z}
 have kJ:∀l k,y.at l=μ k->l≠ .C->(∀d,d<2->l≠ .on c d)->w'.heap[k]? =w.heap[k]? :=by
  intro l k e S G;refine hk k (h.vQ e) (λZ=> ?_) (λd hd Z=> ?_);{exact h.wZ e (show y.at .C=μ g from D) S Z};{exact G d hd (h.inj _ _ k e (show y.at (.on c d)=μ k from Z))}
 have H:=h.owned (y':=y') (n':=n.lP c X) hs (λk vm S _=>hk k vm (λe=>S ⟨.C,by rw[e];exact D⟩) (λd _ e=>S ⟨.on c d,e⟩)) (by rw[Y]) (by rw[<-hX,Y])
  (λk e=>e.elim (kL k) (λe=>by
   have e':y.ext k:=by rw[Y]at e;exact e
   exact Nat.lt_of_lt_of_le (h.lt (.inr e')) hs))
  (by
   rintro k ⟨l,e⟩;rcases hat l k e with Z|⟨Z,_⟩
   ·exact .inl ⟨l,Z⟩
   ·exact .inr Z) (λk e=>.inl (by rw[Y]at e;exact e)) rfl rfl rfl h.c9 (by rw[Y];exact h.oE.keep (kJ .N _ rfl (λe=>nomatch e) (λ_ _ e=>nomatch e)))
  (by rw[Y];exact h.rr.keep (kJ .R _ rfl (λe=>nomatch e) (λ_ _ e=>nomatch e))) (by rw[Y];exact h.ri.keep (kJ .I _ rfl (λe=>nomatch e) (λ_ _ e=>nomatch e)))
  (by
   intro g' D8 x hx;have Cg:y.gC=μ g':=by rw[Y]at D8;exact D8
   obtain rfl:g=g':=by rw[D]at Cg;exact Option.some.inj Cg
   have vY:x<n.nc:=hx;show qR w' g (x*7) 7 (Dm (j6 n.C c X x) (y'.ov x));by_cases e:x=c
   ·subst e;rw[iQ];refine vr.congr λj _=> ?_;have U:y'.ov x 0=o 0:=by rw[Y];exact V 0 eF
    have Z:y'.ov x 1=o 1:=by rw[Y];exact V 1 eF
    unfold Dm;rw[U,Z]
   ·rw[iI _ _ e];have hb:=h.rc g D x vY;have T:∀d,y'.ov x d=y.ov x d:=λd=>by rw[Y];exact Q x d (λe'=>e e'.1)
    intro j hj;have hr:x*7+j<c*7 \/c*7+7<=x*7+j:=by
     rcases Nat.lt_or_gt_of_ne e with S|S
     {exact .inl eB};{exact .inr eB}
    refine⟨(hcell _ hr).trans ?_,(TV _).trans (hb.fz j hj)⟩;rw[hb.cell j hj];unfold Dm;rw[T 0,T 1])
  (by
   intro x hx;obtain⟨g',e⟩:=h.gc x hx;exact⟨g',by rw[Y];exact e⟩)
  (by
   intro i hi;have:=(h.ib i hi).keep hs (λk e=>kJ (.ib i) k e (λe=>nomatch e) (λ_ _ e=>nomatch e));rw[Y];exact this)
  (by
   intro x d hx hd;show Row w' 1 (y'.ov x d) ((j6 n.C c X x).on d).length (jd ((j6 n.C c X x).on d));by_cases e:x=c
   ·subst e;have U:y'.ov x d=o d:=by rw[Y];exact V d hd
    rw[iQ,U];exact Wa d hd
   ·have U:y'.ov x d=y.ov x d:=by rw[Y];exact Q x d (λe'=>e e'.1)
    rw[iI _ _ e,U];exact(h.ob x d hx hd).keep hs (λk Z=>kJ (.on x d) k Z (λe=>nomatch e) (λd' _ e'=>e (by injection e'))))
  (by
   intro x d hx hd;show((j6 n.C c X x).on d).length<=2000;by_cases e:x=c;{subst e;rw[iQ];exact YB d hd}
   ·rw[iI _ _ e];exact h.ol x d hx hd)
  (by
   intro x d hx hd;show((j6 n.C c X x).e d).1<n.n/\((j6 n.C c X x).e d).2<3;by_cases e:x=c;{subst e;rw[iQ,AZ];exact h.en x d hx hd}
   ·rw[iI _ _ e];exact h.en x d hx hd)
  (by
   intro l l' k e e';rcases hat l k e with Z|⟨Z,d,hd,rfl,T⟩
   ·rcases hat l' k e' with J|⟨J,_⟩
    {exact h.inj l l' k Z J};{have:=h.vQ Z;omega}
   ·rcases hat l' k e' with J|⟨J,d',kF,rfl,e4⟩
    ·have:=h.vQ J;omega
    ·have:d=d':=by
      rcases Nat.lt_or_ge d 1 with S|S
      ·rcases Nat.lt_or_ge d' 1 with G|G
       {omega};{obtain rfl:d=0:=eB;obtain rfl:d'=1:=eB;exact absurd e4 (jx k T)}
      ·rcases Nat.lt_or_ge d' 1 with G|G
       {obtain rfl:d=1:=eB;obtain rfl:d'=0:=eB;exact absurd T (jx k e4)};{omega}
     rw[this])
  (by
   intro k e;have U:y.ext k:=by rw[Y]at e;exact e
   rintro⟨l,Z⟩;rcases hat l k Z with T|⟨T,_⟩
   ·exact h.nx k U ⟨l,T⟩
   ·have:=h.lt (.inr U);omega)
 refine⟨⟨y',H.1,by rw[Y];exact⟨rfl,rfl,rfl,rfl,rfl,rfl,rfl,rfl⟩,H.2,λk=>by rw[Y]⟩,⟨Hg,P4,MZ,hs,λk vm hn=>hk k vm (λe=>hn (.inl ⟨.C,by rw[e];exact D⟩)) (λd _ e=>hn (.inl ⟨.on c d,e⟩))⟩⟩
theorem jS.box {y:Yt} {n:ja} (h:jS w y n)(hi:i<n.n)(v:eA)(l:List zD)(hs:w.heap.size<=w'.heap.size)(Hg:w'.os=w.os)(P4:w'.tape=w.tape)(MZ:w'.output=w.output)
 (J:∀k,k<w.heap.size->k≠y.gI->(y.iv i).ownBlock≠μ k->w'.heap[k]? =w.heap[k]?) (GJ:qR w' y.gI 0 n.n (j6 y.iv i v)) (Oh:Row w' 3 v l.length (sA l))
 (jA:∀k,v.ownBlock=μ k->(y.iv i).ownBlock=μ k \/w.heap.size<=k):iR w w' y {n with kx:=j6 n.kx i l} n.n:=by
 obtain⟨X,D⟩:∃X:Yt,X={y with iv:=j6 y.iv i v}:=⟨_,rfl⟩
 obtain⟨y',Y⟩:∃y':Yt,y'={y with iv:=j6 y.iv i v,z:=λj=>(y.z j).plus (Aj w w' X)}:=⟨_,rfl⟩
 have jR:∀k,y'.own k↔X.own k:=λk=>by
  rw[Y,D];constructor;{rintro⟨l,e⟩;exact⟨l,by cases l<;>exact e⟩};{rintro⟨l,e⟩;exact⟨l,by cases l<;>exact e⟩}
 have hX:Aj w w' X=Aj w w' y':=by
  funext k
  apply propext;unfold Aj;rw[<-jR k];have:X.ext=y'.ext:=by rw[D,Y]
  rw[this]
 have hat:∀l k,y'.at l=μ k->y.at l=μ k \/(w.heap.size<=k/\l=.ib i/\v.ownBlock=μ k):=by
  intro l k e;rw[Y]at e;cases l with
  |N=>exact .inl e
  |R=>exact .inl e
  |I=>exact .inl e
  |C=>exact .inl e
  |on x d=>exact .inl e
  |ib x=>
   have e':(j6 y.iv i v x).ownBlock=μ k:=e;by_cases hx:x=i
   ·subst hx;rw[iQ]at e';rcases jA k e' with Z|Z
    {exact .inl Z};{exact .inr ⟨Z,rfl,e'⟩}
   ·rw[iI _ _ hx]at e';exact .inl e'
 have kL:∀k,y'.own k->k<w'.heap.size:=by
  rintro k ⟨l,e⟩;rcases hat l k e with Z|⟨_,rfl,Z⟩
  {exact Nat.lt_of_lt_of_le (h.vQ Z) hs};{exact Oh.lt k Z}
 have T:∀l k,y.at l=μ k->l≠ .I->l≠ .ib i->w'.heap[k]? =w.heap[k]? :=by
  intro l k e Q h2;refine J k (h.vQ e) (λZ=> ?_) (λZ=> ?_);{exact h.wZ e (show y.at .I=μ y.gI from rfl) Q Z};{exact h2 (h.inj _ _ k e (show y.at (.ib i)=μ k from Z))}
 have H:=h.owned (y':=y') (n':={n with kx:=j6 n.kx i l}) hs (λk G Q _=>J k G (λe=>Q ⟨.I,by rw[e];rfl⟩) (λe=>Q ⟨.ib i,e⟩)) (by rw[Y]) (by rw[<-hX,Y])
  (λk e=>e.elim (kL k) (λe=>by
   have e':y.ext k:=by rw[Y]at e;exact e
   exact Nat.lt_of_lt_of_le (h.lt (.inr e')) hs))
  (by
   rintro k ⟨l,e⟩;rcases hat l k e with Z|⟨Z,_⟩
   ·exact .inl ⟨l,Z⟩
   ·exact .inr Z) (λk e=>.inl (by rw[Y]at e;exact e)) rfl rfl rfl h.c9 (by rw[Y];exact h.oE.keep (T .N _ rfl (λe=>nomatch e) (λe=>nomatch e)))
  (by rw[Y];exact h.rr.keep (T .R _ rfl (λe=>nomatch e) (λe=>nomatch e))) (by rw[Y];exact GJ)
  (by
   intro U D8 x hx;have A:y.gC=μ U:=by rw[Y]at D8;exact D8
   have:=(h.rc U A x hx).keep (T .C U A (λe=>nomatch e) (λe=>nomatch e));rw[Y];exact this)
  (by
   intro x hx;obtain⟨U,e⟩:=h.gc x hx;exact⟨U,by rw[Y];exact e⟩)
  (by
   intro x hx;show Row w' 3 (y'.iv x) (j6 n.kx i l x).length (sA (j6 n.kx i l x));have S:y'.iv x=j6 y.iv i v x:=by rw[Y]
   rw[S];by_cases e:x=i;{subst e;rw[iQ,iQ];exact Oh}
   ·rw[iI _ _ e,iI _ _ e];exact(h.ib x hx).keep hs (λk Z=>T (.ib x) k Z (λe=>nomatch e) (λe'=>e (by injection e'))))
  (by
   intro x d hx hd;have:=(h.ob x d hx hd).keep hs (λk Z=>T (.on x d) k Z (λe=>nomatch e) (λe=>nomatch e));rw[Y];exact this)
  h.ol h.en
  (by
   intro l l' k e e';rcases hat l k e with Z|⟨Z,rfl,M⟩
   ·rcases hat l' k e' with V|⟨V,_⟩
    {exact h.inj l l' k Z V};{have:=h.vQ Z;omega}
   ·rcases hat l' k e' with V|⟨V,rfl,e4⟩
    ·have:=h.vQ V;omega
    ·rfl)
  (by
   intro k e;have S:y.ext k:=by rw[Y]at e;exact e
   rintro⟨l,Z⟩;rcases hat l k Z with M|⟨M,_⟩
   ·exact h.nx k S ⟨l,M⟩
   ·have:=h.lt (.inr S);omega)
 refine⟨⟨y',H.1,by rw[Y];exact⟨rfl,rfl,rfl,rfl,rfl,rfl,rfl,rfl⟩,H.2,λk=>by rw[Y]⟩,⟨Hg,P4,MZ,hs,λk G hn=>J k G (λe=>hn (.inl ⟨.I,by rw[e];rfl⟩)) (λe=>hn (.inl ⟨.ib i,e⟩))⟩⟩
theorem jS.beside {y:Yt} {n:ja} (h:jS w y n)(hs:w.heap.size<=w'.heap.size)(hk:∀k,k<w.heap.size->¬y.ext k->w'.heap[k]? =w.heap[k]?)(X:Nat->Prop)(J:∀k,X k->w.heap.size<=k/\k<w'.heap.size):
 ∃y',jS w' y' n/\y.same y'/\(∀k,y'.all n.n k↔y.all n.n k)/\∀k,y'.ext k↔y.ext k \/X k:=by
 obtain⟨V,D⟩:∃V:Yt,V={y with ext:=λk=>y.ext k \/X k}:=⟨_,rfl⟩
 obtain⟨y',Z⟩:∃y':Yt,y'={y with ext:=λk=>y.ext k \/X k,z:=λj=>(y.z j).plus (Aj w w' V)}:=⟨_,rfl⟩
 have hat:∀l,y'.at l=y.at l:=by
  intro l;rw[Z];cases l<;>rfl
 have M:∀l,V.at l=y.at l:=by
  intro l;rw[D];cases l<;>rfl
 have U:∀k,y'.own k↔y.own k:=λk=>by unfold Yt.own;simp only[hat]
 have jR:∀k,V.own k↔y.own k:=λk=>by unfold Yt.own;simp only[M]
 have G:Aj w w' V=Aj w w' y':=by
  funext k
  apply propext;unfold Aj;rw[U k,jR k];have:V.ext=y'.ext:=by rw[D,Z]
  rw[this]
 have T:∀l k,y.at l=μ k->w'.heap[k]? =w.heap[k]? :=λl k e=>hk k (h.vQ e) (λY=>h.nx k Y ⟨l,e⟩);have Q:∀k,y'.ext k↔y.ext k \/X k:=λk=>by rw[Z]
 have H:=h.owned (y':=y') (n':=n) hs (λk vm _ h2=>hk k vm h2) (by rw[Z]) (by rw[<-G,Z])
  (λk e=>by
   rcases e with e|e
   ·exact Nat.lt_of_lt_of_le (h.lt (.inl ((U k).1 e))) hs
   ·rcases(Q k).1 e with e|e
    ·exact Nat.lt_of_lt_of_le (h.lt (.inr e)) hs
    ·exact(J k e).2)
  (λk e=>.inl ((U k).1 e)) (λk e=>((Q k).1 e).imp_right (λe=>(J k e).1)) rfl rfl rfl h.c9 (by rw[Z];exact h.oE.keep (T .N _ rfl))
  (by rw[Z];exact h.rr.keep (T .R _ rfl)) (by rw[Z];exact h.ri.keep (T .I _ rfl))
  (by
   intro S D8 x hx;have A:y.gC=μ S:=by rw[Z]at D8;exact D8
   have:=(h.rc S A x hx).keep (T .C S A);rw[Z];exact this)
  (by
   intro x hx;obtain⟨S,e⟩:=h.gc x hx;exact⟨S,by rw[Z];exact e⟩)
  (by
   intro x hx;have:=(h.ib x hx).keep hs (λk Y=>T (.ib x) k Y);rw[Z];exact this)
  (by
   intro x d hx hd;have:=(h.ob x d hx hd).keep hs (λk Y=>T (.on x d) k Y);rw[Z];exact this)
  h.ol h.en (λl l' k e e'=>h.inj l l' k ((hat l).symm.trans e) ((hat l').symm.trans e'))
  (by
   intro k e Y;rcases(Q k).1 e with e|e
   ·exact h.nx k e ((U k).1 Y)
   ·have h1:=h.lt (.inl ((U k).1 Y));have h2:=(J k e).1;omega)
 refine⟨y',H.1,by rw[Z];exact⟨rfl,rfl,rfl,rfl,rfl,rfl,rfl,rfl⟩,λk=> ?_,Q⟩;unfold Yt.all;rw[U k];have:∀j,(y'.z j).pM k↔(y.z j).pM k:=λj=>by rw[Z];exact dZ
 simp only[this]
theorem jS.below {w w':ew} {y:Yt} {n:ja} (h:jS w y n)(hb:eH w w'):jS w' y n:=by
 refine⟨h.n1,h.n6,h.c9,h.oE.below hb,h.rr.below h.n1 hb,h.ri.below h.n1 hb,λg X c hc=>(h.rc g X c hc).below eF hb,h.gc,?_,λi hi=>(h.rt i hi).below hb,h.rn,λi hi=>(h.ib i hi).below hb,λc d hc hd=>(h.ob c d hc hd).below hb,h.ol,h.en,h.inj,h.away,h.nx,h.nM,h.z0⟩;obtain⟨E,Z,Y⟩:=h.mp;exact⟨E,Z.keep (hb.block _ h.Io),Y⟩
theorem yz.jg(y:Yt)(n:Nat)(h:eH w w'):yz w w' y n:=⟨h.os,h.tape,h.output,h.size,λk Z _=>h.block k Z⟩
theorem iR.still {y:Yt} {n:ja} (h:jS w y n)(hb:eH w w'):iR w w' y n n.n:=⟨⟨y,h.below hb,y.Il,λ_ e=>.inl e,λ_=>dZ⟩,yz.jg y n.n hb⟩
theorem iR.below {y:Yt} {n:ja} (h:iR a b y n m)(Y:n.n=m)(hb:eH b c):iR a c y n m:=by
 subst Y;exact h.step λy' Z _=>iR.still Z hb
section
variable {P:Program}
theorem Dp {ops:Array Oper} {o:Oper} {a:Act} {K:Act->ew->Prop} {Q:Exit->Act->ew->Prop} {E:Prop}
 (Z:o.guard=ν) (sl x:Operand) (t u:TypeId) (S:o.op=.call {callee:=.builtin .append,args:= #[sl,x],argTypes:= #[t,u] })
 (e:TypeId) (i:TypeInfo) (z:eA) (J:P.underlying t=μ (.slice e)) (H:P.underlying u=μ .string) (hi:P.info? e=μ i) (D:i.zero=μ z) (sE:i.size=1) (wq:i.bytes=1) (Y:z.cells.size=1)
 (v:eA) (n:Nat) (xs:List eA) (hs:a.eval sl=v) (A:Row w 1 v n xs) (s:ByteArray) (hx:a.eval x=.string s) (hsl:s.size<=1000000) (T:n<=1000000000)
 (h:∀v' w',Row w' 1 v' (n+s.size) (xs++jd s.data.toList)->w.grownBy w' v.ownBlock->(v'.ownBlock=v.ownBlock \/ ∃k,v'.ownBlock=μ k/\w.heap.size<=k)->K (a.put o.dst v') w'):
 if eT o (yielded ops a.tmps)=true then Oper.wp P o a w K Q else E:=by
 have G:eT o (yielded ops a.tmps)=true:=by simp[eT,Z]
 rw[ai G];obtain⟨v',w',M,X,V,U⟩:=wQ (P:=P) w t u o.type e i z J H hi D sE wq Y v n xs A s hsl T;unfold Oper.wp execOp;simp only[S,resolve,invoke,builtin,fT,fU,eO,List.map_toArray,eQ,List.map_nil,hs,hx,M];exact h v' w' X V U
end
theorem Row.shape {sz:Nat} {xs:List eA} (h:Row w sz v n xs):∃a c,v=σ a n c:=by
 rcases h.2 with⟨e,Z⟩|⟨g',c',e,_⟩
 {exact⟨ν,0,by rw[e,Z]⟩};{exact⟨_,_,e⟩}
structure T6(w w':ew)(g o d:Nat)(c:qX)(ov:Nat->eA)(v':eA):Prop where
 os:w'.os=w.os
 tape:w'.tape=w.tape
 output:w'.output=w.output
 size:w.heap.size<=w'.heap.size
 block:∀k,k<w.heap.size->k≠g->(ov d).ownBlock≠μ k->w'.heap[k]? =w.heap[k]?
 cell:∀j,j<o \/o+7<=j->w'.cell? ⟨g,j,ν⟩=w.cell? ⟨g,j,ν⟩
 fz:∀j,w'.frozen? ⟨g,j,ν⟩=w.frozen? ⟨g,j,ν⟩
 xR:qR w' g o 7 (Dm c (j6 ov d v'))
 row:Row w' 1 v' (c.on d).length (jd (c.on d))
 own:∀k,v'.ownBlock=μ k->(ov d).ownBlock=μ k \/w.heap.size<=k
theorem ady(c:qX)(ov:Nat->eA)(d:Nat)(hd:d<2)(v:eA)(f:Nat->List UInt8):∀j,j<7->tR (Dm c ov) (5+d) v j=Dm {c with on:=f} (j6 ov d v) j:=by
 intro j hj;have Y:d=0 \/d=1:=eB;rcases Y with rfl|rfl
 {by_cases e:j=5;{subst e;rfl};{rw[jV _ _ eB];unfold Dm;simp only[e,if_false];rfl}};{by_cases e:j=6;{subst e;rfl};{rw[jV _ _ eB];unfold Dm;have e6:¬j=6:=e;by_cases Z:j=5;{subst Z;rfl};{have:j<5:=eB;simp only[Z,if_false];by_cases T:j=4;{simp[T]};{have:j<4:=eB;by_cases U:j=3;{simp[U]};{by_cases V:j=2;{simp[V]};{by_cases X:j=1;{simp[X]};{have:j=0:=eB;simp[this]}}}}}}}
theorem Wc(c:qX)(ov:Nat->eA)(d:Nat)(hd:d<2):Dm c ov (5+d)=ov d:=by
 have Z:d=0 \/d=1:=eB;rcases Z with rfl|rfl<;>rfl
theorem T6.still {o:Nat} {c:qX} (hC:qR w g o 7 (Dm c ov))(Z:Row w 1 (ov d) (c.on d).length (jd (c.on d)))(hb:eH w w'):T6 w w' g o d c ov (ov d):=by
 have hl:=hC.lt eF;refine⟨hb.os,hb.tape,hb.output,hb.size,λk Y _ _=>hb.block k Y,λj _=>aj (a:=⟨g,j,ν⟩) (hb.block g hl),λj=>by simp only[gW,hb.block g hl],?_,Z.below hb,λk e=>.inl e⟩;rw[wU];exact hC.below eF hb
theorem T6.turn {o:Nat} {c:qX} (hd:d<2)(hC:qR w g o 7 (Dm c ov))(V:(ov d).ownBlock≠μ g)(v:eA)(f:Nat->List UInt8)(os:x.os=w.os)(J:x.tape=w.tape)(ou:x.output=w.output)(hs:w.heap.size<=x.heap.size)
 (U:∀k,k<w.heap.size->(ov d).ownBlock≠μ k->x.heap[k]? =w.heap[k]?) (M:Row x 1 v (f d).length (jd (f d))) (T:∀k,v.ownBlock=μ k->(ov d).ownBlock=μ k \/w.heap.size<=k):
 T6 w (x.setCell ⟨g,o+5+d,ν⟩ v) g o d {c with on:=f} ov v:=by
 rw[Nat.add_assoc];have hl:=hC.lt eF;have Z:=U g hl V;have X:v.ownBlock≠μ g:=λe=>by
  rcases T g e with Y|Y
  {exact V Y};{omega}
 refine⟨os,J,ou,by simpa using hs,λk H S Q=>(aq _ _ _ k S).trans (U k H Q),λj hj=> ?_,λj=> ?_,?_,?_,T⟩;{rw[aW _ _ _ _ (λe=>by have:=congrArg Addr.off e;simp at this;omega)];exact aj (a:=⟨g,j,ν⟩) Z};{rw[mT];simp only[gW,Z]};{exact((hC.keep Z).set (5+d) eB v).congr (ady c ov d hd v f)};{exact M.keep ik (λk e=>aq _ _ _ k (λY=>X (by rw[e,Y])))}
theorem Wd(g o d:Nat)(c:qX)(ov:Nat->eA)(s:ByteArray)(w:ew)(hd:d<2)(hC:qR w g o 7 (Dm c ov))(U:Row w 1 (ov d) (c.on d).length (jd (c.on d)))(hg:(ov d).ownBlock≠μ g)(hl:(c.on d).length<=2000)(hs:s.size<=1000000000):
 fc fe 161 #[π (μ ⟨g,o,ν⟩),ι κ (d:Int),.string s] w λe w'=>e=ρ (τ #[])/\∃v',T6 w w' g o d (c.put d s.data.toList) ov v':=by
 obtain⟨i0,hi,oN,nG,mS⟩:=aX VH;have hsl:s.data.toList.length=s.size:=ik;have c4:w.cell? ⟨g,o+4,ν⟩=μ (.bool c.jc):=hC.cell 4 eF;have h:w.cell? ⟨g,o+5+d,ν⟩=μ (ov d):=by rw[Nat.add_assoc,hC.cell (5+d) eB,Wc c ov d hd]
 have f5:w.frozen? ⟨g,o+5+d,ν⟩=false:=by rw[Nat.add_assoc];exact hC.fz (5+d) eB
 have gl:=hC.lt eF;have kF:(d:Int)<2:=eB;have hd0:(0:Int)<=(d:Int):=eB;have J:Hid _:=hC;have tP:κ.wrap (((c.on d).length:Int)+(s.size:Int))=((c.on d).length:Int)+(s.size:Int):=aS _ ⟨eB,eB⟩;clear hC;cases M:c.jc with
 |false=>
  have X:c.put d s.data.toList=c:=by unfold qX.put;rw[af (by simp[M])]
  rw[X];rw[M]at c4;have G:Hid _:=U;clear U
  go_in
  go_wp2
  first|go_end0|refine iX rfl rfl ?_
  exact⟨rfl,_,T6.still J.out G.out (au _ _)⟩
 |true=>
  rw[M]at c4;obtain⟨v,hv⟩:=fq (ov d);obtain⟨n,T⟩:=fq ((c.on d).length);have D:Hid _:=hv;have HN:Hid _:=T;have S:=U;rw[hv]at h;rw[T]at tP hl;rw[hv,T]at S;have G:Hid _:=U;have Zk:∃a' c',v=σ a' n c':=by
   rcases S.2 with⟨e,e2⟩|⟨g',c',e,_⟩
   {exact⟨ν,0,by rw[e,e2]⟩};{exact⟨_,_,e⟩}
  obtain⟨a',c',Z⟩:=Zk;rw[Z]at h S;by_cases Yv:(n:Int)+(s.size:Int)<=2000
  ·have X:c.put d s.data.toList={c with on:=j6 c.on d (c.on d++s.data.toList)}:=by
    unfold qX.put;rw[ai ⟨M,eB⟩]
   have HE:Hid _:=X;have H:Hid (eD (σ a' n c')≠μ g):=by rw[<-Z,<-hv];exact hg
   have Y:Hid _:=Z;clear U X hv T Z hg
   go_in
   go_wp2
   go_region_law ((refine Dp (by rfl) (.tmp 30) (.tmp 31) 140 9 (by rfl) 5 i0 (.int .u8 0) underlying140 underlying9 hi oN nG mS (by rfl) (σ a' n c') n (jd (c.on d)) (by rfl) (by exact S.drew) s (by rfl) eB eB ?_;intro v1 x1 lE V jR;obtain⟨A,c1,hv1⟩:=Row.shape lE;subst hv1;have y5:=(aj (a:=⟨g,o+5+d,ν⟩) (V.block g (by exact gl) (λe=>H.out e.symm))).trans h;have z5:=(aL (a:=⟨g,o+5+d,ν⟩) (V.block g (by exact gl) (λe=>H.out e.symm))).trans f5))
   all_goals
    go_wp2
    first|go_end0|refine iX rfl rfl ?_
    have lp:∀k,eD (σ A (n+s.size) c1)=μ k->(ov d).ownBlock=μ k \/w.heap.size<=k:=by
     intro k Q;rw[D.out,Y.out];rcases jR with e|⟨k',e,vm⟩
     {exact .inl (by rw[<-e];exact Q)};{rw[Q]at e;obtain rfl:=Option.some.inj e;exact .inr vm}
    refine⟨rfl,σ A (n+s.size) c1,?_⟩;rw[HE.out];refine T6.turn hd J.out (by rw[D.out,Y.out];exact H.out) (σ A (n+s.size) c1) _ V.os V.tape V.output V.size (λk Q h1=>V.block k Q (λe=>h1 (by rw[D.out,Y.out];exact e.symm))) ?_ lp;rw[iQ,aA,l5,HN.out,hsl];exact lE
  ·have X:c.put d s.data.toList=c:=by
    unfold qX.put;rw[af (λe=>Yv (by have:=e.2;omega))]
   rw[X];clear U X hv T Z
   go_in
   go_wp2
   first|go_end0|refine iX rfl rfl ?_
   exact⟨rfl,_,T6.still J.out G.out (au _ _)⟩
theorem jS.k0 {y:Yt} {n:ja} (h:jS w y n):w.cell? ⟨y.N,0,ν⟩=μ (σ (μ ⟨y.gR,0,ν⟩) n.n y.uz):=h.oE.cell 0
theorem jS.k1 {y:Yt} {n:ja} (h:jS w y n):w.cell? ⟨y.N,1,ν⟩=μ (σ (μ ⟨y.gI,0,ν⟩) n.n y.zf):=h.oE.cell 1
theorem jS.k2 {y:Yt} {n:ja} (h:jS w y n):w.cell? ⟨y.N,2,ν⟩=μ (.map (μ y.bM)):=h.oE.cell 2
theorem jS.k3 {y:Yt} {n:ja} (h:jS w y n):w.cell? ⟨y.N,3,ν⟩=μ (y.cv n.nc):=h.oE.cell 3
theorem jS.yA {y:Yt} {n:ja} (h:jS w y n):y.N<w.heap.size:=h.oE.lt
theorem jS.Sd {y:Yt} {n:ja} (h:jS w y n):y.gR<w.heap.size:=h.vQ (l:=.R) rfl
theorem jS.adB {y:Yt} {n:ja} (h:jS w y n):y.gI<w.heap.size:=h.vQ (l:=.I) rfl
theorem jS.ptr {y:Yt} {n:ja} (h:jS w y n)(hi:i<n.n):w.cell? ⟨y.gR,i,ν⟩=μ (π (μ ⟨(y.z i).R,0,ν⟩)):=by
 have:=h.rr.cell i hi
 rwa [Nat.zero_add]at this
theorem jS.ZB {y:Yt} {n:ja} (h:jS w y n)(hi:i<n.n):w.cell? ⟨y.gI,i,ν⟩=μ (y.iv i):=by
 have:=h.ri.cell i hi
 rwa [Nat.zero_add]at this
theorem jS.cvs {y:Yt} {n:ja} (h:jS w y n):∃a cp,y.cv n.nc=σ a n.nc cp/\∀c,c<n.nc->∃g,y.gC=μ g/\a=μ ⟨g,0,ν⟩:=by
 unfold Yt.cv;cases X:y.gC with
 |none=>
  have Y:n.nc=0:=by
   rcases Nat.eq_zero_or_pos n.nc with e|e
   {exact e};{obtain⟨g,Z⟩:=h.gc 0 e;rw[X]at Z;simp at Z}
  exact⟨ν,0,by rw[Y],λc hc=>eB⟩
 |some g=>exact⟨_,_,rfl,λc hc=>⟨g,rfl,rfl⟩⟩
section
variable {w w':World} {y:Yt} {n:ja} {m:Nat}
theorem iR.k0(h:iR w w' y n m):w'.cell? ⟨y.N,0,ν⟩=μ (σ (μ ⟨y.gR,0,ν⟩) n.n y.uz):=by
 obtain⟨⟨y',Z,hs,_⟩,_⟩:=h;have:=Z.k0
 rwa [hs.N,hs.gR,hs.uz]at this
theorem iR.k3(h:iR w w' y n m):w'.cell? ⟨y.N,3,ν⟩=μ (y.cv n.nc):=by
 obtain⟨⟨y',Z,hs,_⟩,_⟩:=h;have:=Z.k3;have e:y'.cv n.nc=y.cv n.nc:=by unfold Yt.cv;rw[hs.gC,hs.wV]
 rwa [hs.N,e]at this
theorem iR.lt(h:iR w w' y n m):y.N<w'.heap.size:=ag _ _ h.k0
theorem iR.ptr(h:iR w w' y n m) {i:Nat} (hi:i<n.n):∃R,w'.cell? ⟨y.gR,i,ν⟩=μ (π (μ ⟨R,0,ν⟩)):=by
 obtain⟨⟨y',Z,hs,_⟩,_⟩:=h;have:=Z.ptr hi;rw[hs.gR]at this;exact⟨_,this⟩
theorem iR.Qd(h:iR w w' y n m) {c:Nat} (hc:c<n.nc)(Y:y.gC=μ g):∃ov,qR w' g (c*7) 7 (Dm (n.C c) ov):=by
 obtain⟨⟨y',Z,hs,_⟩,_⟩:=h;exact⟨_,Z.rc g (by rw[hs.gC];exact Y) c hc⟩
theorem iR.tab {n0:ja} (h:iR w w' y n m)(V:jS w y n0)(M:n0.n=m)(U:jt w):jt w':=λe s S hs=>by
 subst M;refine(aj (a:=⟨0,e*10+s,ν⟩) (h.kept.block 0 U.lt (λQ=> ?_))).trans (U e s S hs);rcases Q with X|⟨j,T,X⟩
 ·exact V.z0 X
 ·have R:=V.rt j T;have h3:=(V.rn j T).1;rcases X with Y|Y|Y
  ·rcases Y with Z|Z|⟨i,hi,Z|Z⟩|Z
   {exact R.sR.2.1 Z.symm};{exact(R.pt 0 R.n1).nz.1 Z.symm};{exact(R.pt i eB).nz.2.1 Z.symm};{exact(R.pt i eB).nz.2.2 Z};{exact R.RT.1 Z}
  {exact R.RT.2 0 (.inl Y) rfl};{exact R.RT.2 0 (.inr Y) rfl}
theorem iR.first {y:Yt} {n':ja} (hb:eH a b)(k:iR b c y n' m):iR a c y n' m:=by
 obtain⟨⟨T,g1,Y,X,V⟩,Z⟩:=k;exact⟨⟨T,g1,Y,λx hx=>(X x hx).imp_right (λe=>Nat.le_trans hb.size e),V⟩,⟨Z.os.trans hb.os,Z.tape.trans hb.tape,Z.output.trans hb.output,Nat.le_trans hb.size Z.size,λx hx U=>(Z.block x (Nat.lt_of_lt_of_le hx hb.size) U).trans (hb.block x hx)⟩⟩
end
def OB(i:Int)(n:Nat):Bool:=decide (1<=i)&&decide (i<=(n:Int))
theorem zj(i:Int)(n:Nat):(OB i n=false/\(i<1 \/(n:Int)<i)) \/ ∃k:Nat,k<n/\i=(k:Int)+1:=by
 by_cases Z:1<=i
 ·by_cases Y:i<=(n:Int)
  {exact .inr ⟨(i-1).toNat,eB,eB⟩};{exact .inl ⟨by simp[OB,Y],eB⟩}
 ·exact .inl ⟨by simp[OB,Z],eB⟩
theorem Ak(h:i<n):OB ((i:Int)+1) n=true:=by simp[OB];omega
def JO(i d:Int)(n:Nat):Bool:=hasB i n&& (decide (0<=d)&&decide (d<2))
theorem OC(i d:Int)(n:Nat):(JO i d n=false/\(i<0 \/(n:Int)<=i \/d<0 \/2<=d)) \/ ∃c k:Nat,c<n/\k<2/\i=(c:Int)/\d=(k:Int):=by
 by_cases Z:0<=i;{by_cases Y:i<(n:Int);{by_cases X:0<=d;{by_cases V:d<2;{exact .inr ⟨i.toNat,d.toNat,eB,eB,eB,eB⟩};{exact .inl ⟨by simp[JO,V],eB⟩}};{exact .inl ⟨by simp[JO,X],eB⟩}};{exact .inl ⟨by simp[JO,hasB,Y],eB⟩}};{exact .inl ⟨by simp[JO,hasB,Z],eB⟩}
theorem Wf {c:Nat} (h:c<n)(hd:d<2):JO (c:Int) (d:Int) n=true:=by simp[JO,hasB];omega
theorem rH(y:Yt)(n:ja)(i:Int)(w:ew)(h:jS w y n):
 fc fe 107 #[π (μ ⟨y.N,0,ν⟩),ι κ i] w λe w'=>e=ρ (.bool (OB i n.n))/\w=w':=by
 have hl:=h.yA;have c1:=h.k0;unfold OB;by_cases Z:1<=i
 ·by_cases Y:i<=(n.n:Int)
  ·have hv:(decide (1<=i)&&decide (i<=(n.n:Int)))=true:=by simp[Z,Y]
   rw[hv];clear hv h
   go_in
   go_wp2
   go_ret;exact⟨by first|rfl|(simp;omega),rfl⟩
  ·have hv:(decide (1<=i)&&decide (i<=(n.n:Int)))=false:=by simp[Y]
   rw[hv];clear hv h
   go_in
   go_wp2
   go_ret;exact⟨by first|rfl|(simp;omega),rfl⟩
 ·have hv:(decide (1<=i)&&decide (i<=(n.n:Int)))=false:=by simp[Z]
  rw[hv];clear hv h
  go_in
  go_wp2
  go_ret;exact⟨by first|rfl|(simp;omega),rfl⟩
theorem Al(y:Yt)(n:ja)(i:Int)(w:ew)(h:jS w y n):
 fc fe 112 #[π (μ ⟨y.N,0,ν⟩),ι κ i] w λe w'=>e=ρ (.bool (hasB i n.nc))/\w=w':=by
 have hl:=h.yA;have c1:=h.k3;obtain⟨a,cp,Z,_⟩:=h.cvs;rw[Z]at c1;unfold hasB;by_cases Y:0<=i
 ·by_cases X:i<(n.nc:Int)
  ·have hv:(decide (0<=i)&&decide (i<(n.nc:Int)))=true:=by simp[Y,X]
   rw[hv];clear hv h Z
   go_in
   go_wp2
   go_ret;exact⟨by first|rfl|(simp;omega),rfl⟩
  ·have hv:(decide (0<=i)&&decide (i<(n.nc:Int)))=false:=by simp[X]
   rw[hv];clear hv h Z
   go_in
   go_wp2
   go_ret;exact⟨by first|rfl|(simp;omega),rfl⟩
 ·have hv:(decide (0<=i)&&decide (i<(n.nc:Int)))=false:=by simp[Y]
  rw[hv];clear hv h Z
  go_in
  go_wp2
  go_ret;exact⟨by first|rfl|(simp;omega),rfl⟩
theorem OD(y:Yt)(n:ja)(i d:Int)(w:ew)(h:jS w y n):
 fc fe 108 #[π (μ ⟨y.N,0,ν⟩),ι κ i,ι κ d] w λe w'=>e=ρ (.bool (JO i d n.nc))/\w=w':=by
 have hh:=Al y n i w h;unfold JO;cases hb:hasB i n.nc with
 |false=>
  rw[hb]at hh;have hv:(false&& (decide (0<=d)&&decide (d<2)))=false:=rfl;rw[hv];clear hv h hb
  go_in
  go_wp2_with(fail);refine hh.mono ?_;rintro e w0 ⟨rfl,rfl⟩;clear hh
  go_wp2
  go_ret;exact⟨rfl,rfl⟩
 |true=>
  rw[hb]at hh;clear h hb;by_cases Z:0<=d
  ·by_cases Y:d<2
   ·have hv:(true&& (decide (0<=d)&&decide (d<2)))=true:=by simp[Z,Y]
    rw[hv];clear hv
    go_in
    go_wp2_with(fail);refine hh.mono ?_;rintro e w0 ⟨rfl,rfl⟩;clear hh
    go_wp2
    go_ret;exact⟨by first|rfl|(simp;omega),rfl⟩
   ·have hv:(true&& (decide (0<=d)&&decide (d<2)))=false:=by simp[Y]
    rw[hv];clear hv
    go_in
    go_wp2_with(fail);refine hh.mono ?_;rintro e w0 ⟨rfl,rfl⟩;clear hh
    go_wp2
    go_ret;exact⟨by first|rfl|(simp;omega),rfl⟩
  ·have hv:(true&& (decide (0<=d)&&decide (d<2)))=false:=by simp[Z]
   rw[hv];clear hv
   go_in
   go_wp2_with(fail);refine hh.mono ?_;rintro e w0 ⟨rfl,rfl⟩;clear hh
   go_wp2
   go_ret;exact⟨by first|rfl|(simp;omega),rfl⟩
theorem Se(d:Nat)(hd:d<2)(w:ew):fc fe 156 #[ι κ (d:Int)] w λe w'=>e=ρ (ι κ ((1-d:Nat):Int))/\w=w':=by
 have Z:((1-d:Nat):Int)=1-(d:Int):=eB;have hw:κ.wrap (1-(d:Int))=1-(d:Int):=aS _ ⟨eB,eB⟩;rw[Z]
 go_in
 go_wp2
 go_ret;exact⟨rfl,rfl⟩
theorem OE(y:Yt)(n:ja)(i:Nat)(p:Int)(w:ew)(h:jS w y n)(hi:i<n.n):
 fc fe 157 #[π (μ ⟨y.N,0,ν⟩),.agg #[ι κ ((i:Int)+1),ι κ p]] w λe w'=>e=ρ (π (μ ⟨(y.z i).R,0,ν⟩))/\eH w w':=by
 have bm:=gK w (γ #[ι κ ((i:Int)+1),ι κ p] 192);have Y:ji (w.alloc (γ #[ι κ ((i:Int)+1),ι κ p] 192)) w.heap.size #[ι κ ((i:Int)+1),ι κ p] 192:=ji.new w _ _;have Z:=h.below bm;obtain⟨Q,V⟩:=fq (w.alloc (γ #[ι κ ((i:Int)+1),ι κ p] 192));obtain⟨N,X⟩:=fq (w.heap.size);rw[V]at Y Z bm;rw[X]at Y;have e0:Q.cell? ⟨N,0,ν⟩=μ (ι κ ((i:Int)+1)):=Y.cell 0;have el:=Y.lt;have c0:=Z.k0;have cl:=Z.yA;have d0:=Z.ptr hi;have dl:=Z.Sd;have n6:=h.n6;have hw:κ.wrap ((i:Int)+1-1)=(i:Int):=by
  have:(i:Int)+1-1=i:=eB;rw[this];exact aS _ ⟨eB,eB⟩
 have ll:(i:Int)<(n.n:Int):=eB;have PH:(0:Int)<=(i:Int):=eB;have T:Hid _:=bm;have U:Hid _:=V;have S:Hid _:=X;clear h Z Y V X bm
 go_in
 go_wp2_with(fail);rw[U.out]
 try rw[S.out]
 go_quiet(fail)
 go_wp2
 go_ret;exact⟨rfl,below_drewN T.out _⟩
theorem zk(y:Yt)(n:ja)(i:Nat)(w:ew)(h:jS w y n)(hi:i<n.n):
 fc fe 40 #[π (μ ⟨y.N,0,ν⟩),ι κ ((i:Int)+1)] w λe w'=>e=ρ (τ #[π (μ ⟨(y.z i).R,0,ν⟩),η])/\w=w':=by
 have hh:=rH y n ((i:Int)+1) w h;rw[Ak hi]at hh;have c0:=h.k0;have cl:=h.yA;have d0:=h.ptr hi;have dl:=h.Sd;have n6:=h.n6;have hw:κ.wrap ((i:Int)+1-1)=(i:Int):=by
  have:(i:Int)+1-1=i:=eB;rw[this];exact aS _ ⟨eB,eB⟩
 have ll:(i:Int)<(n.n:Int):=eB;have PH:(0:Int)<=(i:Int):=eB;clear h
 go_in
 go_wp2_with(fail);refine hh.mono ?_;rintro e w1 ⟨rfl,rfl⟩;clear hh
 go_wp2
 go_ret2
 exact⟨rfl,rfl⟩
theorem LM(a:eh)(n cap:Nat)(w:ew):(binOp .eql 140 (σ (μ a) n cap) (σ ν 0 0)).run fe w=.ok (.bool false) w:=ga
theorem ZC(w:ew):(binOp .eql 140 (σ ν 0 0) (σ ν 0 0)).run fe w=.ok (.bool true) w:=ga
structure Iu(w w':ew)(v:eA)(l:List UInt8):Prop where
 row:Row w' 1 v l.length (jd l)
 own:∀k,v.ownBlock=μ k->w.heap.size<=k
 below:eH w w'
theorem CH(a:eh)(cap:Nat)(w:ew):
 fc fe 201 #[σ (μ a) 0 cap] w λe w'=>∃(v:eA),e=ρ v/\Iu w w' v [] :=by
 have hq:=LM
 go_in
 go_wp2
 go_ret;exact⟨_,rfl,⟨Row.made w 1 _ #[] (0,0) 0 0 [] rfl rfl (Nat.le_refl _) eF (.inl rfl) ik,λj Z=>kS (Nat.le_refl _) Z,gK _ _⟩⟩
theorem OG(w:ew):
 fc fe 201 #[σ ν 0 0] w λe w'=>∃(v:eA),e=ρ v/\Iu w w' v [] :=by
 have hq:=ZC
 go_in
 go_wp2
 go_ret;exact⟨_,rfl,⟨Row.nil w 1,λj Z=>ny Z,au _ _⟩⟩
theorem Sf(l:List UInt8):∀u∈jd l,u.oneCell'=true:=by
 intro u Z;unfold jd at Z;obtain⟨b,_,rfl⟩:=bK.1 Z;rfl
theorem LN(b off n cap:Nat)(l:List UInt8)(w:ew)(hn:n<=1000000)(h:0<n)(hl:l.length=n)(hc:∀j u,(jd l)[j]? =μ u->w.cell? ⟨b,off+j,ν⟩=μ u):
 fc fe 201 #[σ (μ ⟨b,off,ν⟩) n cap] w λe w'=>∃(v:eA),e=ρ v/\Iu w w' v l:=by
 obtain⟨i0,hi,A,D,G⟩:=aX VH;have hq:=LM;have T:eH w (w.alloc (γ #[] 5)):=gK _ _;have Q:Row (w.alloc (γ #[] 5)) 1 (σ (μ ⟨w.heap.size,0,ν⟩) 0 0) 0 [] :=Row.made w 1 _ #[] (0,0) 0 0 [] rfl rfl (Nat.le_refl _) eF (.inl rfl) ik;have qT:∀j u,(jd l)[j]? =μ u->(w.alloc (γ #[] 5)).cell? ((⟨b,off,ν⟩:eh).add j)=μ u:=λj u S=>by
  rw[nE];have X:=hc j u S;exact(aj (a:=⟨b,off+j,ν⟩) (T.block b (ag _ _ X))).trans X
 have Y:(jd l).length=n*1:=by rw[rE,hl,Nat.mul_one]
 go_in
 go_wp2_with(at_builtin;go_must(refine iU _ rfl (.tmp 5) (.tmp 6) 140 rfl 5 i0 (.int .u8 0) 1 1 underlying140 hi A D G rfl eF (σ (μ ⟨w.heap.size,0,ν⟩) 0 0) 0 [] rfl Q _ n cap (jd l) rfl Y h qT (Sf l) (by unfold maxLen;omega) eB ?_));intro g1 C9 w1 J U V;have M:=mF T U (λj Z=>kS (Nat.le_refl _) Z);have H:=oo (B:=w.heap.size) V eB (λj Z=>kS (Nat.le_refl _) Z);clear U V
 go_wp2
 go_ret;refine⟨_,rfl,⟨?_,λj Z=>kS H Z,M⟩⟩;rw[hl];exact J
theorem Row.front {a:Option eh} {cp:Nat} (h:Row w 1 (σ a l.length cp) l.length (jd l))(k:Nat)(hk:k<=l.length):
 (convert 140 9 (σ a k cp)).run fe w=.ok (.string ⟨(l.take k).toArray⟩) w:=by
 have V:(l.take k).length=k:=by rw[List.length_take];omega
 have Y:Row w 1 (σ a k cp) k (jd (l.take k)):=by
  refine⟨by rw[rE,V,Nat.mul_one],?_⟩;rcases h.2 with⟨e,e0⟩|⟨g,cap,e,Q,Y,U,T,S⟩
  {obtain⟨rfl,_,rfl⟩:=bQ e;exact .inl ⟨by rw[show k=0 by omega],eB⟩};{obtain⟨rfl,_,rfl⟩:=bQ e;refine .inr ⟨g,cp,rfl,Q,eB,U,λj u Z=>T j u ?_,S⟩;have X:j<(jd (l.take k)).length:=(aK.1 Z).1;rw[rE,V]at X;unfold jd at Z⊢;rw[cJ,List.getElem?_take]at Z;rw[ai X]at Z;rw[cJ];exact Z}
 exact Row.back Y 140 9 5 underlying140 underlying5 underlying9
theorem Sg(g o d:Nat)(c:qX)(ov:Nat->eA)(many:Int)(w:ew)(hd:d<2)(hC:qR w g o 7 (Dm c ov))(hR:Row w 1 (ov d) (c.on d).length (jd (c.on d)))(hg:(ov d).ownBlock≠μ g)(hl:(c.on d).length<=2000):
 fc fe 158 #[π (μ ⟨g,o,ν⟩),ι κ (d:Int),ι κ many] w λe w'=>e=ρ (.string ⟨((c.on d).take (min many.toNat (c.on d).length)).toArray⟩)/\∃v',T6 w w' g o d {c with on:=j6 c.on d ((c.on d).drop (min many.toNat (c.on d).length))} ov v':=by
 have Q:w.cell? ⟨g,o+5+d,ν⟩=μ (ov d):=by rw[Nat.add_assoc,hC.cell (5+d) eB,Wc c ov d hd]
 have f5:w.frozen? ⟨g,o+5+d,ν⟩=false:=by rw[Nat.add_assoc];exact hC.fz (5+d) eB
 have gl:=hC.lt eF;have kF:(d:Int)<2:=eB;have hd0:(0:Int)<=(d:Int):=eB;have HC:Hid _:=hC;have HG:Hid _:=hg;obtain⟨k,hk⟩:=fq (min many.toNat (c.on d).length);obtain⟨a,cp,hv⟩:=Row.shape hR;have RG:k<=(c.on d).length:=eB;have J:max (0:Int) (min many ((c.on d).length:Nat))=(k:Int):=eB;have Ls:=hR;rw[hv]at Ls Q;have wM:=Row.front Ls k RG;have U:((c.on d).drop k).length=(c.on d).length-k:=dI;rw[hk];have HV:Hid _:=hv;have HR:Hid _:=Ls;obtain⟨l,A⟩:=fq (c.on d);rw[A]at J wM RG hl U Q HR⊢;have HL:Hid _:=A;obtain⟨n,hn⟩:=fq (l.length);have HN:Hid _:=hn;rw[hn]at J RG hl U Q;clear hC hR hg hv A Ls hn;have kC:∀(W w1:ew) (v1:eA) (L:List UInt8),eH w W->Iu W w1 v1 L->∃S T,v1=σ S L.length T/\w1.cell? ⟨g,o+5+d,ν⟩=w.cell? ⟨g,o+5+d,ν⟩/\w1.frozen? ⟨g,o+5+d,ν⟩=false/\g<w1.heap.size:=by
  intro W w1 v1 L hb hf;obtain⟨S,T,e⟩:=Row.shape hf.row;have b2:=fP hb hf.below;exact⟨S,T,e,aj (a:=⟨g,o+5+d,ν⟩) (b2.block g gl),(aL (a:=⟨g,o+5+d,ν⟩) (b2.block g gl)).trans f5,Nat.lt_of_lt_of_le gl b2.size⟩
 have G:Hid _:=kC;have PG:∀(W w1:ew) (v1:eA) (L:List UInt8),L=l.drop k->eH w W->Iu W w1 v1 L->T6 w (w1.setCell ⟨g,o+5+d,ν⟩ v1) g o d {c with on:=j6 c.on d (l.drop k)} ov v1:=by
  intro W w1 v1 L hL hb hf;have b2:=fP hb hf.below;refine T6.turn hd HC.out HG.out v1 (j6 c.on d (l.drop k)) b2.os b2.tape b2.output b2.size (λx hx _=>b2.block x hx) ?_ (λx hx=>.inr (Nat.le_trans hb.size (hf.own x hx)));rw[iQ,<-hL];exact hf.row
 have X:Hid _:=PG;clear kC PG;rcases HR.out.2 with⟨e,D⟩|⟨H,cap2,e,GU,uG,Gw,hcell,C6⟩
 ·obtain⟨rfl,_,rfl⟩:=bQ e;have U0:n=0:=by have:=HN.out;omega
  subst U0;obtain rfl:k=0:=eB;have Z:=OG w.drew;have wA:l=[] :=aJ HN.out;have hld:([] :List UInt8)=l.drop 0:=by rw[wA];rfl
  have zE:gX 0 l=[] :=rfl;rw[zE]at wM⊢;have HLD:Hid _:=hld;clear e D J hld hk;by_cases hm:many<=0
  ·go_in
   go_wp2
   go_region_with(first|(go_at_call 201;refine Z.mono ?_;rintro e w1 ⟨v1,rfl,hf⟩;have V:Hid _:=X.out _ _ _ _ HLD.out (jl w) hf;obtain⟨S,T,rfl,Y,z5,h⟩:=G.out _ _ _ _ (jl w) hf;rw[Q]at Y))
   all_goals
    clear Z hf Y z5
    go_wp2
    go_ret;exact⟨rfl,_,V.out⟩
  ·have wv:(0:Int)<=many:=eB
   go_in
   go_wp2
   go_region_with(first|(go_at_call 201;refine Z.mono ?_;rintro e w1 ⟨v1,rfl,hf⟩;have V:Hid _:=X.out _ _ _ _ HLD.out (jl w) hf;obtain⟨S,T,rfl,Y,z5,h⟩:=G.out _ _ _ _ (jl w) hf;rw[Q]at Y))
   all_goals
    clear Z hf Y z5
    go_wp2
    go_ret;exact⟨rfl,_,V.out⟩
 ·obtain⟨rfl,_,rfl⟩:=bQ e;have hkc:(k:Int)<=(cp:Int):=by have:=HN.out;omega
  have aq3:(n:Int)<=(cp:Int):=by have:=HN.out;omega
  have GF:(0:Int)<=(k:Int):=eB;have Bh:(k:Int)<=(n:Int):=eB;have Z:fc fe 201 #[σ (if cp=k then μ ⟨H,0,ν⟩else μ ⟨H,k,ν⟩) (n-k) (cp-k)] w.drew λe w'=>∃(v:eA),e=ρ v/\Iu w.drew w' v (l.drop k):=by
   by_cases hz:k=n;{have e1:n-k=0:=eB;have e2:l.drop k=[] :=bg (by have:=HN.out;omega);rw[e1,e2];by_cases ti:cp=k;{rw[ai ti];exact CH _ _ _};{rw[af ti];exact CH _ _ _}};{rw[af eB];refine LN H k (n-k) (cp-k) (l.drop k) w.drew eB eB U (λj u hu=> ?_);refine hcell (k+j) u ?_;unfold jd at hu⊢;rw[cJ,dt]at hu;rw[cJ];exact hu}
  clear e uG Gw hcell C6 hk;by_cases hm:many<=0
  ·obtain rfl:k=0:=eB;have zE:gX 0 l=[] :=rfl;rw[zE]at wM⊢;have D:(if cp=0 then μ (⟨H,0,ν⟩:eh)else μ ⟨H,0,ν⟩)=μ ⟨H,0,ν⟩:=by split<;>rfl
   rw[Nat.sub_zero,Nat.sub_zero,D]at Z;clear J hkc GF Bh D
   go_in
   go_wp2
   go_region_with(first|(go_at_call 201;refine Z.mono ?_;rintro e w1 ⟨v1,rfl,hf⟩;have V:Hid _:=X.out _ _ _ _ rfl (jl w) hf;obtain⟨S,T,rfl,Y,z5,h⟩:=G.out _ _ _ _ (jl w) hf;rw[Q]at Y))
   all_goals
    clear Z hf Y z5
    go_wp2
    go_ret;exact⟨rfl,_,V.out⟩
  ·by_cases U0:n=0
   ·subst U0;obtain rfl:k=0:=eB;have zE:gX 0 l=[] :=rfl;rw[zE]at wM⊢;have D:(if cp=0 then μ (⟨H,0,ν⟩:eh)else μ ⟨H,0,ν⟩)=μ ⟨H,0,ν⟩:=by split<;>rfl
    rw[Nat.sub_zero,Nat.sub_zero,D]at Z;have wv:(0:Int)<=many:=eB;clear J hkc GF Bh D
    go_in
    go_wp2
    go_region_with(first|(go_at_call 201;refine Z.mono ?_;rintro e w1 ⟨v1,rfl,hf⟩;have V:Hid _:=X.out _ _ _ _ rfl (jl w) hf;obtain⟨S,T,rfl,Y,z5,h⟩:=G.out _ _ _ _ (jl w) hf;rw[Q]at Y))
    all_goals
     clear Z hf Y z5
     go_wp2
     go_ret;exact⟨rfl,_,V.out⟩
   by_cases ti:cp=k
   ·have zH:k=n:=eB;subst zH;rw[ai ti,Nat.sub_self]at Z;subst ti;rw[Nat.sub_self]at Z;have hp0:¬(cp:Int)<=0:=eB;by_cases hmn:many<=(cp:Int)
    ·obtain rfl:many=(cp:Int):=eB;clear J
     go_in
     go_wp2
     go_region_with(first|(go_at_call 201;refine Z.mono ?_;rintro e w1 ⟨v1,rfl,hf⟩;have V:Hid _:=X.out _ _ _ _ rfl (jl w) hf;obtain⟨S,T,rfl,Y,z5,h⟩:=G.out _ _ _ _ (jl w) hf;rw[Q]at Y))
     all_goals
      clear Z hf Y z5
      go_wp2
      go_ret;have M:=V.out
     simp only[U,Nat.sub_self]at M;exact⟨rfl,_,M⟩
    ·clear J
     go_in
     go_wp2
     go_region_with(first|(go_at_call 201;refine Z.mono ?_;rintro e w1 ⟨v1,rfl,hf⟩;have V:Hid _:=X.out _ _ _ _ rfl (jl w) hf;obtain⟨S,T,rfl,Y,z5,h⟩:=G.out _ _ _ _ (jl w) hf;rw[Q]at Y))
     all_goals
      clear Z hf Y z5
      go_wp2
      go_ret;have M:=V.out
     simp only[U,Nat.sub_self]at M;exact⟨rfl,_,M⟩
   ·rw[af ti]at Z;have hp0:¬(n:Int)<=0:=eB;by_cases hmn:many<=(n:Int)
    ·obtain rfl:many=(k:Int):=eB;clear J
     go_in
     go_wp2
     go_region_with(first|(go_at_call 201;refine Z.mono ?_;rintro e w1 ⟨v1,rfl,hf⟩;have V:Hid _:=X.out _ _ _ _ rfl (jl w) hf;obtain⟨S,T,rfl,Y,z5,h⟩:=G.out _ _ _ _ (jl w) hf;rw[Q]at Y))
     all_goals
      clear Z hf Y z5
      go_wp2
      go_ret;have M:=V.out
     simp only[U]at M;exact⟨rfl,_,M⟩
    ·obtain rfl:k=n:=eB;rw[Nat.sub_self]at Z;clear J
     go_in
     go_wp2
     go_region_with(first|(go_at_call 201;refine Z.mono ?_;rintro e w1 ⟨v1,rfl,hf⟩;have V:Hid _:=X.out _ _ _ _ rfl (jl w) hf;obtain⟨S,T,rfl,Y,z5,h⟩:=G.out _ _ _ _ (jl w) hf;rw[Q]at Y))
     all_goals
      clear Z hf Y z5
      go_wp2
      go_ret;have M:=V.out
     simp only[U,Nat.sub_self]at M;exact⟨rfl,_,M⟩
