import Derived.Test.YtieklnlbljejdaaGreatDoorW06
open Go.Value renaming int → ι, slice → σ, pointer → π, tuple → τ, nilIface → η
open Go.IntKind renaming i64 → κ
open Go.Ending renaming returned → ρ
open Go.Obj renaming cells → γ
open Option renaming none → ν, some → μ
open Go renaming Value → dZ, World → dY, Addr → dX, Calls → eZ
open Go.Proofs.Tryz renaming prog → e7, underlying184 → gE
open Go.IntKind renaming i64 → fJ
open List renaming range → gg, map_cons → eN, setIfInBounds_toArray → gH, set_cons_zero → gJ, set_cons_succ → gK
open Go.Instr renaming findKey → gD, lookup → fq, mapUpdate → fh
open Go.Sem renaming run_bind → fV, run_pure → fW
open Go.Result renaming andThen_ok → eI
open Go.MapKept renaming run_getObj_map → gF
open Go.Value renaming ownBlock → eu, slice → gh
open Prod.mk renaming injEq → fe
open Go.Act renaming put → gG
open Go.Region renaming wanted → eP
open Go.World renaming frozen? → gL
set_option maxRecDepth 100000
set_option maxHeartbeats 8000000
namespace Go.Proofs.YtieklnlbljejdaaGreatDoor
open Go.RowKit St
namespace Rt
variable {C args:Array Value} {E:List (Int×Int×Int)} {N d g i j k m n:Nat} {W a b c w w' x:World} {es:List jH} {f:FuncId} {o:Obj} {ov:Nat->Value} {p q:Addr} {r r' r0:iO} {seq:Int} {t:TypeId} {u v:Value} {α:Type}
theorem sC {k:Int} (h: -1000000<=k/\k<=1000000):sJ k:=⟨eh,eh⟩
theorem PI(K:Int->Option PS)(i:Int):C5 K i=mY K i:=by
 unfold C5 mY;cases K i<;>rfl
theorem PJ(K:Int->Option PS)(i:Int):Bc K i=qD K i:=by
 unfold Bc qD;cases K i<;>rfl
theorem mN(h:w.cell? p=μ v):(w.alloc o).cell? p=μ v:=by
 rw[World.cell?_alloc_lt]
 ·exact h
 ·exact ag w _ h
theorem oG(h:w.cell? p=μ u/\w.cell? q=μ v):(w.alloc o).cell? p=μ u/\(w.alloc o).cell? q=μ v:=⟨mN h.1,mN h.2⟩
theorem EM {x:dZ} (h:w.cell? p=μ v)(Z:p.block≠N):(w.setCell ⟨N,j,ν⟩ x).cell? p=μ v:=by
 rw[aj (w:=w) (ak _ _ _ _ Z)];exact h
theorem xF {a b c:dZ} (h:w.cell? p=μ v)(Z:p.block≠N):(((w.setCell ⟨N,0,ν⟩ a).setCell ⟨N,1,ν⟩ b).setCell ⟨N,2,ν⟩ c).cell? p=μ v:=EM (EM (EM h Z) Z) Z
theorem ve {a b c:dZ} (h:w.cell? p=μ u/\w.cell? q=μ v)(Z:p.block≠N)(Y:q.block≠N):(((w.setCell ⟨N,0,ν⟩ a).setCell ⟨N,1,ν⟩ b).setCell ⟨N,2,ν⟩ c).cell? p=μ u/\(((w.setCell ⟨N,0,ν⟩ a).setCell ⟨N,1,ν⟩ b).setCell ⟨N,2,ν⟩ c).cell? q=μ v:=⟨xF h.1 Z,xF h.2 Y⟩
theorem Jt {a b c:dZ} (hC:iZ x N C t)(V:C.size=3)(Z:w.heap.size<=N)(hb:eE w x):
 (((x.setCell ⟨N,0,ν⟩ a).setCell ⟨N,1,ν⟩ b).setCell ⟨N,2,ν⟩ c).cell? ⟨N,1,ν⟩=μ b/\(((x.setCell ⟨N,0,ν⟩ a).setCell ⟨N,1,ν⟩ b).setCell ⟨N,2,ν⟩ c).cell? ⟨N,2,ν⟩=μ c/\eE w (((x.setCell ⟨N,0,ν⟩ a).setCell ⟨N,1,ν⟩ b).setCell ⟨N,2,ν⟩ c)/\∀j,j≠N->(((x.setCell ⟨N,0,ν⟩ a).setCell ⟨N,1,ν⟩ b).setCell ⟨N,2,ν⟩ c).heap[j]? =x.heap[j]? :=by
 have X:=((hC.set 0 a).set 1 b).set 2 c;refine⟨?_,?_,((hb.setCell (p:=⟨N,0,ν⟩) Z a).setCell (p:=⟨N,1,ν⟩) Z b).setCell (p:=⟨N,2,ν⟩) Z c,λj Y=> ?_⟩
 ·rw[X.cell 1];simp[V]
 ·rw[X.cell 2];simp[V]
 ·rw[ak _ _ _ _ Y,ak _ _ _ _ Y,ak _ _ _ _ Y]
theorem jg.not_zero {x':dY} {a:Option dX} (h:jg x a n es)(S:iZ x N #[ι κ 0,ι κ 0,σ ν 0 0] t)(Q:∀e∈es,1<=e.1)(U:∀j,j≠N->x'.heap[j]? =x.heap[j]?):jg x' a n es:=by
 refine⟨h.1,?_⟩;rcases h.2 with Y|⟨b,off,rfl,Y⟩
 ·exact .inl Y
 ·by_cases T:n=0
  ·exact .inl T
  ·have hl:0<es.length:=by have:=h.1;omega
   have X:b≠N:=by
    intro e;subst e;have Z:=(Y 0 hl).1;rw[S.cell]at Z;have h4:=Q es[0] (aF hl);have:off+0*2=0 \/off+0*2=1 \/off+0*2=2 \/3<=off+0*2:=eh;rcases this with e|e|e|e
    ·rw[e]at Z;simp at Z;omega
    ·rw[e]at Z;simp at Z;omega
    ·rw[e]at Z;simp at Z
    ·rw[a9 (by simpa using e)]at Z;cases Z
   exact .inr ⟨b,off,rfl,λj V=>⟨(aj (a:=⟨b,_,ν⟩) (U b X)).trans (Y j V).1,(aj (a:=⟨b,_,ν⟩) (U b X)).trans (Y j V).2⟩⟩
theorem jb(w:dY):eE w w.drew:=jG (au _ _)
theorem EN(z:Zt)(r:iO)(seq:Int)(w:dY)(h:mC w z r)(J:lD r)(hs:0<=seq/\seq<=1000000):
 eZ e7 180 #[π (μ ⟨z.R,0,ν⟩),ι κ seq] w λe w'=>e=ρ (τ #[])/\iG w w' z (r.behind seq) r.n:=by
 by_cases kD:seq<1000000
 ·have Q:Hid (r.behind seq=r.EA (seq+1) (jz r)):=by
   show _=_;unfold iO.behind;rw[ai kD]
  have X:=h.below (jb w);have he:=EH z r w.drew X;have V:∀(w1:dY) (a:Option dX) (cap:Nat),Made w.drew w1 (σ a (jz r).length cap) (jz r)->kN a cap->eZ e7 67 #[π (μ ⟨z.Bb,0,ν⟩),.agg #[ι κ r.id,ι κ (seq+1),σ a (jz r).length cap]] w1 λe w'=>e=ρ η/\iG w w' z (r.behind seq) r.n/\(w'.cell? ⟨z.R,0,ν⟩=μ (ι κ r.id)/\w'.cell? ⟨z.R,2,ν⟩=μ (π (μ ⟨z.Bb,0,ν⟩))):=by
   intro w1 a cap Z S;have Y:=X.below Z.below;refine(Li z.Bb z.fm 6 r.K r.O r.id (seq+1) a (jz r).length cap (jz r) w1 Y.bs (sC (by have:=J.id;omega)) Z.opts.2 S eh (zN J eh)).mono ?_;rintro e w2 ⟨rfl,hB,H⟩;refine⟨rfl,?_,jF.cell H Y.bs Y.c0,jF.cell H Y.bs Y.c2⟩;rw[Q.out];exact iG.first h rfl (gu (jb w) Z.below) (λ_=>Y.base hB H)
  have U:eZ e7 179 #[π (μ ⟨z.R,0,ν⟩)] w.drew λe w'=>∃a cap,e=ρ (σ a (jz r).length cap)/\Made w.drew w' (σ a (jz r).length cap) (jz r)/\kN a cap/\(w'.cell? ⟨z.R,0,ν⟩=μ (ι κ r.id)/\w'.cell? ⟨z.R,2,ν⟩=μ (π (μ ⟨z.Bb,0,ν⟩))):=by
   refine he.mono ?_;rintro e w1 ⟨v,rfl,Z⟩;obtain⟨a,cap,rfl,S,hle⟩:=Z.shape;have Y:=X.below Z.below;exact⟨a,cap,rfl,Z,S,Y.c0,Y.c2⟩
  have c0:=X.c0;have c2:=X.c2;have cl:=X.lt;have hs0:=hs.1;obtain⟨n,hn⟩:∃n:dY->Prop,(λx=>iG w x z (r.behind seq) r.n)=n:=⟨_,rfl⟩
  have T:∀x,iG w x z (r.behind seq) r.n=n x:=λx=>ch hn x;simp only[T]at V⊢;generalize jz r=es at V U;generalize z.R=M at V U c0 c2 cl⊢;generalize z.Bb=Bb at V U c2;generalize r.id=id at V U c0;clear h J X hs he Q hn T;have UW:fJ.wrap (seq+1)=seq+1:=aQ _ ⟨eh,eh⟩;have G:w.drew.cell? ⟨M,0,ν⟩=μ (ι κ id)/\w.drew.cell? ⟨M,2,ν⟩=μ (π (μ ⟨Bb,0,ν⟩)):=⟨c0,c2⟩
  go_in
  go_wp2
  go_region_held3(λx=>x.cell? ⟨M,0,ν⟩=μ (ι κ id)/\x.cell? ⟨M,2,ν⟩=μ (π (μ ⟨Bb,0,ν⟩)))
   (first|assumption|exact G|exact D|exact A)
   (first
    |(go_at_call 179;refine U.mono ?_;rintro e w1 ⟨a,cap,rfl,Z,S,D⟩;have HM:Hid _:=Z;clear Z)
    |(go_at_call 67;refine(V _ _ _ HM.out S).mono ?_;rintro e w2 ⟨rfl,ny,A⟩))
  all_goals
   clear V G D A
   go_wp2
   first|go_end0|refine iM rfl rfl ?_
   exact⟨rfl,ny⟩
 ·have Q:Hid (r.behind seq=r):=by
   show _=_;unfold iO.behind;rw[af kD]
  have HR:Hid _:=h;clear h J hs
  go_in
  go_wp2
  first|go_end0|refine iM rfl rfl ?_
  exact⟨rfl,by rw[Q.out];exact iG.refl HR.out⟩
theorem N2(z:Zt)(r:iO)(w:dY)(h:mC w z r)(G:lD r):
 eZ e7 125 #[π (μ ⟨z.R,0,ν⟩)] w λe w'=>e=ρ (τ #[])/\iG w w' z r.change r.n:=by
 have Lr:=sC (k:=r.id) (by have:=G.id;omega);have T:∀W,eE w W->eZ e7 177 #[π (μ ⟨z.Bb,0,ν⟩),ι κ r.id] W λe w'=>∃a cap,e=ρ (τ #[.agg #[ι κ (ya r.K r.id),ι κ (qD r.K r.id),σ a (mY r.K r.id).length cap],.bool (r.K r.id).isSome])/\jg w' a (mY r.K r.id).length (mY r.K r.id)/\eE W w'/\(w'.cell? ⟨z.R,0,ν⟩=μ (ι κ r.id)/\w'.cell? ⟨z.R,2,ν⟩=μ (π (μ ⟨z.Bb,0,ν⟩))):=by
  intro W V;refine(Lj z.Bb z.fm 6 r.K r.O r.id W (h.below V).bs Lr).mono ?_;rintro e w1 ⟨a,cap,rfl,A,_,_,b1⟩;have R1:=h.below (gu V b1);exact⟨a,cap,rfl,A,b1,R1.c0,R1.c2⟩
 have h6:(mY r.K r.id).length<=6:=by
  obtain⟨q,hq,kj⟩:=G.own;have:=(jw kj).2.2.1;unfold mY;rw[hq];exact this
 have Vs:Hid (∀e∈mY r.K r.id,1<=e.1):=by
  obtain⟨q,hq,kj⟩:=G.own;have:=qb r.id q.2 0 (jw kj).2.2.2;unfold mY;rw[hq];exact λe D=>(this e D).1.1
 have h6e:(jz r).length<=6:=by
  have:=(sg G 6 0 0 eh eh).2;rw[<-Ci]at this;omega
 have D:∀W,eE w W->eZ e7 179 #[π (μ ⟨z.R,0,ν⟩)] W λe w'=>∃a cap,e=ρ (σ a (jz r).length cap)/\jg w' a (jz r).length (jz r)/\eE W w':=by
  intro W V;refine(EH z r W (h.below V)).mono ?_;rintro e w1 ⟨v,rfl,hM⟩;obtain⟨a,cap,rfl,_,_⟩:=hM.shape;exact⟨a,cap,rfl,hM.opts.2,hM.below⟩
 have ku:Hid (mY r.K r.id=jz r->∀W,eE w W->iG w W z r.change r.n):=by
  intro H W V;have HC:r.change=r:=by
   unfold iO.change;rw[ai ((PI _ _).trans H)]
  rw[HC];exact iG.still h V
 have Y:Hid (mY r.K r.id≠jz r->∀W,eE w W->eZ e7 180 #[π (μ ⟨z.R,0,ν⟩),ι κ (qD r.K r.id)] W λe w'=>e=ρ (τ #[])/\iG w w' z r.change r.n):=by
  intro H W V;have HC:r.change=r.behind (qD r.K r.id):=by
   unfold iO.change;rw[af (λe=>H ((PI _ _).symm.trans e)),PJ]
  have hsq:=G.seq;rw[PJ]at hsq;refine(EN z r (qD r.K r.id) W (h.below V) G eh).mono ?_;rintro e w5 ⟨rfl,MJ⟩;refine⟨rfl,?_⟩;rw[HC];exact iG.first h rfl V (λ_=>MJ)
 have R0:=h.below (jb w);have X:=And.intro R0.c0 R0.c2;have cl:=R0.lt;obtain⟨n,hn⟩:∃n:dY->Prop,(λx=>iG w x z r.change r.n)=n:=⟨_,rfl⟩
 have hn':∀x,iG w x z r.change r.n=n x:=λx=>ch hn x;simp only[hn']at ku Y⊢;generalize jz r=ed at D ku Y h6e;generalize mY r.K r.id=es at T ku Y h6 Vs;generalize qD r.K r.id=sq at T Y;generalize ya r.K r.id=ow at T;generalize (r.K r.id).isSome=ok at T;generalize z.R=J at T D Y X cl⊢;generalize z.Bb=Bb at T X;generalize r.id=id at T X;clear h G R0 hn hn' Lr
 go_in
 go_wp2
 go_cut [2] (λv wx=>∃(Z:Nat) (a:Option dX) (cap:Nat),v=π (μ ⟨Z,0,ν⟩)/\wx.cell? ⟨Z,1,ν⟩=μ (ι κ sq)/\wx.cell? ⟨Z,2,ν⟩=μ (σ a es.length cap)/\jg wx a es.length es/\eE w wx)
 case first=>
  obtain⟨c0,c2⟩:=X;have X:w.drew.cell? ⟨J,0,ν⟩=μ (ι κ id)/\w.drew.cell? ⟨J,2,ν⟩=μ (π (μ ⟨Bb,0,ν⟩)):=⟨c0,c2⟩
  have ba:=jG (gY w (γ #[ι κ 0,ι κ 0,σ ν 0 0] 40));have ye:iZ (w.alloc (γ #[ι κ 0,ι κ 0,σ ν 0 0] 40)).drew w.heap.size #[ι κ 0,ι κ 0,σ ν 0 0] 40:=(iZ.new w _ _).drew;have jx:J≠w.heap.size:=by have h2:J<w.heap.size:=cl;omega
  go_region_held3(λx=>x.cell? ⟨J,0,ν⟩=μ (ι κ id)/\x.cell? ⟨J,2,ν⟩=μ (π (μ ⟨Bb,0,ν⟩)))
   (first|assumption|exact X|exact S|exact oG S|exact oG X|exact ve S jx jx)
   (first
    |(go_at_call 177;refine(T _ (by first|exact jb w|exact ba)).mono ?_;rintro e w1 ⟨a,cap,rfl,A,b1,S⟩;first|(have M:=ye.below b1;have y0:=M.cell 0;have y1:=M.cell 1;have y2:=M.cell 2;have z0:=M.frozen 0;have z1:=M.frozen 1;have z2:=M.frozen 2)|skip))
  all_goals
   go_wp2_with(fail)
   go_meet
   first
    |exact⟨_,a,cap,rfl,aq w1 _ _ (0,0) 1,aq w1 _ _ (0,0) 2,A.below (gY _ _),gu (gu (jb w) b1) (gY _ _)⟩
    |(have h5:=Jt (a:=.int .i64 ow) (b:=.int .i64 sq) (c:=.slice a es.length cap) M rfl (Nat.le_refl _) (gu ba b1)
      exact⟨_,a,cap,rfl,h5.1,h5.2.1,jg.not_zero A M Vs.out h5.2.2.2,h5.2.2.1⟩)
 case rest=>
  obtain⟨Z,a,cap,rfl,d1,d2,A,qL⟩:=hcut;have bd:=gu qL (jb wc);have X:wc.drew.cell? ⟨Z,1,ν⟩=μ (ι κ sq)/\wc.drew.cell? ⟨Z,2,ν⟩=μ (σ a es.length cap):=⟨d1,d2⟩
  have zl:Z<wc.drew.heap.size:=ag wc.drew _ X.1;have YS:eZ e7 179 #[π (μ ⟨J,0,ν⟩)] wc.drew λe w'=>∃U Q,e=ρ (σ U ed.length Q)/\jg w' U ed.length ed/\jg w' a es.length es/\eE w w'/\(w'.cell? ⟨Z,1,ν⟩=μ (ι κ sq)/\w'.cell? ⟨Z,2,ν⟩=μ (σ a es.length cap)):=by
   refine(D _ bd).mono ?_;rintro e w3 ⟨U,Q,rfl,zH,b3⟩;exact⟨U,Q,rfl,zH,(A.below (jb wc)).below b3,gu bd b3,(aj (a:=⟨Z,1,ν⟩) (b3.block Z zl)).trans X.1,(aj (a:=⟨Z,2,ν⟩) (b3.block Z zl)).trans X.2⟩
  obtain⟨bb,Jr⟩:=gq (decide (es=ed));have heq:∀(W:dY) (U:Option dX) (Q:Nat),jg W U ed.length ed->jg W a es.length es->eZ e7 178 #[σ a es.length cap,σ U ed.length Q] W λe w'=>e=ρ (.bool bb)/\∃k,w'=W.drewN k:=by
   intro W U Q h1 h2;rw[<-Jr];exact A8 a U cap Q _ _ es ed W h2 h1 eh eh
  clear D T d1 d2
  go_wp2
  go_region_held3(λx=>x.cell? ⟨Z,1,ν⟩=μ (ι κ sq)/\x.cell? ⟨Z,2,ν⟩=μ (σ a es.length cap))
   (first|assumption|exact X|exact S|exact F2)
   (first
    |(go_at_call 179;refine YS.mono ?_;rintro e w3 ⟨U,Q,rfl,zH,YD,b3,S⟩)
    |(go_at_call 178;refine(heq _ _ _ zH YD).mono ?_;rintro e w4 ⟨rfl,kk,rfl⟩;have F2:(w3.drewN kk).cell? ⟨Z,1,none⟩=some (.int .i64 sq)/\(w3.drewN kk).cell? ⟨Z,2,none⟩=some (.slice a es.length cap):=S))
  all_goals
   have b4:=below_drewN b3 kk;cases bb
   ·have H:es≠ed:=by simpa using Jr
    have YT:=Y.out H _ b4;have f1:=F2.1;have fl:Z<(w3.drewN kk).heap.size:=ag (w3.drewN kk) _ f1;clear Y ku heq YS X S F2 zH YD;go_wp2_with(fail);refine YT.mono ?_;rintro e w5 ⟨rfl,V⟩;clear YT
    go_wp2
    first|go_end0|refine iM rfl rfl ?_
    exact⟨rfl,V⟩
   ·have H:es=ed:=by simpa using Jr
    have V:=ku.out H _ b4;clear Y ku heq YS X S F2 zH YD
    go_wp2
    first|go_end0|refine iM rfl rfl ?_
    exact⟨rfl,V⟩
theorem iG.qP {z z':Zt} (h:iG a b z r n)(_hR:mC b z' r)(hl:z.like z')(S:∀k,z'.mine n k->z.mine n k \/a.heap.size<=k)(G:∀k,z.fm.no k->z'.fm.no k)(k:iG b c z' r' n):iG a c z r' n:=by
 have Z:=h.kept;obtain⟨⟨D,M,J,Q,H⟩,Y⟩:=k;refine⟨⟨D,M,Zt.ED hl J,λx hx=> ?_,λx hx=>H x (G x hx)⟩,⟨Y.os.trans Z.os,Y.tape.trans Z.tape,Y.output.trans Z.output,Nat.le_trans Z.size Y.size,λx hx V U T=>(Y.block x (Nat.lt_of_lt_of_le hx Z.size) (λe=> ?_) (by rw[hl.bm];exact U) (by rw[hl.bs];exact T)).trans (Z.block x hx V U T)⟩⟩
 ·rcases Q x hx with e|e
  ·exact S x e
  ·exact .inr (Nat.le_trans Z.size e)
 ·rcases S x e with X|X
  ·exact V X
  ·omega
section
variable {w w':World} {z:Zt} {r:iO} {n:Nat}
theorem iG.c0(h:iG w w' z r n):w'.cell? ⟨z.R,0,ν⟩=μ (ι κ r.id):=by
 obtain⟨⟨z',Z,hl,_⟩,_⟩:=h;have:=Z.c0
 rwa [hl.R]at this
theorem iG.c1(h:iG w w' z r n):w'.cell? ⟨z.R,1,ν⟩=μ (σ (μ ⟨z.g,0,ν⟩) r.n z.cap):=by
 obtain⟨⟨z',Z,hl,_⟩,_⟩:=h;have:=Z.c1
 rwa [hl.R,hl.g,hl.cap]at this
theorem iG.c2(h:iG w w' z r n):w'.cell? ⟨z.R,2,ν⟩=μ (π (μ ⟨z.Bb,0,ν⟩)):=by
 obtain⟨⟨z',Z,hl,_⟩,_⟩:=h;have:=Z.c2
 rwa [hl.R,hl.Bb]at this
theorem iG.lt(h:iG w w' z r n):z.R<w'.heap.size:=ag _ _ h.c0
theorem iG.pt(h:iG w w' z r n) {i:Nat} (hi:i<r.n):∃v,qE w' z.g (i*71) (z.B i) v (r.P i):=by
 obtain⟨⟨z',Z,hl,_⟩,_⟩:=h;have:=Z.pt i hi;rw[hl.g,hl.B]at this;exact⟨_,this⟩
theorem iG.Kd(h:iG w w' z r n):z.g<w'.heap.size:=by
 obtain⟨⟨z',Z,hl,_⟩,_⟩:=h;have:=Z.Kd
 rwa [hl.g]at this
theorem iG.keep(h:iG w w' z r n)(Z:mC w z r0)(Y:¬z.mine n k) {fr:Nat×Nat} (hc:w.heap[k]? =μ (Obj.cells C t fr)):w'.heap[k]? =w.heap[k]? :=
 h.kept.block k (ax.1 hc).1 Y (yb hc (Z.bs.maps _ (.inl rfl))) (λe=>yb hc (Z.bs.maps _ (.inr e)) rfl)
theorem iG.cell {r0:iO} (h:iG w w' z r n)(Z:mC w z r0) {p:dX} {v:dZ} (Y:¬z.mine n p.block)(hc:w.cell? p=μ v):w'.cell? p=μ v:=by
 rw[aj (w:=w) (h.kept.block p.block (ag w _ hc) Y (qo hc (Z.bs.maps _ (.inl rfl))) (λe=>qo hc (Z.bs.maps _ (.inr e)) rfl))];exact hc
theorem mC.uD {z:Zt} (h:mC w z r)(hk:w.heap.size<=k):¬z.mine r.n k:=λe=>by have:=h.Bg k e;omega
end
structure oH(w w':dY)(z:Zt)(r:iO)(n N:Nat)(C:Array dZ)(t:TypeId):Prop where
 went:iG w w' z r n
 oh:iZ w' N C t
 nn:r.n=n
 lt:N<w.heap.size
 no:¬z.mine n N
theorem oH.with {w a b:dY} {z z':Zt} {r r':iO} {n N:Nat} {C:Array dZ} {t:TypeId} (h:oH w a z r n N C t)(V:r'.n=n)(Y:mC a z' r)(hl:z.like z')(X:∀k,z'.mine n k->z.mine n k \/w.heap.size<=k)(U:∀k,z.fm.no k->z'.fm.no k)(k:iG a b z' r' n):oH w b z r' n N C t:=by
 refine⟨h.went.qP Y hl X U k,?_,V,h.lt,h.no⟩;refine h.oh.keep (k.keep Y (λe=> ?_) h.oh);rcases X N e with Z|Z
 ·exact h.no Z
 ·have:=h.lt;omega
theorem iG.call {z:Zt} {E:Ending->Prop} (h:iG w W z r n)(k:∀Z,mC W Z r->z.like Z->eZ e7 f args W λe w'=>E e/\iG W w' Z r' n):eZ e7 f args W λe w'=>E e/\iG w w' z r' n:=by
 obtain⟨Z,Y,hl,V,T⟩:=h.ex;refine(k Z Y hl).mono ?_;rintro e w' ⟨X,U⟩;exact⟨X,h.qP Y hl V T U⟩
theorem oH.call {z:Zt} {E:Ending->Prop} (h:oH w W z r n N C t)(U:r'.n=n)(k:∀Z,mC W Z r->z.like Z->eZ e7 f args W λe w'=>E e/\iG W w' Z r' n):eZ e7 f args W λe w'=>E e/\oH w w' z r' n N C t:=by
 obtain⟨Z,Y,hl,V,S⟩:=h.went.ex;refine(k Z Y hl).mono ?_;rintro e w' ⟨X,T⟩;exact⟨X,h.with U Y hl V S T⟩
theorem Vt(z:Zt)(r:iO)(i:Nat)(w:dY)(h:mC w z r)(hi:i<r.n):
 eZ e7 124 #[π (μ ⟨z.Bb,0,ν⟩),ι κ (i:Int)] w λe w'=>e=ρ (τ #[])/\iG w w' z {r with O:=λx=>if x=i then λ_=>ν else r.O x} r.n:=by
 refine(Rq z.Bb z.fm 6 r.K r.O i w h.bs (by rw[h.bl];exact hi)).mono ?_;rintro e w1 ⟨rfl,Z,Y⟩;exact⟨rfl,h.base Z Y⟩
theorem RF(z:Zt)(r:iO)(i:Nat)(w:dY)(h:mC w z r)(hi:i<r.n):
 eZ e7 126 #[π (μ ⟨z.Bb,0,ν⟩),ι κ (i:Int)] w λe w'=>e=ρ η/\iG w w' z {r with O:=λx=>if x=i then qC (r.O i) r.K else r.O x} r.n:=by
 refine(Rr z.Bb z.fm 6 r.K r.O i w h.bs (by rw[h.bl];exact hi) eh).mono ?_;rintro e w1 ⟨rfl,Z,Y⟩;exact⟨rfl,h.base Z Y⟩
def jW {α:Type} (f:Nat->α)(i:Nat)(x:α):Nat->α:=λj=>if j=i then x else f j
theorem iF(f:Nat->α)(i:Nat)(x:α):jW f i x i=x:=by simp[jW]
theorem iE(f:Nat->α)(x:α)(h:j≠i):jW f i x j=f j:=by simp[jW,h]
theorem wG(f:Nat->α)(i:Nat):jW f i (f i)=f:=by
 funext j
 by_cases e:j=i
 ·subst e;exact iF _ _ _
 ·exact iE _ _ e
structure qF where
 e:Nat->Nat×Nat
 iT:Bool
 on:Nat->List UInt8
structure iP where
 n:Nat
 R:Nat->iO
 kd:Nat->List zi
 ms:Nat->Nat->Int
 nc:Nat
 C:Nat->qF
def iP.jA(y:iP)(i:Nat)(r:iO):iP:={y with R:=jW y.R i r}
def iP.lz(y:iP)(i:Nat)(c:qF):iP:={y with C:=jW y.C i c}
def qF.put(c:qF)(d:Nat)(s:List UInt8):qF:=if c.iT=true/\(c.on d).length+s.length<=2000 then {c with on:=jW c.on d (c.on d++s)}else c
def iP.kU(y:iP)(i d:Nat):iP:=
 (y.jA ((y.C i).e d).1 ((y.R ((y.C i).e d).1).out ((y.C i).e d).2)).lz i ((y.C i).put d ((y.R ((y.C i).e d).1).P ((y.C i).e d).2).out)
def iP.j2(y:iP):Nat->iP
 |0=>y
 |k+1=>((y.j2 k).kU k 0).kU k 1
def iP.tM(y:iP)(k:Nat):iP:={y with kd:=jW y.kd k (y.kd k++(y.R k).kd),R:=jW y.R k {y.R k with kd:=[] }}
def iP.lO(y:iP):Nat->iP
 |0=>y
 |k+1=>(y.lO k).tM k
def iP.gather(y:iP):iP:=(y.j2 y.nc).lO y.n
def iP.lI(y:iP)(i d:Nat)(up:Bool):iP:=y.jA ((y.C i).e d).1 ((y.R ((y.C i).e d).1).iL ((y.C i).e d).2 up).1
def iP.jZ(y:iP)(i:Nat)(up:Bool):iP:=((y.lz i {y.C i with iT:=up,on:=λ_=>[] }).lI i 0 up).lI i 1 up
def iP.iL(y:iP)(i:Int)(up:Bool):iP×Nat:=
 if i<0 \/(y.nc:Int)<=i then(y,6)else if(y.C i.toNat).iT=up then(y,7)else((y.jZ i.toNat up).gather,0)
def iP.tick(y:iP)(i:Int):iP×Nat:=
 if i<1 \/(y.n:Int)<i then(y,6)else((y.jA (i-1).toNat (y.R (i-1).toNat).tick).gather,0)
def iP.jt(y:iP)(i d k:Nat):iP:=
 (y.lz i {y.C i with on:=jW (y.C i).on d (((y.C i).on d).drop k)}).jA ((y.C i).e (1-d)).1 ((y.R ((y.C i).e (1-d)).1).recv ((y.C i).e (1-d)).2 (((y.C i).on d).take k))
def iP.deliver(y:iP)(i d many:Int):iP×Nat:=
 if i<0 \/(y.nc:Int)<=i \/d<0 \/2<=d then(y,6)else((y.jt i.toNat d.toNat (min many.toNat ((y.C i.toNat).on d.toNat).length)).gather,0)
def iP.lA(y:iP)(k:Nat):List Nat:=(gg y.nc).filter λc=>(y.C c).iT&& (((y.C c).e 0).1==k||((y.C c).e 1).1==k)
def iP.jD(y:iP)(up:Bool):List Nat->iP
 |[] =>y
 |c::l=>(y.jZ c up).jD up l
def iP.restart(y:iP)(i:Int):iP×Nat:=
 if i<1 \/(y.n:Int)<i then(y,6)else
  ((((y.jD false (y.lA (i-1).toNat)).jA (i-1).toNat (jO i 3 (y.ms (i-1).toNat))).jD true (y.lA (i-1).toNat)).gather,0)
def iP.send(y:iP)(f t:Int)(tx:List UInt8):iP×Nat:=
 if f<1 \/(y.n:Int)<f then(y,6)
 else if(kg (y.R (f-1).toNat) t tx).2≠0 then(y,(kg (y.R (f-1).toNat) t tx).2)
 else((y.jA (f-1).toNat (kg (y.R (f-1).toNat) t tx).1).gather,0)
def iP.jc(y:iP):Nat->iP
 |0=>y
 |k+1=>((y.jc k).tick ((k:Int)+1)).1
def iP.jQ(y:iP):Nat->iP
 |0=>y
 |k+1=>(((y.jQ k).deliver (k:Int) 0 2000).1.deliver (k:Int) 1 2000).1
def iP.turns(y:iP):Nat->iP
 |0=>y
 |k+1=>(y.turns k).jQ y.nc
def iP.round(y:iP):iP:=(y.jc y.n).turns 12
structure oQ where
 a:Int
 pa:Int
 b:Int
 pb:Int
 m:Int
def kS:List (Int×Int×Int)->Int->Int->Option Int
 |[],_,_=>none
 |x::l,r,p=>if x.1=r/\x.2.1=p then some x.2.2 else kS l r p
def kx(l:List oQ):List (Int×Int×Int):=l.flatMap λc=>[(c.a,c.pa,c.m),(c.b,c.pb,c.m)]
def pz(l:List oQ)(i p:Nat):Int:=(kS (kx l) ((i:Int)+1) (p:Int)).getD 1
def oY(many r p:Int):Bool:=decide (1<=r)&&decide (r<=many)&&decide (0<=p)&&decide (p<3)
def yN(many:Int):List oQ->List (Int×Int×Int)->Nat
 |[],_=>0
 |c::l,E=>
  if c.m<1 \/20<c.m then 1
  else if oY many c.a c.pa=false then 1
  else if(kS E c.a c.pa).isSome=true then 8
  else if oY many c.b c.pb=false then 1
  else if(kS (E++ [(c.a,c.pa,c.m)]) c.b c.pb).isSome=true then 8
  else yN many l (E++ [(c.a,c.pa,c.m),(c.b,c.pb,c.m)])
def nP(many:Int)(l:List oQ):Nat:=if many<1 \/6<many then 1 else if 9<l.length then 2 else yN many l []
def oQ.at(c:oQ)(d:Nat):Nat×Nat:=if d=0 then((c.a-1).toNat,c.pa.toNat)else((c.b-1).toNat,c.pb.toNat)
def mO(l:List oQ)(k:Nat):qF:=⟨(l.getD k ⟨1,0,1,0,1⟩).at,false,λ_=>[]⟩
def jS(many:Nat)(l:List oQ):iP:=⟨many,λi=>jO ((i:Int)+1) 3 (pz l i),λ_=>[],pz l,l.length,mO l⟩
def Zt.plus(z:Zt)(X:Nat->Prop):Zt:={z with fm:={z.fm with no:=λk=>z.fm.no k \/X k}}
theorem mC.besides {z:Zt} (h:mC w z r)(hs:w.heap.size<=w'.heap.size)(S:∀k,k<w.heap.size->(¬z.fm.no k \/z.mine r.n k)->w'.heap[k]? =w.heap[k]?)
 (X:Nat->Prop) (Y:∀k,X k->w.heap.size<=k/\k<w'.heap.size):mC w' (z.plus X) r:=by
 have U:∀k,z.mine r.n k->w'.heap[k]? =w.heap[k]? :=λk e=>S k (h.Bg k e) (.inr e);have Q:=h.bs.still hs (λj V M=>S j V (.inl M)) h.nb.1 h.nb.2.1 h.nb.2.2 (λk=>z.fm.no k \/X k) (λj V=>V.imp_right (λe=>(Y j e).1)) (λj V=>V.elim (λe=>Nat.lt_of_lt_of_le (h.bs.Ro j e) hs) (λe=>(Y j e).2));have acv:z.Bb<w.heap.size:=by obtain⟨_,_,hF,_⟩:=h.bs.ex;exact hF.lt
 have acw:z.fm.g<w.heap.size:=by obtain⟨_,_,hF,_⟩:=h.bs.ex;exact hF.row.lt _ rfl
 refine⟨h.n1,h.n3,h.NT,h.id,h.oh.keep (U _ (.inl rfl)),λi hi=> ?_,h.ib.keep hs (λk e=>U k (.inr (.inr (.inr e)))),Q,h.bl,λk e=>.inl (h.no k e),⟨λe=> ?_,λe=> ?_,λb hb e=> ?_⟩,h.sR,h.sB,h.sV,h.sI,h.Rx⟩
 ·have Z:=h.pt i hi;obtain⟨F,hC,hF⟩:=Z.xC;exact⟨⟨F,hC.keep (U _ (.inr (.inl rfl))),hF⟩,Z.lk.keep (U _ (.inr (.inr (.inl ⟨i,hi,.inl rfl⟩)))),Z.ou.keep hs (λx hx=>U x (.inr (.inr (.inl ⟨i,hi,.inr hx⟩)))),Z.few,Z.ok,Z.gB,Z.vg,Z.vB,Z.nz⟩
 ·rcases e with e|e
  ·exact h.nb.1 e
  ·have T:w.heap.size<=z.Bb:=(Y _ e).1;omega
 ·rcases e with e|e
  ·exact h.nb.2.1 e
  ·have T:w.heap.size<=z.fm.g:=(Y _ e).1;omega
 ·rcases e with e|e
  ·exact h.nb.2.2 b hb e
  ·have h9:=h.bs.mlt b hb;have T:=(Y _ e).1;omega
inductive Lab where
 |N
 |R
 |I
 |C
 |ib (i:Nat)
 |on (c d:Nat)
structure Yt where
 N:Nat
 gR:Nat
 tY:Nat
 gI:Nat
 yO:Nat
 gC:Option Nat
 wH:Nat
 bM:Nat
 z:Nat->Zt
 iv:Nat->dZ
 ov:Nat->Nat->dZ
 ext:Nat->Prop
def Yt.at(y:Yt):Lab->Option Nat
 | .N=>some y.N
 | .R=>some y.gR
 | .I=>some y.gI
 | .C=>y.gC
 | .ib i=>(y.iv i).ownBlock
 | .on c d=>(y.ov c d).ownBlock
def Yt.own(y:Yt)(k:Nat):Prop:=∃l,y.at l=μ k
def Zt.pA(z:Zt)(k:Nat):Prop:=z.mine 3 k \/k=z.fm.bm \/k∈z.fm.bs
def Yt.away(y:Yt)(n i k:Nat):Prop:=y.own k \/y.ext k \/ ∃j,j<n/\j≠i/\(y.z j).pA k
def Yt.all(y:Yt)(n k:Nat):Prop:=y.own k \/ ∃j,j<n/\(y.z j).pA k
def Yt.cv(y:Yt)(nc:Nat):dZ:=match y.gC with|none=>.slice none 0 0|some g=>.slice (some ⟨g,0,none⟩) nc y.wH
def C8(c:qF)(o:Nat->dZ):Nat->dZ:=λj=>
 if j=0 then ι κ (((c.e 0).1:Int)+1)else if j=1 then ι κ ((c.e 0).2:Int)else if j=2 then ι κ (((c.e 1).1:Int)+1)else if j=3 then ι κ ((c.e 1).2:Int)
 else if j=4 then .bool c.iT else if j=5 then o 0 else o 1
def wI(r p:Int):dZ:=.agg #[ι κ r,ι κ p]
def oI(w:dY)(b:Nat)(E:List (Int×Int×Int)):Prop:=∃es clock,w.heap[b]? =μ (.map es clock)/\es.toList.map (λe=>(e.key,e.val))=E.map λx=>(wI x.1 x.2.1,.int .i64 x.2.2)
def Dx(E:List (Int×Int×Int)):Prop:=∀x∈E,(1<=x.1/\x.1<=6/\0<=x.2.1/\x.2.1<=2)/\kS E x.1 x.2.1=μ x.2.2
def Vu(E:List (Int×Int×Int))(n:Nat)(ms:Nat->Nat->Int):Prop:=(∀(i p:Nat),i<n->p<3->(kS E ((i:Int)+1) (p:Int)).getD 1=ms i p/\1<=ms i p/\ms i p<=20)/\Dx E
structure jJ(w:dY)(y:Yt)(n:iP):Prop where
 n1:1<=n.n
 n6:n.n<=6
 c9:n.nc<=9
 oh:iZ w y.N #[σ (μ ⟨y.gR,0,ν⟩) n.n y.tY,σ (μ ⟨y.gI,0,ν⟩) n.n y.yO,.map (μ y.bM),y.cv n.nc] 190
 rr:qz w y.gR 0 n.n (λi=>π (μ ⟨(y.z i).R,0,ν⟩))
 ri:qz w y.gI 0 n.n y.iv
 rc:∀g,y.gC=μ g->∀c,c<n.nc->qz w g (c*7) 7 (C8 (n.C c) (y.ov c))
 gc:∀c,c<n.nc->∃g,y.gC=μ g
 mp:∃E,oI w y.bM E/\Vu E n.n n.ms
 rt:∀i,i<n.n->mC w (y.z i) (n.R i)
 rn:∀i,i<n.n->(n.R i).n=3/\(n.R i).id=(i:Int)+1
 ib:∀i,i<n.n->Row w 3 (y.iv i) (n.kd i).length (rR (n.kd i))
 ob:∀c d,c<n.nc->d<2->Row w 1 (y.ov c d) ((n.C c).on d).length (iR ((n.C c).on d))
 ol:∀c d,c<n.nc->d<2->((n.C c).on d).length<=2000
 en:∀c d,c<n.nc->d<2->((n.C c).e d).1<n.n/\((n.C c).e d).2<3
 inj:∀l l' k,y.at l=μ k->y.at l'=μ k->l=l'
 away:∀i,i<n.n->∀k,y.away n.n i k->(y.z i).fm.no k/\¬(y.z i).mine 3 k
 nx:∀k,y.ext k->¬y.own k
 nM:¬y.own y.bM/\¬y.ext y.bM/\∀i,i<n.n->¬(y.z i).pA y.bM
 z0:¬y.own 0
structure Yt.same(y y':Yt):Prop where
 N:y'.N=y.N
 gR:y'.gR=y.gR
 tY:y'.tY=y.tY
 gI:y'.gI=y.gI
 yO:y'.yO=y.yO
 gC:y'.gC=y.gC
 wH:y'.wH=y.wH
 bM:y'.bM=y.bM
theorem Yt.H6(y:Yt):y.same y:=⟨rfl,rfl,rfl,rfl,rfl,rfl,rfl,rfl⟩
theorem Yt.yP {a b c:Yt} (h:a.same b)(k:b.same c):a.same c:=⟨k.N.trans h.N,k.gR.trans h.gR,k.tY.trans h.tY,k.gI.trans h.gI,k.yO.trans h.yO,k.gC.trans h.gC,k.wH.trans h.wH,k.bM.trans h.bM⟩
structure yf(w w':dY)(y:Yt)(n:Nat):Prop where
 os:w'.os=w.os
 tape:w'.tape=w.tape
 output:w'.output=w.output
 size:w.heap.size<=w'.heap.size
 block:∀k,k<w.heap.size->¬y.all n k->w'.heap[k]? =w.heap[k]?
structure iH(w w':dY)(y:Yt)(n:iP)(m:Nat):Prop where
 ex:∃y',jJ w' y' n/\y.same y'/\(∀k,y'.all m k->y.all m k \/w.heap.size<=k)/\(∀k,y'.ext k↔y.ext k)
 kept:yf w w' y m
theorem jJ.lt {y:Yt} {n:iP} (h:jJ w y n)(Y:y.own k \/y.ext k):k<w.heap.size:=by
 have Z:=(h.away 0 h.n1 k (Y.imp_right .inl)).1;exact(h.rt 0 h.n1).bs.Ro k Z
theorem jJ.H7 {y:Yt} {n:iP} (h:jJ w y n):y.bM<w.heap.size:=by
 obtain⟨E,⟨es,clock,Z,_⟩,_⟩:=h.mp;exact(ax.1 Z).1
theorem jJ.yQ {y:Yt} {n:iP} (h:jJ w y n)(hi:i<n.n)(Y:(y.z i).pA k):k<w.heap.size:=by
 rcases Y with e|e|e
 ·have Z:=(h.rt i hi).Bg k;rw[(h.rn i hi).1]at Z;exact Z e
 ·exact(h.rt i hi).bs.mlt k (.inl e)
 ·exact(h.rt i hi).bs.mlt k (.inr e)
theorem jJ.Lt {y:Yt} {n:iP} (h:jJ w y n)(hi:i<n.n)(X:y.away n.n i k):¬(y.z i).pA k:=by
 obtain⟨Z,Y⟩:=h.away i hi k X;intro e;rcases e with e|e|e
 ·exact Y e
 ·exact(h.rt i hi).nb.2.2 k (.inl e) Z
 ·exact(h.rt i hi).nb.2.2 k (.inr e) Z
theorem jJ.PL {y:Yt} {n:iP} (h:jJ w y n)(hi:i<n.n)(Z:y.own k):¬(y.z i).pA k:=h.Lt hi (.inl Z)
theorem oI.keep {b:Nat} (h:oI w b E)(hb:w'.heap[b]? =w.heap[b]?):oI w' b E:=by
 obtain⟨es,clock,Z,Y⟩:=h;exact⟨es,clock,hb.trans Z,Y⟩
theorem yf.refl(w:dY)(y:Yt)(n:Nat):yf w w y n:=⟨rfl,rfl,rfl,Nat.le_refl _,λ_ _ _=>rfl⟩
theorem iH.refl {w:dY} {y:Yt} {n:iP} (h:jJ w y n):iH w w y n n.n:=⟨⟨y,h,y.H6,λ_ e=>.inl e,λ_=>dW⟩,yf.refl w y n.n⟩
theorem iH.qP {y y':Yt} {n':iP} (h:yf a b y m)(Q:y.same y')(T:∀k,y'.all m k->y.all m k \/a.heap.size<=k)(J:∀k,y'.ext k↔y.ext k)(k:iH b c y' n' m):iH a c y n' m:=by
 obtain⟨⟨H,M,Y,S,X⟩,Z⟩:=k;refine⟨⟨H,M,Yt.yP Q Y,λx hx=> ?_,λx=>(X x).trans (J x)⟩,⟨Z.os.trans h.os,Z.tape.trans h.tape,Z.output.trans h.output,Nat.le_trans h.size Z.size,λx hx U=>(Z.block x (Nat.lt_of_lt_of_le hx h.size) (λe=> ?_)).trans (h.block x hx U)⟩⟩
 ·rcases S x hx with e|e
  ·exact T x e
  ·exact .inr (Nat.le_trans h.size e)
 ·rcases T x e with V|V
  ·exact U V
  ·omega
theorem iH.step {y:Yt} {n n':iP} (h:iH a b y n m)(k:∀y',jJ b y' n->y.same y'->iH b c y' n' m):iH a c y n' m:=by
 obtain⟨⟨y',X,Z,U,V⟩,Y⟩:=h;exact iH.qP Y Z U V (k y' X Z)
theorem iH.call {y:Yt} {n n':iP} {E:Ending->Prop} (h:iH w W y n m)(k:∀Z,jJ W Z n->y.same Z->eZ e7 f args W λe w'=>E e/\iH W w' Z n' m):eZ e7 f args W λe w'=>E e/\iH w w' y n' m:=by
 obtain⟨Z,V,Y,T,U⟩:=h.ex;refine(k Z V Y).mono ?_;rintro e w' ⟨X,S⟩;exact⟨X,iH.qP h.kept Y T U S⟩
theorem jJ.EO {y:Yt} {n:iP} (h:jJ w y n)(hi:i<n.n)(hW:iG w w' (y.z i) r 3)(hr:r.n=3/\r.id=(i:Int)+1):iH w w' y (n.jA i r) n.n:=by
 obtain⟨⟨z',hR,hl,hm,lh⟩,J⟩:=hW;have PN:∀k,z'.pA k->(y.z i).pA k \/w.heap.size<=k:=by
  intro k V;rcases V with e|e|e
  ·exact(hm k e).imp_left .inl
  ·rw[hl.bm]at e;exact .inl (.inr (.inl e))
  ·rw[hl.bs]at e;exact .inl (.inr (.inr e))
 have D:∀k,k<w.heap.size->¬(y.z i).pA k->w'.heap[k]? =w.heap[k]? :=λk V hf=>J.block k V (λe=>hf (.inl e)) (λe=>hf (.inr (.inl e))) (λe=>hf (.inr (.inr e)));have H:∀k,y.own k->w'.heap[k]? =w.heap[k]? :=λk e=>D k (h.lt (.inl e)) (h.PL hi e);obtain⟨X,MH⟩:∃X:Nat->Prop,X=λk=>w.heap.size<=k/\k<w'.heap.size/\z'.mine 3 k:=⟨_,rfl⟩
 have hX:∀k,X k->w.heap.size<=k/\k<w'.heap.size:=λk e=>by rw[MH]at e;exact⟨e.1,e.2.1⟩
 have af1:∀k,z'.mine 3 k->k<w'.heap.size:=λk e=>by
  have:=hR.Bg k;rw[hr.1]at this;exact this e
 obtain⟨Z,hZ⟩:∃Z:Nat->Zt,Z=λj=>if j=i then z' else(y.z j).plus X:=⟨_,rfl⟩
 have S:Z i=z':=by rw[hZ];simp
 have G:∀j,j≠i->Z j=(y.z j).plus X:=λj U=>by rw[hZ];simp[U]
 have hZR:∀j,(Z j).R=(y.z j).R:=λj=>by
  by_cases e:j=i
  ·subst e;rw[S];exact hl.R
  ·rw[G j e];rfl
 have A:∀j k,(Z j).pA k->(y.z j).pA k \/(j=i/\w.heap.size<=k/\z'.mine 3 k):=by
  intro j k V;by_cases e:j=i
  ·subst e;rw[S]at V;rcases V with Y|Y|Y
   ·rcases hm k Y with T|T
    ·exact .inl (.inl T)
    ·exact .inr ⟨rfl,T,Y⟩
   ·rw[hl.bm]at Y;exact .inl (.inr (.inl Y))
   ·rw[hl.bs]at Y;exact .inl (.inr (.inr Y))
  ·rw[G j e]at V;exact .inl V
 refine⟨⟨{y with z:=Z},⟨h.n1,h.n6,h.c9,h.oh.keep (H _ ⟨.N,rfl⟩),?_,h.ri.keep (H _ ⟨.I,rfl⟩),λg hg c hc=>(h.rc g hg c hc).keep (H _ ⟨.C,hg⟩),h.gc,?_,?_,?_,λj U=>(h.ib j U).keep J.size (λk V=>H k ⟨.ib j,V⟩),λc d hc hd=>(h.ob c d hc hd).keep J.size (λk V=>H k ⟨.on c d,V⟩),h.ol,h.en,h.inj,?_,h.nx,⟨h.nM.1,h.nM.2.1,?_⟩,h.z0⟩,⟨rfl,rfl,rfl,rfl,rfl,rfl,rfl,rfl⟩,?_,λ_=>dW⟩,⟨J.os,J.tape,J.output,J.size,λk V hn=>D k V (λe=>hn (.inr ⟨i,hi,e⟩))⟩⟩
 ·refine(h.rr.keep (H _ ⟨.R,rfl⟩)).congr λj _=> ?_;show Value.pointer (μ ⟨(y.z j).R,0,ν⟩)=π (μ ⟨(Z j).R,0,ν⟩);rw[hZR j]
 ·obtain⟨E,h1,h2⟩:=h.mp;exact⟨E,h1.keep (D _ h.H7 (h.nM.2.2 i hi)),h2⟩
 ·intro j U;show mC w' (Z j) (jW n.R i r j);by_cases e:j=i
  ·subst e;rw[S,iF];exact hR
  ·rw[G j e,iE _ _ e];refine(h.rt j U).besides J.size (λk V hc=>D k V (λef=> ?_)) X hX;have Q:=h.away j U k (.inr (.inr ⟨i,hi,λe'=>e e'.symm,ef⟩));rcases hc with hc|hc
   ·exact hc Q.1
   ·rw[(h.rn j U).1]at hc;exact Q.2 hc
 ·intro j U;show(jW n.R i r j).n=3/\(jW n.R i r j).id=(j:Int)+1;by_cases e:j=i
  ·subst e;rw[iF];exact hr
  ·rw[iE _ _ e];exact h.rn j U
 ·intro j U k V;show(Z j).fm.no k/\¬(Z j).mine 3 k;have hold:(y.own k \/y.ext k \/ ∃x,x<n.n/\x≠j/\(y.z x).pA k) \/(j≠i/\w.heap.size<=k/\z'.mine 3 k):=by
   rcases V with e|e|⟨x,hx,jx,e⟩
   ·exact .inl (.inl e)
   ·exact .inl (.inr (.inl e))
   ·rcases A x k e with Y|⟨Y,T,e3⟩
    ·exact .inl (.inr (.inr ⟨x,hx,jx,Y⟩))
    ·exact .inr ⟨λe'=>jx (Y.trans e'.symm),T,e3⟩
  by_cases e:j=i
  ·subst e;rw[S];rcases hold with M|M
   ·have Q:=h.away j U k M;refine⟨lh k Q.1,λY=> ?_⟩;rcases hm k Y with T|T
    ·exact Q.2 T
    ·have:=(h.rt j U).bs.Ro k Q.1;omega
   ·exact absurd rfl M.1
  ·rw[G j e];rcases hold with M|M
   ·have Q:=h.away j U k M;exact⟨.inl Q.1,Q.2⟩
   ·refine⟨.inr ?_,λY=> ?_⟩
    ·rw[MH];exact⟨M.2.1,af1 k M.2.2,M.2.2⟩
    ·have h1:k<w.heap.size:=h.yQ U (.inl Y);omega
 ·intro j U e;rcases A j _ e with Y|⟨_,T,_⟩
  ·exact h.nM.2.2 j U Y
  ·have:=h.H7;have e2':w.heap.size<=y.bM:=T;omega
 ·intro k V;rcases V with e|⟨j,U,e⟩
  ·exact .inl (.inl e)
  ·rcases A j k e with Y|⟨_,T,_⟩
   ·exact .inl (.inr ⟨j,U,Y⟩)
   ·exact .inr T
open Go.ChangeMaps Go.MapKept
theorem Lu:laidOutB e7=true:=gX
theorem acC:192<e7.types.size:=of_decide_eq_true gX
theorem YV:(match e7.underlying 192 with|some (.array _ _)|some (.struct _)=>true|_=>false)=true:=gX
theorem N4:Maps.Keyed e7 192:=Maps.Keyed.of_law (deep_law_laid Lu (m:=3) eh acC gX YV)
theorem YW:((gg 7).all λi=>(gg 4).all λj=>(keyOf e7 192 (wI (i:Int) (j:Int))).isSome)=true:=gX
theorem Ju {a b:Int} (h:1<=a/\a<=6/\0<=b/\b<=2):∃l,keyOf e7 192 (wI a b)=μ l:=by
 have Z:=aZ.1 (aZ.1 YW a.toNat (aP.2 eh)) b.toNat (aP.2 eh);have Y:((a.toNat:Nat):Int)=a:=eh;have X:((b.toNat:Nat):Int)=b:=eh;rw[Y,X]at Z;exact Option.isSome_iff_exists.1 Z
theorem Vv {a b c d:Int} (h:wI a b=wI c d):a=c/\b=d:=by
 unfold wI at h;injection h with h
 have Z:=congrArg Array.toList h;simp at Z;exact Z
theorem EP:∀ {E:List (Int×Int×Int)} {r p:Int},(∀x∈E,¬(x.1=r/\x.2.1=p))->kS E r p=ν
 |[],_,_,_=>rfl
 |x::E,r,p,h=>by
  unfold kS;rw[af (h x gZ)];exact EP (λz Z=>h z (by simp[Z]))
theorem H8:∀ {E:List (Int×Int×Int)} {r p m:Int},kS E r p=μ m->(r,p,m)∈E
 |[],_,_,_,h=>by simp[kS]at h
 |x::E,r,p,m,h=>by
  unfold kS at h;split at h
  ·rename_i hx
   have:=Option.some.inj h;have e:x=(r,p,m):=by
    obtain⟨x1,x2,x3⟩:=x;simp at hx this⊢;exact⟨hx.1,hx.2,this⟩
   rw[e];simp
  ·exact cM _ (H8 h)
theorem N5(E:List (Int×Int×Int))(x:Int×Int×Int)(r p:Int):kS (E++ [x]) r p=match kS E r p with|some m=>some m|none=>if x.1=r/\x.2.1=p then some x.2.2 else none:=by
 induction E with
 |nil=>
  show kS [x] r p=_;unfold kS;split<;>rfl
 |cons z E ih=>
  show kS (z::(E++ [x])) r p=_;unfold kS;split
  ·rfl
  ·exact ih
theorem Dx.snoc(h:Dx E) {x:Int×Int×Int} (hx:1<=x.1/\x.1<=6/\0<=x.2.1/\x.2.1<=2)(Y:kS E x.1 x.2.1=ν):Dx (E++ [x]):=λz X=>by
 rw[N5];rcases av.1 X with Z|Z
 ·have:=h z Z;exact⟨this.1,by rw[this.2]⟩
 ·have:z=x:=by simpa using Z
  subst this;exact⟨hx,by rw[Y];simp⟩
theorem oI.find {w:dY} {b:Nat} {E:List (Int×Int×Int)} {es:Array MapEntry} {clock:Nat} (_hb:w.heap[b]? =μ (.map es clock))(Q:es.toList.map (λe=>(e.key,e.val))=E.map λx=>(wI x.1 x.2.1,.int .i64 x.2.2))(S:Dx E) {r p:Int} (D:1<=r/\r<=6/\0<=p/\p<=2):
 (kS E r p=ν/\(gD 192 (wI r p) es.toList).run e7 w=.ok ν w) \/ ∃m j,kS E r p=μ m/\(gD 192 (wI r p) es.toList).run e7 w=.ok (μ (j,ι κ m)) w:=by
 obtain⟨l,hl⟩:=Ju D;have M:∀e∈es.toList,∃x∈E,e.key=wI x.1 x.2.1/\e.val=.int .i64 x.2.2:=λe V=>by
  have Z:(e.key,e.val)∈es.toList.map (λe=>(e.key,e.val)):=bH.2 ⟨e,V,rfl⟩;rw[Q]at Z;obtain⟨x,hx,Y⟩:=bH.1 Z;injection Y with U X
  exact⟨x,hx,U.symm,X.symm⟩
 have T:∀x∈E,∃e∈es.toList,e.key=wI x.1 x.2.1:=λx hx=>by
  have Z:(wI x.1 x.2.1,(ι κ x.2.2:dZ))∈E.map λx=>(wI x.1 x.2.1,(ι κ x.2.2:dZ)):=bH.2 ⟨x,hx,rfl⟩;rw[<-Q]at Z;obtain⟨e,V,Y⟩:=bH.1 Z;injection Y with U X
  exact⟨e,V,U⟩
 rcases N4.find w hl es.toList (λe V=>by
  obtain⟨x,hx,Z,_⟩:=M e V;rw[Z];exact Ju (S x hx).1)with⟨Z,Y⟩|⟨j,e,Z,Y,U⟩
 ·left;refine⟨EP (λx hx hc=> ?_),Z⟩;obtain⟨e,V,X⟩:=T x hx;exact Y e V (by rw[X,hc.1,hc.2])
 ·right;obtain⟨x,hx,X,G⟩:=M e (bI Y);rw[U]at X;obtain⟨J,H⟩:=Vv X;refine⟨x.2.2,j,?_,by rw[Z,G]⟩;rw[J,H];exact(S x hx).2
theorem oI.look {b:Nat} (h:oI w b E)(V:Dx E) {r p:Int} (X:1<=r/\r<=6/\0<=p/\p<=2):
 (fq 184 (.map (μ b)) (wI r p) true).run e7 w=.ok (τ #[ι κ ((kS E r p).getD 0),.bool (kS E r p).isSome]) w:=by
 obtain⟨es,clock,hb,U⟩:=h;obtain⟨l,hl⟩:=Ju X;have T:(zeroValue 3).run e7 w=.ok (ι κ 0) w:=gX;have hc:=N4.check w es.isEmpty hl;unfold fq;simp only[fV,run_underlying gE,eI,gF hb,fW,hc];rcases oI.find hb U V X with⟨Z,Y⟩|⟨m,j,Z,Y⟩
 ·simp only[Y,eI,fV,T,fW,Z];rfl
 ·simp only[Y,eI,Z];rfl
theorem oI.store {b:Nat} (h:oI w b E)(U:Dx E) {r p m:Int} (V:1<=r/\r<=6/\0<=p/\p<=2)(S:kS E r p=ν):
 ∃w',(fh 184 (.map (μ b)) (wI r p) (ι κ m)).run e7 w=.ok () w'/\oI w' b (E++ [(r,p,m)])/\w'.os=w.os/\w'.tape=w.tape/\w'.output=w.output/\w'.heap.size=w.heap.size/\∀k,k≠b->w'.heap[k]? =w.heap[k]? :=by
 obtain⟨es,clock,hb,X⟩:=h;obtain⟨l,hl⟩:=Ju V;have hc:=N4.check w false hl;have Q:b<w.heap.size:=(ax.1 hb).1;rcases oI.find hb X U V with⟨Z,Y⟩|⟨m',j,Z,Y⟩
 ·refine⟨{w with heap:=w.heap.setIfInBounds b (.map (es.push {key:=wI r p,val:=.int .i64 m,born:=clock}) (clock+1))},?_,⟨es.push {key:=wI r p,val:=.int .i64 m,born:=clock},clock+1,?_,?_⟩,rfl,rfl,rfl,gZ,λk T=> ?_⟩
  ·unfold fh;simp only[fV,run_underlying gE,eI,gF hb,hc,Y,Go.MapKept.run_setObj_map _ hb]
  ·simp[Q]
  ·simp[X]
  ·show(w.heap.setIfInBounds b _)[k]? =_;rw[Array.getElem?_setIfInBounds_ne (λe=>T e.symm)]
 ·rw[S]at Z;simp at Z
theorem ER(r:iO):r.change.n=r.n:=by
 unfold iO.change iO.behind;split
 ·rfl
 ·split<;>rfl
theorem Bi(r:iO)(s:Int):(r.behind s).id=r.id:=by
 unfold iO.behind;split<;>rfl
theorem Vw(r:iO)(s:Int):(r.behind s).n=r.n:=by
 unfold iO.behind;split<;>rfl
theorem H9(r:iO):r.change.id=r.id:=by
 unfold iO.change;split
 ·rfl
 ·exact Bi r _
theorem Bj(r:iO)(i:Nat)(q:lr):(r.meet i q).n=r.n:=by
 unfold iO.meet;simp only;split
 ·rfl
 ·split
  ·exact ER _
  ·exact ER _
theorem Dy(r:iO)(i:Nat)(q:lr):(r.meet i q).id=r.id:=by
 unfold iO.meet;simp only;split
 ·rfl
 ·split
  ·exact H9 _
  ·exact H9 _
section
variable {w W:World} {z:Zt} {r:iO} {n N:Nat} {C:Array Value} {t:TypeId}
theorem Vx(h:oH w W z r n N C t)(i:Nat)(hi:i<r.n):
 eZ e7 124 #[π (μ ⟨z.Bb,0,ν⟩),ι κ (i:Int)] W λe w'=>e=ρ (τ #[])/\oH w w' z {r with O:=λx=>if x=i then λ_=>ν else r.O x} n N C t:=by
 have Y:=h.nn;subst Y;refine h.call rfl λX Z hl=> ?_;rw[<-hl.Bb];exact Vt X r i W Z hi
theorem N7(h:oH w W z r n N C t)(X:lD r):
 eZ e7 125 #[π (μ ⟨z.R,0,ν⟩)] W λe w'=>e=ρ (τ #[])/\oH w w' z r.change n N C t:=by
 have Y:=h.nn;subst Y;refine h.call (ER r) λV Z hl=> ?_;rw[<-hl.R];exact N2 V r W Z X
theorem Vy(h:oH w W z r n N C t)(i:Nat)(hi:i<n):
 eZ e7 126 #[π (μ ⟨z.Bb,0,ν⟩),ι κ (i:Int)] W λe w'=>e=ρ η/\iG w w' z {r with O:=λx=>if x=i then qC (r.O i) r.K else r.O x} n:=by
 have Y:=h.nn;subst Y;refine h.went.call λX Z hl=> ?_;rw[<-hl.Bb];exact RF X r i W Z hi
end
theorem wJ(z:Zt)(r:iO)(i:Nat)(q:lr)(w:dY)(h:mC w z r)(iQ:lD r)(hi:i<r.n)(hq:ot r.id q):
 eZ e7 74 #[π (μ ⟨z.R,0,ν⟩),.int .i64 (i:Int),.agg #[.int .i64 q.who,.bool q.both,.int .i64 q.left]] w λe w'=>e=ρ (τ #[])/\iG w w' z (r.meet i q) r.n:=by
 have kX:(i:Int)<(r.n:Int):=eh;have Pv:(0:Int)<=(i:Int):=eh;have hzp:=Eg;obtain⟨p,hp⟩:=gq (r.P i);have ba:=gY w (γ #[.int .i64 q.who,.bool q.both,.int .i64 q.left] 116);have bb:=gu ba (gY (w.alloc (γ #[.int .i64 q.who,.bool q.both,.int .i64 q.left] 116)) (γ #[.int .i64 p.pe.who,.bool p.pe.both,.int .i64 p.pe.left] 116));have M:=h.below ba;have c1:=M.c1;have cl:=M.lt;have g1:=(M.pt i hi).c67;have g2:=(M.pt i hi).c68;have g3:=(M.pt i hi).c69;have gl:=M.Kd;rw[hp]at g1 g2 g3;have R2:=h.below bb;have T:iZ ((w.alloc (γ #[.int .i64 q.who,.bool q.both,.int .i64 q.left] 116)).alloc (γ #[.int .i64 p.pe.who,.bool p.pe.both,.int .i64 p.pe.left] 116)) w.heap.size #[.int .i64 q.who,.bool q.both,.int .i64 q.left] 116:=(iZ.new w _ _).below (gY _ _);have X:iZ ((w.alloc (γ #[.int .i64 q.who,.bool q.both,.int .i64 q.left] 116)).alloc (γ #[.int .i64 p.pe.who,.bool p.pe.both,.int .i64 p.pe.left] 116)) (w.heap.size+1) #[.int .i64 p.pe.who,.bool p.pe.both,.int .i64 p.pe.left] 116:=iZ.Gk _ _ _ _ gZ;have HR:Hid _:=h;have Vz:Hid _:=iQ;have HP:Hid _:=hp;clear iQ M hp
 go_in
 go_wp2_with(fail);obtain⟨Z,j8⟩:=gq ((w.alloc (γ #[.int .i64 q.who,.bool q.both,.int .i64 q.left] 116)).alloc (γ #[.int .i64 p.pe.who,.bool p.pe.both,.int .i64 p.pe.left] 116));rw[j8]at bb R2 T X;rw[j8];have J:¬z.mine r.n w.heap.size:=h.uD (Nat.le_refl _);have hgN:z.g<w.heap.size:=h.Kd;obtain⟨N,hN⟩:=gq (w.heap.size);rw[hN]at T X J hgN;rw[hN];have Rd:=R2.below (jb Z);have hPe:=(Rd.pt i hi).peer q;have H:=Rd.port hi hPe;have hBs:oH Z (((Z.drew.setCell ⟨z.g,i*71+67,ν⟩ (.int .i64 q.who)).setCell ⟨z.g,i*71+68,ν⟩ (.bool q.both)).setCell ⟨z.g,i*71+69,ν⟩ (.int .i64 q.left)) z (r.iU i {p with pe:=q}) r.n N #[.int .i64 q.who,.bool q.both,.int .i64 q.left] 116:=by
  rw[HP.out]at H;exact⟨iG.first R2 rfl (jb Z) (λ_=>H),((T.drew.other eh _).other eh _).other eh _,rfl,T.lt,J⟩
 have af3:iZ (((Z.drew.setCell ⟨z.g,i*71+67,ν⟩ (.int .i64 q.who)).setCell ⟨z.g,i*71+68,ν⟩ (.bool q.both)).setCell ⟨z.g,i*71+69,ν⟩ (.int .i64 q.left)) (N+1) #[.int .i64 p.pe.who,.bool p.pe.both,.int .i64 p.pe.left] 116:=((X.drew.other eh _).other eh _).other eh _;have e1:=Rd.c1;have eg:=Rd.Kd;have el:=Rd.lt;have y0:Z.drew.cell? ⟨N,0,ν⟩=μ (ι κ q.who):=T.cell 0;have y1:Z.drew.cell? ⟨N,1,ν⟩=μ (.bool q.both):=T.cell 1;have y2:Z.drew.cell? ⟨N,2,ν⟩=μ (.int .i64 q.left):=T.cell 2;have x7:=(Rd.pt i hi).c67;have x8:=(Rd.pt i hi).c68;have x9:=(Rd.pt i hi).c69;have f7:=(Rd.pt i hi).fz 67 eA;have f8:=(Rd.pt i hi).fz 68 eA;have f9:=(Rd.pt i hi).fz 69 eA;rw[HP.out]at x7 x8 x9;have hS:((Z.setCell ⟨z.g,i*71+67,ν⟩ (.int .i64 q.who)).drew.cell? ⟨z.g,i*71+67+1,ν⟩=μ (.bool p.pe.both)/\(Z.setCell ⟨z.g,i*71+67,ν⟩ (.int .i64 q.who)).drew.frozen? ⟨z.g,i*71+67+1,ν⟩=false)/\(((Z.setCell ⟨z.g,i*71+67,ν⟩ (.int .i64 q.who)).setCell ⟨z.g,i*71+67+1,ν⟩ (.bool q.both)).drew.cell? ⟨z.g,i*71+67+2,ν⟩=μ (.int .i64 p.pe.left)/\((Z.setCell ⟨z.g,i*71+67,ν⟩ (.int .i64 q.who)).setCell ⟨z.g,i*71+67+1,ν⟩ (.bool q.both)).drew.frozen? ⟨z.g,i*71+67+2,ν⟩=false):=by
  obtain⟨F,hC,_⟩:=(Rd.pt i hi).xC;rw[HP.out]at hC;have h1:=hC.set 67 eA (ι κ q.who);have h2:=h1.set 68 eA (.bool q.both);exact⟨⟨h1.cell 68 eA,h1.fz 68 eA⟩,h2.cell 69 eA,h2.fz 69 eA⟩
 obtain⟨⟨s1,s2⟩,s3,s4⟩:=hS;clear x8 x9 f8 f9;have YX:Hid _:=bb;have HR2:Hid _:=R2;have A:Hid _:=hBs;have HQ:Hid _:=hq;clear h hq j8 Rd hPe H hBs bb R2 T X ba c1 cl g1 g2 g3 gl
 go_region
 obtain⟨S,ny⟩:=gq ((((Z.setCell ⟨z.g,i*71+67,ν⟩ (.int .i64 q.who)).setCell ⟨z.g,i*71+67+1,ν⟩ (.bool q.both)).setCell ⟨z.g,i*71+67+2,ν⟩ (.int .i64 q.left)).drew);rw[ny];have Q:oH Z S z (r.iU i {p with pe:=q}) r.n N #[.int .i64 q.who,.bool q.both,.int .i64 q.left] 116:=by rw[<-ny];exact A.out
 have X:iZ S (N+1) #[.int .i64 p.pe.who,.bool p.pe.both,.int .i64 p.pe.left] 116:=by rw[<-ny];exact af3
 have y0:S.cell? ⟨N,0,ν⟩=μ (ι κ q.who):=Q.oh.cell 0;have y1:S.cell? ⟨N,1,ν⟩=μ (.bool q.both):=Q.oh.cell 1;have u0:S.cell? ⟨N+1,0,ν⟩=μ (ι κ p.pe.who):=X.cell 0;have u1:S.cell? ⟨N+1,1,ν⟩=μ (.bool p.pe.both):=X.cell 1;have nl:=Q.oh.lt;have nl6:=X.lt;have d2:=Q.went.c2;have dl:=Q.went.lt;have D:Hid _:=Q;have V:Hid (r.meet i q=if q.who=p.pe.who/\q.both=p.pe.both then r.iU i {p with pe:=q}else if q.both=true then {(({r.iU i {p with pe:=q}with O:=λx=>if x=i then λ_=>ν else r.O x}:iO).change)with O:=λx=>if x=i then qC ((({r.iU i {p with pe:=q}with O:=λx=>if x=i then λ_=>ν else r.O x}:iO).change).O i) (({r.iU i {p with pe:=q}with O:=λx=>if x=i then λ_=>ν else r.O x}:iO).change).K else(({r.iU i {p with pe:=q}with O:=λx=>if x=i then λ_=>ν else r.O x}:iO).change).O x}else({r.iU i {p with pe:=q}with O:=λx=>if x=i then λ_=>ν else r.O x}:iO).change):=by
  show _=_;unfold iO.meet;rw[HP.out];rfl
 obtain⟨r1,lg⟩:=gq (r.iU i {p with pe:=q});have k9:lD r1:=by rw[<-lg];exact Vz.out.iU i _ (by rw[HP.out]) (λ_=>HQ.out)
 have mT:r1.n=r.n:=by rw[<-lg];rfl
 have hO1:r1.O=r.O:=by rw[<-lg];rfl
 rw[lg]at D V;rw[<-hO1]at V;have G:Hid (∀W rr,iG Z W z rr r.n->iG w W z rr r.n):=λW rr hw=>iG.first HR.out rfl YX.out (λ_=>hw);have C9:Hid _:=k9;have HN1:Hid _:=mT;clear ny Q X af3 lg k9 mT hO1 A HP HQ Vz s1 s2 s3 s4 x7 f7 e1 eg el HR2 YX HR hgN J hzp;by_cases hs:q.who=p.pe.who/\q.both=p.pe.both
 ·have q1:(q.who==p.pe.who)=true:=by simp[hs.1]
  have q2:(q.both==p.pe.both)=true:=by simp[hs.2]
  have HE:Hid (iG w S z (r.meet i q) r.n):=by
   show iG _ _ _ _ _;rw[V.out,ai hs];exact G.out _ _ D.out.went
  clear hs V G D
  go_wp2
  first|go_end0|refine iM rfl rfl ?_
  exact⟨rfl,HE.out⟩
 ·obtain⟨Y,tj⟩:∃Y:iO,({r1 with O:=λx=>if x=i then λ_=>ν else r1.O x}:iO)=Y:=⟨_,rfl⟩
  have hp2:eZ e7 124 #[π (μ ⟨z.Bb,0,ν⟩),.int .i64 (i:Int)] S λe w'=>e=ρ (τ #[])/\oH Z w' z Y r.n N #[.int .i64 q.who,.bool q.both,.int .i64 q.left] 116:=by
   refine(Vx D.out i (by rw[HN1.out];exact hi)).mono ?_;rintro e w3 ⟨rfl,hw⟩;exact⟨rfl,by rw[<-tj];exact hw⟩
  have hch:Hid (∀W,oH Z W z Y r.n N #[.int .i64 q.who,.bool q.both,.int .i64 q.left] 116->eZ e7 125 #[π (μ ⟨z.R,0,ν⟩)] W λe w'=>e=ρ (τ #[])/\oH Z w' z Y.change r.n N #[.int .i64 q.who,.bool q.both,.int .i64 q.left] 116):=by
   intro W H;have acD:lD Y:=by rw[<-tj];exact C9.out.yL _
   exact N7 H acD
  have Jv:Hid (∀W,oH Z W z Y.change r.n N #[.int .i64 q.who,.bool q.both,.int .i64 q.left] 116->eZ e7 126 #[π (μ ⟨z.Bb,0,ν⟩),.int .i64 (i:Int)] W λe w'=>e=ρ η/\iG Z w' z {Y.change with O:=λx=>if x=i then qC (Y.change.O i) Y.change.K else Y.change.O x} r.n):=by
   intro W H;exact Vy H i hi
  rw[af hs,tj]at V;have HNE:Hid ((q.who==p.pe.who)=false \/(q.who==p.pe.who)=true/\(q.both==p.pe.both)=false):=by
   show _ \/_;cases h1:(q.who==p.pe.who)
   ·exact .inl rfl
   ·refine .inr ⟨rfl,?_⟩;cases h2:(q.both==p.pe.both)
    ·rfl
    ·exact absurd ⟨by simpa using h1,by simpa using h2⟩ hs
  clear hs tj C9 HN1;rcases HNE.out with q1|⟨q1,q2⟩
  all_goals
   clear HNE;go_wp2_with(fail);refine hp2.mono ?_;rintro e W3 ⟨rfl,TC⟩;have hc3:=hch.out _ TC;clear hp2 hch TC D y0 y1 u0 u1 nl nl6 d2 dl;go_wp2_with(fail);refine hc3.mono ?_;rintro e W4 ⟨rfl,U⟩;have y1:W4.cell? ⟨N,1,ν⟩=μ (.bool q.both):=U.oh.cell 1;have nl:=U.oh.lt;have d2:=U.went.c2;have dl:=U.went.lt;clear hc3;cases hb:q.both with
   |false=>
    rw[hb]at y1;have HE:Hid (iG w W4 z (r.meet i q) r.n):=by
     show iG _ _ _ _ _;rw[V.out,hb,af gZ];exact G.out _ _ U.went
    clear V G Jv U
    go_wp2
    first|go_end0|refine iM rfl rfl ?_
    exact⟨rfl,HE.out⟩
   |true=>
    rw[hb]at y1;have hm5:=Jv.out _ U;have HE:Hid (∀W,iG Z W z {Y.change with O:=λx=>if x=i then qC (Y.change.O i) Y.change.K else Y.change.O x} r.n->iG w W z (r.meet i q) r.n):=by
     intro W hw;rw[V.out,hb,ai rfl];exact G.out _ _ hw
    clear V G Jv U;go_wp2_with(fail);refine hm5.mono ?_;rintro e W5 ⟨rfl,Kf⟩;have ML:=HE.out _ Kf;clear hm5 Kf
    go_wp2
    first|go_end0|refine iM rfl rfl ?_
    exact⟨rfl,ML⟩
theorem Jw(C:kT)(r:Nat):(pw C r).length<=7:=rB _ _
theorem Bk(z:Zt)(r:iO)(w:dY)(h:mC w z r)(hK:XO r.K):
 eZ e7 64 #[π (μ ⟨z.R,0,ν⟩)] w λe w'=>∃b c,e=ρ (σ b (la r).length c)/\HsN w w' b (la r).length (la r)/\eE w w':=by
 have V:=h.below (jb w);have A:r.id=((r.id.toNat:Nat):Int):=by have:=h.id;omega
 have Y:eZ e7 110 #[π (μ ⟨z.Bb,0,ν⟩)] w.drew λe w'=>∃a n cap,e=ρ (σ a n cap)/\(∀W,eE w' W->eZ e7 116 #[σ a n cap,ι κ r.id] W λe X=>∃b c,e=ρ (σ b (la r).length c)/\HsN w X b (la r).length (la r)/\eE w X/\(X.cell? ⟨z.R,0,ν⟩=μ (ι κ r.id)/\X.cell? ⟨z.R,2,ν⟩=μ (π (μ ⟨z.Bb,0,ν⟩))))/\(w'.cell? ⟨z.R,0,ν⟩=μ (ι κ r.id)/\w'.cell? ⟨z.R,2,ν⟩=μ (π (μ ⟨z.Bb,0,ν⟩))):=by
  refine(Cf z.Bb z.fm 6 r.K r.O w.drew V.bs).mono ?_;rintro e w1 ⟨a,n,cap,S,E,rfl,hS,D,h6,_,b1⟩;have M:=V.below b1;refine⟨a,n,cap,rfl,λW Q=> ?_,M.c0,M.c2⟩;have hh:=UZ a n cap S E r.id.toNat W (hS.below Q) eh D.ok (by have:=h.id;omega) (by have:=h.id;omega);rw[<-A]at hh;rw[sQ.grid D hK]at hh;refine hh.mono ?_;rintro e X ⟨b,c,rfl,U,b2⟩;have G:=(M.below Q).below b2;exact⟨b,c,rfl,⟨U.r,λx e=>Nat.le_trans (gu (gu (jb w) b1) Q).size (U.nw x e)⟩,gu (gu (gu (jb w) b1) Q) b2,G.c0,G.c2⟩
 have Z:=And.intro V.c0 V.c2;generalize la r=L at Y⊢;generalize z.R=T at Y Z⊢;generalize z.Bb=Bb at Y Z;generalize r.id=id at Y Z;clear h V A;have Z:w.drew.cell? ⟨T,0,ν⟩=μ (ι κ id)/\w.drew.cell? ⟨T,2,ν⟩=μ (π (μ ⟨Bb,0,ν⟩)):=Z
 go_in
 go_wp2
 go_region_held3(λx=>x.cell? ⟨T,0,ν⟩=μ (ι κ id)/\x.cell? ⟨T,2,ν⟩=μ (π (μ ⟨Bb,0,ν⟩)))
  (first|assumption|exact Z|exact J|exact H)
  (first
   |(go_at_call 110;refine Y.mono ?_;rintro e w1 ⟨a,n,cap,rfl,hh,J⟩)
   |(go_at_call 116;refine(hh _ (au _ _)).mono ?_;rintro e X ⟨b,c,rfl,U,b2,H⟩))
 all_goals
  have HH:Hid _:=U;clear Y hh Z J H U
  go_wp2
  go_ret
  first|exact⟨b,c,rfl,HH.out,b2⟩|exact⟨b,⟨c,rfl,HH.out,b2⟩⟩
def YY(r:iO)(t h:Int):Option Nat:=if 1<=h then(A3 (la r) t).bind λx=>jR r.P x.rM r.n else ν
def sT(F:Int->Option PS)(j m:Nat):List (Int×PS):=(List.range' j m).filterMap λ(j:Nat)=>(F ((j:Int)+1)).map λq=>((j:Int)+1,q)
theorem N8(F:Int->Option PS):lJ F=sT F 0 6:=by unfold lJ sT;rw[dc]
theorem tZ {F:Int->Option PS} {n:Nat} {S:Nat->SV} {E:Nat->List jH} (h:sQ F n S E):∀(m j k:Nat),j+m=6->k<=n->(∀i,i<k->(S i).own<=j)->(∀i,k<=i->i<n->(j:Int)<(S i).own)->sT F j m=(List.range' k (n-k)).map λi=>((S i).own,((S i).seq,E i))
 |0,j,k,hj,hk,h1,h2=>by
  have:n-k=0:=by
   by_cases e:k<n
   ·have Y:=h2 k (Nat.le_refl _) e;have Z:=(jw (h.ok k e)).1;omega
   ·omega
  rw[this];rfl
 |m+1,j,k,hj,hk,h1,h2=>by
  have e:sT F j (m+1)=(match F ((j:Int)+1)with|none=>sT F (j+1) m|some q=>((j:Int)+1,q)::sT F (j+1) m):=by
   unfold sT;rw[dG,bh];cases F ((j:Int)+1)<;>simp
  rw[e];cases hF:F ((j:Int)+1)with
  |none=>
   simp only;refine tZ h m (j+1) k eh hk (λi hi=>by have:=h1 i hi;omega) (λi Y Z=> ?_);have h5:=h2 i Y Z;have h6:(S i).own≠(j:Int)+1:=λe=>by
    have:=(h.at_ i Z).2;rw[e,hF]at this;cases this
   omega
  |some q=>
   simp only;obtain⟨i,hi,V⟩:=h.all ((j:Int)+1) ⟨eh,eh⟩ (by rw[hF];rfl);have hki:k<=i:=by
    by_cases e:i<k
    ·have:=h1 i e;omega
    ·omega
   have X:i=k:=by
    by_cases e:i=k
    ·exact e
    ·have Y:=h.Q6 k i eh hi;have Z:=h2 k (Nat.le_refl _) eh;omega
   subst X;have U:=(h.at_ i hi).2;rw[V,hF]at U;have T:=Option.some.inj U;have en:n-i=(n-(i+1))+1:=eh;rw[en,dG,eN,V,<-T];congr 1;refine tZ h m (j+1) (i+1) eh eh (λx hx=> ?_) (λx Y Z=> ?_)
   ·by_cases e:x=i
    ·subst e;omega
    ·have:=h1 x eh;omega
   ·have:=h.Q6 i x eh Z;omega
theorem RG {F:Int->Option PS} {S:Nat->SV} {E:Nat->List jH} (h:sQ F n S E):lJ F=(gg n).map λi=>((S i).own,((S i).seq,E i)):=by
 rw[N8,tZ h 6 0 0 rfl (Nat.zero_le _) (λi hi=>eh) (λi _ hi=>by have:=(jw (h.ok i hi)).1;omega),dc];rfl
theorem VA(B:Nat)(m:FM)(k:Nat)(K:Int->Option PS)(O:Nat->Int->Option PS)(p:Nat)(w:dY)(h:BR w B m k K O)(Y:p<m.bs.length):
 eZ e7 151 #[π (μ ⟨B,0,ν⟩),ι κ (p:Int)] w λe w'=>∃a n cap S E,e=ρ (σ a n cap)/\uv w' a n S E/\sQ (O p) n S E/\n<=6/\(∀j,eu (σ a n cap)=μ j->w.heap.size<j)/\(∀i,i<n->∀j,eu (σ (S i).a (S i).n (S i).cap)=μ j->w.heap.size<j)/\eE w w':=by
 obtain⟨kn,ow,hF,hT,X⟩:=h.ex;refine(Vf B m k kn ow (mY (O p)) p w hF Y (X p Y).fine).mono ?_;rintro e w1 ⟨v,ts,rfl,Z⟩;obtain⟨a,cap,rfl,V,U,T,Q⟩:=Z.lists (X p Y);refine⟨a,ts.length,cap,_,_,rfl,V,U,T,Q,λi hi j M=> ?_,Z.nU⟩;have J:ts.getD i SV.zero∈ts:=by
  have:ts.getD i SV.zero=ts[i] :=by simp[List.getD,hi]
  rw[this];exact aF hi
 exact((Z.el _ J).new j M).1
theorem Cm:∀(l:List (Int×PS)) (p:jy) (q:Int×PS),p.kJ (l++ [q])=(p.kJ l).put 83 (ru q.1 q.2.1 q.2.2)
 |[],_,_=>rfl
 |x::l,p,q=>by
  show(p.put 83 (ru x.1 x.2.1 x.2.2)).kJ (l++ [q])=((p.put 83 (ru x.1 x.2.1 x.2.2)).kJ l).put _ _;exact Cm l _ q
theorem yR:∀(l:List (Int×PS)) (p:jy),(p.kJ l).out.length<=p.out.length+126*l.length
 |[],p=>by simp[jy.kJ]
 |x::l,p=>by
  have h1:=yR l (p.put 83 (ru x.1 x.2.1 x.2.2));have h2:=xD p 83 (ru x.1 x.2.1 x.2.2);have e:p.kJ (x::l)=(p.put 83 (ru x.1 x.2.1 x.2.2)).kJ l:=rfl;rw[e,cN];omega
theorem rS(p:jy)(c:UInt8)(s:List UInt8):(p.put c s).pe=p.pe:=by
 unfold jy.put;split
 ·rfl
 ·split<;>rfl
theorem Bl(r:iO)(i:Nat)(p q:jy):(r.iU i p).iU i q=r.iU i q:=by
 have:ll (ll r.P i p) i q=ll r.P i q:=by
  funext x
  unfold ll;by_cases e:x=i
  ·simp[e]
  ·simp[e]
 show({r with P:=ll (ll r.P i p) i q}:iO)={r with P:=ll r.P i q}
 rw[this]
def mP(r:iO)(i:Nat):iO:=
 let p:=(r.P i).put 72 [j1 r.id,j1 (r.P i).pe.who]
 r.iU i (if(r.P i).pe.both=true then p.kJ (lJ (r.O i))else p)
theorem jg.went {z:Zt} (h:iG w w' z r n)(Y:mC w z r0) {a:Option dX} {cap:Nat} (U:jg w a m es)(V:∀j,eu (σ a m cap)=μ j->¬z.mine n j):jg w' a m es:=by
 refine⟨U.1,?_⟩;rcases U.2 with Z|⟨b,off,rfl,Z⟩
 ·exact .inl Z
 ·exact .inr ⟨b,off,rfl,λj X=>⟨h.cell Y (p:=⟨b,_,ν⟩) (V b rfl) (Z j X).1,h.cell Y (p:=⟨b,_,ν⟩) (V b rfl) (Z j X).2⟩⟩
theorem uv.went {w w':dY} {z:Zt} {r r0:iO} {n:Nat} (h:iG w w' z r n)(Y:mC w z r0) {a:Option dX} {m cap:Nat} {S:Nat->SV} {E:Nat->List jH} (hs:uv w a m S E)(X:∀j,eu (σ a m cap)=μ j->¬z.mine n j)(U:∀i,i<m->∀j,eu (σ (S i).a (S i).n (S i).cap)=μ j->¬z.mine n j):uv w' a m S E:=by
 refine⟨?_,λj Z=>⟨jg.went h Y (hs.opt j Z).1 (U j Z),(hs.opt j Z).2⟩⟩;rcases hs.row with V|⟨b,off,rfl,V⟩
 ·exact .inl V
 ·refine .inr ⟨b,off,rfl,λj Z=> ?_⟩;obtain⟨c1,c2,c3⟩:=V j Z;exact⟨h.cell Y (p:=⟨b,_,ν⟩) (X b rfl) c1,h.cell Y (p:=⟨b,_,ν⟩) (X b rfl) c2,h.cell Y (p:=⟨b,_,ν⟩) (X b rfl) c3⟩
theorem VB(z:Zt)(r:iO)(i:Nat)(w:dY)(h:mC w z r)(iQ:lD r)(hi:i<r.n)(vL:(r.P i).out.length<=700000000):
 eZ e7 85 #[π (μ ⟨z.R,0,ν⟩),ι κ (i:Int)] w λe w'=>e=ρ (τ #[])/\iG w w' z (mP r i) r.n:=by
 have kX:(i:Int)<(r.n:Int):=eh;have Pv:(0:Int)<=(i:Int):=eh;obtain⟨p,A⟩:=gq (r.P i);rw[A]at vL;have xU:Hid (∀W,eE w W->W.cell? ⟨z.R,0,ν⟩=μ (.int .i64 r.id)/\W.cell? ⟨z.g,i*71+67,ν⟩=μ (.int .i64 p.pe.who)/\W.cell? ⟨z.g,i*71+67+1,ν⟩=μ (.bool p.pe.both)/\W.cell? ⟨z.g,i*71+67+2,ν⟩=μ (.int .i64 p.pe.left)):=by
  intro W V;have R:=h.below V;rw[<-A];exact⟨R.c0,(R.pt i hi).c67,(R.pt i hi).c68,(R.pt i hi).c69⟩
 have oP:=iQ.pe i hi;rw[A]at oP;have VC:∀W,eE w W->eZ e7 149 #[.agg #[.int .i64 p.pe.who,.bool p.pe.both,.int .i64 p.pe.left],.int .i64 r.id] W λe w'=>e=ρ (.agg #[.int .i64 r.id,.int .i64 p.pe.who])/\eE w w'/\(w'.cell? ⟨z.R,0,ν⟩=μ (.int .i64 r.id)/\w'.cell? ⟨z.g,i*71+67,ν⟩=μ (.int .i64 p.pe.who)/\w'.cell? ⟨z.g,i*71+67+1,ν⟩=μ (.bool p.pe.both)/\w'.cell? ⟨z.g,i*71+67+2,ν⟩=μ (.int .i64 p.pe.left)):=by
  intro W V;refine(UH p.pe.who p.pe.left r.id p.pe.both W).mono ?_;rintro e w1 ⟨rfl,b1⟩;exact⟨rfl,gu V b1,xU.out _ (gu V b1)⟩
 have af4:∀W,eE w W->eZ e7 148 #[.agg #[.int .i64 r.id,.int .i64 p.pe.who]] W λe w'=>e=ρ (τ #[.string ⟨#[u8 r.id,u8 p.pe.who]⟩,η])/\eE w w'/\(w'.cell? ⟨z.R,0,ν⟩=μ (.int .i64 r.id)/\w'.cell? ⟨z.g,i*71+67,ν⟩=μ (.int .i64 p.pe.who)/\w'.cell? ⟨z.g,i*71+67+1,ν⟩=μ (.bool p.pe.both)/\w'.cell? ⟨z.g,i*71+67+2,ν⟩=μ (.int .i64 p.pe.left)):=by
  intro W V;have h1:=iQ.id;have h2:=oP.who;refine(KQ r.id p.pe.who W h1.1 h1.2 h2.1 h2.2 (by simp[uu];omega)).mono ?_;rintro e w1 ⟨rfl,b1⟩;exact⟨rfl,gu V b1,xU.out _ (gu V b1)⟩
 obtain⟨Z,CS⟩:=gq (p.put 72 [j1 r.id,j1 p.pe.who]);have Dw:Z.out.length<=700000126:=by
  rw[<-CS];have:=xD p 72 [j1 r.id,j1 p.pe.who];omega
 have KM:Z.pe=p.pe:=by rw[<-CS];exact rS _ _ _
 obtain⟨r1,G⟩:=gq (r.iU i Z);have T:r1.n=r.n:=by rw[<-G];rfl
 have hP1:r1.P i=Z:=by rw[<-G];exact jB _ _ _
 have hO1:r1.O=r.O:=by rw[<-G];rfl
 have oq:Hid (∀W,eE w W->eZ e7 150 #[π (μ ⟨z.g,i*71,ν⟩),.string ⟨#[72]⟩,.string ⟨#[u8 r.id,u8 p.pe.who]⟩] W λe w'=>e=ρ (τ #[])/\iG w w' z r1 r.n):=by
  intro W V;have R:=h.below V;have Cj:=R.pt i hi;rw[A]at Cj;refine(Dv z.g (i*71) (z.B i) (z.v i) p ⟨#[72]⟩ ⟨#[u8 r.id,u8 p.pe.who]⟩ 72 W Cj rfl (by show 2<=1000;omega) eh).mono ?_;rintro e w1 ⟨rfl,J⟩;have vR:lU W w1 z.g (i*71) (z.B i) (z.v i) Z:=by rw[<-CS];exact J
  rw[<-G];exact⟨rfl,iG.first h rfl V (λ_=>R.port hi vR)⟩
 have hE:mP r i=r.iU i (if p.pe.both=true then Z.kJ (lJ (r.O i))else Z):=by
  unfold mP;rw[A];simp only[CS]
 have VD:Hid (p.pe.both=false->mP r i=r1):=by
  intro e;rw[hE,af (by simp[e]),G]
 have M:Hid (p.pe.both=true->mP r i=r1.iU i (Z.kJ (lJ (r.O i)))):=by
  intro e;rw[hE,ai e,<-G];exact(Bl r i Z _).symm
 have b0:=jb w;have R0:=h.below b0;have c1:=h.c1;have cl:=h.lt;have gl0:=h.Kd;have F0:w.drew.cell? ⟨z.R,0,ν⟩=μ (.int .i64 r.id)/\w.drew.cell? ⟨z.g,i*71+67,ν⟩=μ (.int .i64 p.pe.who)/\w.drew.cell? ⟨z.g,i*71+67+1,ν⟩=μ (.bool p.pe.both)/\w.drew.cell? ⟨z.g,i*71+67+2,ν⟩=μ (.int .i64 p.pe.left):=xU.out _ b0;have HR:Hid _:=h;clear h iQ oP R0 hE A
 go_in
 go_wp2
 go_region_held3(λx=>x.cell? ⟨z.R,0,ν⟩=μ (.int .i64 r.id)/\x.cell? ⟨z.g,i*71+67,ν⟩=μ (.int .i64 p.pe.who)/\x.cell? ⟨z.g,i*71+67+1,ν⟩=μ (.bool p.pe.both)/\x.cell? ⟨z.g,i*71+67+2,ν⟩=μ (.int .i64 p.pe.left))
  (first|assumption|exact F0|exact F1|exact F2)
  (first
   |(go_at_call 149;refine(VC _ b0).mono ?_;rintro e w1 ⟨rfl,b1,F1⟩)
   |(go_at_call 148;refine(af4 _ b1).mono ?_;rintro e w2 ⟨rfl,b2,F2⟩))
 all_goals
  have Cj:=oq.out _ b2;clear VC af4 oq xU F0 F1 F2 c1 cl gl0;go_wp2_with(fail);refine Cj.mono ?_;rintro e W4 ⟨rfl,Q⟩;obtain⟨v4,hv4⟩:=Q.pt (i:=i) (by rw[T];exact hi);have g8:W4.cell? ⟨z.g,i*71+67+1,ν⟩=μ (.bool p.pe.both):=by
   have:=hv4.c68;rw[hP1,KM]at this;exact this
  have gl:=Q.Kd;have k2:=Q.c2;have kl:=Q.lt;clear Cj hv4 b1 b2;cases hb:p.pe.both with
  |false=>
   rw[hb]at g8;have HW:Hid (iG w W4 z (mP r i) r.n):=by show iG _ _ _ _ _;rw[VD.out hb];exact Q
   clear Q VD M
   go_wp2
   first|go_end0|refine iM rfl rfl ?_
   exact⟨rfl,HW.out⟩
  |true=>
   rw[hb]at g8;have HE:=M.out hb;obtain⟨z4,R4,U,Ia,af5⟩:=Q.ex;have how:=VA z4.Bb z4.fm 6 r1.K r1.O i W4 R4.bs (by rw[R4.bl,T];exact hi);rw[U.Bb]at how;have HF:Hid (∀W,iG W4 W z4 (mP r i) r.n->iG w W z (mP r i) r.n):=λW J=>Q.qP R4 U Ia af5 J;have X:Hid _:=R4;have HEq:Hid _:=HE;clear Q HE VD M R4 Ia af5;go_wp2_with(fail);refine how.mono ?_;rintro e D ⟨a,m,cap,S,E,rfl,hS,hL,h6,jn,aaT,b5⟩;have YC:=RG hL;rw[hO1]at YC;have R5:=X.out.below b5;have vX:∀j,eu (σ a m cap)=μ j->¬z4.mine r.n j:=λj hj=>by
    have:=X.out.uD (Nat.le_of_lt (jn j hj))
    rwa [T]at this
   have C2:∀x,x<m->∀j,eu (σ (S x).a (S x).n (S x).cap)=μ j->¬z4.mine r.n j:=λx hx j hj=>by
    have:=X.out.uD (Nat.le_of_lt (aaT x hx j hj))
    rwa [T]at this
   have wz:Hid (∀wr rr,iG D wr z4 rr r.n->uv wr a m S E):=λwr rr J=>uv.went (cap:=cap) J R5 hS vX C2;have ak1:Hid (∀x,x<m->oD (S x).own (S x).seq (E x)=0):=hL.ok;have ak2:Hid (∀k,k<m->(lJ (r.O i)).take (k+1)=(lJ (r.O i)).take k++ [((S k).own,((S k).seq,E k))]):=by
    intro k hk;have hlen:k<(lJ (r.O i)).length:=by rw[YC];simpa using hk
    rw[aA hlen];congr 2;simp[YC]
   have ak3:Hid ((lJ (r.O i)).length=m):=by show _=_;rw[YC];simp
   have HF5:Hid (∀W,iG D W z4 (mP r i) r.n->iG w W z (mP r i) r.n):=λW J=>HF.out W (iG.first X.out T b5 (λ_=>J));have H0:Hid (iG D D z4 (r1.iU i (Z.kJ ((lJ (r.O i)).take 0))) r.n):=by
    show iG _ _ _ _ _;have e:r1.iU i (Z.kJ ((lJ (r.O i)).take 0))=r1:=by
     show r1.iU i Z=r1;rw[<-G,Bl]
    rw[e,<-T];exact iG.refl R5
   have hG4:z4.g=z.g:=U.g;have HG4:Hid _:=hG4;clear how hS hL jn aaT YC R5 vX C2 HF hG4 b5 X U k2 kl g8 gl
   go_wp2
   go_loopw [46] (λx wr=>∃k:Nat,k<=m/\x=ι κ k/\iG D wr z4 (r1.iU i (Z.kJ ((lJ (r.O i)).take k))) r.n) (λx _=>m-(intOf x).toNat)
   case atStart=>exact⟨0,Nat.zero_le _,rfl,H0.out⟩
   case round=>
    obtain⟨k,hk,rfl,Y⟩:=hrel;by_cases kD:k<m
    ·have nS:(k:Int)<(m:Int):=eh;have Hr:(0:Int)<=(k:Int):=eh;have SR:=wz.out _ _ Y;rcases SR.row with h0|⟨b,off,rfl,iX⟩
     ·omega
     obtain⟨x0,x1,x2⟩:=iX k kD;have hop:=(SR.opt k kD).1;have kj:=ak1.out k kD;have YM:=ak2.out k kD;have xl:=ag _ _ x0;have ba:=gY wr (γ #[ι κ (S k).own,ι κ (S k).seq,σ (S k).a (S k).n (S k).cap] 40);have H:=Y.below (by show r1.n=r.n;exact T) ba;obtain⟨pk,Jq⟩:=gq (Z.kJ ((lJ (r.O i)).take k));have pI:pk.out.length<=800000000:=by
      rw[<-Jq];have h1:=yR ((lJ (r.O i)).take k) Z;have h2:((lJ (r.O i)).take k).length<=k:=ct _ _;omega
     have uO:eZ e7 152 #[π (μ ⟨z.g,i*71,ν⟩),.string ⟨#[83]⟩,.agg #[ι κ (S k).own,ι κ (S k).seq,σ (S k).a (S k).n (S k).cap]] (wr.alloc (γ #[ι κ (S k).own,ι κ (S k).seq,σ (S k).a (S k).n (S k).cap] 40)) λe w'=>e=ρ (τ #[])/\iG D w' z4 (r1.iU i (Z.kJ ((lJ (r.O i)).take (k+1)))) r.n:=by
      rw[YM,Cm];rw[Jq]at H⊢;refine H.call λz1 R1 hl=> ?_;have vC:i<(r1.iU i pk).n:=by show i<r1.n;rw[T];exact hi
      have af6:=R1.pt i vC;have hPk:(r1.iU i pk).P i=pk:=jB _ _ _;rw[hPk]at af6;rw[<-HG4.out,<-hl.g];refine(yc ⟨#[83]⟩ 83 (S k).own (S k).seq (S k).a (S k).n (S k).cap (E k) z1.g (i*71) (z1.B i) (z1.v i) pk _ af6 rfl (hop.below ba) kj pI).mono ?_;rintro e w6 ⟨rfl,ML⟩;have h7:=R1.port vC ML;rw[Bl]at h7;exact⟨rfl,by rw[show r.n=(r1.iU i pk).n from T.symm];exact h7⟩
     clear SR iX hop kj YM H Y Jq pI ba;go_wp2_with(fail);refine uO.mono ?_;rintro e w6 ⟨rfl,ML⟩;have HW6:Hid _:=ML;clear uO ML
     go_wp2
     go_roundw
     case rel=>exact⟨k+1,eh,by go_num,HW6.out⟩
     case measure=>simp[intOf];omega
    ·have xZ:¬(k:Int)<(m:Int):=eh;have HW:Hid (iG w wr z (mP r i) r.n):=by
      show iG _ _ _ _ _;refine HF5.out _ ?_;rw[HEq.out];have e1:(lJ (r.O i)).take k=lJ (r.O i):=aI (by have:=ak3.out;omega);rw[e1]at Y;exact Y
     clear Y
     go_wp2
     first|go_end0|refine iM rfl rfl ?_
     exact⟨rfl,HW.out⟩
theorem pV {l:List UInt8} {own:Int} {os:List jH} (h:iu l=(own,seq,os,0)):oD own seq os=0:=by
 unfold iu at h;split at h
 ·simp at h
 ·split at h
  ·rename_i Z
   simp only[fe,and_true]at h;obtain⟨rfl,rfl,rfl⟩:=h;exact Z
  ·simp at h
theorem N9(z:Zt)(r:iO)(i:Nat)(own seq:Int)(a:Option dX)(n cap:Nat)(es:List jH)(w:dY)(h:mC w z r)(hi:i<r.n)(X:jg w a n es)(hf:oD own seq es=0):
 eZ e7 191 #[π (μ ⟨z.Bb,0,ν⟩),ι κ (i:Int),.agg #[ι κ own,ι κ seq,σ a n cap]] w λe w'=>e=ρ η/\iG w w' z {r with O:=λx=>if x=i/\0<=newF r.K own seq es then yI (r.O i) own else r.O x} r.n:=by
 refine(NQ z.Bb z.fm 6 r.K r.O i own seq a n cap es w h.bs (sC (by have:=(jw hf).1;omega)) (by rw[h.bl];exact hi) X hf (λ_=>D3 _ _ _ _)).mono ?_;rintro e w1 ⟨rfl,Z,Y⟩;exact⟨rfl,h.base Z Y⟩
def kF(r:iO)(i:Nat)(l:List UInt8):iO:=
 let q:=St.iu l
 if q.2.2.2=0 then {r with O:=λx=>if x=i/\0<=newF r.K q.1 q.2.1 q.2.2.1 then yI (r.O i) q.1 else r.O x}else r
theorem GG(s:ByteArray)(z:Zt)(r:iO)(i:Nat)(w:dY)(h:mC w z r)(hi:i<r.n)(hs:s.size<=1000):
 eZ e7 136 #[π (μ ⟨z.R,0,ν⟩),ι κ (i:Int),.string s] w λe w'=>e=ρ (τ #[])/\iG w w' z (kF r i s.data.toList) r.n:=by
 have hp:=EL s w (by unfold maxLen;omega);have J:Hid _:=h;clear h
 go_in
 go_wp2_with(fail);refine hp.mono ?_;rintro e w1 ⟨a,n,cap,f,own,seq,os,rfl,D,G,U,b1,kr⟩;clear hp;by_cases hf:f=0
 ·subst hf;have e0:jk 0=η:=rfl;rw[e0];have kj:=pV U;have V:kF r i s.data.toList={r with O:=λx=>if x=i/\0<=newF r.K own seq os then yI (r.O i) own else r.O x}:=by
   unfold kF;rw[U];rfl
  have ba:=gY w1 (γ #[ι κ own,ι κ seq,σ a n cap] 40);have hA:=λj=>aq w1 #[ι κ own,ι κ seq,σ a n cap] 40 (0,0) j;have b2:=gu b1 (gu ba (jb _));have Q:=J.out.below b2;have hh:=N9 z r i own seq a n cap os _ Q hi (D.below (gu ba (jb _))) kj;have Y:eZ e7 191 #[π (μ ⟨z.Bb,0,ν⟩),ι κ (i:Int),.agg #[ι κ own,ι κ seq,σ a n cap]] (w1.alloc (γ #[ι κ own,ι κ seq,σ a n cap] 40)).drew λe w'=>e=ρ η/\iG w w' z (kF r i s.data.toList) r.n:=by
   refine hh.mono ?_;rintro e w3 ⟨rfl,hw⟩;exact⟨rfl,by rw[V];exact iG.first J.out rfl b2 (λ_=>hw)⟩
  have c2:=Q.c2;have cl:=Q.lt;obtain⟨M,X⟩:=gq (w1.alloc (γ #[ι κ own,ι κ seq,σ a n cap] 40));obtain⟨Z,S⟩:=gq (w1.heap.size);rw[X]at Y c2 cl;have d0:M.drew.cell? ⟨Z,0,ν⟩=μ (ι κ own):=by rw[<-X,<-S];exact hA 0
  have d1:M.drew.cell? ⟨Z,1,ν⟩=μ (ι κ seq):=by rw[<-X,<-S];exact hA 1
  have d2:M.drew.cell? ⟨Z,2,ν⟩=μ (σ a n cap):=by rw[<-X,<-S];exact hA 2
  have zl:Z<M.drew.heap.size:=ag _ _ d0;obtain⟨T,A⟩:∃T:dY->Prop,(λx=>iG w x z (kF r i s.data.toList) r.n)=T:=⟨_,rfl⟩
  have H:∀x,iG w x z (kF r i s.data.toList) r.n=T x:=λx=>ch A x;simp only[H]at Y;have HT:Hid _:=H;clear hh hA ba b2 Q D U kj V G kr b1 A H;go_wp2_with(fail)
  try rw[X]
  try rw[S]
  clear X S
  go_region_with(go_at_call 191;refine Y.mono ?_;rintro e w3 ⟨rfl,hW⟩)
  all_goals
   clear Y
   go_wp2
   first|go_end0|refine iM rfl rfl ?_
   exact⟨rfl,by rw[HT.out];exact hW⟩
 ·have ee:jk f=.iface 128 (ι κ (f:Int)):=by simp only[jk];rw[af hf]
  rw[ee];have V:kF r i s.data.toList=r:=by
   unfold kF;rw[U];simp only;rw[af hf]
  have HW:Hid (iG w (w1.alloc (γ #[ι κ own,ι κ seq,σ a n cap] 40)) z (kF r i s.data.toList) r.n):=by
   show iG _ _ _ _ _;rw[V];exact iG.still J.out (gu b1 (gY _ _))
  clear U D hf ee V
  go_wp2
  first|go_end0|refine iM rfl rfl ?_
  exact⟨rfl,HW.out⟩
theorem RH(z:Zt)(r:iO)(i:Nat)(own seq:Int)(a:Option dX)(n cap:Nat)(es:List jH)(w:dY)(h:mC w z r)(hi:i<r.n)(Y:jg w a n es)(V:kN a cap)(hf:oD own seq es=0):
 eZ e7 190 #[π (μ ⟨z.Bb,0,ν⟩),ι κ (i:Int),.agg #[ι κ own,ι κ seq,σ a n cap]] w λe w'=>e=ρ (τ #[ι κ (newF r.K own seq es),η])/\iG w w' z {r with K:=lF r.K own seq es,O:=oX r.K r.O i own seq es} r.n/\jg w' a n es/\∀p v,w.cell? p=μ v->w'.cell? p=μ v:=by
 refine(Rp z.Bb z.fm 6 r.K r.O i own seq a n cap es w h.bs (sC (by have:=(jw hf).1;omega)) (by rw[h.bl];exact hi) Y V eh hf (λ_=>D3 _ _ _ _)).mono ?_;rintro e w1 ⟨rfl,X,Z⟩;exact⟨rfl,h.base X Z,Y.two Z h.bs,λp v hc=>jF.cell Z h.bs hc⟩
def jm(r:iO)(i:Nat)(l:List UInt8):iO:=
 let q:=St.iu l
 if q.2.2.2≠0 \/(r.P i).pe.both=false then r
 else if q.1=r.id/\0<newF r.K q.1 q.2.1 q.2.2.1 then r.behind q.2.1
 else
  let r2:iO:={r with K:=lF r.K q.1 q.2.1 q.2.2.1,O:=oX r.K r.O i q.1 q.2.1 q.2.2.1}
  if 0<=newF r.K q.1 q.2.1 q.2.2.1 then r2.iU i ((r2.P i).put 65 (ru q.1 q.2.1 q.2.2.1))else r2
def S3(x:dY)(Z:Nat)(own seq:Int)(v:dZ):Prop:=x.cell? ⟨Z,0,ν⟩=μ (ι κ own)/\x.cell? ⟨Z,1,ν⟩=μ (ι κ seq)/\x.cell? ⟨Z,2,ν⟩=μ v
theorem S3.below {y:dY} {Z:Nat} {own:Int} (h:S3 x Z own seq v)(hb:eE x y):S3 y Z own seq v:=by
 have Y:=ag _ _ h.1;exact⟨(aj (a:=⟨Z,0,ν⟩) (hb.block Z Y)).trans h.1,(aj (a:=⟨Z,1,ν⟩) (hb.block Z Y)).trans h.2.1,(aj (a:=⟨Z,2,ν⟩) (hb.block Z Y)).trans h.2.2⟩
theorem GH(s:ByteArray)(z:Zt)(r:iO)(i:Nat)(w:dY)(h:mC w z r)(iQ:lD r)(hi:i<r.n)(hs:s.size<=1000)(vL:(r.P i).out.length<=800000000):
 eZ e7 135 #[π (μ ⟨z.R,0,ν⟩),ι κ (i:Int),.string s] w λe w'=>e=ρ (τ #[])/\iG w w' z (jm r i s.data.toList) r.n:=by
 have hp:=EL s w (by unfold maxLen;omega);have kX:(i:Int)<(r.n:Int):=eh;have Pv:(0:Int)<=(i:Int):=eh;have HR:Hid _:=h;have Vz:Hid _:=iQ;clear h iQ
 go_in
 go_wp2_with(fail);refine hp.mono ?_;rintro e w1 ⟨a,n,cap,f,own,seq,os,rfl,ho,hle,hR,b1,kr⟩;clear hp;have ba:=gY w1 (γ #[ι κ own,ι κ seq,σ a n cap] 40);have hA:=λj=>aq w1 #[ι κ own,ι κ seq,σ a n cap] 40 (0,0) j;by_cases hf:f=0
 ·subst hf;have e0:jk 0=η:=rfl;rw[e0];cases hb:(r.P i).pe.both with
  |false=>
   have hE:jm r i s.data.toList=r:=by
    unfold jm;rw[hR];simp only;rw[ai (.inr hb)]
   have S:=HR.out.below (gu b1 ba);have HW:Hid (iG w (w1.alloc (γ #[ι κ own,ι κ seq,σ a n cap] 40)) z (jm r i s.data.toList) r.n):=by
    show iG _ _ _ _ _;rw[hE];exact iG.still HR.out (gu b1 ba)
   have c1:=S.c1;have cl:=S.lt;have gl:=S.Kd;have g1:=(S.pt i hi).c68;rw[hb]at g1;clear hR ho hE S hA ba
   go_wp2
   first|go_end0|refine iM rfl rfl ?_
   exact⟨rfl,HW.out⟩
  |true=>
   have kj:=pV hR;have b2:=gu b1 ba;obtain⟨U,ny⟩:=gq (w1.alloc (γ #[ι κ own,ι κ seq,σ a n cap] 40));obtain⟨Z,hZ⟩:=gq (w1.heap.size);have YP:=ho.below ba;rw[ny]at b2 YP;have S2:S3 U Z own seq (σ a n cap):=by rw[<-ny,<-hZ];exact⟨hA 0,hA 1,hA 2⟩
   have hZw:w.heap.size<=Z:=by rw[<-hZ];exact b1.size
   have S:=HR.out.below b2;have c1:=S.c1;have cl:=S.lt;have gl:=S.Kd;have g1:=(S.pt i hi).c68;rw[hb]at g1;have Lr:=sC (k:=r.id) (by have:=Vz.out.id;omega);have Oa:∀W,eE U W->eZ e7 177 #[π (μ ⟨z.Bb,0,ν⟩),ι κ r.id] W λe w'=>∃b V,e=ρ (τ #[.agg #[ι κ (ya r.K r.id),ι κ (qD r.K r.id),σ b (mY r.K r.id).length V],.bool (r.K r.id).isSome])/\jg w' b (mY r.K r.id).length (mY r.K r.id)/\eE W w'/\(w'.cell? ⟨z.R,0,ν⟩=μ (ι κ r.id)/\w'.cell? ⟨z.R,2,ν⟩=μ (π (μ ⟨z.Bb,0,ν⟩))):=by
    intro W D;refine(Lj z.Bb z.fm 6 r.K r.O r.id W (S.below D).bs Lr).mono ?_;rintro e w3 ⟨b,V,rfl,VE,_,_,b3⟩;have R3:=(S.below D).below b3;exact⟨b,V,rfl,VE,b3,R3.c0,R3.c2⟩
   have Vs:Hid (∀e∈mY r.K r.id,1<=e.1):=by
    obtain⟨q,hq,kj⟩:=Vz.out.own;have:=qb r.id q.2 0 (jw kj).2.2.2;unfold mY;rw[hq];exact λe he=>(this e he).1.1
   have hn6:n<=6:=by have:=(jw kj).2.2.1;rw[ho.1]at this;exact this
   have tq:Hid (∀W b V,jg W a n os->jg W b (mY r.K r.id).length (mY r.K r.id)->eZ e7 189 #[.agg #[ι κ own,ι κ seq,σ a n cap],.agg #[ι κ (ya r.K r.id),ι κ (qD r.K r.id),σ b (mY r.K r.id).length V]] W λe w'=>e=ρ (ι κ (l5 seq os (qD r.K r.id) (mY r.K r.id)))/\eE W w'):=λW b V h1 h2=>Hf own seq _ _ a b n _ cap V os _ W h1 h2 eh;have A:Hid (own=r.id->newF r.K own seq os=l5 seq os (qD r.K r.id) (mY r.K r.id)):=by
    intro e;obtain⟨q,hq,_⟩:=Vz.out.own;unfold newF qD mY;rw[e,hq];rfl
   have hsq:(1<=own/\own<=6)/\(1<=seq/\seq<=1000000):=⟨(jw kj).1,(jw kj).2.1⟩
   have Jx:Hid (own=r.id->0<newF r.K own seq os->∀W,eE U W->eZ e7 180 #[π (μ ⟨z.R,0,ν⟩),ι κ seq] W λe w'=>e=ρ (τ #[])/\iG w w' z (jm r i s.data.toList) r.n):=by
    intro e1 e2 W D;have hE:jm r i s.data.toList=r.behind seq:=by
     unfold jm;rw[hR];simp only;rw[af (by simp[hb]),ai ⟨e1,e2⟩]
    refine(EN z r seq W (S.below D) Vz.out eh).mono ?_;rintro e w5 ⟨rfl,MJ⟩;exact⟨rfl,by rw[hE];exact iG.first HR.out rfl (gu b2 D) (λ_=>MJ)⟩
   obtain⟨M,sM⟩:∃M:iO,({r with K:=lF r.K own seq os,O:=oX r.K r.O i own seq os}:iO)=M:=⟨_,rfl⟩
   obtain⟨nf,hnf⟩:=gq (newF r.K own seq os);have zj:Hid (∀W,eE U W->jg W a n os->eZ e7 190 #[π (μ ⟨z.Bb,0,ν⟩),ι κ (i:Int),.agg #[ι κ own,ι κ seq,σ a n cap]] W λe w'=>e=ρ (τ #[ι κ nf,η])/\iG w w' z M r.n/\jg w' a n os/\∀p v,W.cell? p=μ v->w'.cell? p=μ v):=by
    intro W D hoW;refine(RH z r i own seq a n cap os W (S.below D) hi hoW kr kj).mono ?_;rintro e w5 ⟨rfl,MJ,XI,hc5⟩;rw[sM]at MJ;rw[hnf];exact⟨rfl,iG.first HR.out rfl (gu b2 D) (λ_=>MJ),XI,hc5⟩
   have hP3:M.P=r.P:=by rw[<-sM]
   have ye:M.n=r.n:=by rw[<-sM]
   have oq:Hid (¬(own=r.id/\0<nf)->0<=nf->∀W,iG w W z M r.n->jg W a n os->eZ e7 152 #[π (μ ⟨z.g,i*71,ν⟩),.string ⟨#[65]⟩,.agg #[ι κ own,ι κ seq,σ a n cap]] W λe w'=>e=ρ (τ #[])/\iG w w' z (jm r i s.data.toList) r.n):=by
    intro e1 e2 W D hoW;have hE:jm r i s.data.toList=M.iU i ((M.P i).put 65 (ru own seq os)):=by
     unfold jm;rw[hR];simp only;rw[af (by simp[hb]),hnf,af e1,ai e2,sM,hP3]
    rw[hE];refine D.call (r':=M.iU i ((M.P i).put 65 (ru own seq os))) λz1 R1 hl=> ?_;rw[<-hl.g];have hi3:i<M.n:=by rw[ye];exact hi
    refine(yc ⟨#[65]⟩ 65 own seq a n cap os z1.g (i*71) (z1.B i) (z1.v i) (M.P i) W (R1.pt i hi3) rfl hoW kj (by rw[hP3];exact vL)).mono ?_;rintro e X ⟨rfl,ML⟩;have:=R1.port hi3 ML;rw[ye]at this;exact⟨rfl,this⟩
   have ub:Hid (¬(own=r.id/\0<nf)->¬0<=nf->∀W,iG w W z M r.n->iG w W z (jm r i s.data.toList) r.n):=by
    intro e1 e2 W D;have hE:jm r i s.data.toList=M:=by
     unfold jm;rw[hR];simp only;rw[af (by simp[hb]),hnf,af e1,af e2,sM]
    rw[hE];exact D
   rw[hnf]at Jx A;obtain⟨T,hT⟩:∃T:dY->Prop,(λx=>iG w x z (jm r i s.data.toList) r.n)=T:=⟨_,rfl⟩
   have Lv:∀x,iG w x z (jm r i s.data.toList) r.n=T x:=λx=>ch hT x;simp only[Lv]at Jx oq ub;have HT:Hid _:=Lv;obtain⟨T3,hT3⟩:∃T:dY->Prop,(λx=>iG w x z M r.n)=T:=⟨_,rfl⟩
   have YZ:∀x,iG w x z M r.n=T3 x:=λx=>ch hT3 x;have HR3:Hid (∀x,T3 x->x.cell? ⟨z.R,1,ν⟩=μ (σ (μ ⟨z.g,0,ν⟩) r.n z.cap)):=λx hx=>by
    rw[<-YZ]at hx;have:=hx.c1;rw[ye]at this;exact this
   simp only[YZ]at zj oq ub;have af9:Hid (∀x,T3 x->T3 x.drew):=λx hx=>by
    rw[<-YZ]at hx⊢;exact hx.below ye (jb x)
   have HR0:Hid (∀W,eE U W->W.cell? ⟨z.R,0,ν⟩=μ (ι κ r.id)/\W.cell? ⟨z.R,2,ν⟩=μ (π (μ ⟨z.Bb,0,ν⟩))):=λW D=>⟨(S.below D).c0,(S.below D).c2⟩
   clear hT Lv hT3 YZ S hR Lr HR Vz b1 ba hA ho vL hP3 ye sM hnf kj;go_wp2_with(fail)
   try rw[ny]
   try rw[hZ]
   clear ny hZ;generalize ya r.K r.id=ow at Oa tq;generalize qD r.K r.id=sq at Oa tq A;generalize mY r.K r.id=es at Oa tq A Vs;generalize (r.K r.id).isSome=okb at Oa
   go_cut [8] (λv wx=>∃(Y:Nat) (b:Option dX) (V:Nat),v=π (μ ⟨Y,0,ν⟩)/\S3 wx Y ow sq (σ b es.length V)/\jg wx b es.length es/\eE U wx)
   case first=>
    have F0:=HR0.out _ (jb U);have F0:U.drew.cell? ⟨z.R,0,ν⟩=μ (ι κ r.id)/\U.drew.cell? ⟨z.R,2,ν⟩=μ (π (μ ⟨z.Bb,0,ν⟩)):=F0;have ba:eE U (U.alloc (γ #[ι κ 0,ι κ 0,σ ν 0 0] 40)).drew:=jG (gY U _);have ye:iZ (U.alloc (γ #[ι κ 0,ι κ 0,σ ν 0 0] 40)).drew U.heap.size #[ι κ 0,ι κ 0,σ ν 0 0] 40:=(iZ.new U _ _).drew;have jx:z.R≠U.heap.size:=eh;clear tq A Jx zj oq ub HR3 c1 g1 gl S2 YP
    go_region_held3(λx=>x.cell? ⟨z.R,0,ν⟩=μ (ι κ r.id)/\x.cell? ⟨z.R,2,ν⟩=μ (π (μ ⟨z.Bb,0,ν⟩)))
     (first|assumption|exact F0|exact F1|exact oG F1|exact oG F0|exact ve F1 jx jx)
     (first
      |(go_at_call 177;refine(Oa _ (by first|exact jb U|exact ba)).mono ?_;rintro e w3 ⟨b,V,rfl,VE,b3,F1⟩;first|(have mT:=ye.below b3;have y0:=mT.cell 0;have y1:=mT.cell 1;have y2:=mT.cell 2;have z0:=mT.frozen 0;have z1:=mT.frozen 1;have z2:=mT.frozen 2)|skip))
    all_goals
     go_wp2_with(fail)
     go_meet
     first
      |exact⟨_,b,V,rfl,⟨aq w3 _ _ (0,0) 0,aq w3 _ _ (0,0) 1,aq w3 _ _ (0,0) 2⟩,VE.below (gY _ _),gu (gu (jb U) b3) (gY _ _)⟩
      |(have h5:=Jt (a:=.int .i64 ow) (b:=.int .i64 sq) (c:=.slice b es.length V) mT rfl (Nat.le_refl _) (gu ba b3)
        have h6:=((mT.set 0 (ι κ ow)).set 1 (ι κ sq)).set 2 (σ b es.length V);exact⟨_,b,V,rfl,⟨h6.cell 0,h5.1,h5.2.1⟩,jg.not_zero VE mT Vs.out h5.2.2.2,h5.2.2.1⟩)
   case rest=>
    obtain⟨Y,b,V,rfl,SY,VE,qL⟩:=hcut;have SZ:=S2.below qL;have hoa:=YP.below qL;have hR0:=HR0.out _ qL;have zl:=ag _ _ SZ.1;have yl:=ag _ _ SY.1;have rl:=ag _ _ hR0.1;cases q1:(own==r.id)with
    |false=>
     have lh:¬(own=r.id/\0<nf):=λe=>by simp[e.1]at q1
     obtain⟨d0,d1,d2⟩:=SZ;have d3:=hR0.1;clear tq A Oa
     go_wp2
     go_quiet(fail)
     have b5:=below_drewN qL nq;obtain⟨Q,MJ⟩:=gq (wc.drewN nq);rw[MJ]at b5;rw[MJ];clear MJ d0 d1 d2 d3 hR0 hoa VE SY qL zl yl rl;have SZ5:=S2.below b5;have XI:=YP.below b5;have R5:=HR0.out _ (gu b5 (jb Q));have ht5:=zj.out _ (gu b5 (jb Q)) (XI.below (jb Q));have J:Q.drew.cell? ⟨z.R,2,ν⟩=μ (π (μ ⟨z.Bb,0,ν⟩))/\Q.drew.cell? ⟨Z,0,ν⟩=μ (ι κ own)/\Q.drew.cell? ⟨Z,1,ν⟩=μ (ι κ seq)/\Q.drew.cell? ⟨Z,2,ν⟩=μ (σ a n cap):=⟨R5.2,SZ5⟩
     have H:eZ e7 190 #[π (μ ⟨z.Bb,0,ν⟩),ι κ (i:Int),.agg #[ι κ own,ι κ seq,σ a n cap]] Q.drew λe w'=>e=ρ (τ #[ι κ nf,η])/\T3 w'/\jg w' a n os/\(w'.cell? ⟨z.R,2,ν⟩=μ (π (μ ⟨z.Bb,0,ν⟩))/\w'.cell? ⟨Z,0,ν⟩=μ (ι κ own)/\w'.cell? ⟨Z,1,ν⟩=μ (ι κ seq)/\w'.cell? ⟨Z,2,ν⟩=μ (σ a n cap)):=by
      refine ht5.mono ?_;rintro e X ⟨rfl,h1,h2,h3⟩;exact⟨rfl,h1,h2,h3 _ _ J.1,h3 _ _ J.2.1,h3 _ _ J.2.2.1,h3 _ _ J.2.2.2⟩
     clear ht5 zj R5 SZ5 XI
     go_wp2
     go_region_held3(λx=>x.cell? ⟨z.R,2,ν⟩=μ (π (μ ⟨z.Bb,0,ν⟩))/\x.cell? ⟨Z,0,ν⟩=μ (ι κ own)/\x.cell? ⟨Z,1,ν⟩=μ (ι κ seq)/\x.cell? ⟨Z,2,ν⟩=μ (σ a n cap))
      (first|assumption|exact J|exact F6)
      (first
       |(go_at_call 190;refine H.mono ?_;rintro e X ⟨rfl,G,ho6,F6⟩))
     all_goals
      have m1:=HR3.out _ G;by_cases Ve:0<=nf
      ·have hp7:=oq.out lh Ve;have F7:X.drew.cell? ⟨z.R,1,ν⟩=μ (σ (μ ⟨z.g,0,ν⟩) r.n z.cap)/\X.drew.cell? ⟨Z,0,ν⟩=μ (ι κ own)/\X.drew.cell? ⟨Z,1,ν⟩=μ (ι κ seq)/\X.drew.cell? ⟨Z,2,ν⟩=μ (σ a n cap):=⟨m1,F6.2⟩
       have hp8:=hp7 X.drew (af9.out _ G) (ho6.below (jb X));have m1':X.drew.cell? ⟨z.R,1,ν⟩=μ (σ (μ ⟨z.g,0,ν⟩) r.n z.cap):=F7.1;have m2:X.drew.cell? ⟨Z,0,ν⟩=μ (ι κ own):=F7.2.1;have m3:X.drew.cell? ⟨Z,1,ν⟩=μ (ι κ seq):=F7.2.2.1;have m4:X.drew.cell? ⟨Z,2,ν⟩=μ (σ a n cap):=F7.2.2.2;have m5:=ag _ _ m1';have m6:=ag _ _ m2;clear H oq ub hp7 J F6 F7 Jx
       go_wp2
       go_region_with(go_at_call 152;refine hp8.mono ?_;rintro e w8 ⟨rfl,Y0⟩)
       all_goals
        clear hp8
        go_wp2
        first|go_end0|refine iM rfl rfl ?_
        exact⟨rfl,by rw[HT.out];exact Y0⟩
      ·have Y0:=ub.out lh eh _ G;clear H oq ub J F6 Jx
       go_wp2
       first|go_end0|refine iM rfl rfl ?_
       exact⟨rfl,by rw[HT.out];exact Y0⟩
    |true=>
     have HID:Hid (own=r.id):=by show own=r.id;simpa using q1
     have hns:=A.out HID.out;obtain⟨d0,d1,d2⟩:=SZ;obtain⟨y0,y1,y2⟩:=SY;have F0:wc.drew.cell? ⟨z.R,0,ν⟩=μ (ι κ r.id)/\wc.drew.cell? ⟨Z,0,ν⟩=μ (ι κ own)/\wc.drew.cell? ⟨Z,1,ν⟩=μ (ι κ seq)/\wc.drew.cell? ⟨Z,2,ν⟩=μ (σ a n cap)/\wc.drew.cell? ⟨Y,0,ν⟩=μ (ι κ ow)/\wc.drew.cell? ⟨Y,1,ν⟩=μ (ι κ sq)/\wc.drew.cell? ⟨Y,2,ν⟩=μ (σ b es.length V):=⟨hR0.1,d0,d1,d2,y0,y1,y2⟩
     have qB:=tq.out wc.drew b V (hoa.below (jb wc)) (VE.below (jb wc));rw[<-hns]at qB;clear hns;have mU:eZ e7 189 #[.agg #[ι κ own,ι κ seq,σ a n cap],.agg #[ι κ ow,ι κ sq,σ b es.length V]] wc.drew λe w'=>e=ρ (ι κ nf)/\eE U w'/\(w'.cell? ⟨z.R,0,ν⟩=μ (ι κ r.id)/\w'.cell? ⟨Z,0,ν⟩=μ (ι κ own)/\w'.cell? ⟨Z,1,ν⟩=μ (ι κ seq)/\w'.cell? ⟨Z,2,ν⟩=μ (σ a n cap)/\w'.cell? ⟨Y,0,ν⟩=μ (ι κ ow)/\w'.cell? ⟨Y,1,ν⟩=μ (ι κ sq)/\w'.cell? ⟨Y,2,ν⟩=μ (σ b es.length V)):=by
      refine qB.mono ?_;rintro e w5 ⟨rfl,b5⟩;have bb:=gu qL (gu (jb wc) b5);have SY5:=S3.below (x:=wc.drew) ⟨y0,y1,y2⟩ b5;exact⟨rfl,bb,(HR0.out _ bb).1,(S2.below bb).1,(S2.below bb).2.1,(S2.below bb).2.2,SY5.1,SY5.2.1,SY5.2.2⟩
     clear tq A Oa qB d0 d1 d2 y0 y1 y2 hR0 hoa VE
     go_wp2
     go_region_held3(λx=>x.cell? ⟨z.R,0,ν⟩=μ (ι κ r.id)/\x.cell? ⟨Z,0,ν⟩=μ (ι κ own)/\x.cell? ⟨Z,1,ν⟩=μ (ι κ seq)/\x.cell? ⟨Z,2,ν⟩=μ (σ a n cap)/\x.cell? ⟨Y,0,ν⟩=μ (ι κ ow)/\x.cell? ⟨Y,1,ν⟩=μ (ι κ sq)/\x.cell? ⟨Y,2,ν⟩=μ (σ b es.length V))
      (first|assumption|exact F0|exact F1)
      (first
       |(go_at_call 189;refine mU.mono ?_;rintro e Q ⟨rfl,b5,F1⟩))
     all_goals
      by_cases h0:0<nf
      ·have YT:=Jx.out HID.out h0 _ b5;have m3:=F1.2.2.1;have m6:=ag _ _ m3;clear mU zj oq ub F0 F1 Jx;go_wp2_with(fail);refine YT.mono ?_;rintro e w8 ⟨rfl,Y0⟩;clear YT
       go_wp2
       first|go_end0|refine iM rfl rfl ?_
       exact⟨rfl,by rw[HT.out];exact Y0⟩
      ·have lh:¬(own=r.id/\0<nf):=λe=>h0 e.2;clear mU F0 F1 qL zl yl rl;have SZ5:=S2.below b5;have XI:=YP.below b5;have R5:=HR0.out _ (gu b5 (jb Q));have ht5:=zj.out _ (gu b5 (jb Q)) (XI.below (jb Q));have J:Q.drew.cell? ⟨z.R,2,ν⟩=μ (π (μ ⟨z.Bb,0,ν⟩))/\Q.drew.cell? ⟨Z,0,ν⟩=μ (ι κ own)/\Q.drew.cell? ⟨Z,1,ν⟩=μ (ι κ seq)/\Q.drew.cell? ⟨Z,2,ν⟩=μ (σ a n cap):=⟨R5.2,SZ5⟩
       have H:eZ e7 190 #[π (μ ⟨z.Bb,0,ν⟩),ι κ (i:Int),.agg #[ι κ own,ι κ seq,σ a n cap]] Q.drew λe w'=>e=ρ (τ #[ι κ nf,η])/\T3 w'/\jg w' a n os/\(w'.cell? ⟨z.R,2,ν⟩=μ (π (μ ⟨z.Bb,0,ν⟩))/\w'.cell? ⟨Z,0,ν⟩=μ (ι κ own)/\w'.cell? ⟨Z,1,ν⟩=μ (ι κ seq)/\w'.cell? ⟨Z,2,ν⟩=μ (σ a n cap)):=by
        refine ht5.mono ?_;rintro e X ⟨rfl,h1,h2,h3⟩;exact⟨rfl,h1,h2,h3 _ _ J.1,h3 _ _ J.2.1,h3 _ _ J.2.2.1,h3 _ _ J.2.2.2⟩
       clear ht5 zj R5 SZ5 XI
       go_wp2
       go_region_held3(λx=>x.cell? ⟨z.R,2,ν⟩=μ (π (μ ⟨z.Bb,0,ν⟩))/\x.cell? ⟨Z,0,ν⟩=μ (ι κ own)/\x.cell? ⟨Z,1,ν⟩=μ (ι κ seq)/\x.cell? ⟨Z,2,ν⟩=μ (σ a n cap))
        (first|assumption|exact J|exact F6)
        (first
         |(go_at_call 190;refine H.mono ?_;rintro e X ⟨rfl,G,ho6,F6⟩))
       all_goals
        have m1:=HR3.out _ G;by_cases Ve:0<=nf
        ·have hp7:=oq.out lh Ve;have F7:X.drew.cell? ⟨z.R,1,ν⟩=μ (σ (μ ⟨z.g,0,ν⟩) r.n z.cap)/\X.drew.cell? ⟨Z,0,ν⟩=μ (ι κ own)/\X.drew.cell? ⟨Z,1,ν⟩=μ (ι κ seq)/\X.drew.cell? ⟨Z,2,ν⟩=μ (σ a n cap):=⟨m1,F6.2⟩
         have hp8:=hp7 X.drew (af9.out _ G) (ho6.below (jb X));have m1':X.drew.cell? ⟨z.R,1,ν⟩=μ (σ (μ ⟨z.g,0,ν⟩) r.n z.cap):=F7.1;have m2:X.drew.cell? ⟨Z,0,ν⟩=μ (ι κ own):=F7.2.1;have m3:X.drew.cell? ⟨Z,1,ν⟩=μ (ι κ seq):=F7.2.2.1;have m4:X.drew.cell? ⟨Z,2,ν⟩=μ (σ a n cap):=F7.2.2.2;have m5:=ag _ _ m1';have m6:=ag _ _ m2;clear H oq ub hp7 J F6 F7 Jx
         go_wp2
         go_region_with(go_at_call 152;refine hp8.mono ?_;rintro e w8 ⟨rfl,Y0⟩)
         all_goals
          clear hp8
          go_wp2
          first|go_end0|refine iM rfl rfl ?_
          exact⟨rfl,by rw[HT.out];exact Y0⟩
        ·have Y0:=ub.out lh eh _ G;clear H oq ub J F6 Jx
         go_wp2
         first|go_end0|refine iM rfl rfl ?_
         exact⟨rfl,by rw[HT.out];exact Y0⟩
 ·have ee:jk f=.iface 128 (ι κ (f:Int)):=by simp only[jk];rw[af hf]
  rw[ee];have hE:jm r i s.data.toList=r:=by
   unfold jm;rw[hR];simp only;rw[ai (.inl hf)]
  have HW:Hid (iG w (w1.alloc (γ #[ι κ own,ι κ seq,σ a n cap] 40)) z (jm r i s.data.toList) r.n):=by
   show iG _ _ _ _ _;rw[hE];exact iG.still HR.out (gu b1 ba)
  clear hR ho hf ee hE
  go_wp2
  first|go_end0|refine iM rfl rfl ?_
  exact⟨rfl,HW.out⟩
theorem RI(a c me f s:Int)(b:Bool)(w:dY):eZ e7 187 #[.agg #[ι κ a,.bool b,ι κ c],ι κ me,.agg #[ι κ f,ι κ s]] w λe w'=>
 e=ρ (.agg #[.int .i64 (ji me f s).who,.bool (ji me f s).both,.int .i64 (ji me f s).left])/\eE w w':=by
 have h:=UF a c me f s b w;have e:zA me f s=((ji me f s).who,(ji me f s).both,(ji me f s).left):=by
  unfold zA ji;split
  ·rfl
  ·simp only[fe,true_and,and_true];by_cases h:s=me
   ·simp[h]
   ·simp[h]
 rw[e]at h;exact h
theorem GJ(s:ByteArray)(z:Zt)(r:iO)(i:Nat)(w:dY)(h:mC w z r)(iQ:lD r)(hi:i<r.n):
 eZ e7 134 #[π (μ ⟨z.R,0,ν⟩),ι κ (i:Int),.string s] w λe w'=>e=ρ (τ #[])/\iG w w' z (if(kI s.data.toList).2.2=0 then r.meet i (ji r.id (kI s.data.toList).1 (kI s.data.toList).2.1)else r) r.n:=by
 have V:=Nu s w;have kX:(i:Int)<(r.n:Int):=eh;have Pv:(0:Int)<=(i:Int):=eh;by_cases D:(kI s.data.toList).2.2=0
 ·rw[ai D];rw[D]at V;have hf:1<=(kI s.data.toList).1/\(kI s.data.toList).1<=6:=by
   unfold kI at D⊢;split at D
   ·rename_i hc
    rw[ai hc];have:=hc.2;simp only[uu,Bool.and_eq_true,decide_eq_true_eq]at this;simp only;omega
   ·simp at D
  have e0:jk 0=η:=rfl;rw[e0]at V;generalize (kI s.data.toList).1=f at V hf⊢;generalize (kI s.data.toList).2.1=g at V⊢;have M:∀W Z,eE w W->w.heap.size<=Z->(W.cell? ⟨Z,0,ν⟩=μ (.int .i64 f)/\W.cell? ⟨Z,1,ν⟩=μ (.int .i64 g))->eZ e7 74 #[π (μ ⟨z.R,0,ν⟩),.int .i64 (i:Int),.agg #[.int .i64 (ji r.id f g).who,.bool (ji r.id f g).both,.int .i64 (ji r.id f g).left]] W λe w'=>e=ρ (τ #[])/\iG w w' z (r.meet i (ji r.id f g)) r.n/\(w'.cell? ⟨Z,0,ν⟩=μ (.int .i64 f)/\w'.cell? ⟨Z,1,ν⟩=μ (.int .i64 g)/\w'.cell? ⟨z.R,0,ν⟩=μ (.int .i64 r.id)/\w'.cell? ⟨z.R,1,ν⟩=μ (σ (μ ⟨z.g,0,ν⟩) r.n z.cap)):=by
   intro W Z hW hZ hc;have R:=h.below hW;refine(wJ z r i (ji r.id f g) W R iQ hi (ot.YQ iQ.id.1 hf)).mono ?_;rintro e w' ⟨rfl,hw⟩;have O9:¬z.mine r.n Z:=h.uD hZ;have k0:=hw.c0;have k1:=hw.c1;rw[Dy]at k0;rw[Bj]at k1;exact⟨rfl,iG.first h rfl hW (λ_=>hw),hw.cell R (p:=⟨Z,0,ν⟩) O9 hc.1,hw.cell R (p:=⟨Z,1,ν⟩) O9 hc.2,k0,k1⟩
  have J:Hid (∀W,eE w W->W.cell? ⟨z.R,0,ν⟩=μ (.int .i64 r.id)/\W.cell? ⟨z.R,1,ν⟩=μ (σ (μ ⟨z.g,0,ν⟩) r.n z.cap)/\W.cell? ⟨z.g,i*71+67,ν⟩=μ (.int .i64 (r.P i).pe.who)/\W.cell? ⟨z.g,i*71+67+1,ν⟩=μ (.bool (r.P i).pe.both)/\W.cell? ⟨z.g,i*71+67+2,ν⟩=μ (.int .i64 (r.P i).pe.left)):=by
   intro W hW;have R:=h.below hW;exact⟨R.c0,R.c1,(R.pt i hi).c67,(R.pt i hi).c68,(R.pt i hi).c69⟩
  obtain⟨T,hT⟩:∃T:dY->Prop,(λx=>iG w x z (r.meet i (ji r.id f g)) r.n)=T:=⟨_,rfl⟩
  have Lv:∀x,iG w x z (r.meet i (ji r.id f g)) r.n=T x:=λx=>ch hT x;simp only[Lv]at M⊢;have H:=RI (r.P i).pe.who (r.P i).pe.left r.id f g (r.P i).pe.both;generalize (ji r.id f g).who=q1 at M H;generalize (ji r.id f g).both=q2 at M H;generalize (ji r.id f g).left=q3 at M H;generalize (r.P i).pe.who=p1 at J H;generalize (r.P i).pe.both=p2 at J H;generalize (r.P i).pe.left=p3 at J H;generalize r.id=id at J H M;have hRl:=h.lt;have KF:=h.Kd;generalize z.R=RR at M J hRl⊢;generalize z.g=G at J KF M;generalize z.cap=cp at J M;generalize r.n=n at J kX M;clear h iQ hT Lv D hf
  go_in
  go_wp2_with(fail);refine V.mono ?_;rintro e w1 ⟨rfl,b1⟩;have ba:=gY w1 (γ #[ι κ f,ι κ g] 230);have hA:=λj=>aq w1 #[ι κ f,ι κ g] 230 (0,0) j;have b2:=gu b1 ba;obtain⟨Q,ny⟩:=gq (w1.alloc (γ #[ι κ f,ι κ g] 230));obtain⟨Z,hZ⟩:=gq (w1.heap.size);rw[ny]at b2;have z0:Q.cell? ⟨Z,0,ν⟩=μ (ι κ f):=by rw[<-ny,<-hZ];exact hA 0
  have z1:Q.cell? ⟨Z,1,ν⟩=μ (ι κ g):=by rw[<-ny,<-hZ];exact hA 1
  have b3:=gu b2 (jb Q);have U:=J.out _ b3;have F0:Q.drew.cell? ⟨Z,0,ν⟩=μ (ι κ f)/\Q.drew.cell? ⟨Z,1,ν⟩=μ (ι κ g)/\Q.drew.cell? ⟨RR,0,ν⟩=μ (ι κ id)/\Q.drew.cell? ⟨RR,1,ν⟩=μ (σ (μ ⟨G,0,ν⟩) n cp):=⟨z0,z1,U.1,U.2.1⟩
  have m1:=U.2.2.1;have m2:=U.2.2.2.1;have m3:=U.2.2.2.2;have zl:Z<Q.drew.heap.size:=ag _ _ F0.1;have hZw:w.heap.size<=Z:=by rw[<-hZ];exact b1.size
  have gl2:G<Q.drew.heap.size:=ag _ _ m1;have hh:eZ e7 187 #[.agg #[ι κ p1,.bool p2,ι κ p3],ι κ id,.agg #[ι κ f,ι κ g]] Q.drew λe w'=>e=ρ (.agg #[ι κ q1,.bool q2,ι κ q3])/\eE w w'/\(w'.cell? ⟨Z,0,ν⟩=μ (ι κ f)/\w'.cell? ⟨Z,1,ν⟩=μ (ι κ g)/\w'.cell? ⟨RR,0,ν⟩=μ (ι κ id)/\w'.cell? ⟨RR,1,ν⟩=μ (σ (μ ⟨G,0,ν⟩) n cp)):=by
   refine(H Q.drew).mono ?_;rintro e w' ⟨rfl,b4⟩;have F4:=J.out _ (gu b3 b4);exact⟨rfl,gu b3 b4,(aj (a:=⟨Z,0,ν⟩) (b4.block Z zl)).trans F0.1,(aj (a:=⟨Z,1,ν⟩) (b4.block Z zl)).trans F0.2.1,F4.1,F4.2.1⟩
  clear V H hA ba b1 b2;go_wp2_with(fail)
  try rw[ny]
  try rw[hZ]
  clear ny hZ;refine cu (S:=λx=>x.cell? ⟨Z,0,ν⟩=μ (ι κ f)/\x.cell? ⟨Z,1,ν⟩=μ (ι κ g)/\x.cell? ⟨RR,0,ν⟩=μ (ι κ id)/\x.cell? ⟨RR,1,ν⟩=μ (σ (μ ⟨G,0,ν⟩) n cp)) gX F0 (λlK=> ?_);refine jr 0 (μ 15) rfl rfl gX gX gX (λ_ _ _ h=>h) (by rfl) (v:= ?_) ?_ jf ?_
  rotate_left
  ·intro X Y
   (try dsimp only at Y)
   go_simp
   try with_reducible rfl
  simp only[gG,gH,gJ,gK];refine jr 1 (μ 16) rfl rfl gX gX gX (λ_ _ _ h=>h) (by rfl) (v:= ?_) ?_ jf ?_
  rotate_left
  ·intro X Y
   (try dsimp only at Y)
   go_simp
   try with_reducible rfl
  simp only[gG,gH,gJ,gK];refine jr 2 (μ 17) rfl rfl gX gX gX (λ_ _ _ h=>h) (by rfl) (v:= ?_) ?_ jf ?_
  rotate_left
  ·intro X Y
   (try dsimp only at Y)
   go_simp
   try with_reducible rfl
  simp only[gG,gH,gJ,gK];refine jr 3 (μ 18) rfl rfl gX gX gX (λ_ _ _ h=>h) (by rfl) (v:= ?_) ?_ jf ?_
  rotate_left
  ·intro X Y
   (try dsimp only at Y)
   go_simp
   try with_reducible rfl
  simp only[gG,gH,gJ,gK];refine jr 4 (μ 19) rfl rfl gX gX gX (λ_ _ _ h=>h) (by rfl) (v:= ?_) ?_ jf ?_
  rotate_left
  ·intro X Y
   (try dsimp only at Y)
   go_simp
   try with_reducible rfl
  simp only[gG,gH,gJ,gK];refine jr 5 (μ 20) rfl rfl gX gX gX (λ_ _ _ h=>h) (by rfl) (v:= ?_) ?_ jf ?_
  rotate_left
  ·intro X Y
   (try dsimp only at Y)
   go_simp
   try with_reducible rfl
  simp only[gG,gH,gJ,gK];refine jr 6 (μ 21) rfl rfl gX gX gX (λ_ _ _ h=>h) (by rfl) (v:= ?_) ?_ jf ?_
  rotate_left
  ·intro X Y
   (try dsimp only at Y)
   go_simp
   try with_reducible rfl
  simp only[gG,gH,gJ,gK];refine jr 7 (μ 22) rfl rfl gX gX gX (λ_ _ _ h=>h) (by rfl) (v:= ?_) ?_ jf ?_
  rotate_left
  ·intro X Y
   (try dsimp only at Y)
   go_simp
   try with_reducible rfl
  simp only[gG,gH,gJ,gK];refine jr 8 (μ 23) rfl rfl gX gX gX (λ_ _ _ h=>h) (by rfl) (v:= ?_) ?_ jf ?_
  rotate_left
  ·intro X Y
   (try dsimp only at Y)
   go_simp
   try with_reducible rfl
  simp only[gG,gH,gJ,gK];refine jr 10 (μ 25) rfl rfl gX gX gX (λ_ _ _ h=>h) (by rfl) (v:= ?_) ?_ jf ?_
  rotate_left
  ·intro X Y
   (try dsimp only at Y)
   go_simp
   try with_reducible rfl
  simp only[gG,gH,gJ,gK];refine jr 11 (μ 26) rfl rfl gX gX gX (λ_ _ _ h=>h) (by rfl) (v:= ?_) ?_ jf ?_
  rotate_left
  ·intro X Y
   (try dsimp only at Y)
   go_simp
   try with_reducible rfl
  simp only[gG,gH,gJ,gK];refine jr 12 (μ 27) rfl rfl gX gX gX (λ_ _ _ h=>h) (by rfl) (v:= ?_) ?_ jf ?_
  rotate_left
  ·intro X Y
   (try dsimp only at Y)
   go_simp
   try with_reducible rfl
  simp only[gG,gH,gJ,gK];refine jr 13 (μ 28) rfl rfl gX gX gX (λ_ _ _ h=>h) (by rfl) (v:= ?_) ?_ jf ?_
  rotate_left
  ·intro X Y
   (try dsimp only at Y)
   go_simp
   try with_reducible rfl
  simp only[gG,gH,gJ,gK];refine jr 14 (μ 29) rfl rfl gX gX gX (λ_ _ _ h=>h) (by rfl) (v:= ?_) ?_ jf ?_
  rotate_left
  ·intro X Y
   (try dsimp only at Y)
   go_simp
   try with_reducible rfl
  simp only[gG,gH,gJ,gK];refine aR (rs:=[9]) gX gZ ?_;refine aG (o:=_) rfl (λK A=> ?_) aN
  go_simp
  refine A.out _ _ ?_ (λlK=> ?_)
  ·exact F0
  clear A K;refine aR (rs:=[15]) gX gZ ?_;refine aG (o:=_) rfl (λK A=> ?_) aN
  go_simp
  refine hh.mono ?_;rintro e w4 ⟨rfl,b4,F1⟩
  (try go_wp2_with(fail))
  refine A.out _ _ ?_ (λlK=> ?_)
  ·exact F1
  clear A K;refine aR (rs:=[16]) gX gZ ?_;refine aG (o:=_) rfl (λK A=> ?_) aN
  go_simp
  refine(M _ Z b4 hZw ⟨F1.1,F1.2.1⟩).mono ?_;rintro e w5 ⟨rfl,hW,F2⟩
  (try go_wp2_with(fail))
  refine A.out _ _ ?_ (λlK=> ?_)
  ·exact F2
  clear A K;refine cQ gX ?_ _
  all_goals
   clear M hh F0 F1 F2 J
   go_wp2
   first|go_end0|refine iM rfl rfl ?_
   exact⟨rfl,hW⟩
 ·rw[af D];have ee:jk (kI s.data.toList).2.2=.iface 128 (ι κ ((kI s.data.toList).2.2:Int)):=by simp only[jk];rw[af D]
  rw[ee]at V;generalize (kI s.data.toList).1=f at V;generalize (kI s.data.toList).2.1=g at V;generalize (kI s.data.toList).2.2=k at V;have HR:Hid _:=h;clear h iQ ee D
  go_in
  go_wp2_with(fail);refine V.mono ?_;rintro e w1 ⟨rfl,b1⟩;have HW:Hid _:=iG.still HR.out (gu b1 (gY w1 (γ #[ι κ f,ι κ g] 230)));clear V
  go_wp2
  first|go_end0|refine iM rfl rfl ?_
  exact⟨rfl,HW.out⟩
def zS(w w':dY)(y':Yt):Nat->Prop:=λk=>w.heap.size<=k/\k<w'.heap.size/\(y'.own k \/y'.ext k)
theorem jJ.owned {y y':Yt} {n n':iP} (h:jJ w y n)(hs:w.heap.size<=w'.heap.size)(hk:∀k,k<w.heap.size->¬y.own k->¬y.ext k->w'.heap[k]? =w.heap[k]?)
 (V:y'.bM=y.bM) (U:y'.z=λj=>(y.z j).plus (zS w w' y')) (jn:∀k,y'.own k \/y'.ext k->k<w'.heap.size)
 (T:∀k,y'.own k->y.own k \/w.heap.size<=k) (G:∀k,y'.ext k->y.ext k \/w.heap.size<=k) (X:n'.n=n.n) (J:n'.ms=n.ms) (A:n'.R=n.R)
 (c9:n'.nc<=9)
 (oh:iZ w' y'.N #[σ (μ ⟨y'.gR,0,ν⟩) n'.n y'.tY,σ (μ ⟨y'.gI,0,ν⟩) n'.n y'.yO,.map (μ y'.bM),y'.cv n'.nc] 190)
 (rr:qz w' y'.gR 0 n'.n (λi=>π (μ ⟨(y.z i).R,0,ν⟩))) (ri:qz w' y'.gI 0 n'.n y'.iv) (rc:∀g,y'.gC=μ g->∀c,c<n'.nc->qz w' g (c*7) 7 (C8 (n'.C c) (y'.ov c))) (gc:∀c,c<n'.nc->∃g,y'.gC=μ g)
 (ib:∀i,i<n'.n->Row w' 3 (y'.iv i) (n'.kd i).length (rR (n'.kd i))) (ob:∀c d,c<n'.nc->d<2->Row w' 1 (y'.ov c d) ((n'.C c).on d).length (iR ((n'.C c).on d))) (ol:∀c d,c<n'.nc->d<2->((n'.C c).on d).length<=2000)
 (en:∀c d,c<n'.nc->d<2->((n'.C c).e d).1<n'.n/\((n'.C c).e d).2<3) (inj:∀l l' k,y'.at l=μ k->y'.at l'=μ k->l=l') (nx:∀k,y'.ext k->¬y'.own k):
 jJ w' y' n'/\∀k,y'.all n.n k->y.all n.n k \/w.heap.size<=k:=by
 have S:∀j k,(y'.z j).pA k↔(y.z j).pA k:=λj k=>by rw[U];exact dW
 have M:=h.H7;refine⟨⟨by rw[X];exact h.n1,by rw[X];exact h.n6,c9,oh,?_,ri,rc,gc,?_,λi hi=> ?_,λi hi=> ?_,ib,ob,ol,en,inj,λi hi k Y=> ?_,nx,⟨λe=> ?_,λe=> ?_,λi hi e=> ?_⟩,λe=> ?_⟩,λk H=> ?_⟩
 ·refine rr.congr λj _=> ?_;rw[U];rfl
 ·obtain⟨E,h1,h2⟩:=h.mp;refine⟨E,?_,by rw[X,J];exact h2⟩;rw[V];exact h1.keep (hk _ M h.nM.1 h.nM.2.1)
 ·rw[X]at hi;rw[U,A];refine(h.rt i hi).besides hs (λk H hc=>hk k H (λe=> ?_) (λe=> ?_)) _ (λk e=>⟨e.1,e.2.1⟩)
  ·have Y:=h.away i hi k (.inl e);rcases hc with hc|hc
   ·exact hc Y.1
   ·rw[(h.rn i hi).1]at hc;exact Y.2 hc
  ·have Y:=h.away i hi k (.inr (.inl e));rcases hc with hc|hc
   ·exact hc Y.1
   ·rw[(h.rn i hi).1]at hc;exact Y.2 hc
 ·rw[X]at hi;rw[A];exact h.rn i hi
 ·rw[X]at hi Y;rw[U];show((y.z i).fm.no k \/zS w w' y' k)/\¬(y.z i).mine 3 k;have D:w.heap.size<=k->¬(y.z i).mine 3 k:=λe Z=>by
   have:=h.yQ hi (.inl Z);omega
  rcases Y with e|e|⟨j,Q,jx,e⟩
  ·rcases T k e with Z|Z
   ·have Y:=h.away i hi k (.inl Z);exact⟨.inl Y.1,Y.2⟩
   ·exact⟨.inr ⟨Z,jn k (.inl e),.inl e⟩,D Z⟩
  ·rcases G k e with Z|Z
   ·have Y:=h.away i hi k (.inr (.inl Z));exact⟨.inl Y.1,Y.2⟩
   ·exact⟨.inr ⟨Z,jn k (.inr e),.inr e⟩,D Z⟩
  ·have Y:=h.away i hi k (.inr (.inr ⟨j,Q,jx,(S j k).1 e⟩));exact⟨.inl Y.1,Y.2⟩
 ·rw[V]at e;rcases T _ e with Z|Z
  ·exact h.nM.1 Z
  ·omega
 ·rw[V]at e;rcases G _ e with Z|Z
  ·exact h.nM.2.1 Z
  ·omega
 ·rw[X]at hi;rw[V]at e;exact h.nM.2.2 i hi ((S i _).1 e)
 ·rcases T 0 e with Z|Z
  ·exact h.z0 Z
  ·have:=h.H7;omega
 ·rcases H with e|⟨j,Q,e⟩
  ·exact(T k e).imp_left .inl
  ·exact .inl (.inr ⟨j,Q,(S j k).1 e⟩)
theorem jJ.vE {y:Yt} {n:iP} (h:jJ w y n) {l:Lab} (e:y.at l=μ k):k<w.heap.size:=h.lt (.inl ⟨l,e⟩)
theorem jJ.wL {y:Yt} {n:iP} (h:jJ w y n) {l l':Lab} {k':Nat} (e:y.at l=μ k)(e':y.at l'=μ k')(Z:l≠l'):k≠k':=λx=>Z (h.inj l l' k e (by rw[e',x]))
theorem jJ.PR {y:Yt} {n:iP} {c:Nat} (h:jJ w y n)(hc:c<n.nc)(D:y.gC=μ g)(X:qF)(o:Nat->dZ)(hs:w.heap.size<=w'.heap.size)(G0:w'.os=w.os)(PF:w'.tape=w.tape)(MI:w'.output=w.output)
 (hk:∀k,k<w.heap.size->k≠g->(∀d,d<2->(y.ov c d).ownBlock≠μ k)->w'.heap[k]? =w.heap[k]?)
 (hcell:∀j,j<c*7 \/c*7+7<=j->w'.cell? ⟨g,j,ν⟩=w.cell? ⟨g,j,ν⟩) (Tx:∀j,w'.frozen? ⟨g,j,ν⟩=w.frozen? ⟨g,j,ν⟩) (uV:qz w' g (c*7) 7 (C8 X o))
 (VE:∀d,d<2->Row w' 1 (o d) (X.on d).length (iR (X.on d))) (YC:∀d,d<2->(X.on d).length<=2000) (Az:X.e=(n.C c).e)
 (jq:∀d k,d<2->(o d).ownBlock=μ k->(y.ov c d).ownBlock=μ k \/w.heap.size<=k) (jx:∀k,(o 0).ownBlock=μ k->(o 1).ownBlock≠μ k):iH w w' y (n.lz c X) n.n:=by
 obtain⟨ov,A⟩:∃ov:Nat->Nat->dZ,ov=λx d=>if x=c/\d<2 then o d else y.ov x d:=⟨_,rfl⟩
 have V:∀d,d<2->ov c d=o d:=λd hd=>by rw[A];simp[hd]
 have Q:∀x d,¬(x=c/\d<2)->ov x d=y.ov x d:=λx d hx=>by rw[A];simp only[if_neg hx]
 obtain⟨M,Cn⟩:∃M:Yt,M={y with ov:=ov}:=⟨_,rfl⟩
 obtain⟨y',Y⟩:∃y':Yt,y'={y with ov:=ov,z:=λj=>(y.z j).plus (zS w w' M)}:=⟨_,rfl⟩
 have jI:∀k,y'.own k↔M.own k:=λk=>by
  rw[Y,Cn];constructor
  ·rintro⟨l,e⟩;exact⟨l,by cases l<;>exact e⟩
  ·rintro⟨l,e⟩;exact⟨l,by cases l<;>exact e⟩
 have hX:zS w w' M=zS w w' y':=by
  funext k
  apply propext;unfold zS;rw[<-jI k];have:M.ext=y'.ext:=by rw[Cn,Y]
  rw[this]
 have hat:∀l k,y'.at l=μ k->y.at l=μ k \/(w.heap.size<=k/\∃d,d<2/\l=.on c d/\(o d).ownBlock=μ k):=by
  intro l k e;rw[Y]at e;cases l with
  |N=>exact .inl e
  |R=>exact .inl e
  |I=>exact .inl e
  |C=>exact .inl e
  |ib i=>exact .inl e
  |on x d=>
   have e':(ov x d).ownBlock=μ k:=e;by_cases hx:x=c/\d<2
   ·obtain⟨rfl,hd⟩:=hx;rw[V d hd]at e';rcases jq d k hd e' with Z|Z
    ·exact .inl Z
    ·exact .inr ⟨Z,d,hd,rfl,e'⟩
   ·rw[Q x d hx]at e';exact .inl e'
 have kD:∀k,y'.own k->k<w'.heap.size:=by
  rintro k ⟨l,e⟩;rcases hat l k e with Z|⟨_,d,hd,rfl,Z⟩
  ·exact Nat.lt_of_lt_of_le (h.vE Z) hs
  ·exact(VE d hd).lt k Z
 have ku:∀l k,y.at l=μ k->l≠ .C->(∀d,d<2->l≠ .on c d)->w'.heap[k]? =w.heap[k]? :=by
  intro l k e S G;refine hk k (h.vE e) (λZ=> ?_) (λd hd Z=> ?_)
  ·exact h.wL e (show y.at .C=μ g from D) S Z
  ·exact G d hd (h.inj _ _ k e (show y.at (.on c d)=μ k from Z))
 have H:=h.owned (y':=y') (n':=n.lz c X) hs (λk uR S _=>hk k uR (λe=>S ⟨.C,by rw[e];exact D⟩) (λd _ e=>S ⟨.on c d,e⟩)) (by rw[Y]) (by rw[<-hX,Y])
  (λk e=>e.elim (kD k) (λe=>by
   have e':y.ext k:=by rw[Y]at e;exact e
   exact Nat.lt_of_lt_of_le (h.lt (.inr e')) hs))
  (by
   rintro k ⟨l,e⟩;rcases hat l k e with Z|⟨Z,_⟩
   ·exact .inl ⟨l,Z⟩
   ·exact .inr Z) (λk e=>.inl (by rw[Y]at e;exact e)) rfl rfl rfl h.c9 (by rw[Y];exact h.oh.keep (ku .N _ rfl (λe=>nomatch e) (λ_ _ e=>nomatch e)))
  (by rw[Y];exact h.rr.keep (ku .R _ rfl (λe=>nomatch e) (λ_ _ e=>nomatch e))) (by rw[Y];exact h.ri.keep (ku .I _ rfl (λe=>nomatch e) (λ_ _ e=>nomatch e)))
  (by
   intro g' DS x hx;have BQ:y.gC=μ g':=by rw[Y]at DS;exact DS
   obtain rfl:g=g':=by rw[D]at BQ;exact Option.some.inj BQ
   have vM:x<n.nc:=hx;show qz w' g (x*7) 7 (C8 (jW n.C c X x) (y'.ov x));by_cases e:x=c
   ·subst e;rw[iF];refine uV.congr λj _=> ?_;have U:y'.ov x 0=o 0:=by rw[Y];exact V 0 eA
    have Z:y'.ov x 1=o 1:=by rw[Y];exact V 1 eA
    unfold C8;rw[U,Z]
   ·rw[iE _ _ e];have hb:=h.rc g D x vM;have T:∀d,y'.ov x d=y.ov x d:=λd=>by rw[Y];exact Q x d (λe'=>e e'.1)
    intro j hj;have hr:x*7+j<c*7 \/c*7+7<=x*7+j:=by
     rcases Nat.lt_or_gt_of_ne e with S|S
     ·exact .inl eh
     ·exact .inr eh
    refine⟨(hcell _ hr).trans ?_,(Tx _).trans (hb.fz j hj)⟩;rw[hb.cell j hj];unfold C8;rw[T 0,T 1])
  (by
   intro x hx;obtain⟨g',e⟩:=h.gc x hx;exact⟨g',by rw[Y];exact e⟩)
  (by
   intro i hi;have:=(h.ib i hi).keep hs (λk e=>ku (.ib i) k e (λe=>nomatch e) (λ_ _ e=>nomatch e));rw[Y];exact this)
  (by
   intro x d hx hd;show Row w' 1 (y'.ov x d) ((jW n.C c X x).on d).length (iR ((jW n.C c X x).on d));by_cases e:x=c
   ·subst e;have U:y'.ov x d=o d:=by rw[Y];exact V d hd
    rw[iF,U];exact VE d hd
   ·have U:y'.ov x d=y.ov x d:=by rw[Y];exact Q x d (λe'=>e e'.1)
    rw[iE _ _ e,U];exact(h.ob x d hx hd).keep hs (λk Z=>ku (.on x d) k Z (λe=>nomatch e) (λd' _ e'=>e (by injection e'))))
  (by
   intro x d hx hd;show((jW n.C c X x).on d).length<=2000;by_cases e:x=c
   ·subst e;rw[iF];exact YC d hd
   ·rw[iE _ _ e];exact h.ol x d hx hd)
  (by
   intro x d hx hd;show((jW n.C c X x).e d).1<n.n/\((jW n.C c X x).e d).2<3;by_cases e:x=c
   ·subst e;rw[iF,Az];exact h.en x d hx hd
   ·rw[iE _ _ e];exact h.en x d hx hd)
  (by
   intro l l' k e e';rcases hat l k e with Z|⟨Z,d,hd,rfl,T⟩
   ·rcases hat l' k e' with J|⟨J,_⟩
    ·exact h.inj l l' k Z J
    ·have:=h.vE Z;omega
   ·rcases hat l' k e' with J|⟨J,d',kh,rfl,e4⟩
    ·have:=h.vE J;omega
    ·have:d=d':=by
      rcases Nat.lt_or_ge d 1 with S|S
      ·rcases Nat.lt_or_ge d' 1 with G|G
       ·omega
       ·obtain rfl:d=0:=eh;obtain rfl:d'=1:=eh;exact absurd e4 (jx k T)
      ·rcases Nat.lt_or_ge d' 1 with G|G
       ·obtain rfl:d=1:=eh;obtain rfl:d'=0:=eh;exact absurd T (jx k e4)
       ·omega
     rw[this])
  (by
   intro k e;have U:y.ext k:=by rw[Y]at e;exact e
   rintro⟨l,Z⟩;rcases hat l k Z with T|⟨T,_⟩
   ·exact h.nx k U ⟨l,T⟩
   ·have:=h.lt (.inr U);omega)
 refine⟨⟨y',H.1,by rw[Y];exact⟨rfl,rfl,rfl,rfl,rfl,rfl,rfl,rfl⟩,H.2,λk=>by rw[Y]⟩,⟨G0,PF,MI,hs,λk uR hn=>hk k uR (λe=>hn (.inl ⟨.C,by rw[e];exact D⟩)) (λd _ e=>hn (.inl ⟨.on c d,e⟩))⟩⟩
theorem jJ.box {y:Yt} {n:iP} (h:jJ w y n)(hi:i<n.n)(v:dZ)(l:List zi)(hs:w.heap.size<=w'.heap.size)(G0:w'.os=w.os)(PF:w'.tape=w.tape)(MI:w'.output=w.output)
 (J:∀k,k<w.heap.size->k≠y.gI->(y.iv i).ownBlock≠μ k->w'.heap[k]? =w.heap[k]?) (Gy:qz w' y.gI 0 n.n (jW y.iv i v)) (NU:Row w' 3 v l.length (rR l))
 (jq:∀k,v.ownBlock=μ k->(y.iv i).ownBlock=μ k \/w.heap.size<=k):iH w w' y {n with kd:=jW n.kd i l} n.n:=by
 obtain⟨X,A⟩:∃X:Yt,X={y with iv:=jW y.iv i v}:=⟨_,rfl⟩
 obtain⟨y',Y⟩:∃y':Yt,y'={y with iv:=jW y.iv i v,z:=λj=>(y.z j).plus (zS w w' X)}:=⟨_,rfl⟩
 have jI:∀k,y'.own k↔X.own k:=λk=>by
  rw[Y,A];constructor
  ·rintro⟨l,e⟩;exact⟨l,by cases l<;>exact e⟩
  ·rintro⟨l,e⟩;exact⟨l,by cases l<;>exact e⟩
 have hX:zS w w' X=zS w w' y':=by
  funext k
  apply propext;unfold zS;rw[<-jI k];have:X.ext=y'.ext:=by rw[A,Y]
  rw[this]
 have hat:∀l k,y'.at l=μ k->y.at l=μ k \/(w.heap.size<=k/\l=.ib i/\v.ownBlock=μ k):=by
  intro l k e;rw[Y]at e;cases l with
  |N=>exact .inl e
  |R=>exact .inl e
  |I=>exact .inl e
  |C=>exact .inl e
  |on x d=>exact .inl e
  |ib x=>
   have e':(jW y.iv i v x).ownBlock=μ k:=e;by_cases hx:x=i
   ·subst hx;rw[iF]at e';rcases jq k e' with Z|Z
    ·exact .inl Z
    ·exact .inr ⟨Z,rfl,e'⟩
   ·rw[iE _ _ hx]at e';exact .inl e'
 have kD:∀k,y'.own k->k<w'.heap.size:=by
  rintro k ⟨l,e⟩;rcases hat l k e with Z|⟨_,rfl,Z⟩
  ·exact Nat.lt_of_lt_of_le (h.vE Z) hs
  ·exact NU.lt k Z
 have T:∀l k,y.at l=μ k->l≠ .I->l≠ .ib i->w'.heap[k]? =w.heap[k]? :=by
  intro l k e Q h2;refine J k (h.vE e) (λZ=> ?_) (λZ=> ?_)
  ·exact h.wL e (show y.at .I=μ y.gI from rfl) Q Z
  ·exact h2 (h.inj _ _ k e (show y.at (.ib i)=μ k from Z))
 have H:=h.owned (y':=y') (n':={n with kd:=jW n.kd i l}) hs (λk G Q _=>J k G (λe=>Q ⟨.I,by rw[e];rfl⟩) (λe=>Q ⟨.ib i,e⟩)) (by rw[Y]) (by rw[<-hX,Y])
  (λk e=>e.elim (kD k) (λe=>by
   have e':y.ext k:=by rw[Y]at e;exact e
   exact Nat.lt_of_lt_of_le (h.lt (.inr e')) hs))
  (by
   rintro k ⟨l,e⟩;rcases hat l k e with Z|⟨Z,_⟩
   ·exact .inl ⟨l,Z⟩
   ·exact .inr Z) (λk e=>.inl (by rw[Y]at e;exact e)) rfl rfl rfl h.c9 (by rw[Y];exact h.oh.keep (T .N _ rfl (λe=>nomatch e) (λe=>nomatch e)))
  (by rw[Y];exact h.rr.keep (T .R _ rfl (λe=>nomatch e) (λe=>nomatch e))) (by rw[Y];exact Gy)
  (by
   intro U DS x hx;have D:y.gC=μ U:=by rw[Y]at DS;exact DS
   have:=(h.rc U D x hx).keep (T .C U D (λe=>nomatch e) (λe=>nomatch e));rw[Y];exact this)
  (by
   intro x hx;obtain⟨U,e⟩:=h.gc x hx;exact⟨U,by rw[Y];exact e⟩)
  (by
   intro x hx;show Row w' 3 (y'.iv x) (jW n.kd i l x).length (rR (jW n.kd i l x));have S:y'.iv x=jW y.iv i v x:=by rw[Y]
   rw[S];by_cases e:x=i
   ·subst e;rw[iF,iF];exact NU
   ·rw[iE _ _ e,iE _ _ e];exact(h.ib x hx).keep hs (λk Z=>T (.ib x) k Z (λe=>nomatch e) (λe'=>e (by injection e'))))
  (by
   intro x d hx hd;have:=(h.ob x d hx hd).keep hs (λk Z=>T (.on x d) k Z (λe=>nomatch e) (λe=>nomatch e));rw[Y];exact this)
  h.ol h.en
  (by
   intro l l' k e e';rcases hat l k e with Z|⟨Z,rfl,M⟩
   ·rcases hat l' k e' with V|⟨V,_⟩
    ·exact h.inj l l' k Z V
    ·have:=h.vE Z;omega
   ·rcases hat l' k e' with V|⟨V,rfl,e4⟩
    ·have:=h.vE V;omega
    ·rfl)
  (by
   intro k e;have S:y.ext k:=by rw[Y]at e;exact e
   rintro⟨l,Z⟩;rcases hat l k Z with M|⟨M,_⟩
   ·exact h.nx k S ⟨l,M⟩
   ·have:=h.lt (.inr S);omega)
 refine⟨⟨y',H.1,by rw[Y];exact⟨rfl,rfl,rfl,rfl,rfl,rfl,rfl,rfl⟩,H.2,λk=>by rw[Y]⟩,⟨G0,PF,MI,hs,λk G hn=>J k G (λe=>hn (.inl ⟨.I,by rw[e];rfl⟩)) (λe=>hn (.inl ⟨.ib i,e⟩))⟩⟩
theorem jJ.beside {y:Yt} {n:iP} (h:jJ w y n)(hs:w.heap.size<=w'.heap.size)(hk:∀k,k<w.heap.size->¬y.ext k->w'.heap[k]? =w.heap[k]?)(X:Nat->Prop)(J:∀k,X k->w.heap.size<=k/\k<w'.heap.size):
 ∃y',jJ w' y' n/\y.same y'/\(∀k,y'.all n.n k↔y.all n.n k)/\∀k,y'.ext k↔y.ext k \/X k:=by
 obtain⟨V,A⟩:∃V:Yt,V={y with ext:=λk=>y.ext k \/X k}:=⟨_,rfl⟩
 obtain⟨y',Z⟩:∃y':Yt,y'={y with ext:=λk=>y.ext k \/X k,z:=λj=>(y.z j).plus (zS w w' V)}:=⟨_,rfl⟩
 have hat:∀l,y'.at l=y.at l:=by
  intro l;rw[Z];cases l<;>rfl
 have M:∀l,V.at l=y.at l:=by
  intro l;rw[A];cases l<;>rfl
 have U:∀k,y'.own k↔y.own k:=λk=>by unfold Yt.own;simp only[hat]
 have jI:∀k,V.own k↔y.own k:=λk=>by unfold Yt.own;simp only[M]
 have G:zS w w' V=zS w w' y':=by
  funext k
  apply propext;unfold zS;rw[U k,jI k];have:V.ext=y'.ext:=by rw[A,Z]
  rw[this]
 have T:∀l k,y.at l=μ k->w'.heap[k]? =w.heap[k]? :=λl k e=>hk k (h.vE e) (λY=>h.nx k Y ⟨l,e⟩);have Q:∀k,y'.ext k↔y.ext k \/X k:=λk=>by rw[Z]
 have H:=h.owned (y':=y') (n':=n) hs (λk uR _ h2=>hk k uR h2) (by rw[Z]) (by rw[<-G,Z])
  (λk e=>by
   rcases e with e|e
   ·exact Nat.lt_of_lt_of_le (h.lt (.inl ((U k).1 e))) hs
   ·rcases(Q k).1 e with e|e
    ·exact Nat.lt_of_lt_of_le (h.lt (.inr e)) hs
    ·exact(J k e).2)
  (λk e=>.inl ((U k).1 e)) (λk e=>((Q k).1 e).imp_right (λe=>(J k e).1)) rfl rfl rfl h.c9 (by rw[Z];exact h.oh.keep (T .N _ rfl))
  (by rw[Z];exact h.rr.keep (T .R _ rfl)) (by rw[Z];exact h.ri.keep (T .I _ rfl))
  (by
   intro S DS x hx;have D:y.gC=μ S:=by rw[Z]at DS;exact DS
   have:=(h.rc S D x hx).keep (T .C S D);rw[Z];exact this)
  (by
   intro x hx;obtain⟨S,e⟩:=h.gc x hx;exact⟨S,by rw[Z];exact e⟩)
  (by
   intro x hx;have:=(h.ib x hx).keep hs (λk Y=>T (.ib x) k Y);rw[Z];exact this)
  (by
   intro x d hx hd;have:=(h.ob x d hx hd).keep hs (λk Y=>T (.on x d) k Y);rw[Z];exact this)
  h.ol h.en (λl l' k e e'=>h.inj l l' k ((hat l).symm.trans e) ((hat l').symm.trans e'))
  (by
   intro k e Y;rcases(Q k).1 e with e|e
   ·exact h.nx k e ((U k).1 Y)
   ·have h1:=h.lt (.inl ((U k).1 Y));have h2:=(J k e).1;omega)
 refine⟨y',H.1,by rw[Z];exact⟨rfl,rfl,rfl,rfl,rfl,rfl,rfl,rfl⟩,λk=> ?_,Q⟩;unfold Yt.all;rw[U k];have:∀j,(y'.z j).pA k↔(y.z j).pA k:=λj=>by rw[Z];exact dW
 simp only[this]
theorem jJ.below {w w':dY} {y:Yt} {n:iP} (h:jJ w y n)(hb:eE w w'):jJ w' y n:=by
 refine⟨h.n1,h.n6,h.c9,h.oh.below hb,h.rr.below h.n1 hb,h.ri.below h.n1 hb,λg X c hc=>(h.rc g X c hc).below eA hb,h.gc,?_,λi hi=>(h.rt i hi).below hb,h.rn,λi hi=>(h.ib i hi).below hb,λc d hc hd=>(h.ob c d hc hd).below hb,h.ol,h.en,h.inj,h.away,h.nx,h.nM,h.z0⟩;obtain⟨E,Z,Y⟩:=h.mp;exact⟨E,Z.keep (hb.block _ h.H7),Y⟩
theorem yf.iW(y:Yt)(n:Nat)(h:eE w w'):yf w w' y n:=⟨h.os,h.tape,h.output,h.size,λk Z _=>h.block k Z⟩
theorem iH.still {y:Yt} {n:iP} (h:jJ w y n)(hb:eE w w'):iH w w' y n n.n:=⟨⟨y,h.below hb,y.H6,λ_ e=>.inl e,λ_=>dW⟩,yf.iW y n.n hb⟩
theorem iH.below {y:Yt} {n:iP} (h:iH a b y n m)(Y:n.n=m)(hb:eE b c):iH a c y n m:=by
 subst Y;exact h.step λy' Z _=>iH.still Z hb
section
variable {P:Program}
theorem Da {ops:Array Oper} {o:Oper} {a:Act} {K:Act->dY->Prop} {Q:Exit->Act->dY->Prop} {E:Prop}
 (Z:o.guard=ν) (sl x:Operand) (t u:TypeId) (S:o.op=.call {callee:=.builtin .append,args:= #[sl,x],argTypes:= #[t,u] })
 (e:TypeId) (i:TypeInfo) (z:dZ) (J:P.underlying t=μ (.slice e)) (H:P.underlying u=μ .string) (hi:P.info? e=μ i) (D:i.zero=μ z) (rU:i.size=1) (vV:i.bytes=1) (Y:z.cells.size=1)
 (v:dZ) (n:Nat) (xs:List dZ) (hs:a.eval sl=v) (A:Row w 1 v n xs) (s:ByteArray) (hx:a.eval x=.string s) (hsl:s.size<=1000000) (T:n<=1000000000)
 (h:∀v' w',Row w' 1 v' (n+s.size) (xs++iR s.data.toList)->w.grownBy w' v.ownBlock->(v'.ownBlock=v.ownBlock \/ ∃k,v'.ownBlock=μ k/\w.heap.size<=k)->K (a.put o.dst v') w'):
 if eP o (yielded ops a.tmps)=true then Oper.wp P o a w K Q else E:=by
 have G:eP o (yielded ops a.tmps)=true:=by simp[eP,Z]
 rw[ai G];obtain⟨v',w',M,X,V,U⟩:=wu (P:=P) w t u o.type e i z J H hi D rU vV Y v n xs A s hsl T;unfold Oper.wp execOp;simp only[S,resolve,invoke,builtin,fV,fW,eI,List.map_toArray,eN,List.map_nil,hs,hx,M];exact h v' w' X V U
end
theorem Row.shape {sz:Nat} {xs:List dZ} (h:Row w sz v n xs):∃a c,v=gh a n c:=by
 rcases h.2 with⟨e,Z⟩|⟨g',c',e,_⟩
 ·exact⟨ν,0,by rw[e,Z]⟩
 ·exact⟨_,_,e⟩
structure TF(w w':dY)(g o d:Nat)(c:qF)(ov:Nat->dZ)(v':dZ):Prop where
 os:w'.os=w.os
 tape:w'.tape=w.tape
 output:w'.output=w.output
 size:w.heap.size<=w'.heap.size
 block:∀k,k<w.heap.size->k≠g->(ov d).ownBlock≠μ k->w'.heap[k]? =w.heap[k]?
 cell:∀j,j<o \/o+7<=j->w'.cell? ⟨g,j,ν⟩=w.cell? ⟨g,j,ν⟩
 fz:∀j,w'.frozen? ⟨g,j,ν⟩=w.frozen? ⟨g,j,ν⟩
 xC:qz w' g o 7 (C8 c (jW ov d v'))
 row:Row w' 1 v' (c.on d).length (iR (c.on d))
 own:∀k,v'.ownBlock=μ k->(ov d).ownBlock=μ k \/w.heap.size<=k
theorem acJ(c:qF)(ov:Nat->dZ)(d:Nat)(hd:d<2)(v:dZ)(f:Nat->List UInt8):∀j,j<7->tC (C8 c ov) (5+d) v j=C8 {c with on:=f} (jW ov d v) j:=by
 intro j hj;have Y:d=0 \/d=1:=eh;rcases Y with rfl|rfl
 ·by_cases e:j=5
  ·subst e;rfl
  ·rw[jM _ _ eh];unfold C8;simp only[e,if_false];rfl
 ·by_cases e:j=6
  ·subst e;rfl
  ·rw[jM _ _ eh];unfold C8;have e6:¬j=6:=e;by_cases Z:j=5
   ·subst Z;rfl
   ·have:j<5:=eh;simp only[Z,if_false];by_cases T:j=4
    ·simp[T]
    ·have:j<4:=eh;by_cases U:j=3
     ·simp[U]
     ·by_cases V:j=2
      ·simp[V]
      ·by_cases X:j=1
       ·simp[X]
       ·have:j=0:=eh;simp[this]
theorem VF(c:qF)(ov:Nat->dZ)(d:Nat)(hd:d<2):C8 c ov (5+d)=ov d:=by
 have Z:d=0 \/d=1:=eh;rcases Z with rfl|rfl<;>rfl
theorem TF.still {o:Nat} {c:qF} (hC:qz w g o 7 (C8 c ov))(Z:Row w 1 (ov d) (c.on d).length (iR (c.on d)))(hb:eE w w'):TF w w' g o d c ov (ov d):=by
 have hl:=hC.lt eA;refine⟨hb.os,hb.tape,hb.output,hb.size,λk Y _ _=>hb.block k Y,λj _=>aj (a:=⟨g,j,ν⟩) (hb.block g hl),λj=>by simp only[gL,hb.block g hl],?_,Z.below hb,λk e=>.inl e⟩;rw[wG];exact hC.below eA hb
theorem TF.turn {o:Nat} {c:qF} (hd:d<2)(hC:qz w g o 7 (C8 c ov))(V:(ov d).ownBlock≠μ g)(v:dZ)(f:Nat->List UInt8)(os:x.os=w.os)(J:x.tape=w.tape)(ou:x.output=w.output)(hs:w.heap.size<=x.heap.size)
 (U:∀k,k<w.heap.size->(ov d).ownBlock≠μ k->x.heap[k]? =w.heap[k]?) (M:Row x 1 v (f d).length (iR (f d))) (T:∀k,v.ownBlock=μ k->(ov d).ownBlock=μ k \/w.heap.size<=k):
 TF w (x.setCell ⟨g,o+5+d,ν⟩ v) g o d {c with on:=f} ov v:=by
 rw[Nat.add_assoc];have hl:=hC.lt eA;have Z:=U g hl V;have X:v.ownBlock≠μ g:=λe=>by
  rcases T g e with Y|Y
  ·exact V Y
  ·omega
 refine⟨os,J,ou,by simpa using hs,λk H S Q=>(ak _ _ _ k S).trans (U k H Q),λj hj=> ?_,λj=> ?_,?_,?_,T⟩
 ·rw[aW _ _ _ _ (λe=>by have:=congrArg Addr.off e;simp at this;omega)];exact aj (a:=⟨g,j,ν⟩) Z
 ·rw[mJ];simp only[gL,Z]
 ·exact((hC.keep Z).set (5+d) eh v).congr (acJ c ov d hd v f)
 ·exact M.keep gZ (λk e=>ak _ _ _ k (λY=>X (by rw[e,Y])))
theorem VG(g o d:Nat)(c:qF)(ov:Nat->dZ)(s:ByteArray)(w:dY)(hd:d<2)(hC:qz w g o 7 (C8 c ov))(U:Row w 1 (ov d) (c.on d).length (iR (c.on d)))(hg:(ov d).ownBlock≠μ g)(hl:(c.on d).length<=2000)(hs:s.size<=1000000000):
 eZ e7 161 #[π (μ ⟨g,o,ν⟩),ι κ (d:Int),.string s] w λe w'=>e=ρ (τ #[])/\∃v',TF w w' g o d (c.put d s.data.toList) ov v':=by
 obtain⟨i0,hi,oB,np,mI⟩:=aX Vj;have hsl:s.data.toList.length=s.size:=gZ;have c4:w.cell? ⟨g,o+4,ν⟩=μ (.bool c.iT):=hC.cell 4 eA;have h:w.cell? ⟨g,o+5+d,ν⟩=μ (ov d):=by rw[Nat.add_assoc,hC.cell (5+d) eh,VF c ov d hd]
 have f5:w.frozen? ⟨g,o+5+d,ν⟩=false:=by rw[Nat.add_assoc];exact hC.fz (5+d) eh
 have gl:=hC.lt eA;have kh:(d:Int)<2:=eh;have hd0:(0:Int)<=(d:Int):=eh;have J:Hid _:=hC;have tq:fJ.wrap (((c.on d).length:Int)+(s.size:Int))=((c.on d).length:Int)+(s.size:Int):=aQ _ ⟨eh,eh⟩;clear hC;cases M:c.iT with
 |false=>
  have X:c.put d s.data.toList=c:=by unfold qF.put;rw[af (by simp[M])]
  rw[X];rw[M]at c4;have G:Hid _:=U;clear U
  go_in
  go_wp2
  first|go_end0|refine iM rfl rfl ?_
  exact⟨rfl,_,TF.still J.out G.out (au _ _)⟩
 |true=>
  rw[M]at c4;obtain⟨v,hv⟩:=gq (ov d);obtain⟨n,T⟩:=gq ((c.on d).length);have D:Hid _:=hv;have HN:Hid _:=T;have S:=U;rw[hv]at h;rw[T]at tq hl;rw[hv,T]at S;have G:Hid _:=U;have YL:∃a' c',v=gh a' n c':=by
   rcases S.2 with⟨e,e2⟩|⟨g',c',e,_⟩
   ·exact⟨ν,0,by rw[e,e2]⟩
   ·exact⟨_,_,e⟩
  obtain⟨a',c',Z⟩:=YL;rw[Z]at h S;by_cases X7:(n:Int)+(s.size:Int)<=2000
  ·have X:c.put d s.data.toList={c with on:=jW c.on d (c.on d++s.data.toList)}:=by
    unfold qF.put;rw[ai ⟨M,eh⟩]
   have HE:Hid _:=X;have H:Hid (eu (σ a' n c')≠μ g):=by rw[<-Z,<-hv];exact hg
   have Y:Hid _:=Z;clear U X hv T Z hg
   go_in
   go_wp2
   go_region_law ((refine Da (by rfl) (.tmp 30) (.tmp 31) 140 9 (by rfl) 5 i0 (.int .u8 0) Tryz.underlying140 Tryz.underlying9 hi oB np mI (by rfl) (σ a' n c') n (iR (c.on d)) (by rfl) (by exact S.drew) s (by rfl) eh eh ?_;intro v1 x1 lg V jI;obtain⟨A,c1,hv1⟩:=Row.shape lg;subst hv1;have y5:=(aj (a:=⟨g,o+5+d,ν⟩) (V.block g (by exact gl) (λe=>H.out e.symm))).trans h;have z5:=(aL (a:=⟨g,o+5+d,ν⟩) (V.block g (by exact gl) (λe=>H.out e.symm))).trans f5))
   all_goals
    go_wp2
    first|go_end0|refine iM rfl rfl ?_
    have k7:∀k,eu (σ A (n+s.size) c1)=μ k->(ov d).ownBlock=μ k \/w.heap.size<=k:=by
     intro k Q;rw[D.out,Y.out];rcases jI with e|⟨k',e,uR⟩
     ·exact .inl (by rw[<-e];exact Q)
     ·rw[Q]at e;obtain rfl:=Option.some.inj e;exact .inr uR
    refine⟨rfl,σ A (n+s.size) c1,?_⟩;rw[HE.out];refine TF.turn hd J.out (by rw[D.out,Y.out];exact H.out) (σ A (n+s.size) c1) _ V.os V.tape V.output V.size (λk Q h1=>V.block k Q (λe=>h1 (by rw[D.out,Y.out];exact e.symm))) ?_ k7;rw[iF,az,lM,HN.out,hsl];exact lg
  ·have X:c.put d s.data.toList=c:=by
    unfold qF.put;rw[af (λe=>X7 (by have:=e.2;omega))]
   rw[X];clear U X hv T Z
   go_in
   go_wp2
   first|go_end0|refine iM rfl rfl ?_
   exact⟨rfl,_,TF.still J.out G.out (au _ _)⟩
theorem jJ.k0 {y:Yt} {n:iP} (h:jJ w y n):w.cell? ⟨y.N,0,ν⟩=μ (σ (μ ⟨y.gR,0,ν⟩) n.n y.tY):=h.oh.cell 0
theorem jJ.k1 {y:Yt} {n:iP} (h:jJ w y n):w.cell? ⟨y.N,1,ν⟩=μ (σ (μ ⟨y.gI,0,ν⟩) n.n y.yO):=h.oh.cell 1
theorem jJ.k2 {y:Yt} {n:iP} (h:jJ w y n):w.cell? ⟨y.N,2,ν⟩=μ (.map (μ y.bM)):=h.oh.cell 2
theorem jJ.k3 {y:Yt} {n:iP} (h:jJ w y n):w.cell? ⟨y.N,3,ν⟩=μ (y.cv n.nc):=h.oh.cell 3
theorem jJ.yg {y:Yt} {n:iP} (h:jJ w y n):y.N<w.heap.size:=h.oh.lt
theorem jJ.RJ {y:Yt} {n:iP} (h:jJ w y n):y.gR<w.heap.size:=h.vE (l:=.R) rfl
theorem jJ.acM {y:Yt} {n:iP} (h:jJ w y n):y.gI<w.heap.size:=h.vE (l:=.I) rfl
theorem jJ.ptr {y:Yt} {n:iP} (h:jJ w y n)(hi:i<n.n):w.cell? ⟨y.gR,i,ν⟩=μ (π (μ ⟨(y.z i).R,0,ν⟩)):=by
 have:=h.rr.cell i hi
 rwa [Nat.zero_add]at this
theorem jJ.Y2 {y:Yt} {n:iP} (h:jJ w y n)(hi:i<n.n):w.cell? ⟨y.gI,i,ν⟩=μ (y.iv i):=by
 have:=h.ri.cell i hi
 rwa [Nat.zero_add]at this
theorem jJ.cvs {y:Yt} {n:iP} (h:jJ w y n):∃a cp,y.cv n.nc=σ a n.nc cp/\∀c,c<n.nc->∃g,y.gC=μ g/\a=μ ⟨g,0,ν⟩:=by
 unfold Yt.cv;cases X:y.gC with
 |none=>
  have Y:n.nc=0:=by
   rcases Nat.eq_zero_or_pos n.nc with e|e
   ·exact e
   ·obtain⟨g,Z⟩:=h.gc 0 e;rw[X]at Z;simp at Z
  exact⟨ν,0,by rw[Y],λc hc=>eh⟩
 |some g=>exact⟨_,_,rfl,λc hc=>⟨g,rfl,rfl⟩⟩
section
variable {w w':World} {y:Yt} {n:iP} {m:Nat}
theorem iH.k0(h:iH w w' y n m):w'.cell? ⟨y.N,0,ν⟩=μ (σ (μ ⟨y.gR,0,ν⟩) n.n y.tY):=by
 obtain⟨⟨y',Z,hs,_⟩,_⟩:=h;have:=Z.k0
 rwa [hs.N,hs.gR,hs.tY]at this
theorem iH.k3(h:iH w w' y n m):w'.cell? ⟨y.N,3,ν⟩=μ (y.cv n.nc):=by
 obtain⟨⟨y',Z,hs,_⟩,_⟩:=h;have:=Z.k3;have e:y'.cv n.nc=y.cv n.nc:=by unfold Yt.cv;rw[hs.gC,hs.wH]
 rwa [hs.N,e]at this
theorem iH.lt(h:iH w w' y n m):y.N<w'.heap.size:=ag _ _ h.k0
theorem iH.ptr(h:iH w w' y n m) {i:Nat} (hi:i<n.n):∃R,w'.cell? ⟨y.gR,i,ν⟩=μ (π (μ ⟨R,0,ν⟩)):=by
 obtain⟨⟨y',Z,hs,_⟩,_⟩:=h;have:=Z.ptr hi;rw[hs.gR]at this;exact⟨_,this⟩
theorem iH.PT(h:iH w w' y n m) {c:Nat} (hc:c<n.nc)(Y:y.gC=μ g):∃ov,qz w' g (c*7) 7 (C8 (n.C c) ov):=by
 obtain⟨⟨y',Z,hs,_⟩,_⟩:=h;exact⟨_,Z.rc g (by rw[hs.gC];exact Y) c hc⟩
theorem iH.tab {n0:iP} (h:iH w w' y n m)(V:jJ w y n0)(M:n0.n=m)(U:jh w):jh w':=λe s S hs=>by
 subst M;refine(aj (a:=⟨0,e*10+s,ν⟩) (h.kept.block 0 U.lt (λQ=> ?_))).trans (U e s S hs);rcases Q with X|⟨j,T,X⟩
 ·exact V.z0 X
 ·have R:=V.rt j T;have h3:=(V.rn j T).1;rcases X with Y|Y|Y
  ·rcases Y with Z|Z|⟨i,hi,Z|Z⟩|Z
   ·exact R.sR.2.1 Z.symm
   ·exact(R.pt 0 R.n1).nz.1 Z.symm
   ·exact(R.pt i eh).nz.2.1 Z.symm
   ·exact(R.pt i eh).nz.2.2 Z
   ·exact R.Rx.1 Z
  ·exact R.Rx.2 0 (.inl Y) rfl
  ·exact R.Rx.2 0 (.inr Y) rfl
theorem iH.first {y:Yt} {n':iP} (hb:eE a b)(k:iH b c y n' m):iH a c y n' m:=by
 obtain⟨⟨T,g1,Y,X,V⟩,Z⟩:=k;exact⟨⟨T,g1,Y,λx hx=>(X x hx).imp_right (λe=>Nat.le_trans hb.size e),V⟩,⟨Z.os.trans hb.os,Z.tape.trans hb.tape,Z.output.trans hb.output,Nat.le_trans hb.size Z.size,λx hx U=>(Z.block x (Nat.lt_of_lt_of_le hx hb.size) U).trans (hb.block x hx)⟩⟩
end
def Oc(i:Int)(n:Nat):Bool:=decide (1<=i)&&decide (i<=(n:Int))
theorem yS(i:Int)(n:Nat):(Oc i n=false/\(i<1 \/(n:Int)<i)) \/ ∃k:Nat,k<n/\i=(k:Int)+1:=by
 by_cases Z:1<=i
 ·by_cases Y:i<=(n:Int)
  ·exact .inr ⟨(i-1).toNat,eh,eh⟩
  ·exact .inl ⟨by simp[Oc,Y],eh⟩
 ·exact .inl ⟨by simp[Oc,Z],eh⟩
theorem zT(h:i<n):Oc ((i:Int)+1) n=true:=by simp[Oc];omega
def Jz(i d:Int)(n:Nat):Bool:=hasB i n&& (decide (0<=d)&&decide (d<2))
theorem Od(i d:Int)(n:Nat):(Jz i d n=false/\(i<0 \/(n:Int)<=i \/d<0 \/2<=d)) \/ ∃c k:Nat,c<n/\k<2/\i=(c:Int)/\d=(k:Int):=by
 by_cases Z:0<=i
 ·by_cases Y:i<(n:Int)
  ·by_cases X:0<=d
   ·by_cases V:d<2
    ·exact .inr ⟨i.toNat,d.toNat,eh,eh,eh,eh⟩
    ·exact .inl ⟨by simp[Jz,V],eh⟩
   ·exact .inl ⟨by simp[Jz,X],eh⟩
  ·exact .inl ⟨by simp[Jz,hasB,Y],eh⟩
 ·exact .inl ⟨by simp[Jz,hasB,Z],eh⟩
theorem VH {c:Nat} (h:c<n)(hd:d<2):Jz (c:Int) (d:Int) n=true:=by simp[Jz,hasB];omega
theorem qY(y:Yt)(n:iP)(i:Int)(w:dY)(h:jJ w y n):
 eZ e7 107 #[π (μ ⟨y.N,0,ν⟩),ι κ i] w λe w'=>e=ρ (.bool (Oc i n.n))/\w=w':=by
 have hl:=h.yg;have c1:=h.k0;unfold Oc;by_cases Z:1<=i
 ·by_cases Y:i<=(n.n:Int)
  ·have hv:(decide (1<=i)&&decide (i<=(n.n:Int)))=true:=by simp[Z,Y]
   rw[hv];clear hv h
   go_in
   go_wp2
   go_ret;exact⟨by first|rfl|(simp;omega),rfl⟩
  ·have hv:(decide (1<=i)&&decide (i<=(n.n:Int)))=false:=by simp[Y]
   rw[hv];clear hv h
   go_in
   go_wp2
   go_ret;exact⟨by first|rfl|(simp;omega),rfl⟩
 ·have hv:(decide (1<=i)&&decide (i<=(n.n:Int)))=false:=by simp[Z]
  rw[hv];clear hv h
  go_in
  go_wp2
  go_ret;exact⟨by first|rfl|(simp;omega),rfl⟩
theorem zU(y:Yt)(n:iP)(i:Int)(w:dY)(h:jJ w y n):
 eZ e7 112 #[π (μ ⟨y.N,0,ν⟩),ι κ i] w λe w'=>e=ρ (.bool (hasB i n.nc))/\w=w':=by
 have hl:=h.yg;have c1:=h.k3;obtain⟨a,cp,Z,_⟩:=h.cvs;rw[Z]at c1;unfold hasB;by_cases Y:0<=i
 ·by_cases X:i<(n.nc:Int)
  ·have hv:(decide (0<=i)&&decide (i<(n.nc:Int)))=true:=by simp[Y,X]
   rw[hv];clear hv h Z
   go_in
   go_wp2
   go_ret;exact⟨by first|rfl|(simp;omega),rfl⟩
  ·have hv:(decide (0<=i)&&decide (i<(n.nc:Int)))=false:=by simp[X]
   rw[hv];clear hv h Z
   go_in
   go_wp2
   go_ret;exact⟨by first|rfl|(simp;omega),rfl⟩
 ·have hv:(decide (0<=i)&&decide (i<(n.nc:Int)))=false:=by simp[Y]
  rw[hv];clear hv h Z
  go_in
  go_wp2
  go_ret;exact⟨by first|rfl|(simp;omega),rfl⟩
theorem Oe(y:Yt)(n:iP)(i d:Int)(w:dY)(h:jJ w y n):
 eZ e7 108 #[π (μ ⟨y.N,0,ν⟩),ι κ i,ι κ d] w λe w'=>e=ρ (.bool (Jz i d n.nc))/\w=w':=by
 have hh:=zU y n i w h;unfold Jz;cases hb:hasB i n.nc with
 |false=>
  rw[hb]at hh;have hv:(false&& (decide (0<=d)&&decide (d<2)))=false:=rfl;rw[hv];clear hv h hb
  go_in
  go_wp2_with(fail);refine hh.mono ?_;rintro e w0 ⟨rfl,rfl⟩;clear hh
  go_wp2
  go_ret;exact⟨rfl,rfl⟩
 |true=>
  rw[hb]at hh;clear h hb;by_cases Z:0<=d
  ·by_cases Y:d<2
   ·have hv:(true&& (decide (0<=d)&&decide (d<2)))=true:=by simp[Z,Y]
    rw[hv];clear hv
    go_in
    go_wp2_with(fail);refine hh.mono ?_;rintro e w0 ⟨rfl,rfl⟩;clear hh
    go_wp2
    go_ret;exact⟨by first|rfl|(simp;omega),rfl⟩
   ·have hv:(true&& (decide (0<=d)&&decide (d<2)))=false:=by simp[Y]
    rw[hv];clear hv
    go_in
    go_wp2_with(fail);refine hh.mono ?_;rintro e w0 ⟨rfl,rfl⟩;clear hh
    go_wp2
    go_ret;exact⟨by first|rfl|(simp;omega),rfl⟩
  ·have hv:(true&& (decide (0<=d)&&decide (d<2)))=false:=by simp[Z]
   rw[hv];clear hv
   go_in
   go_wp2_with(fail);refine hh.mono ?_;rintro e w0 ⟨rfl,rfl⟩;clear hh
   go_wp2
   go_ret;exact⟨by first|rfl|(simp;omega),rfl⟩
theorem RK(d:Nat)(hd:d<2)(w:dY):eZ e7 156 #[ι κ (d:Int)] w λe w'=>e=ρ (ι κ ((1-d:Nat):Int))/\w=w':=by
 have Z:((1-d:Nat):Int)=1-(d:Int):=eh;have hw:fJ.wrap (1-(d:Int))=1-(d:Int):=aQ _ ⟨eh,eh⟩;rw[Z]
 go_in
 go_wp2
 go_ret;exact⟨rfl,rfl⟩
theorem Og(y:Yt)(n:iP)(i:Nat)(p:Int)(w:dY)(h:jJ w y n)(hi:i<n.n):
 eZ e7 157 #[π (μ ⟨y.N,0,ν⟩),.agg #[ι κ ((i:Int)+1),ι κ p]] w λe w'=>e=ρ (π (μ ⟨(y.z i).R,0,ν⟩))/\eE w w':=by
 have bm:=gY w (γ #[ι κ ((i:Int)+1),ι κ p] 192);have Y:iZ (w.alloc (γ #[ι κ ((i:Int)+1),ι κ p] 192)) w.heap.size #[ι κ ((i:Int)+1),ι κ p] 192:=iZ.new w _ _;have Z:=h.below bm;obtain⟨Q,V⟩:=gq (w.alloc (γ #[ι κ ((i:Int)+1),ι κ p] 192));obtain⟨N,X⟩:=gq (w.heap.size);rw[V]at Y Z bm;rw[X]at Y;have e0:Q.cell? ⟨N,0,ν⟩=μ (ι κ ((i:Int)+1)):=Y.cell 0;have el:=Y.lt;have c0:=Z.k0;have cl:=Z.yg;have d0:=Z.ptr hi;have dl:=Z.RJ;have n6:=h.n6;have hw:fJ.wrap ((i:Int)+1-1)=(i:Int):=by
  have:(i:Int)+1-1=i:=eh;rw[this];exact aQ _ ⟨eh,eh⟩
 have kX:(i:Int)<(n.n:Int):=eh;have Pv:(0:Int)<=(i:Int):=eh;have T:Hid _:=bm;have U:Hid _:=V;have S:Hid _:=X;clear h Z Y V X bm
 go_in
 go_wp2_with(fail);rw[U.out]
 try rw[S.out]
 go_quiet(fail)
 go_wp2
 go_ret;exact⟨rfl,below_drewN T.out _⟩
theorem yT(y:Yt)(n:iP)(i:Nat)(w:dY)(h:jJ w y n)(hi:i<n.n):
 eZ e7 40 #[π (μ ⟨y.N,0,ν⟩),ι κ ((i:Int)+1)] w λe w'=>e=ρ (τ #[π (μ ⟨(y.z i).R,0,ν⟩),η])/\w=w':=by
 have hh:=qY y n ((i:Int)+1) w h;rw[zT hi]at hh;have c0:=h.k0;have cl:=h.yg;have d0:=h.ptr hi;have dl:=h.RJ;have n6:=h.n6;have hw:fJ.wrap ((i:Int)+1-1)=(i:Int):=by
  have:(i:Int)+1-1=i:=eh;rw[this];exact aQ _ ⟨eh,eh⟩
 have kX:(i:Int)<(n.n:Int):=eh;have Pv:(0:Int)<=(i:Int):=eh;clear h
 go_in
 go_wp2_with(fail);refine hh.mono ?_;rintro e w1 ⟨rfl,rfl⟩;clear hh
 go_wp2
 go_ret2
 exact⟨rfl,rfl⟩
