import Derived.Test.YtieklnlbljejdaaGreatDoorC06
open Go.Value renaming int → ι, slice → σ, pointer → π, tuple → τ, nilIface → η, ownBlock → eh
open Go.IntKind renaming i64 → κ
open Go.Ending renaming returned → ρ
open Go.Obj renaming cells → γ
open Option renaming none → ν, some → μ
open Go renaming Value → dY, World → dX, Addr → dW, Calls → eX
open Go.Proofs.Tryz renaming prog → eY, underlying184 → gq
open List renaming range → fW, setIfInBounds_toArray → gA, set_cons_zero → gD, set_cons_succ → gE
open Go.Instr renaming findKey → gp, lookup → fq, mapUpdate → fh
open Go.Sem renaming run_bind → fQ
open Go.Result renaming andThen_ok → eG
open Go.MapKept renaming run_getObj_map → gu
open Prod.mk renaming injEq → fc
open Go.Act renaming put → gw
set_option maxRecDepth 100000
set_option maxHeartbeats 8000000
namespace Go.Proofs.YtieklnlbljejdaaGreatDoor
open Go.RowKit St
namespace Rt
variable {C args:Array Value} {E:List (Int×Int×Int)} {N i j k m n:Nat} {W a b c w w' x:World} {es:List jJ} {f:FuncId} {o:Obj} {p q:Addr} {r r' r0:iN} {seq:Int} {t:TypeId} {u v:Value} {α:Type}
theorem sj {k:Int} (h: -1000000<=k/\k<=1000000):tf k:=⟨dZ,dZ⟩
theorem PH(K:Int->Option PS)(i:Int):CY K i=mT K i:=by
 unfold CY mT;cases K i<;>rfl
theorem PI(K:Int->Option PS)(i:Int):A5 K i=qA K i:=by
 unfold A5 qA;cases K i<;>rfl
theorem mI(h:w.cell? p=μ v):(w.alloc o).cell? p=μ v:=by
 rw[World.cell?_alloc_lt];{exact h};{exact ag w _ h}
theorem oC(h:w.cell? p=μ u/\w.cell? q=μ v):(w.alloc o).cell? p=μ u/\(w.alloc o).cell? q=μ v:=⟨mI h.1,mI h.2⟩
theorem EF {x:dY} (h:w.cell? p=μ v)(Z:p.block≠N):(w.setCell ⟨N,j,ν⟩ x).cell? p=μ v:=by
 rw[aj (w:=w) (ak _ _ _ _ Z)];exact h
theorem xA {a b c:dY} (h:w.cell? p=μ v)(Z:p.block≠N):(((w.setCell ⟨N,0,ν⟩ a).setCell ⟨N,1,ν⟩ b).setCell ⟨N,2,ν⟩ c).cell? p=μ v:=EF (EF (EF h Z) Z) Z
theorem uR {a b c:dY} (h:w.cell? p=μ u/\w.cell? q=μ v)(Z:p.block≠N)(Y:q.block≠N):(((w.setCell ⟨N,0,ν⟩ a).setCell ⟨N,1,ν⟩ b).setCell ⟨N,2,ν⟩ c).cell? p=μ u/\(((w.setCell ⟨N,0,ν⟩ a).setCell ⟨N,1,ν⟩ b).setCell ⟨N,2,ν⟩ c).cell? q=μ v:=⟨xA h.1 Z,xA h.2 Y⟩
theorem Jq {a b c:dY} (hC:iX x N C t)(V:C.size=3)(Z:w.heap.size<=N)(hb:eB w x):
 (((x.setCell ⟨N,0,ν⟩ a).setCell ⟨N,1,ν⟩ b).setCell ⟨N,2,ν⟩ c).cell? ⟨N,1,ν⟩=μ b/\(((x.setCell ⟨N,0,ν⟩ a).setCell ⟨N,1,ν⟩ b).setCell ⟨N,2,ν⟩ c).cell? ⟨N,2,ν⟩=μ c/\eB w (((x.setCell ⟨N,0,ν⟩ a).setCell ⟨N,1,ν⟩ b).setCell ⟨N,2,ν⟩ c)/\∀j,j≠N->(((x.setCell ⟨N,0,ν⟩ a).setCell ⟨N,1,ν⟩ b).setCell ⟨N,2,ν⟩ c).heap[j]? =x.heap[j]? :=by
 have X:=((hC.set 0 a).set 1 b).set 2 c;refine⟨?_,?_,((hb.setCell (p:=⟨N,0,ν⟩) Z a).setCell (p:=⟨N,1,ν⟩) Z b).setCell (p:=⟨N,2,ν⟩) Z c,λj Y=> ?_⟩;{rw[X.cell 1];simp[V]};{rw[X.cell 2];simp[V]};{rw[ak _ _ _ _ Y,ak _ _ _ _ Y,ak _ _ _ _ Y]}
theorem jc.not_zero {x':dX} {a:Option dW} (h:jc x a n es)(S:iX x N #[ι κ 0,ι κ 0,σ ν 0 0] t)(Q:∀e∈es,1<=e.1)(U:∀j,j≠N->x'.heap[j]? =x.heap[j]?):jc x' a n es:=by
 refine⟨h.1,?_⟩;rcases h.2 with Y|⟨b,off,rfl,Y⟩
 ·exact .inl Y
 ·by_cases T:n=0;{exact .inl T}
  ·have hl:0<es.length:=by have:=h.1;omega
   have X:b≠N:=by
    intro e;subst e;have Z:=(Y 0 hl).1;rw[S.cell]at Z;have h4:=Q es[0] (aF hl);have:off+0*2=0 \/off+0*2=1 \/off+0*2=2 \/3<=off+0*2:=dZ;rcases this with e|e|e|e
    {rw[e]at Z;simp at Z;omega};{rw[e]at Z;simp at Z;omega};{rw[e]at Z;simp at Z};{rw[a9 (by simpa using e)]at Z;cases Z}
   exact .inr ⟨b,off,rfl,λj V=>⟨(aj (a:=⟨b,_,ν⟩) (U b X)).trans (Y j V).1,(aj (a:=⟨b,_,ν⟩) (U b X)).trans (Y j V).2⟩⟩
theorem iZ(w:dX):eB w w.drew:=jD (au _ _)
theorem EG(z:Zt)(r:iN)(seq:Int)(w:dX)(h:mA w z r)(J:ln r)(hs:0<=seq/\seq<=1000000):
 eX eY 180 #[π (μ ⟨z.R,0,ν⟩),ι κ seq] w λe w'=>e=ρ (τ #[])/\iD w w' z (r.behind seq) r.n:=by
 by_cases kA:seq<1000000
 ·have Q:Hid (r.behind seq=r.Et (seq+1) (jx r)):=by
   show _=_;unfold iN.behind;rw[ai kA]
  have X:=h.below (iZ w);have y:=EA z r w.drew X;have V:∀(w1:dX) (a:Option dW) (cap:Nat),Made w.drew w1 (σ a (jx r).length cap) (jx r)->kJ a cap->eX eY 67 #[π (μ ⟨z.Bb,0,ν⟩),.agg #[ι κ r.id,ι κ (seq+1),σ a (jx r).length cap]] w1 λe w'=>e=ρ η/\iD w w' z (r.behind seq) r.n/\(w'.cell? ⟨z.R,0,ν⟩=μ (ι κ r.id)/\w'.cell? ⟨z.R,2,ν⟩=μ (π (μ ⟨z.Bb,0,ν⟩))):=by
   intro w1 a cap Z S;have Y:=X.below Z.below;refine(Lg z.Bb z.fm 6 r.K r.O r.id (seq+1) a (jx r).length cap (jx r) w1 Y.bs (sj (by have:=J.id;omega)) Z.opts.2 S dZ (zJ J dZ)).mono ?_;rintro e w2 ⟨rfl,hB,H⟩;refine⟨rfl,?_,jC.cell H Y.bs Y.c0,jC.cell H Y.bs Y.c2⟩;rw[Q.out];exact iD.first h rfl (gh (iZ w) Z.below) (λ_=>Y.base hB H)
  have U:eX eY 179 #[π (μ ⟨z.R,0,ν⟩)] w.drew λe w'=>∃a cap,e=ρ (σ a (jx r).length cap)/\Made w.drew w' (σ a (jx r).length cap) (jx r)/\kJ a cap/\(w'.cell? ⟨z.R,0,ν⟩=μ (ι κ r.id)/\w'.cell? ⟨z.R,2,ν⟩=μ (π (μ ⟨z.Bb,0,ν⟩))):=by
   refine y.mono ?_;rintro e w1 ⟨v,rfl,Z⟩;obtain⟨a,cap,rfl,S,hle⟩:=Z.shape;have Y:=X.below Z.below;exact⟨a,cap,rfl,Z,S,Y.c0,Y.c2⟩
  have c0:=X.c0;have c2:=X.c2;have cl:=X.lt;have hs0:=hs.1;obtain⟨n,hn⟩:∃n:dX->Prop,(λx=>iD w x z (r.behind seq) r.n)=n:=⟨_,rfl⟩
  have T:∀x,iD w x z (r.behind seq) r.n=n x:=λx=>cu hn x;simp only[T]at V⊢;generalize jx r=es at V U;generalize z.R=M at V U c0 c2 cl⊢;generalize z.Bb=Bb at V U c2;generalize r.id=id at V U c0;clear h J X hs y Q hn T;have Uy:IntKind.i64.wrap (seq+1)=seq+1:=aS _ ⟨dZ,dZ⟩;have G:w.drew.cell? ⟨M,0,ν⟩=μ (ι κ id)/\w.drew.cell? ⟨M,2,ν⟩=μ (π (μ ⟨Bb,0,ν⟩)):=⟨c0,c2⟩
  go_in
  go_wp2
  go_region_held3(λx=>x.cell? ⟨M,0,ν⟩=μ (ι κ id)/\x.cell? ⟨M,2,ν⟩=μ (π (μ ⟨Bb,0,ν⟩)))
   (first|assumption|exact G|exact D|exact A)
   (first
    |(go_at_call 179;refine U.mono ?_;rintro e w1 ⟨a,cap,rfl,Z,S,D⟩;have HM:Hid _:=Z;clear Z)
    |(go_at_call 67;refine(V _ _ _ HM.out S).mono ?_;rintro e w2 ⟨rfl,nr,A⟩))
  all_goals
   clear V G D A
   go_wp2
   first|go_end0|refine iK rfl rfl ?_
   exact⟨rfl,nr⟩
 ·have Q:Hid (r.behind seq=r):=by
   show _=_;unfold iN.behind;rw[af kA]
  have HR:Hid _:=h;clear h J hs
  go_in
  go_wp2
  first|go_end0|refine iK rfl rfl ?_
  exact⟨rfl,by rw[Q.out];exact iD.refl HR.out⟩
theorem NW(z:Zt)(r:iN)(w:dX)(h:mA w z r)(G:ln r):
 eX eY 125 #[π (μ ⟨z.R,0,ν⟩)] w λe w'=>e=ρ (τ #[])/\iD w w' z r.change r.n:=by
 have Lp:=sj (k:=r.id) (by have:=G.id;omega);have T:∀W,eB w W->eX eY 177 #[π (μ ⟨z.Bb,0,ν⟩),ι κ r.id] W λe w'=>∃a cap,e=ρ (τ #[.agg #[ι κ (xW r.K r.id),ι κ (qA r.K r.id),σ a (mT r.K r.id).length cap],.bool (r.K r.id).isSome])/\jc w' a (mT r.K r.id).length (mT r.K r.id)/\eB W w'/\(w'.cell? ⟨z.R,0,ν⟩=μ (ι κ r.id)/\w'.cell? ⟨z.R,2,ν⟩=μ (π (μ ⟨z.Bb,0,ν⟩))):=by
  intro W V;refine(Li z.Bb z.fm 6 r.K r.O r.id W (h.below V).bs Lp).mono ?_;rintro e w1 ⟨a,cap,rfl,A,_,_,b1⟩;have R1:=h.below (gh V b1);exact⟨a,cap,rfl,A,b1,R1.c0,R1.c2⟩
 have h6:(mT r.K r.id).length<=6:=by
  obtain⟨q,hq,kd⟩:=G.own;have:=(ju kd).2.2.1;unfold mT;rw[hq];exact this
 have Vn:Hid (∀e∈mT r.K r.id,1<=e.1):=by
  obtain⟨q,hq,kd⟩:=G.own;have:=pV r.id q.2 0 (ju kd).2.2.2;unfold mT;rw[hq];exact λe D=>(this e D).1.1
 have h6e:(jx r).length<=6:=by
  have:=(r7 G 6 0 0 dZ dZ).2;rw[<-Cc]at this;omega
 have D:∀W,eB w W->eX eY 179 #[π (μ ⟨z.R,0,ν⟩)] W λe w'=>∃a cap,e=ρ (σ a (jx r).length cap)/\jc w' a (jx r).length (jx r)/\eB W w':=by
  intro W V;refine(EA z r W (h.below V)).mono ?_;rintro e w1 ⟨v,rfl,hM⟩;obtain⟨a,cap,rfl,_,_⟩:=hM.shape;exact⟨a,cap,rfl,hM.opts.2,hM.below⟩
 have y:Hid (mT r.K r.id=jx r->∀W,eB w W->iD w W z r.change r.n):=by
  intro H W V;have HC:r.change=r:=by
   unfold iN.change;rw[ai ((PH _ _).trans H)]
  rw[HC];exact iD.still h V
 have Y:Hid (mT r.K r.id≠jx r->∀W,eB w W->eX eY 180 #[π (μ ⟨z.R,0,ν⟩),ι κ (qA r.K r.id)] W λe w'=>e=ρ (τ #[])/\iD w w' z r.change r.n):=by
  intro H W V;have HC:r.change=r.behind (qA r.K r.id):=by
   unfold iN.change;rw[af (λe=>H ((PH _ _).symm.trans e)),PI]
  have hsq:=G.seq;rw[PI]at hsq;refine(EG z r (qA r.K r.id) W (h.below V) G dZ).mono ?_;rintro e w5 ⟨rfl,MF⟩;refine⟨rfl,?_⟩;rw[HC];exact iD.first h rfl V (λ_=>MF)
 have R0:=h.below (iZ w);have X:=And.intro R0.c0 R0.c2;have cl:=R0.lt;obtain⟨n,hn⟩:∃n:dX->Prop,(λx=>iD w x z r.change r.n)=n:=⟨_,rfl⟩
 have hn':∀x,iD w x z r.change r.n=n x:=λx=>cu hn x;simp only[hn']at y Y⊢;generalize jx r=ed at D y Y h6e;generalize mT r.K r.id=es at T y Y h6 Vn;generalize qA r.K r.id=sq at T Y;generalize xW r.K r.id=ow at T;generalize (r.K r.id).isSome=ok at T;generalize z.R=J at T D Y X cl⊢;generalize z.Bb=Bb at T X;generalize r.id=id at T X;clear h G R0 hn hn' Lp
 go_in
 go_wp2
 go_cut [2] (λv wx=>∃(Z:Nat) (a:Option dW) (cap:Nat),v=π (μ ⟨Z,0,ν⟩)/\wx.cell? ⟨Z,1,ν⟩=μ (ι κ sq)/\wx.cell? ⟨Z,2,ν⟩=μ (σ a es.length cap)/\jc wx a es.length es/\eB w wx)
 case first=>
  obtain⟨c0,c2⟩:=X;have X:w.drew.cell? ⟨J,0,ν⟩=μ (ι κ id)/\w.drew.cell? ⟨J,2,ν⟩=μ (π (μ ⟨Bb,0,ν⟩)):=⟨c0,c2⟩
  have ba:=jD (gT w (γ #[ι κ 0,ι κ 0,σ ν 0 0] 40));have x5:iX (w.alloc (γ #[ι κ 0,ι κ 0,σ ν 0 0] 40)).drew w.heap.size #[ι κ 0,ι κ 0,σ ν 0 0] 40:=(iX.new w _ _).drew;have jt:J≠w.heap.size:=by have h2:J<w.heap.size:=cl;omega
  go_region_held3(λx=>x.cell? ⟨J,0,ν⟩=μ (ι κ id)/\x.cell? ⟨J,2,ν⟩=μ (π (μ ⟨Bb,0,ν⟩)))
   (first|assumption|exact X|exact S|exact oC S|exact oC X|exact uR S jt jt)
   (first
    |(go_at_call 177;refine(T _ (by first|exact iZ w|exact ba)).mono ?_;rintro e w1 ⟨a,cap,rfl,A,b1,S⟩;first|(have M:=x5.below b1;have y0:=M.cell 0;have y1:=M.cell 1;have y2:=M.cell 2;have z0:=M.frozen 0;have z1:=M.frozen 1;have z2:=M.frozen 2)|skip))
  all_goals
   go_wp2_with(fail)
   go_meet
   first
    |exact⟨_,a,cap,rfl,aq w1 _ _ (0,0) 1,aq w1 _ _ (0,0) 2,A.below (gT _ _),gh (gh (iZ w) b1) (gT _ _)⟩
    |(have h5:=Jq (a:=.int .i64 ow) (b:=.int .i64 sq) (c:=.slice a es.length cap) M rfl (Nat.le_refl _) (gh ba b1)
      exact⟨_,a,cap,rfl,h5.1,h5.2.1,jc.not_zero A M Vn.out h5.2.2.2,h5.2.2.1⟩)
 case rest=>
  obtain⟨Z,a,cap,rfl,d1,d2,A,qH⟩:=hcut;have bd:=gh qH (iZ wc);have X:wc.drew.cell? ⟨Z,1,ν⟩=μ (ι κ sq)/\wc.drew.cell? ⟨Z,2,ν⟩=μ (σ a es.length cap):=⟨d1,d2⟩
  have zl:Z<wc.drew.heap.size:=ag wc.drew _ X.1;have YM:eX eY 179 #[π (μ ⟨J,0,ν⟩)] wc.drew λe w'=>∃U Q,e=ρ (σ U ed.length Q)/\jc w' U ed.length ed/\jc w' a es.length es/\eB w w'/\(w'.cell? ⟨Z,1,ν⟩=μ (ι κ sq)/\w'.cell? ⟨Z,2,ν⟩=μ (σ a es.length cap)):=by
   refine(D _ bd).mono ?_;rintro e w3 ⟨U,Q,rfl,zw,b3⟩;exact⟨U,Q,rfl,zw,(A.below (iZ wc)).below b3,gh bd b3,(aj (a:=⟨Z,1,ν⟩) (b3.block Z zl)).trans X.1,(aj (a:=⟨Z,2,ν⟩) (b3.block Z zl)).trans X.2⟩
  obtain⟨bb,Jo⟩:=gg (decide (es=ed));have heq:∀(W:dX) (U:Option dW) (Q:Nat),jc W U ed.length ed->jc W a es.length es->eX eY 178 #[σ a es.length cap,σ U ed.length Q] W λe w'=>e=ρ (.bool bb)/\∃k,w'=W.drewN k:=by
   intro W U Q h1 h2;rw[<-Jo];exact AZ a U cap Q _ _ es ed W h2 h1 dZ dZ
  clear D T d1 d2
  go_wp2
  go_region_held3(λx=>x.cell? ⟨Z,1,ν⟩=μ (ι κ sq)/\x.cell? ⟨Z,2,ν⟩=μ (σ a es.length cap))
   (first|assumption|exact X|exact S|exact F2)
   (first
    |(go_at_call 179;refine YM.mono ?_;rintro e w3 ⟨U,Q,rfl,zw,Yp,b3,S⟩)
    |(go_at_call 178;refine(heq _ _ _ zw Yp).mono ?_;rintro e w4 ⟨rfl,kk,rfl⟩;have F2:(w3.drewN kk).cell? ⟨Z,1,none⟩=some (.int .i64 sq)/\(w3.drewN kk).cell? ⟨Z,2,none⟩=some (.slice a es.length cap):=S))
  all_goals
   have b4:=below_drewN b3 kk;cases bb
   ·have H:es≠ed:=by simpa using Jo
    have YO:=Y.out H _ b4;have f1:=F2.1;have fl:Z<(w3.drewN kk).heap.size:=ag (w3.drewN kk) _ f1;clear Y y heq YM X S F2 zw Yp;go_wp2_with(fail);refine YO.mono ?_;rintro e w5 ⟨rfl,V⟩;clear YO
    go_wp2
    first|go_end0|refine iK rfl rfl ?_
    exact⟨rfl,V⟩
   ·have H:es=ed:=by simpa using Jo
    have V:=y.out H _ b4;clear Y y heq YM X S F2 zw Yp
    go_wp2
    first|go_end0|refine iK rfl rfl ?_
    exact⟨rfl,V⟩
theorem iD.qL {z z':Zt} (h:iD a b z r n)(_hR:mA b z' r)(hl:z.like z')(S:∀k,z'.mine n k->z.mine n k \/a.heap.size<=k)(G:∀k,z.fm.no k->z'.fm.no k)(k:iD b c z' r' n):iD a c z r' n:=by
 have Z:=h.kept;obtain⟨⟨D,M,J,Q,H⟩,Y⟩:=k;refine⟨⟨D,M,Zt.Ew hl J,λx hx=> ?_,λx hx=>H x (G x hx)⟩,⟨Y.os.trans Z.os,Y.tape.trans Z.tape,Y.output.trans Z.output,Nat.le_trans Z.size Y.size,λx hx V U T=>(Y.block x (Nat.lt_of_lt_of_le hx Z.size) (λe=> ?_) (by rw[hl.bm];exact U) (by rw[hl.bs];exact T)).trans (Z.block x hx V U T)⟩⟩
 ·rcases Q x hx with e|e
  {exact S x e};{exact .inr (Nat.le_trans Z.size e)}
 ·rcases S x e with X|X
  {exact V X};{omega}
section
variable {w w':World} {z:Zt} {r:iN} {n:Nat}
theorem iD.c0(h:iD w w' z r n):w'.cell? ⟨z.R,0,ν⟩=μ (ι κ r.id):=by
 obtain⟨⟨z',Z,hl,_⟩,_⟩:=h;have:=Z.c0
 rwa [hl.R]at this
theorem iD.c1(h:iD w w' z r n):w'.cell? ⟨z.R,1,ν⟩=μ (σ (μ ⟨z.g,0,ν⟩) r.n z.cap):=by
 obtain⟨⟨z',Z,hl,_⟩,_⟩:=h;have:=Z.c1
 rwa [hl.R,hl.g,hl.cap]at this
theorem iD.c2(h:iD w w' z r n):w'.cell? ⟨z.R,2,ν⟩=μ (π (μ ⟨z.Bb,0,ν⟩)):=by
 obtain⟨⟨z',Z,hl,_⟩,_⟩:=h;have:=Z.c2
 rwa [hl.R,hl.Bb]at this
theorem iD.lt(h:iD w w' z r n):z.R<w'.heap.size:=ag _ _ h.c0
theorem iD.pt(h:iD w w' z r n) {i:Nat} (hi:i<r.n):∃v,qB w' z.g (i*71) (z.B i) v (r.P i):=by
 obtain⟨⟨z',Z,hl,_⟩,_⟩:=h;have:=Z.pt i hi;rw[hl.g,hl.B]at this;exact⟨_,this⟩
theorem iD.Ka(h:iD w w' z r n):z.g<w'.heap.size:=by
 obtain⟨⟨z',Z,hl,_⟩,_⟩:=h;have:=Z.Ka
 rwa [hl.g]at this
theorem iD.keep(h:iD w w' z r n)(Z:mA w z r0)(Y:¬z.mine n k) {fr:Nat×Nat} (hc:w.heap[k]? =μ (Obj.cells C t fr)):w'.heap[k]? =w.heap[k]? :=
 h.kept.block k (ax.1 hc).1 Y (xX hc (Z.bs.maps _ (.inl rfl))) (λe=>xX hc (Z.bs.maps _ (.inr e)) rfl)
theorem iD.cell {r0:iN} (h:iD w w' z r n)(Z:mA w z r0) {p:dW} {v:dY} (Y:¬z.mine n p.block)(hc:w.cell? p=μ v):w'.cell? p=μ v:=by
 rw[aj (w:=w) (h.kept.block p.block (ag w _ hc) Y (qk hc (Z.bs.maps _ (.inl rfl))) (λe=>qk hc (Z.bs.maps _ (.inr e)) rfl))];exact hc
theorem mA.ur {z:Zt} (h:mA w z r)(hk:w.heap.size<=k):¬z.mine r.n k:=λe=>by have:=h.A7 k e;omega
end
structure oD(w w':dX)(z:Zt)(r:iN)(n N:Nat)(C:Array dY)(t:TypeId):Prop where
 went:iD w w' z r n
 od:iX w' N C t
 nn:r.n=n
 lt:N<w.heap.size
 no:¬z.mine n N
theorem oD.with {w a b:dX} {z z':Zt} {r r':iN} {n N:Nat} {C:Array dY} {t:TypeId} (h:oD w a z r n N C t)(V:r'.n=n)(Y:mA a z' r)(hl:z.like z')(X:∀k,z'.mine n k->z.mine n k \/w.heap.size<=k)(U:∀k,z.fm.no k->z'.fm.no k)(k:iD a b z' r' n):oD w b z r' n N C t:=by
 refine⟨h.went.qL Y hl X U k,?_,V,h.lt,h.no⟩;refine h.od.keep (k.keep Y (λe=> ?_) h.od);rcases X N e with Z|Z
 {exact h.no Z};{have:=h.lt;omega}
theorem iD.call {z:Zt} {E:Ending->Prop} (h:iD w W z r n)(k:∀Z,mA W Z r->z.like Z->eX eY f args W λe w'=>E e/\iD W w' Z r' n):eX eY f args W λe w'=>E e/\iD w w' z r' n:=by
 obtain⟨Z,Y,hl,V,T⟩:=h.ex;refine(k Z Y hl).mono ?_;rintro e w' ⟨X,U⟩;exact⟨X,h.qL Y hl V T U⟩
theorem oD.call {z:Zt} {E:Ending->Prop} (h:oD w W z r n N C t)(U:r'.n=n)(k:∀Z,mA W Z r->z.like Z->eX eY f args W λe w'=>E e/\iD W w' Z r' n):eX eY f args W λe w'=>E e/\oD w w' z r' n N C t:=by
 obtain⟨Z,Y,hl,V,S⟩:=h.went.ex;refine(k Z Y hl).mono ?_;rintro e w' ⟨X,T⟩;exact⟨X,h.with U Y hl V S T⟩
theorem Vo(z:Zt)(r:iN)(i:Nat)(w:dX)(h:mA w z r)(hi:i<r.n):
 eX eY 124 #[π (μ ⟨z.Bb,0,ν⟩),ι κ (i:Int)] w λe w'=>e=ρ (τ #[])/\iD w w' z {r with O:=λx=>if x=i then λ_=>ν else r.O x} r.n:=by
 refine(Rn z.Bb z.fm 6 r.K r.O i w h.bs (by rw[h.bl];exact hi)).mono ?_;rintro e w1 ⟨rfl,Z,Y⟩;exact⟨rfl,h.base Z Y⟩
theorem RC(z:Zt)(r:iN)(i:Nat)(w:dX)(h:mA w z r)(hi:i<r.n):
 eX eY 126 #[π (μ ⟨z.Bb,0,ν⟩),ι κ (i:Int)] w λe w'=>e=ρ η/\iD w w' z {r with O:=λx=>if x=i then qz (r.O i) r.K else r.O x} r.n:=by
 refine(Ro z.Bb z.fm 6 r.K r.O i w h.bs (by rw[h.bl];exact hi) dZ).mono ?_;rintro e w1 ⟨rfl,Z,Y⟩;exact⟨rfl,h.base Z Y⟩
def jU {α:Type} (f:Nat->α)(i:Nat)(x:α):Nat->α:=λj=>if j=i then x else f j
theorem iE(f:Nat->α)(i:Nat)(x:α):jU f i x i=x:=by simp[jU]
theorem iC(f:Nat->α)(x:α)(h:j≠i):jU f i x j=f j:=by simp[jU,h]
theorem wy(f:Nat->α)(i:Nat):jU f i (f i)=f:=by
 funext j
 by_cases e:j=i;{subst e;exact iE _ _ _};{exact iC _ _ e}
structure qC where
 e:Nat->Nat×Nat
 iQ:Bool
 on:Nat->List UInt8
structure iM where
 n:Nat
 R:Nat->iN
 j8:Nat->List zb
 ms:Nat->Nat->Int
 nc:Nat
 C:Nat->qC
def iM.jB(y:iM)(i:Nat)(r:iN):iM:={y with R:=jU y.R i r}
def iM.lq(y:iM)(i:Nat)(c:qC):iM:={y with C:=jU y.C i c}
def qC.put(c:qC)(d:Nat)(s:List UInt8):qC:=if c.iQ=true/\(c.on d).length+s.length<=2000 then {c with on:=jU c.on d (c.on d++s)}else c
def iM.kZ(y:iM)(i d:Nat):iM:=
 (y.jB ((y.C i).e d).1 ((y.R ((y.C i).e d).1).out ((y.C i).e d).2)).lq i ((y.C i).put d ((y.R ((y.C i).e d).1).P ((y.C i).e d).2).out)
def iM.j2(y:iM):Nat->iM
 |0=>y
 |k+1=>((y.j2 k).kZ k 0).kZ k 1
def iM.x6(y:iM)(k:Nat):iM:={y with j8:=jU y.j8 k (y.j8 k++(y.R k).j8),R:=jU y.R k {y.R k with j8:=[] }}
def iM.m7(y:iM):Nat->iM
 |0=>y
 |k+1=>(y.m7 k).x6 k
def iM.gather(y:iM):iM:=(y.j2 y.nc).m7 y.n
def iM.mU(y:iM)(i d:Nat)(up:Bool):iM:=y.jB ((y.C i).e d).1 ((y.R ((y.C i).e d).1).iH ((y.C i).e d).2 up).1
def iM.jZ(y:iM)(i:Nat)(up:Bool):iM:=((y.lq i {y.C i with iQ:=up,on:=λ_=>[] }).mU i 0 up).mU i 1 up
def iM.iH(y:iM)(i:Int)(up:Bool):iM×Nat:=
 if i<0 \/(y.nc:Int)<=i then(y,6)else if(y.C i.toNat).iQ=up then(y,7)else((y.jZ i.toNat up).gather,0)
def iM.tick(y:iM)(i:Int):iM×Nat:=
 if i<1 \/(y.n:Int)<i then(y,6)else((y.jB (i-1).toNat (y.R (i-1).toNat).tick).gather,0)
def iM.jq(y:iM)(i d k:Nat):iM:=
 (y.lq i {y.C i with on:=jU (y.C i).on d (((y.C i).on d).drop k)}).jB ((y.C i).e (1-d)).1 ((y.R ((y.C i).e (1-d)).1).recv ((y.C i).e (1-d)).2 (((y.C i).on d).take k))
def iM.deliver(y:iM)(i d many:Int):iM×Nat:=
 if i<0 \/(y.nc:Int)<=i \/d<0 \/2<=d then(y,6)else((y.jq i.toNat d.toNat (min many.toNat ((y.C i.toNat).on d.toNat).length)).gather,0)
def iM.lA(y:iM)(k:Nat):List Nat:=(fW y.nc).filter λc=>(y.C c).iQ&& (((y.C c).e 0).1==k||((y.C c).e 1).1==k)
def iM.jL(y:iM)(up:Bool):List Nat->iM
 |[] =>y
 |c::l=>(y.jZ c up).jL up l
def iM.restart(y:iM)(i:Int):iM×Nat:=
 if i<1 \/(y.n:Int)<i then(y,6)else
  ((((y.jL false (y.lA (i-1).toNat)).jB (i-1).toNat (jO i 3 (y.ms (i-1).toNat))).jL true (y.lA (i-1).toNat)).gather,0)
def iM.send(y:iM)(f t:Int)(tx:List UInt8):iM×Nat:=
 if f<1 \/(y.n:Int)<f then(y,6)
 else if(kf (y.R (f-1).toNat) t tx).2≠0 then(y,(kf (y.R (f-1).toNat) t tx).2)
 else((y.jB (f-1).toNat (kf (y.R (f-1).toNat) t tx).1).gather,0)
def iM.ja(y:iM):Nat->iM
 |0=>y
 |k+1=>((y.ja k).tick ((k:Int)+1)).1
def iM.jP(y:iM):Nat->iM
 |0=>y
 |k+1=>(((y.jP k).deliver (k:Int) 0 2000).1.deliver (k:Int) 1 2000).1
def iM.turns(y:iM):Nat->iM
 |0=>y
 |k+1=>(y.turns k).jP y.nc
def iM.round(y:iM):iM:=(y.ja y.n).turns 12
structure ot where
 a:Int
 pa:Int
 b:Int
 pb:Int
 m:Int
def kR:List (Int×Int×Int)->Int->Int->Option Int
 |[],_,_=>none
 |x::l,r,p=>if x.1=r/\x.2.1=p then some x.2.2 else kR l r p
def kt(l:List ot):List (Int×Int×Int):=l.flatMap λc=>[(c.a,c.pa,c.m),(c.b,c.pb,c.m)]
def pg(l:List ot)(i p:Nat):Int:=(kR (kt l) ((i:Int)+1) (p:Int)).getD 1
def oU(many r p:Int):Bool:=decide (1<=r)&&decide (r<=many)&&decide (0<=p)&&decide (p<3)
def yI(many:Int):List ot->List (Int×Int×Int)->Nat
 |[],_=>0
 |c::l,E=>
  if c.m<1 \/20<c.m then 1
  else if oU many c.a c.pa=false then 1
  else if(kR E c.a c.pa).isSome=true then 8
  else if oU many c.b c.pb=false then 1
  else if(kR (E++ [(c.a,c.pa,c.m)]) c.b c.pb).isSome=true then 8
  else yI many l (E++ [(c.a,c.pa,c.m),(c.b,c.pb,c.m)])
def nO(many:Int)(l:List ot):Nat:=if many<1 \/6<many then 1 else if 9<l.length then 2 else yI many l []
def ot.at(c:ot)(d:Nat):Nat×Nat:=if d=0 then((c.a-1).toNat,c.pa.toNat)else((c.b-1).toNat,c.pb.toNat)
def nG(l:List ot)(k:Nat):qC:=⟨(l.getD k ⟨1,0,1,0,1⟩).at,false,λ_=>[]⟩
def jM(many:Nat)(l:List ot):iM:=⟨many,λi=>jO ((i:Int)+1) 3 (pg l i),λ_=>[],pg l,l.length,nG l⟩
def Zt.plus(z:Zt)(X:Nat->Prop):Zt:={z with fm:={z.fm with no:=λk=>z.fm.no k \/X k}}
theorem mA.besides {z:Zt} (h:mA w z r)(hs:w.heap.size<=w'.heap.size)(S:∀k,k<w.heap.size->(¬z.fm.no k \/z.mine r.n k)->w'.heap[k]? =w.heap[k]?)
 (X:Nat->Prop) (Y:∀k,X k->w.heap.size<=k/\k<w'.heap.size):mA w' (z.plus X) r:=by
 have U:∀k,z.mine r.n k->w'.heap[k]? =w.heap[k]? :=λk e=>S k (h.A7 k e) (.inr e);have Q:=h.bs.still hs (λj V M=>S j V (.inl M)) h.nb.1 h.nb.2.1 h.nb.2.2 (λk=>z.fm.no k \/X k) (λj V=>V.imp_right (λe=>(Y j e).1)) (λj V=>V.elim (λe=>Nat.lt_of_lt_of_le (h.bs.Rl j e) hs) (λe=>(Y j e).2));have acw:z.Bb<w.heap.size:=by obtain⟨_,_,hF,_⟩:=h.bs.ex;exact hF.lt
 have acx:z.fm.g<w.heap.size:=by obtain⟨_,_,hF,_⟩:=h.bs.ex;exact hF.row.lt _ rfl
 refine⟨h.n1,h.n3,h.NP,h.id,h.od.keep (U _ (.inl rfl)),λi hi=> ?_,h.ib.keep hs (λk e=>U k (.inr (.inr (.inr e)))),Q,h.bl,λk e=>.inl (h.no k e),⟨λe=> ?_,λe=> ?_,λb hb e=> ?_⟩,h.sR,h.sB,h.sV,h.sI,h.Rs⟩;{have Z:=h.pt i hi;obtain⟨F,hC,hF⟩:=Z.xw;exact⟨⟨F,hC.keep (U _ (.inr (.inl rfl))),hF⟩,Z.lk.keep (U _ (.inr (.inr (.inl ⟨i,hi,.inl rfl⟩)))),Z.ou.keep hs (λx hx=>U x (.inr (.inr (.inl ⟨i,hi,.inr hx⟩)))),Z.few,Z.ok,Z.gB,Z.vg,Z.vB,Z.nz⟩}
 ·rcases e with e|e
  {exact h.nb.1 e};{have T:w.heap.size<=z.Bb:=(Y _ e).1;omega}
 ·rcases e with e|e
  {exact h.nb.2.1 e};{have T:w.heap.size<=z.fm.g:=(Y _ e).1;omega}
 ·rcases e with e|e
  {exact h.nb.2.2 b hb e};{have h9:=h.bs.mlt b hb;have T:=(Y _ e).1;omega}
inductive Lab where
 |N
 |R
 |I
 |C
 |ib (i:Nat)
 |on (c d:Nat)
structure Yt where
 N:Nat
 gR:Nat
 tR:Nat
 gI:Nat
 yJ:Nat
 gC:Option Nat
 wz:Nat
 bM:Nat
 z:Nat->Zt
 iv:Nat->dY
 ov:Nat->Nat->dY
 ext:Nat->Prop
def Yt.at(y:Yt):Lab->Option Nat
 | .N=>some y.N
 | .R=>some y.gR
 | .I=>some y.gI
 | .C=>y.gC
 | .ib i=>(y.iv i).ownBlock
 | .on c d=>(y.ov c d).ownBlock
def Yt.own(y:Yt)(k:Nat):Prop:=∃l,y.at l=μ k
def Zt.ph(z:Zt)(k:Nat):Prop:=z.mine 3 k \/k=z.fm.bm \/k∈z.fm.bs
def Yt.away(y:Yt)(n i k:Nat):Prop:=y.own k \/y.ext k \/ ∃j,j<n/\j≠i/\(y.z j).ph k
def Yt.all(y:Yt)(n k:Nat):Prop:=y.own k \/ ∃j,j<n/\(y.z j).ph k
def Yt.cv(y:Yt)(nc:Nat):dY:=match y.gC with|none=>.slice none 0 0|some g=>.slice (some ⟨g,0,none⟩) nc y.wz
def C2(c:qC)(o:Nat->dY):Nat->dY:=λj=>
 if j=0 then ι κ (((c.e 0).1:Int)+1)else if j=1 then ι κ ((c.e 0).2:Int)else if j=2 then ι κ (((c.e 1).1:Int)+1)else if j=3 then ι κ ((c.e 1).2:Int)
 else if j=4 then .bool c.iQ else if j=5 then o 0 else o 1
def wA(r p:Int):dY:=.agg #[ι κ r,ι κ p]
def oE(w:dX)(b:Nat)(E:List (Int×Int×Int)):Prop:=∃es clock,w.heap[b]? =μ (.map es clock)/\es.toList.map (λe=>(e.key,e.val))=E.map λx=>(wA x.1 x.2.1,.int .i64 x.2.2)
def Dt(E:List (Int×Int×Int)):Prop:=∀x∈E,(1<=x.1/\x.1<=6/\0<=x.2.1/\x.2.1<=2)/\kR E x.1 x.2.1=μ x.2.2
def Vp(E:List (Int×Int×Int))(n:Nat)(ms:Nat->Nat->Int):Prop:=(∀(i p:Nat),i<n->p<3->(kR E ((i:Int)+1) (p:Int)).getD 1=ms i p/\1<=ms i p/\ms i p<=20)/\Dt E
structure jF(w:dX)(y:Yt)(n:iM):Prop where
 n1:1<=n.n
 n6:n.n<=6
 c9:n.nc<=9
 od:iX w y.N #[σ (μ ⟨y.gR,0,ν⟩) n.n y.tR,σ (μ ⟨y.gI,0,ν⟩) n.n y.yJ,.map (μ y.bM),y.cv n.nc] 190
 rr:qg w y.gR 0 n.n (λi=>π (μ ⟨(y.z i).R,0,ν⟩))
 ri:qg w y.gI 0 n.n y.iv
 rc:∀g,y.gC=μ g->∀c,c<n.nc->qg w g (c*7) 7 (C2 (n.C c) (y.ov c))
 gc:∀c,c<n.nc->∃g,y.gC=μ g
 mp:∃E,oE w y.bM E/\Vp E n.n n.ms
 rt:∀i,i<n.n->mA w (y.z i) (n.R i)
 rn:∀i,i<n.n->(n.R i).n=3/\(n.R i).id=(i:Int)+1
 ib:∀i,i<n.n->Row w 3 (y.iv i) (n.j8 i).length (rO (n.j8 i))
 ob:∀c d,c<n.nc->d<2->Row w 1 (y.ov c d) ((n.C c).on d).length (iP ((n.C c).on d))
 ol:∀c d,c<n.nc->d<2->((n.C c).on d).length<=2000
 en:∀c d,c<n.nc->d<2->((n.C c).e d).1<n.n/\((n.C c).e d).2<3
 inj:∀l l' k,y.at l=μ k->y.at l'=μ k->l=l'
 away:∀i,i<n.n->∀k,y.away n.n i k->(y.z i).fm.no k/\¬(y.z i).mine 3 k
 nx:∀k,y.ext k->¬y.own k
 nM:¬y.own y.bM/\¬y.ext y.bM/\∀i,i<n.n->¬(y.z i).ph y.bM
 z0:¬y.own 0
structure Yt.same(y y':Yt):Prop where
 N:y'.N=y.N
 gR:y'.gR=y.gR
 tR:y'.tR=y.tR
 gI:y'.gI=y.gI
 yJ:y'.yJ=y.yJ
 gC:y'.gC=y.gC
 wz:y'.wz=y.wz
 bM:y'.bM=y.bM
theorem Yt.Hy(y:Yt):y.same y:=⟨rfl,rfl,rfl,rfl,rfl,rfl,rfl,rfl⟩
theorem Yt.yK {a b c:Yt} (h:a.same b)(k:b.same c):a.same c:=⟨k.N.trans h.N,k.gR.trans h.gR,k.tR.trans h.tR,k.gI.trans h.gI,k.yJ.trans h.yJ,k.gC.trans h.gC,k.wz.trans h.wz,k.bM.trans h.bM⟩
structure ya(w w':dX)(y:Yt)(n:Nat):Prop where
 os:w'.os=w.os
 tape:w'.tape=w.tape
 output:w'.output=w.output
 size:w.heap.size<=w'.heap.size
 block:∀k,k<w.heap.size->¬y.all n k->w'.heap[k]? =w.heap[k]?
structure iF(w w':dX)(y:Yt)(n:iM)(m:Nat):Prop where
 ex:∃y',jF w' y' n/\y.same y'/\(∀k,y'.all m k->y.all m k \/w.heap.size<=k)/\(∀k,y'.ext k↔y.ext k)
 kept:ya w w' y m
theorem jF.lt {y:Yt} {n:iM} (h:jF w y n)(Y:y.own k \/y.ext k):k<w.heap.size:=by
 have Z:=(h.away 0 h.n1 k (Y.imp_right .inl)).1;exact(h.rt 0 h.n1).bs.Rl k Z
theorem jF.Hz {y:Yt} {n:iM} (h:jF w y n):y.bM<w.heap.size:=by
 obtain⟨E,⟨es,clock,Z,_⟩,_⟩:=h.mp;exact(ax.1 Z).1
theorem jF.yL {y:Yt} {n:iM} (h:jF w y n)(hi:i<n.n)(Y:(y.z i).ph k):k<w.heap.size:=by
 rcases Y with e|e|e
 {have Z:=(h.rt i hi).A7 k;rw[(h.rn i hi).1]at Z;exact Z e};{exact(h.rt i hi).bs.mlt k (.inl e)};{exact(h.rt i hi).bs.mlt k (.inr e)}
theorem jF.Lr {y:Yt} {n:iM} (h:jF w y n)(hi:i<n.n)(X:y.away n.n i k):¬(y.z i).ph k:=by
 obtain⟨Z,Y⟩:=h.away i hi k X;intro e;rcases e with e|e|e
 {exact Y e};{exact(h.rt i hi).nb.2.2 k (.inl e) Z};{exact(h.rt i hi).nb.2.2 k (.inr e) Z}
theorem jF.PJ {y:Yt} {n:iM} (h:jF w y n)(hi:i<n.n)(Z:y.own k):¬(y.z i).ph k:=h.Lr hi (.inl Z)
theorem oE.keep {b:Nat} (h:oE w b E)(hb:w'.heap[b]? =w.heap[b]?):oE w' b E:=by
 obtain⟨es,clock,Z,Y⟩:=h;exact⟨es,clock,hb.trans Z,Y⟩
theorem ya.refl(w:dX)(y:Yt)(n:Nat):ya w w y n:=⟨rfl,rfl,rfl,Nat.le_refl _,λ_ _ _=>rfl⟩
theorem iF.refl {w:dX} {y:Yt} {n:iM} (h:jF w y n):iF w w y n n.n:=⟨⟨y,h,y.Hy,λ_ e=>.inl e,λ_=>dV⟩,ya.refl w y n.n⟩
theorem iF.qL {y y':Yt} {n':iM} (h:ya a b y m)(Q:y.same y')(T:∀k,y'.all m k->y.all m k \/a.heap.size<=k)(J:∀k,y'.ext k↔y.ext k)(k:iF b c y' n' m):iF a c y n' m:=by
 obtain⟨⟨H,M,Y,S,X⟩,Z⟩:=k;refine⟨⟨H,M,Yt.yK Q Y,λx hx=> ?_,λx=>(X x).trans (J x)⟩,⟨Z.os.trans h.os,Z.tape.trans h.tape,Z.output.trans h.output,Nat.le_trans h.size Z.size,λx hx U=>(Z.block x (Nat.lt_of_lt_of_le hx h.size) (λe=> ?_)).trans (h.block x hx U)⟩⟩
 ·rcases S x hx with e|e
  {exact T x e};{exact .inr (Nat.le_trans h.size e)}
 ·rcases T x e with V|V
  {exact U V};{omega}
theorem iF.step {y:Yt} {n n':iM} (h:iF a b y n m)(k:∀y',jF b y' n->y.same y'->iF b c y' n' m):iF a c y n' m:=by
 obtain⟨⟨y',X,Z,U,V⟩,Y⟩:=h;exact iF.qL Y Z U V (k y' X Z)
theorem iF.call {y:Yt} {n n':iM} {E:Ending->Prop} (h:iF w W y n m)(k:∀Z,jF W Z n->y.same Z->eX eY f args W λe w'=>E e/\iF W w' Z n' m):eX eY f args W λe w'=>E e/\iF w w' y n' m:=by
 obtain⟨Z,V,Y,T,U⟩:=h.ex;refine(k Z V Y).mono ?_;rintro e w' ⟨X,S⟩;exact⟨X,iF.qL h.kept Y T U S⟩
theorem jF.EH {y:Yt} {n:iM} (h:jF w y n)(hi:i<n.n)(hW:iD w w' (y.z i) r 3)(hr:r.n=3/\r.id=(i:Int)+1):iF w w' y (n.jB i r) n.n:=by
 obtain⟨⟨z',hR,hl,hm,ll⟩,J⟩:=hW;have PL:∀k,z'.ph k->(y.z i).ph k \/w.heap.size<=k:=by
  intro k V;rcases V with e|e|e
  {exact(hm k e).imp_left .inl};{rw[hl.bm]at e;exact .inl (.inr (.inl e))};{rw[hl.bs]at e;exact .inl (.inr (.inr e))}
 have D:∀k,k<w.heap.size->¬(y.z i).ph k->w'.heap[k]? =w.heap[k]? :=λk V hf=>J.block k V (λe=>hf (.inl e)) (λe=>hf (.inr (.inl e))) (λe=>hf (.inr (.inr e)));have H:∀k,y.own k->w'.heap[k]? =w.heap[k]? :=λk e=>D k (h.lt (.inl e)) (h.PJ hi e);obtain⟨X,MD⟩:∃X:Nat->Prop,X=λk=>w.heap.size<=k/\k<w'.heap.size/\z'.mine 3 k:=⟨_,rfl⟩
 have hX:∀k,X k->w.heap.size<=k/\k<w'.heap.size:=λk e=>by rw[MD]at e;exact⟨e.1,e.2.1⟩
 have afX:∀k,z'.mine 3 k->k<w'.heap.size:=λk e=>by
  have:=hR.A7 k;rw[hr.1]at this;exact this e
 obtain⟨Z,hZ⟩:∃Z:Nat->Zt,Z=λj=>if j=i then z' else(y.z j).plus X:=⟨_,rfl⟩
 have S:Z i=z':=by rw[hZ];simp
 have G:∀j,j≠i->Z j=(y.z j).plus X:=λj U=>by rw[hZ];simp[U]
 have hZR:∀j,(Z j).R=(y.z j).R:=λj=>by
  by_cases e:j=i;{subst e;rw[S];exact hl.R};{rw[G j e];rfl}
 have A:∀j k,(Z j).ph k->(y.z j).ph k \/(j=i/\w.heap.size<=k/\z'.mine 3 k):=by
  intro j k V;by_cases e:j=i
  ·subst e;rw[S]at V;rcases V with Y|Y|Y
   ·rcases hm k Y with T|T
    {exact .inl (.inl T)};{exact .inr ⟨rfl,T,Y⟩}
   {rw[hl.bm]at Y;exact .inl (.inr (.inl Y))};{rw[hl.bs]at Y;exact .inl (.inr (.inr Y))}
  ·rw[G j e]at V;exact .inl V
 refine⟨⟨{y with z:=Z},⟨h.n1,h.n6,h.c9,h.od.keep (H _ ⟨.N,rfl⟩),?_,h.ri.keep (H _ ⟨.I,rfl⟩),λg hg c hc=>(h.rc g hg c hc).keep (H _ ⟨.C,hg⟩),h.gc,?_,?_,?_,λj U=>(h.ib j U).keep J.size (λk V=>H k ⟨.ib j,V⟩),λc d hc hd=>(h.ob c d hc hd).keep J.size (λk V=>H k ⟨.on c d,V⟩),h.ol,h.en,h.inj,?_,h.nx,⟨h.nM.1,h.nM.2.1,?_⟩,h.z0⟩,⟨rfl,rfl,rfl,rfl,rfl,rfl,rfl,rfl⟩,?_,λ_=>dV⟩,⟨J.os,J.tape,J.output,J.size,λk V hn=>D k V (λe=>hn (.inr ⟨i,hi,e⟩))⟩⟩;{refine(h.rr.keep (H _ ⟨.R,rfl⟩)).congr λj _=> ?_;show Value.pointer (μ ⟨(y.z j).R,0,ν⟩)=π (μ ⟨(Z j).R,0,ν⟩);rw[hZR j]};{obtain⟨E,h1,h2⟩:=h.mp;exact⟨E,h1.keep (D _ h.Hz (h.nM.2.2 i hi)),h2⟩}
 ·intro j U;show mA w' (Z j) (jU n.R i r j);by_cases e:j=i;{subst e;rw[S,iE];exact hR}
  ·rw[G j e,iC _ _ e];refine(h.rt j U).besides J.size (λk V hc=>D k V (λef=> ?_)) X hX;have Q:=h.away j U k (.inr (.inr ⟨i,hi,λe'=>e e'.symm,ef⟩));rcases hc with hc|hc
   {exact hc Q.1};{rw[(h.rn j U).1]at hc;exact Q.2 hc}
 ·intro j U;show(jU n.R i r j).n=3/\(jU n.R i r j).id=(j:Int)+1;by_cases e:j=i;{subst e;rw[iE];exact hr};{rw[iC _ _ e];exact h.rn j U}
 ·intro j U k V;show(Z j).fm.no k/\¬(Z j).mine 3 k;have hold:(y.own k \/y.ext k \/ ∃x,x<n.n/\x≠j/\(y.z x).ph k) \/(j≠i/\w.heap.size<=k/\z'.mine 3 k):=by
   rcases V with e|e|⟨x,hx,jt,e⟩
   {exact .inl (.inl e)};{exact .inl (.inr (.inl e))}
   ·rcases A x k e with Y|⟨Y,T,e3⟩
    {exact .inl (.inr (.inr ⟨x,hx,jt,Y⟩))};{exact .inr ⟨λe'=>jt (Y.trans e'.symm),T,e3⟩}
  by_cases e:j=i
  ·subst e;rw[S];rcases hold with M|M
   ·have Q:=h.away j U k M;refine⟨ll k Q.1,λY=> ?_⟩;rcases hm k Y with T|T
    {exact Q.2 T};{have:=(h.rt j U).bs.Rl k Q.1;omega}
   ·exact absurd rfl M.1
  ·rw[G j e];rcases hold with M|M
   {have Q:=h.away j U k M;exact⟨.inl Q.1,Q.2⟩};{refine⟨.inr ?_,λY=> ?_⟩;{rw[MD];exact⟨M.2.1,afX k M.2.2,M.2.2⟩};{have h1:k<w.heap.size:=h.yL U (.inl Y);omega}}
 ·intro j U e;rcases A j _ e with Y|⟨_,T,_⟩
  {exact h.nM.2.2 j U Y};{have:=h.Hz;have e2':w.heap.size<=y.bM:=T;omega}
 ·intro k V;rcases V with e|⟨j,U,e⟩
  ·exact .inl (.inl e)
  ·rcases A j k e with Y|⟨_,T,_⟩
   {exact .inl (.inr ⟨j,U,Y⟩)};{exact .inr T}
open Go.ChangeMaps Go.MapKept
theorem Ls:laidOutB eY=true:=gS
theorem acD:192<eY.types.size:=of_decide_eq_true gS
theorem YQ:(match eY.underlying 192 with|some (.array _ _)|some (.struct _)=>true|_=>false)=true:=gS
theorem NZ:Maps.Keyed eY 192:=Maps.Keyed.of_law (deep_law_laid Ls (m:=3) dZ acD gS YQ)
theorem YR:((fW 7).all λi=>(fW 4).all λj=>(keyOf eY 192 (wA (i:Int) (j:Int))).isSome)=true:=gS
theorem Jr {a b:Int} (h:1<=a/\a<=6/\0<=b/\b<=2):∃l,keyOf eY 192 (wA a b)=μ l:=by
 have Z:=aZ.1 (aZ.1 YR a.toNat (aP.2 dZ)) b.toNat (aP.2 dZ);have Y:((a.toNat:Nat):Int)=a:=dZ;have X:((b.toNat:Nat):Int)=b:=dZ;rw[Y,X]at Z;exact Option.isSome_iff_exists.1 Z
theorem Vq {a b c d:Int} (h:wA a b=wA c d):a=c/\b=d:=by
 unfold wA at h;injection h with h
 have Z:=congrArg Array.toList h;simp at Z;exact Z
theorem EI:∀ {E:List (Int×Int×Int)} {r p:Int},(∀x∈E,¬(x.1=r/\x.2.1=p))->kR E r p=ν
 |[],_,_,_=>rfl
 |x::E,r,p,h=>by
  unfold kR;rw[af (h x gU)];exact EI (λz Z=>h z (by simp[Z]))
theorem HJ:∀ {E:List (Int×Int×Int)} {r p m:Int},kR E r p=μ m->(r,p,m)∈E
 |[],_,_,_,h=>by simp[kR]at h
 |x::E,r,p,m,h=>by
  unfold kR at h;split at h
  ·rename_i hx
   have:=Option.some.inj h;have e:x=(r,p,m):=by
    obtain⟨x1,x2,x3⟩:=x;simp at hx this⊢;exact⟨hx.1,hx.2,this⟩
   rw[e];simp
  ·exact cO _ (HJ h)
theorem N1(E:List (Int×Int×Int))(x:Int×Int×Int)(r p:Int):kR (E++ [x]) r p=match kR E r p with|some m=>some m|none=>if x.1=r/\x.2.1=p then some x.2.2 else none:=by
 induction E with
 |nil=>
  show kR [x] r p=_;unfold kR;split<;>rfl
 |cons z E ih=>
  show kR (z::(E++ [x])) r p=_;unfold kR;split;{rfl};{exact ih}
theorem Dt.snoc(h:Dt E) {x:Int×Int×Int} (hx:1<=x.1/\x.1<=6/\0<=x.2.1/\x.2.1<=2)(Y:kR E x.1 x.2.1=ν):Dt (E++ [x]):=λz X=>by
 rw[N1];rcases av.1 X with Z|Z
 ·have:=h z Z;exact⟨this.1,by rw[this.2]⟩
 ·have:z=x:=by simpa using Z
  subst this;exact⟨hx,by rw[Y];simp⟩
theorem oE.find {w:dX} {b:Nat} {E:List (Int×Int×Int)} {es:Array MapEntry} {clock:Nat} (_hb:w.heap[b]? =μ (.map es clock))(Q:es.toList.map (λe=>(e.key,e.val))=E.map λx=>(wA x.1 x.2.1,.int .i64 x.2.2))(S:Dt E) {r p:Int} (D:1<=r/\r<=6/\0<=p/\p<=2):
 (kR E r p=ν/\(gp 192 (wA r p) es.toList).run eY w=.ok ν w) \/ ∃m j,kR E r p=μ m/\(gp 192 (wA r p) es.toList).run eY w=.ok (μ (j,ι κ m)) w:=by
 obtain⟨l,hl⟩:=Jr D;have M:∀e∈es.toList,∃x∈E,e.key=wA x.1 x.2.1/\e.val=.int .i64 x.2.2:=λe V=>by
  have Z:(e.key,e.val)∈es.toList.map (λe=>(e.key,e.val)):=bH.2 ⟨e,V,rfl⟩;rw[Q]at Z;obtain⟨x,hx,Y⟩:=bH.1 Z;injection Y with U X
  exact⟨x,hx,U.symm,X.symm⟩
 have T:∀x∈E,∃e∈es.toList,e.key=wA x.1 x.2.1:=λx hx=>by
  have Z:(wA x.1 x.2.1,(ι κ x.2.2:dY))∈E.map λx=>(wA x.1 x.2.1,(ι κ x.2.2:dY)):=bH.2 ⟨x,hx,rfl⟩;rw[<-Q]at Z;obtain⟨e,V,Y⟩:=bH.1 Z;injection Y with U X
  exact⟨e,V,U⟩
 rcases NZ.find w hl es.toList (λe V=>by
  obtain⟨x,hx,Z,_⟩:=M e V;rw[Z];exact Jr (S x hx).1)with⟨Z,Y⟩|⟨j,e,Z,Y,U⟩
 {left;refine⟨EI (λx hx hc=> ?_),Z⟩;obtain⟨e,V,X⟩:=T x hx;exact Y e V (by rw[X,hc.1,hc.2])};{right;obtain⟨x,hx,X,G⟩:=M e (bI Y);rw[U]at X;obtain⟨J,H⟩:=Vq X;refine⟨x.2.2,j,?_,by rw[Z,G]⟩;rw[J,H];exact(S x hx).2}
theorem oE.look {b:Nat} (h:oE w b E)(V:Dt E) {r p:Int} (X:1<=r/\r<=6/\0<=p/\p<=2):
 (fq 184 (.map (μ b)) (wA r p) true).run eY w=.ok (τ #[ι κ ((kR E r p).getD 0),.bool (kR E r p).isSome]) w:=by
 obtain⟨es,clock,hb,U⟩:=h;obtain⟨l,hl⟩:=Jr X;have T:(zeroValue 3).run eY w=.ok (ι κ 0) w:=gS;have hc:=NZ.check w es.isEmpty hl;unfold fq;simp only[fQ,run_underlying gq,eG,gu hb,Sem.run_pure,hc];rcases oE.find hb U V X with⟨Z,Y⟩|⟨m,j,Z,Y⟩
 {simp only[Y,eG,fQ,T,Sem.run_pure,Z];rfl};{simp only[Y,eG,Z];rfl}
theorem oE.store {b:Nat} (h:oE w b E)(U:Dt E) {r p m:Int} (V:1<=r/\r<=6/\0<=p/\p<=2)(S:kR E r p=ν):
 ∃w',(fh 184 (.map (μ b)) (wA r p) (ι κ m)).run eY w=.ok () w'/\oE w' b (E++ [(r,p,m)])/\w'.os=w.os/\w'.tape=w.tape/\w'.output=w.output/\w'.heap.size=w.heap.size/\∀k,k≠b->w'.heap[k]? =w.heap[k]? :=by
 obtain⟨es,clock,hb,X⟩:=h;obtain⟨l,hl⟩:=Jr V;have hc:=NZ.check w false hl;have Q:b<w.heap.size:=(ax.1 hb).1;rcases oE.find hb X U V with⟨Z,Y⟩|⟨m',j,Z,Y⟩
 {refine⟨{w with heap:=w.heap.setIfInBounds b (.map (es.push {key:=wA r p,val:=.int .i64 m,born:=clock}) (clock+1))},?_,⟨es.push {key:=wA r p,val:=.int .i64 m,born:=clock},clock+1,?_,?_⟩,rfl,rfl,rfl,gU,λk T=> ?_⟩;{unfold fh;simp only[fQ,run_underlying gq,eG,gu hb,hc,Y,Go.MapKept.run_setObj_map _ hb]};{simp[Q]};{simp[X]};{show(w.heap.setIfInBounds b _)[k]? =_;rw[Array.getElem?_setIfInBounds_ne (λe=>T e.symm)]}};{rw[S]at Z;simp at Z}
theorem EJ(r:iN):r.change.n=r.n:=by
 unfold iN.change iN.behind;split;{rfl};{split<;>rfl}
theorem Ba(r:iN)(s:Int):(r.behind s).id=r.id:=by
 unfold iN.behind;split<;>rfl
theorem Vr(r:iN)(s:Int):(r.behind s).n=r.n:=by
 unfold iN.behind;split<;>rfl
theorem H4(r:iN):r.change.id=r.id:=by
 unfold iN.change;split;{rfl};{exact Ba r _}
theorem Bc(r:iN)(i:Nat)(q:lD):(r.meet i q).n=r.n:=by
 unfold iN.meet;simp only;split;{rfl};{split;{exact EJ _};{exact EJ _}}
theorem Du(r:iN)(i:Nat)(q:lD):(r.meet i q).id=r.id:=by
 unfold iN.meet;simp only;split;{rfl};{split;{exact H4 _};{exact H4 _}}
section
variable {w W:World} {z:Zt} {r:iN} {n N:Nat} {C:Array Value} {t:TypeId}
theorem Vs(h:oD w W z r n N C t)(i:Nat)(hi:i<r.n):
 eX eY 124 #[π (μ ⟨z.Bb,0,ν⟩),ι κ (i:Int)] W λe w'=>e=ρ (τ #[])/\oD w w' z {r with O:=λx=>if x=i then λ_=>ν else r.O x} n N C t:=by
 have Y:=h.nn;subst Y;refine h.call rfl λX Z hl=> ?_;rw[<-hl.Bb];exact Vo X r i W Z hi
theorem N3(h:oD w W z r n N C t)(X:ln r):
 eX eY 125 #[π (μ ⟨z.R,0,ν⟩)] W λe w'=>e=ρ (τ #[])/\oD w w' z r.change n N C t:=by
 have Y:=h.nn;subst Y;refine h.call (EJ r) λV Z hl=> ?_;rw[<-hl.R];exact NW V r W Z X
theorem Vt(h:oD w W z r n N C t)(i:Nat)(hi:i<n):
 eX eY 126 #[π (μ ⟨z.Bb,0,ν⟩),ι κ (i:Int)] W λe w'=>e=ρ η/\iD w w' z {r with O:=λx=>if x=i then qz (r.O i) r.K else r.O x} n:=by
 have Y:=h.nn;subst Y;refine h.went.call λX Z hl=> ?_;rw[<-hl.Bb];exact RC X r i W Z hi
end
theorem wB(z:Zt)(r:iN)(i:Nat)(q:lD)(w:dX)(h:mA w z r)(iO:ln r)(hi:i<r.n)(hq:oj r.id q):
 eX eY 74 #[π (μ ⟨z.R,0,ν⟩),.int .i64 (i:Int),.agg #[.int .i64 q.who,.bool q.both,.int .i64 q.left]] w λe w'=>e=ρ (τ #[])/\iD w w' z (r.meet i q) r.n:=by
 have kT:(i:Int)<(r.n:Int):=dZ;have MC:(0:Int)<=(i:Int):=dZ;have hzp:=Ec;obtain⟨p,hp⟩:=gg (r.P i);have ba:=gT w (γ #[.int .i64 q.who,.bool q.both,.int .i64 q.left] 116);have bb:=gh ba (gT (w.alloc (γ #[.int .i64 q.who,.bool q.both,.int .i64 q.left] 116)) (γ #[.int .i64 p.pe.who,.bool p.pe.both,.int .i64 p.pe.left] 116));have M:=h.below ba;have c1:=M.c1;have cl:=M.lt;have g1:=(M.pt i hi).c67;have g2:=(M.pt i hi).c68;have g3:=(M.pt i hi).c69;have gl:=M.Ka;rw[hp]at g1 g2 g3;have R2:=h.below bb;have T:iX ((w.alloc (γ #[.int .i64 q.who,.bool q.both,.int .i64 q.left] 116)).alloc (γ #[.int .i64 p.pe.who,.bool p.pe.both,.int .i64 p.pe.left] 116)) w.heap.size #[.int .i64 q.who,.bool q.both,.int .i64 q.left] 116:=(iX.new w _ _).below (gT _ _);have X:iX ((w.alloc (γ #[.int .i64 q.who,.bool q.both,.int .i64 q.left] 116)).alloc (γ #[.int .i64 p.pe.who,.bool p.pe.both,.int .i64 p.pe.left] 116)) (w.heap.size+1) #[.int .i64 p.pe.who,.bool p.pe.both,.int .i64 p.pe.left] 116:=iX.Gf _ _ _ _ gU;have HR:Hid _:=h;have Vu:Hid _:=iO;have HP:Hid _:=hp;clear iO M hp
 go_in
 go_wp2_with(fail);obtain⟨Z,j6⟩:=gg ((w.alloc (γ #[.int .i64 q.who,.bool q.both,.int .i64 q.left] 116)).alloc (γ #[.int .i64 p.pe.who,.bool p.pe.both,.int .i64 p.pe.left] 116));rw[j6]at bb R2 T X;rw[j6];have J:¬z.mine r.n w.heap.size:=h.ur (Nat.le_refl _);have hgN:z.g<w.heap.size:=h.Ka;obtain⟨N,hN⟩:=gg (w.heap.size);rw[hN]at T X J hgN;rw[hN];have Rd:=R2.below (iZ Z);have hPe:=(Rd.pt i hi).peer q;have H:=Rd.port hi hPe;have hBs:oD Z (((Z.drew.setCell ⟨z.g,i*71+67,ν⟩ (.int .i64 q.who)).setCell ⟨z.g,i*71+68,ν⟩ (.bool q.both)).setCell ⟨z.g,i*71+69,ν⟩ (.int .i64 q.left)) z (r.iU i {p with pe:=q}) r.n N #[.int .i64 q.who,.bool q.both,.int .i64 q.left] 116:=by
  rw[HP.out]at H;exact⟨iD.first R2 rfl (iZ Z) (λ_=>H),((T.drew.other dZ _).other dZ _).other dZ _,rfl,T.lt,J⟩
 have afZ:iX (((Z.drew.setCell ⟨z.g,i*71+67,ν⟩ (.int .i64 q.who)).setCell ⟨z.g,i*71+68,ν⟩ (.bool q.both)).setCell ⟨z.g,i*71+69,ν⟩ (.int .i64 q.left)) (N+1) #[.int .i64 p.pe.who,.bool p.pe.both,.int .i64 p.pe.left] 116:=((X.drew.other dZ _).other dZ _).other dZ _;have e1:=Rd.c1;have eg:=Rd.Ka;have el:=Rd.lt;have y0:Z.drew.cell? ⟨N,0,ν⟩=μ (ι κ q.who):=T.cell 0;have y1:Z.drew.cell? ⟨N,1,ν⟩=μ (.bool q.both):=T.cell 1;have y2:Z.drew.cell? ⟨N,2,ν⟩=μ (.int .i64 q.left):=T.cell 2;have x7:=(Rd.pt i hi).c67;have x8:=(Rd.pt i hi).c68;have x9:=(Rd.pt i hi).c69;have f7:=(Rd.pt i hi).fz 67 ew;have f8:=(Rd.pt i hi).fz 68 ew;have f9:=(Rd.pt i hi).fz 69 ew;rw[HP.out]at x7 x8 x9;have hS:((Z.setCell ⟨z.g,i*71+67,ν⟩ (.int .i64 q.who)).drew.cell? ⟨z.g,i*71+67+1,ν⟩=μ (.bool p.pe.both)/\(Z.setCell ⟨z.g,i*71+67,ν⟩ (.int .i64 q.who)).drew.frozen? ⟨z.g,i*71+67+1,ν⟩=false)/\(((Z.setCell ⟨z.g,i*71+67,ν⟩ (.int .i64 q.who)).setCell ⟨z.g,i*71+67+1,ν⟩ (.bool q.both)).drew.cell? ⟨z.g,i*71+67+2,ν⟩=μ (.int .i64 p.pe.left)/\((Z.setCell ⟨z.g,i*71+67,ν⟩ (.int .i64 q.who)).setCell ⟨z.g,i*71+67+1,ν⟩ (.bool q.both)).drew.frozen? ⟨z.g,i*71+67+2,ν⟩=false):=by
  obtain⟨F,hC,_⟩:=(Rd.pt i hi).xw;rw[HP.out]at hC;have h1:=hC.set 67 ew (ι κ q.who);have h2:=h1.set 68 ew (.bool q.both);exact⟨⟨h1.cell 68 ew,h1.fz 68 ew⟩,h2.cell 69 ew,h2.fz 69 ew⟩
 obtain⟨⟨s1,s2⟩,s3,s4⟩:=hS;clear x8 x9 f8 f9;have YS:Hid _:=bb;have HR2:Hid _:=R2;have A:Hid _:=hBs;have HQ:Hid _:=hq;clear h hq j6 Rd hPe H hBs bb R2 T X ba c1 cl g1 g2 g3 gl
 go_region
 obtain⟨S,nr⟩:=gg ((((Z.setCell ⟨z.g,i*71+67,ν⟩ (.int .i64 q.who)).setCell ⟨z.g,i*71+67+1,ν⟩ (.bool q.both)).setCell ⟨z.g,i*71+67+2,ν⟩ (.int .i64 q.left)).drew);rw[nr];have Q:oD Z S z (r.iU i {p with pe:=q}) r.n N #[.int .i64 q.who,.bool q.both,.int .i64 q.left] 116:=by rw[<-nr];exact A.out
 have X:iX S (N+1) #[.int .i64 p.pe.who,.bool p.pe.both,.int .i64 p.pe.left] 116:=by rw[<-nr];exact afZ
 have y0:S.cell? ⟨N,0,ν⟩=μ (ι κ q.who):=Q.od.cell 0;have y1:S.cell? ⟨N,1,ν⟩=μ (.bool q.both):=Q.od.cell 1;have u0:S.cell? ⟨N+1,0,ν⟩=μ (ι κ p.pe.who):=X.cell 0;have u1:S.cell? ⟨N+1,1,ν⟩=μ (.bool p.pe.both):=X.cell 1;have nl:=Q.od.lt;have nl6:=X.lt;have d2:=Q.went.c2;have dl:=Q.went.lt;have D:Hid _:=Q;have V:Hid (r.meet i q=if q.who=p.pe.who/\q.both=p.pe.both then r.iU i {p with pe:=q}else if q.both=true then {(({r.iU i {p with pe:=q}with O:=λx=>if x=i then λ_=>ν else r.O x}:iN).change)with O:=λx=>if x=i then qz ((({r.iU i {p with pe:=q}with O:=λx=>if x=i then λ_=>ν else r.O x}:iN).change).O i) (({r.iU i {p with pe:=q}with O:=λx=>if x=i then λ_=>ν else r.O x}:iN).change).K else(({r.iU i {p with pe:=q}with O:=λx=>if x=i then λ_=>ν else r.O x}:iN).change).O x}else({r.iU i {p with pe:=q}with O:=λx=>if x=i then λ_=>ν else r.O x}:iN).change):=by
  show _=_;unfold iN.meet;rw[HP.out];rfl
 obtain⟨r1,k8⟩:=gg (r.iU i {p with pe:=q});have kX:ln r1:=by rw[<-k8];exact Vu.out.iU i _ (by rw[HP.out]) (λ_=>HQ.out)
 have mO:r1.n=r.n:=by rw[<-k8];rfl
 have hO1:r1.O=r.O:=by rw[<-k8];rfl
 rw[k8]at D V;rw[<-hO1]at V;have G:Hid (∀W rr,iD Z W z rr r.n->iD w W z rr r.n):=λW rr hw=>iD.first HR.out rfl YS.out (λ_=>hw);have C4:Hid _:=kX;have HN1:Hid _:=mO;clear nr Q X afZ k8 kX mO hO1 A HP HQ Vu s1 s2 s3 s4 x7 f7 e1 eg el HR2 YS HR hgN J hzp;by_cases hs:q.who=p.pe.who/\q.both=p.pe.both
 ·have q1:(q.who==p.pe.who)=true:=by simp[hs.1]
  have q2:(q.both==p.pe.both)=true:=by simp[hs.2]
  have y:Hid (iD w S z (r.meet i q) r.n):=by
   show iD _ _ _ _ _;rw[V.out,ai hs];exact G.out _ _ D.out.went
  clear hs V G D
  go_wp2
  first|go_end0|refine iK rfl rfl ?_
  exact⟨rfl,y.out⟩
 ·obtain⟨Y,sW⟩:∃Y:iN,({r1 with O:=λx=>if x=i then λ_=>ν else r1.O x}:iN)=Y:=⟨_,rfl⟩
  have hp2:eX eY 124 #[π (μ ⟨z.Bb,0,ν⟩),.int .i64 (i:Int)] S λe w'=>e=ρ (τ #[])/\oD Z w' z Y r.n N #[.int .i64 q.who,.bool q.both,.int .i64 q.left] 116:=by
   refine(Vs D.out i (by rw[HN1.out];exact hi)).mono ?_;rintro e w3 ⟨rfl,hw⟩;exact⟨rfl,by rw[<-sW];exact hw⟩
  have hch:Hid (∀W,oD Z W z Y r.n N #[.int .i64 q.who,.bool q.both,.int .i64 q.left] 116->eX eY 125 #[π (μ ⟨z.R,0,ν⟩)] W λe w'=>e=ρ (τ #[])/\oD Z w' z Y.change r.n N #[.int .i64 q.who,.bool q.both,.int .i64 q.left] 116):=by
   intro W H;have acE:ln Y:=by rw[<-sW];exact C4.out.yH _
   exact N3 H acE
  have Js:Hid (∀W,oD Z W z Y.change r.n N #[.int .i64 q.who,.bool q.both,.int .i64 q.left] 116->eX eY 126 #[π (μ ⟨z.Bb,0,ν⟩),.int .i64 (i:Int)] W λe w'=>e=ρ η/\iD Z w' z {Y.change with O:=λx=>if x=i then qz (Y.change.O i) Y.change.K else Y.change.O x} r.n):=by
   intro W H;exact Vt H i hi
  rw[af hs,sW]at V;have HNE:Hid ((q.who==p.pe.who)=false \/(q.who==p.pe.who)=true/\(q.both==p.pe.both)=false):=by
   show _ \/_;cases h1:(q.who==p.pe.who);{exact .inl rfl};{refine .inr ⟨rfl,?_⟩;cases h2:(q.both==p.pe.both);{rfl};{exact absurd ⟨by simpa using h1,by simpa using h2⟩ hs}}
  clear hs sW C4 HN1;rcases HNE.out with q1|⟨q1,q2⟩
  all_goals
   clear HNE;go_wp2_with(fail);refine hp2.mono ?_;rintro e W3 ⟨rfl,Tx⟩;have hc3:=hch.out _ Tx;clear hp2 hch Tx D y0 y1 u0 u1 nl nl6 d2 dl;go_wp2_with(fail);refine hc3.mono ?_;rintro e W4 ⟨rfl,U⟩;have y1:W4.cell? ⟨N,1,ν⟩=μ (.bool q.both):=U.od.cell 1;have nl:=U.od.lt;have d2:=U.went.c2;have dl:=U.went.lt;clear hc3;cases hb:q.both with
   |false=>
    rw[hb]at y1;have y:Hid (iD w W4 z (r.meet i q) r.n):=by
     show iD _ _ _ _ _;rw[V.out,hb,af gU];exact G.out _ _ U.went
    clear V G Js U
    go_wp2
    first|go_end0|refine iK rfl rfl ?_
    exact⟨rfl,y.out⟩
   |true=>
    rw[hb]at y1;have hm5:=Js.out _ U;have y:Hid (∀W,iD Z W z {Y.change with O:=λx=>if x=i then qz (Y.change.O i) Y.change.K else Y.change.O x} r.n->iD w W z (r.meet i q) r.n):=by
     intro W hw;rw[V.out,hb,ai rfl];exact G.out _ _ hw
    clear V G Js U;go_wp2_with(fail);refine hm5.mono ?_;rintro e W5 ⟨rfl,F9⟩;have MH:=y.out _ F9;clear hm5 F9
    go_wp2
    first|go_end0|refine iK rfl rfl ?_
    exact⟨rfl,MH⟩
theorem Jt(C:kQ)(r:Nat):(pY C r).length<=7:=rm _ _
theorem Bf(z:Zt)(r:iN)(w:dX)(h:mA w z r)(y:XF r.K):
 eX eY 64 #[π (μ ⟨z.R,0,ν⟩)] w λe w'=>∃b c,e=ρ (σ b (mr r).length c)/\HsN w w' b (mr r).length (mr r)/\eB w w':=by
 have V:=h.below (iZ w);have A:r.id=((r.id.toNat:Nat):Int):=by have:=h.id;omega
 have Y:eX eY 110 #[π (μ ⟨z.Bb,0,ν⟩)] w.drew λe w'=>∃a n cap,e=ρ (σ a n cap)/\(∀W,eB w' W->eX eY 116 #[σ a n cap,ι κ r.id] W λe X=>∃b c,e=ρ (σ b (mr r).length c)/\HsN w X b (mr r).length (mr r)/\eB w X/\(X.cell? ⟨z.R,0,ν⟩=μ (ι κ r.id)/\X.cell? ⟨z.R,2,ν⟩=μ (π (μ ⟨z.Bb,0,ν⟩))))/\(w'.cell? ⟨z.R,0,ν⟩=μ (ι κ r.id)/\w'.cell? ⟨z.R,2,ν⟩=μ (π (μ ⟨z.Bb,0,ν⟩))):=by
  refine(Lh z.Bb z.fm 6 r.K r.O w.drew V.bs).mono ?_;rintro e w1 ⟨a,n,cap,S,E,rfl,hS,D,h6,_,b1⟩;have M:=V.below b1;refine⟨a,n,cap,rfl,λW Q=> ?_,M.c0,M.c2⟩;have hh:=UB a n cap S E r.id.toNat W (hS.below Q) dZ D.ok (by have:=h.id;omega) (by have:=h.id;omega);rw[<-A]at hh;rw[vr.grid D y]at hh;refine hh.mono ?_;rintro e X ⟨b,c,rfl,U,b2⟩;have G:=(M.below Q).below b2;exact⟨b,c,rfl,⟨U.r,λx e=>Nat.le_trans (gh (gh (iZ w) b1) Q).size (U.nw x e)⟩,gh (gh (gh (iZ w) b1) Q) b2,G.c0,G.c2⟩
 have Z:=And.intro V.c0 V.c2;generalize mr r=L at Y⊢;generalize z.R=T at Y Z⊢;generalize z.Bb=Bb at Y Z;generalize r.id=id at Y Z;clear h V A;have Z:w.drew.cell? ⟨T,0,ν⟩=μ (ι κ id)/\w.drew.cell? ⟨T,2,ν⟩=μ (π (μ ⟨Bb,0,ν⟩)):=Z
 go_in
 go_wp2
 go_region_held3(λx=>x.cell? ⟨T,0,ν⟩=μ (ι κ id)/\x.cell? ⟨T,2,ν⟩=μ (π (μ ⟨Bb,0,ν⟩)))
  (first|assumption|exact Z|exact J|exact H)
  (first
   |(go_at_call 110;refine Y.mono ?_;rintro e w1 ⟨a,n,cap,rfl,hh,J⟩)
   |(go_at_call 116;refine(hh _ (au _ _)).mono ?_;rintro e X ⟨b,c,rfl,U,b2,H⟩))
 all_goals
  have HH:Hid _:=U;clear Y hh Z J H U
  go_wp2
  go_ret
  first|exact⟨b,c,rfl,HH.out,b2⟩|exact⟨b,⟨c,rfl,HH.out,b2⟩⟩
def YT(r:iN)(t h:Int):Option Nat:=if 1<=h then(AO (mr r) t).bind λx=>jQ r.P x.rJ r.n else ν
def sM(F:Int->Option PS)(j m:Nat):List (Int×PS):=(List.range' j m).filterMap λ(j:Nat)=>(F ((j:Int)+1)).map λq=>((j:Int)+1,q)
theorem N4(F:Int->Option PS):lE F=sM F 0 6:=by unfold lE sM;rw[dh]
theorem tS {F:Int->Option PS} {n:Nat} {S:Nat->SV} {E:Nat->List jJ} (h:vr F n S E):∀(m j k:Nat),j+m=6->k<=n->(∀i,i<k->(S i).own<=j)->(∀i,k<=i->i<n->(j:Int)<(S i).own)->sM F j m=(List.range' k (n-k)).map λi=>((S i).own,((S i).seq,E i))
 |0,j,k,hj,hk,h1,h2=>by
  have:n-k=0:=by
   by_cases e:k<n;{have Y:=h2 k (Nat.le_refl _) e;have Z:=(ju (h.ok k e)).1;omega};{omega}
  rw[this];rfl
 |m+1,j,k,hj,hk,h1,h2=>by
  have e:sM F j (m+1)=(match F ((j:Int)+1)with|none=>sM F (j+1) m|some q=>((j:Int)+1,q)::sM F (j+1) m):=by
   unfold sM;rw[dE,bh];cases F ((j:Int)+1)<;>simp
  rw[e];cases hF:F ((j:Int)+1)with
  |none=>
   simp only;refine tS h m (j+1) k dZ hk (λi hi=>by have:=h1 i hi;omega) (λi Y Z=> ?_);have h5:=h2 i Y Z;have h6:(S i).own≠(j:Int)+1:=λe=>by
    have:=(h.at_ i Z).2;rw[e,hF]at this;cases this
   omega
  |some q=>
   simp only;obtain⟨i,hi,V⟩:=h.all ((j:Int)+1) ⟨dZ,dZ⟩ (by rw[hF];rfl);have hki:k<=i:=by
    by_cases e:i<k;{have:=h1 i e;omega};{omega}
   have X:i=k:=by
    by_cases e:i=k;{exact e};{have Y:=h.Tw k i dZ hi;have Z:=h2 k (Nat.le_refl _) dZ;omega}
   subst X;have U:=(h.at_ i hi).2;rw[V,hF]at U;have T:=Option.some.inj U;have en:n-i=(n-(i+1))+1:=dZ;rw[en,dE,List.map_cons,V,<-T];congr 1;refine tS h m (j+1) (i+1) dZ dZ (λx hx=> ?_) (λx Y Z=> ?_);{by_cases e:x=i;{subst e;omega};{have:=h1 x dZ;omega}};{have:=h.Tw i x dZ Z;omega}
theorem RD {F:Int->Option PS} {S:Nat->SV} {E:Nat->List jJ} (h:vr F n S E):lE F=(fW n).map λi=>((S i).own,((S i).seq,E i)):=by
 rw[N4,tS h 6 0 0 rfl (Nat.zero_le _) (λi hi=>dZ) (λi _ hi=>by have:=(ju (h.ok i hi)).1;omega),dh];rfl
theorem Vv(B:Nat)(m:FM)(k:Nat)(K:Int->Option PS)(O:Nat->Int->Option PS)(p:Nat)(w:dX)(h:BR w B m k K O)(Y:p<m.bs.length):
 eX eY 151 #[π (μ ⟨B,0,ν⟩),ι κ (p:Int)] w λe w'=>∃a n cap S E,e=ρ (σ a n cap)/\vT w' a n S E/\vr (O p) n S E/\n<=6/\(∀j,eh (σ a n cap)=μ j->w.heap.size<j)/\(∀i,i<n->∀j,eh (σ (S i).a (S i).n (S i).cap)=μ j->w.heap.size<j)/\eB w w':=by
 obtain⟨kn,ow,hF,hT,X⟩:=h.ex;refine(Va B m k kn ow (mT (O p)) p w hF Y (X p Y).fine).mono ?_;rintro e w1 ⟨v,ts,rfl,Z⟩;obtain⟨a,cap,rfl,V,U,T,Q⟩:=Z.lists (X p Y);refine⟨a,ts.length,cap,_,_,rfl,V,U,T,Q,λi hi j M=> ?_,Z.nQ⟩;have J:ts.getD i SV.zero∈ts:=by
  have:ts.getD i SV.zero=ts[i] :=by simp[List.getD,hi]
  rw[this];exact aF hi
 exact((Z.el _ J).new j M).1
theorem Cf:∀(l:List (Int×PS)) (p:jv) (q:Int×PS),p.kH (l++ [q])=(p.kH l).put 83 (rh q.1 q.2.1 q.2.2)
 |[],_,_=>rfl
 |x::l,p,q=>by
  show(p.put 83 (rh x.1 x.2.1 x.2.2)).kH (l++ [q])=((p.put 83 (rh x.1 x.2.1 x.2.2)).kH l).put _ _;exact Cf l _ q
theorem yM:∀(l:List (Int×PS)) (p:jv),(p.kH l).out.length<=p.out.length+126*l.length
 |[],p=>by simp[jv.kH]
 |x::l,p=>by
  have h1:=yM l (p.put 83 (rh x.1 x.2.1 x.2.2));have h2:=xx p 83 (rh x.1 x.2.1 x.2.2);have e:p.kH (x::l)=(p.put 83 (rh x.1 x.2.1 x.2.2)).kH l:=rfl;rw[e,cQ];omega
theorem rP(p:jv)(c:UInt8)(s:List UInt8):(p.put c s).pe=p.pe:=by
 unfold jv.put;split;{rfl};{split<;>rfl}
theorem Bg(r:iN)(i:Nat)(p q:jv):(r.iU i p).iU i q=r.iU i q:=by
 have:k9 (k9 r.P i p) i q=k9 r.P i q:=by
  funext x
  unfold k9;by_cases e:x=i;{simp[e]};{simp[e]}
 show({r with P:=k9 (k9 r.P i p) i q}:iN)={r with P:=k9 r.P i q}
 rw[this]
def mJ(r:iN)(i:Nat):iN:=
 let p:=(r.P i).put 72 [jY r.id,jY (r.P i).pe.who]
 r.iU i (if(r.P i).pe.both=true then p.kH (lE (r.O i))else p)
theorem jc.went {z:Zt} (h:iD w w' z r n)(Y:mA w z r0) {a:Option dW} {cap:Nat} (U:jc w a m es)(V:∀j,eh (σ a m cap)=μ j->¬z.mine n j):jc w' a m es:=by
 refine⟨U.1,?_⟩;rcases U.2 with Z|⟨b,off,rfl,Z⟩
 {exact .inl Z};{exact .inr ⟨b,off,rfl,λj X=>⟨h.cell Y (p:=⟨b,_,ν⟩) (V b rfl) (Z j X).1,h.cell Y (p:=⟨b,_,ν⟩) (V b rfl) (Z j X).2⟩⟩}
theorem vT.went {w w':dX} {z:Zt} {r r0:iN} {n:Nat} (h:iD w w' z r n)(Y:mA w z r0) {a:Option dW} {m cap:Nat} {S:Nat->SV} {E:Nat->List jJ} (hs:vT w a m S E)(X:∀j,eh (σ a m cap)=μ j->¬z.mine n j)(U:∀i,i<m->∀j,eh (σ (S i).a (S i).n (S i).cap)=μ j->¬z.mine n j):vT w' a m S E:=by
 refine⟨?_,λj Z=>⟨jc.went h Y (hs.opt j Z).1 (U j Z),(hs.opt j Z).2⟩⟩;rcases hs.row with V|⟨b,off,rfl,V⟩
 {exact .inl V};{refine .inr ⟨b,off,rfl,λj Z=> ?_⟩;obtain⟨c1,c2,c3⟩:=V j Z;exact⟨h.cell Y (p:=⟨b,_,ν⟩) (X b rfl) c1,h.cell Y (p:=⟨b,_,ν⟩) (X b rfl) c2,h.cell Y (p:=⟨b,_,ν⟩) (X b rfl) c3⟩}
theorem Vw(z:Zt)(r:iN)(i:Nat)(w:dX)(h:mA w z r)(iO:ln r)(hi:i<r.n)(vC:(r.P i).out.length<=700000000):
 eX eY 85 #[π (μ ⟨z.R,0,ν⟩),ι κ (i:Int)] w λe w'=>e=ρ (τ #[])/\iD w w' z (mJ r i) r.n:=by
 have kT:(i:Int)<(r.n:Int):=dZ;have MC:(0:Int)<=(i:Int):=dZ;obtain⟨p,A⟩:=gg (r.P i);rw[A]at vC;have uS:Hid (∀W,eB w W->W.cell? ⟨z.R,0,ν⟩=μ (.int .i64 r.id)/\W.cell? ⟨z.g,i*71+67,ν⟩=μ (.int .i64 p.pe.who)/\W.cell? ⟨z.g,i*71+67+1,ν⟩=μ (.bool p.pe.both)/\W.cell? ⟨z.g,i*71+67+2,ν⟩=μ (.int .i64 p.pe.left)):=by
  intro W V;have R:=h.below V;rw[<-A];exact⟨R.c0,(R.pt i hi).c67,(R.pt i hi).c68,(R.pt i hi).c69⟩
 have oS:=iO.pe i hi;rw[A]at oS;have Vx:∀W,eB w W->eX eY 149 #[.agg #[.int .i64 p.pe.who,.bool p.pe.both,.int .i64 p.pe.left],.int .i64 r.id] W λe w'=>e=ρ (.agg #[.int .i64 r.id,.int .i64 p.pe.who])/\eB w w'/\(w'.cell? ⟨z.R,0,ν⟩=μ (.int .i64 r.id)/\w'.cell? ⟨z.g,i*71+67,ν⟩=μ (.int .i64 p.pe.who)/\w'.cell? ⟨z.g,i*71+67+1,ν⟩=μ (.bool p.pe.both)/\w'.cell? ⟨z.g,i*71+67+2,ν⟩=μ (.int .i64 p.pe.left)):=by
  intro W V;refine(UN p.pe.who p.pe.left r.id p.pe.both W).mono ?_;rintro e w1 ⟨rfl,b1⟩;exact⟨rfl,gh V b1,uS.out _ (gh V b1)⟩
 have af0:∀W,eB w W->eX eY 148 #[.agg #[.int .i64 r.id,.int .i64 p.pe.who]] W λe w'=>e=ρ (τ #[.string ⟨#[u8 r.id,u8 p.pe.who]⟩,η])/\eB w w'/\(w'.cell? ⟨z.R,0,ν⟩=μ (.int .i64 r.id)/\w'.cell? ⟨z.g,i*71+67,ν⟩=μ (.int .i64 p.pe.who)/\w'.cell? ⟨z.g,i*71+67+1,ν⟩=μ (.bool p.pe.both)/\w'.cell? ⟨z.g,i*71+67+2,ν⟩=μ (.int .i64 p.pe.left)):=by
  intro W V;have h1:=iO.id;have h2:=oS.who;refine(KY r.id p.pe.who W h1.1 h1.2 h2.1 h2.2 (by simp[um];omega)).mono ?_;rintro e w1 ⟨rfl,b1⟩;exact⟨rfl,gh V b1,uS.out _ (gh V b1)⟩
 obtain⟨Z,CM⟩:=gg (p.put 72 [jY r.id,jY p.pe.who]);have Ds:Z.out.length<=700000126:=by
  rw[<-CM];have:=xx p 72 [jY r.id,jY p.pe.who];omega
 have La:Z.pe=p.pe:=by rw[<-CM];exact rP _ _ _
 obtain⟨r1,G⟩:=gg (r.iU i Z);have T:r1.n=r.n:=by rw[<-G];rfl
 have hP1:r1.P i=Z:=by rw[<-G];exact jy _ _ _
 have hO1:r1.O=r.O:=by rw[<-G];rfl
 have oh:Hid (∀W,eB w W->eX eY 150 #[π (μ ⟨z.g,i*71,ν⟩),.string ⟨#[72]⟩,.string ⟨#[u8 r.id,u8 p.pe.who]⟩] W λe w'=>e=ρ (τ #[])/\iD w w' z r1 r.n):=by
  intro W V;have R:=h.below V;have y:=R.pt i hi;rw[A]at y;refine(Dr z.g (i*71) (z.B i) (z.v i) p ⟨#[72]⟩ ⟨#[u8 r.id,u8 p.pe.who]⟩ 72 W y rfl (by show 2<=1000;omega) dZ).mono ?_;rintro e w1 ⟨rfl,J⟩;have vK:lP W w1 z.g (i*71) (z.B i) (z.v i) Z:=by rw[<-CM];exact J
  rw[<-G];exact⟨rfl,iD.first h rfl V (λ_=>R.port hi vK)⟩
 have hE:mJ r i=r.iU i (if p.pe.both=true then Z.kH (lE (r.O i))else Z):=by
  unfold mJ;rw[A];simp only[CM]
 have Vy:Hid (p.pe.both=false->mJ r i=r1):=by
  intro e;rw[hE,af (by simp[e]),G]
 have M:Hid (p.pe.both=true->mJ r i=r1.iU i (Z.kH (lE (r.O i)))):=by
  intro e;rw[hE,ai e,<-G];exact(Bg r i Z _).symm
 have b0:=iZ w;have R0:=h.below b0;have c1:=h.c1;have cl:=h.lt;have gl0:=h.Ka;have F0:w.drew.cell? ⟨z.R,0,ν⟩=μ (.int .i64 r.id)/\w.drew.cell? ⟨z.g,i*71+67,ν⟩=μ (.int .i64 p.pe.who)/\w.drew.cell? ⟨z.g,i*71+67+1,ν⟩=μ (.bool p.pe.both)/\w.drew.cell? ⟨z.g,i*71+67+2,ν⟩=μ (.int .i64 p.pe.left):=uS.out _ b0;have HR:Hid _:=h;clear h iO oS R0 hE A
 go_in
 go_wp2
 go_region_held3(λx=>x.cell? ⟨z.R,0,ν⟩=μ (.int .i64 r.id)/\x.cell? ⟨z.g,i*71+67,ν⟩=μ (.int .i64 p.pe.who)/\x.cell? ⟨z.g,i*71+67+1,ν⟩=μ (.bool p.pe.both)/\x.cell? ⟨z.g,i*71+67+2,ν⟩=μ (.int .i64 p.pe.left))
  (first|assumption|exact F0|exact F1|exact F2)
  (first
   |(go_at_call 149;refine(Vx _ b0).mono ?_;rintro e w1 ⟨rfl,b1,F1⟩)
   |(go_at_call 148;refine(af0 _ b1).mono ?_;rintro e w2 ⟨rfl,b2,F2⟩))
 all_goals
  have y:=oh.out _ b2;clear Vx af0 oh uS F0 F1 F2 c1 cl gl0;go_wp2_with(fail);refine y.mono ?_;rintro e W4 ⟨rfl,Q⟩;obtain⟨v4,hv4⟩:=Q.pt (i:=i) (by rw[T];exact hi);have g8:W4.cell? ⟨z.g,i*71+67+1,ν⟩=μ (.bool p.pe.both):=by
   have:=hv4.c68;rw[hP1,La]at this;exact this
  have gl:=Q.Ka;have k2:=Q.c2;have kl:=Q.lt;clear y hv4 b1 b2;cases hb:p.pe.both with
  |false=>
   rw[hb]at g8;have HW:Hid (iD w W4 z (mJ r i) r.n):=by show iD _ _ _ _ _;rw[Vy.out hb];exact Q
   clear Q Vy M
   go_wp2
   first|go_end0|refine iK rfl rfl ?_
   exact⟨rfl,HW.out⟩
  |true=>
   rw[hb]at g8;have HE:=M.out hb;obtain⟨z4,R4,U,H5,af1⟩:=Q.ex;have how:=Vv z4.Bb z4.fm 6 r1.K r1.O i W4 R4.bs (by rw[R4.bl,T];exact hi);rw[U.Bb]at how;have HF:Hid (∀W,iD W4 W z4 (mJ r i) r.n->iD w W z (mJ r i) r.n):=λW J=>Q.qL R4 U H5 af1 J;have X:Hid _:=R4;have HEq:Hid _:=HE;clear Q HE Vy M R4 H5 af1;go_wp2_with(fail);refine how.mono ?_;rintro e D ⟨a,m,cap,S,E,rfl,hS,hL,h6,jk,aaQ,b5⟩;have Yo:=RD hL;rw[hO1]at Yo;have R5:=X.out.below b5;have vP:∀j,eh (σ a m cap)=μ j->¬z4.mine r.n j:=λj hj=>by
    have:=X.out.ur (Nat.le_of_lt (jk j hj))
    rwa [T]at this
   have CT:∀x,x<m->∀j,eh (σ (S x).a (S x).n (S x).cap)=μ j->¬z4.mine r.n j:=λx hx j hj=>by
    have:=X.out.ur (Nat.le_of_lt (aaQ x hx j hj))
    rwa [T]at this
   have vD:Hid (∀wr rr,iD D wr z4 rr r.n->vT wr a m S E):=λwr rr J=>vT.went (cap:=cap) J R5 hS vP CT;have akW:Hid (∀x,x<m->oA (S x).own (S x).seq (E x)=0):=hL.ok;have akX:Hid (∀k,k<m->(lE (r.O i)).take (k+1)=(lE (r.O i)).take k++ [((S k).own,((S k).seq,E k))]):=by
    intro k hk;have hlen:k<(lE (r.O i)).length:=by rw[Yo];simpa using hk
    rw[aA hlen];congr 2;simp[Yo]
   have akY:Hid ((lE (r.O i)).length=m):=by show _=_;rw[Yo];simp
   have HF5:Hid (∀W,iD D W z4 (mJ r i) r.n->iD w W z (mJ r i) r.n):=λW J=>HF.out W (iD.first X.out T b5 (λ_=>J));have H0:Hid (iD D D z4 (r1.iU i (Z.kH ((lE (r.O i)).take 0))) r.n):=by
    show iD _ _ _ _ _;have e:r1.iU i (Z.kH ((lE (r.O i)).take 0))=r1:=by
     show r1.iU i Z=r1;rw[<-G,Bg]
    rw[e,<-T];exact iD.refl R5
   have hG4:z4.g=z.g:=U.g;have HG4:Hid _:=hG4;clear how hS hL jk aaQ Yo R5 vP CT HF hG4 b5 X U k2 kl g8 gl
   go_wp2
   go_loopw [46] (λx wr=>∃k:Nat,k<=m/\x=ι κ k/\iD D wr z4 (r1.iU i (Z.kH ((lE (r.O i)).take k))) r.n) (λx _=>m-(intOf x).toNat)
   case atStart=>exact⟨0,Nat.zero_le _,rfl,H0.out⟩
   case round=>
    obtain⟨k,hk,rfl,Y⟩:=hrel;by_cases kA:k<m
    ·have nL:(k:Int)<(m:Int):=dZ;have Gi:(0:Int)<=(k:Int):=dZ;have SR:=vD.out _ _ Y;rcases SR.row with h0|⟨b,off,rfl,iV⟩
     ·omega
     obtain⟨x0,x1,x2⟩:=iV k kA;have hop:=(SR.opt k kA).1;have kd:=akW.out k kA;have YH:=akX.out k kA;have xl:=ag _ _ x0;have ba:=gT wr (γ #[ι κ (S k).own,ι κ (S k).seq,σ (S k).a (S k).n (S k).cap] 40);have H:=Y.below (by show r1.n=r.n;exact T) ba;obtain⟨pk,Jm⟩:=gg (Z.kH ((lE (r.O i)).take k));have pA:pk.out.length<=800000000:=by
      rw[<-Jm];have h1:=yM ((lE (r.O i)).take k) Z;have h2:((lE (r.O i)).take k).length<=k:=cz _ _;omega
     have uF:eX eY 152 #[π (μ ⟨z.g,i*71,ν⟩),.string ⟨#[83]⟩,.agg #[ι κ (S k).own,ι κ (S k).seq,σ (S k).a (S k).n (S k).cap]] (wr.alloc (γ #[ι κ (S k).own,ι κ (S k).seq,σ (S k).a (S k).n (S k).cap] 40)) λe w'=>e=ρ (τ #[])/\iD D w' z4 (r1.iU i (Z.kH ((lE (r.O i)).take (k+1)))) r.n:=by
      rw[YH,Cf];rw[Jm]at H⊢;refine H.call λz1 R1 hl=> ?_;have vm:i<(r1.iU i pk).n:=by show i<r1.n;rw[T];exact hi
      have af2:=R1.pt i vm;have hPk:(r1.iU i pk).P i=pk:=jy _ _ _;rw[hPk]at af2;rw[<-HG4.out,<-hl.g];refine(xZ ⟨#[83]⟩ 83 (S k).own (S k).seq (S k).a (S k).n (S k).cap (E k) z1.g (i*71) (z1.B i) (z1.v i) pk _ af2 rfl (hop.below ba) kd pA).mono ?_;rintro e w6 ⟨rfl,MH⟩;have h7:=R1.port vm MH;rw[Bg]at h7;exact⟨rfl,by rw[show r.n=(r1.iU i pk).n from T.symm];exact h7⟩
     clear SR iV hop kd YH H Y Jm pA ba;go_wp2_with(fail);refine uF.mono ?_;rintro e w6 ⟨rfl,MH⟩;have HW6:Hid _:=MH;clear uF MH
     go_wp2
     go_roundw
     case rel=>exact⟨k+1,dZ,by go_num,HW6.out⟩
     case measure=>simp[intOf];omega
    ·have xL:¬(k:Int)<(m:Int):=dZ;have HW:Hid (iD w wr z (mJ r i) r.n):=by
      show iD _ _ _ _ _;refine HF5.out _ ?_;rw[HEq.out];have e1:(lE (r.O i)).take k=lE (r.O i):=aI (by have:=akY.out;omega);rw[e1]at Y;exact Y
     clear Y
     go_wp2
     first|go_end0|refine iK rfl rfl ?_
     exact⟨rfl,HW.out⟩
theorem pO {l:List UInt8} {own:Int} {os:List jJ} (h:ij l=(own,seq,os,0)):oA own seq os=0:=by
 unfold ij at h;split at h;{simp at h}
 ·split at h
  ·rename_i Z
   simp only[fc,and_true]at h;obtain⟨rfl,rfl,rfl⟩:=h;exact Z
  ·simp at h
theorem N5(z:Zt)(r:iN)(i:Nat)(own seq:Int)(a:Option dW)(n cap:Nat)(es:List jJ)(w:dX)(h:mA w z r)(hi:i<r.n)(X:jc w a n es)(hf:oA own seq es=0):
 eX eY 191 #[π (μ ⟨z.Bb,0,ν⟩),ι κ (i:Int),.agg #[ι κ own,ι κ seq,σ a n cap]] w λe w'=>e=ρ η/\iD w w' z {r with O:=λx=>if x=i/\0<=newF r.K own seq es then yD (r.O i) own else r.O x} r.n:=by
 refine(NM z.Bb z.fm 6 r.K r.O i own seq a n cap es w h.bs (sj (by have:=(ju hf).1;omega)) (by rw[h.bl];exact hi) X hf (λ_=>DW _ _ _ _)).mono ?_;rintro e w1 ⟨rfl,Z,Y⟩;exact⟨rfl,h.base Z Y⟩
def kC(r:iN)(i:Nat)(l:List UInt8):iN:=
 let q:=St.ij l
 if q.2.2.2=0 then {r with O:=λx=>if x=i/\0<=newF r.K q.1 q.2.1 q.2.2.1 then yD (r.O i) q.1 else r.O x}else r
theorem Gw(s:ByteArray)(z:Zt)(r:iN)(i:Nat)(w:dX)(h:mA w z r)(hi:i<r.n)(hs:s.size<=1000):
 eX eY 136 #[π (μ ⟨z.R,0,ν⟩),ι κ (i:Int),.string s] w λe w'=>e=ρ (τ #[])/\iD w w' z (kC r i s.data.toList) r.n:=by
 have y:=EE s w (by unfold maxLen;omega);have J:Hid _:=h;clear h
 go_in
 go_wp2_with(fail);refine y.mono ?_;rintro e w1 ⟨a,n,cap,f,own,seq,os,rfl,D,G,U,b1,ki⟩;clear y;by_cases hf:f=0
 ·subst hf;have e0:ji 0=η:=rfl;rw[e0];have kd:=pO U;have V:kC r i s.data.toList={r with O:=λx=>if x=i/\0<=newF r.K own seq os then yD (r.O i) own else r.O x}:=by
   unfold kC;rw[U];rfl
  have ba:=gT w1 (γ #[ι κ own,ι κ seq,σ a n cap] 40);have hA:=λj=>aq w1 #[ι κ own,ι κ seq,σ a n cap] 40 (0,0) j;have b2:=gh b1 (gh ba (iZ _));have Q:=J.out.below b2;have hh:=N5 z r i own seq a n cap os _ Q hi (D.below (gh ba (iZ _))) kd;have Y:eX eY 191 #[π (μ ⟨z.Bb,0,ν⟩),ι κ (i:Int),.agg #[ι κ own,ι κ seq,σ a n cap]] (w1.alloc (γ #[ι κ own,ι κ seq,σ a n cap] 40)).drew λe w'=>e=ρ η/\iD w w' z (kC r i s.data.toList) r.n:=by
   refine hh.mono ?_;rintro e w3 ⟨rfl,hw⟩;exact⟨rfl,by rw[V];exact iD.first J.out rfl b2 (λ_=>hw)⟩
  have c2:=Q.c2;have cl:=Q.lt;obtain⟨M,X⟩:=gg (w1.alloc (γ #[ι κ own,ι κ seq,σ a n cap] 40));obtain⟨Z,S⟩:=gg (w1.heap.size);rw[X]at Y c2 cl;have d0:M.drew.cell? ⟨Z,0,ν⟩=μ (ι κ own):=by rw[<-X,<-S];exact hA 0
  have d1:M.drew.cell? ⟨Z,1,ν⟩=μ (ι κ seq):=by rw[<-X,<-S];exact hA 1
  have d2:M.drew.cell? ⟨Z,2,ν⟩=μ (σ a n cap):=by rw[<-X,<-S];exact hA 2
  have zl:Z<M.drew.heap.size:=ag _ _ d0;obtain⟨T,A⟩:∃T:dX->Prop,(λx=>iD w x z (kC r i s.data.toList) r.n)=T:=⟨_,rfl⟩
  have H:∀x,iD w x z (kC r i s.data.toList) r.n=T x:=λx=>cu A x;simp only[H]at Y;have HT:Hid _:=H;clear hh hA ba b2 Q D U kd V G ki b1 A H;go_wp2_with(fail)
  try rw[X]
  try rw[S]
  clear X S
  go_region_with(go_at_call 191;refine Y.mono ?_;rintro e w3 ⟨rfl,hW⟩)
  all_goals
   clear Y
   go_wp2
   first|go_end0|refine iK rfl rfl ?_
   exact⟨rfl,by rw[HT.out];exact hW⟩
 ·have ee:ji f=.iface 128 (ι κ (f:Int)):=by simp only[ji];rw[af hf]
  rw[ee];have V:kC r i s.data.toList=r:=by
   unfold kC;rw[U];simp only;rw[af hf]
  have HW:Hid (iD w (w1.alloc (γ #[ι κ own,ι κ seq,σ a n cap] 40)) z (kC r i s.data.toList) r.n):=by
   show iD _ _ _ _ _;rw[V];exact iD.still J.out (gh b1 (gT _ _))
  clear U D hf ee V
  go_wp2
  first|go_end0|refine iK rfl rfl ?_
  exact⟨rfl,HW.out⟩
theorem RE(z:Zt)(r:iN)(i:Nat)(own seq:Int)(a:Option dW)(n cap:Nat)(es:List jJ)(w:dX)(h:mA w z r)(hi:i<r.n)(Y:jc w a n es)(V:kJ a cap)(hf:oA own seq es=0):
 eX eY 190 #[π (μ ⟨z.Bb,0,ν⟩),ι κ (i:Int),.agg #[ι κ own,ι κ seq,σ a n cap]] w λe w'=>e=ρ (τ #[ι κ (newF r.K own seq es),η])/\iD w w' z {r with K:=lr r.K own seq es,O:=oT r.K r.O i own seq es} r.n/\jc w' a n es/\∀p v,w.cell? p=μ v->w'.cell? p=μ v:=by
 refine(Rm z.Bb z.fm 6 r.K r.O i own seq a n cap es w h.bs (sj (by have:=(ju hf).1;omega)) (by rw[h.bl];exact hi) Y V dZ hf (λ_=>DW _ _ _ _)).mono ?_;rintro e w1 ⟨rfl,X,Z⟩;exact⟨rfl,h.base X Z,Y.two Z h.bs,λp v hc=>jC.cell Z h.bs hc⟩
def jj(r:iN)(i:Nat)(l:List UInt8):iN:=
 let q:=St.ij l
 if q.2.2.2≠0 \/(r.P i).pe.both=false then r
 else if q.1=r.id/\0<newF r.K q.1 q.2.1 q.2.2.1 then r.behind q.2.1
 else
  let r2:iN:={r with K:=lr r.K q.1 q.2.1 q.2.2.1,O:=oT r.K r.O i q.1 q.2.1 q.2.2.1}
  if 0<=newF r.K q.1 q.2.1 q.2.2.1 then r2.iU i ((r2.P i).put 65 (rh q.1 q.2.1 q.2.2.1))else r2
def S3(x:dX)(Z:Nat)(own seq:Int)(v:dY):Prop:=x.cell? ⟨Z,0,ν⟩=μ (ι κ own)/\x.cell? ⟨Z,1,ν⟩=μ (ι κ seq)/\x.cell? ⟨Z,2,ν⟩=μ v
theorem S3.below {y:dX} {Z:Nat} {own:Int} (h:S3 x Z own seq v)(hb:eB x y):S3 y Z own seq v:=by
 have Y:=ag _ _ h.1;exact⟨(aj (a:=⟨Z,0,ν⟩) (hb.block Z Y)).trans h.1,(aj (a:=⟨Z,1,ν⟩) (hb.block Z Y)).trans h.2.1,(aj (a:=⟨Z,2,ν⟩) (hb.block Z Y)).trans h.2.2⟩
theorem Gx(s:ByteArray)(z:Zt)(r:iN)(i:Nat)(w:dX)(h:mA w z r)(iO:ln r)(hi:i<r.n)(hs:s.size<=1000)(vC:(r.P i).out.length<=800000000):
 eX eY 135 #[π (μ ⟨z.R,0,ν⟩),ι κ (i:Int),.string s] w λe w'=>e=ρ (τ #[])/\iD w w' z (jj r i s.data.toList) r.n:=by
 have hp:=EE s w (by unfold maxLen;omega);have kT:(i:Int)<(r.n:Int):=dZ;have MC:(0:Int)<=(i:Int):=dZ;have HR:Hid _:=h;have Vu:Hid _:=iO;clear h iO
 go_in
 go_wp2_with(fail);refine hp.mono ?_;rintro e w1 ⟨a,n,cap,f,own,seq,os,rfl,ho,hle,hR,b1,ki⟩;clear hp;have ba:=gT w1 (γ #[ι κ own,ι κ seq,σ a n cap] 40);have hA:=λj=>aq w1 #[ι κ own,ι κ seq,σ a n cap] 40 (0,0) j;by_cases hf:f=0
 ·subst hf;have e0:ji 0=η:=rfl;rw[e0];cases hb:(r.P i).pe.both with
  |false=>
   have hE:jj r i s.data.toList=r:=by
    unfold jj;rw[hR];simp only;rw[ai (.inr hb)]
   have S:=HR.out.below (gh b1 ba);have HW:Hid (iD w (w1.alloc (γ #[ι κ own,ι κ seq,σ a n cap] 40)) z (jj r i s.data.toList) r.n):=by
    show iD _ _ _ _ _;rw[hE];exact iD.still HR.out (gh b1 ba)
   have c1:=S.c1;have cl:=S.lt;have gl:=S.Ka;have g1:=(S.pt i hi).c68;rw[hb]at g1;clear hR ho hE S hA ba
   go_wp2
   first|go_end0|refine iK rfl rfl ?_
   exact⟨rfl,HW.out⟩
  |true=>
   have kd:=pO hR;have b2:=gh b1 ba;obtain⟨U,nr⟩:=gg (w1.alloc (γ #[ι κ own,ι κ seq,σ a n cap] 40));obtain⟨Z,hZ⟩:=gg (w1.heap.size);have YJ:=ho.below ba;rw[nr]at b2 YJ;have S2:S3 U Z own seq (σ a n cap):=by rw[<-nr,<-hZ];exact⟨hA 0,hA 1,hA 2⟩
   have hZw:w.heap.size<=Z:=by rw[<-hZ];exact b1.size
   have S:=HR.out.below b2;have c1:=S.c1;have cl:=S.lt;have gl:=S.Ka;have g1:=(S.pt i hi).c68;rw[hb]at g1;have Lp:=sj (k:=r.id) (by have:=Vu.out.id;omega);have N7:∀W,eB U W->eX eY 177 #[π (μ ⟨z.Bb,0,ν⟩),ι κ r.id] W λe w'=>∃b V,e=ρ (τ #[.agg #[ι κ (xW r.K r.id),ι κ (qA r.K r.id),σ b (mT r.K r.id).length V],.bool (r.K r.id).isSome])/\jc w' b (mT r.K r.id).length (mT r.K r.id)/\eB W w'/\(w'.cell? ⟨z.R,0,ν⟩=μ (ι κ r.id)/\w'.cell? ⟨z.R,2,ν⟩=μ (π (μ ⟨z.Bb,0,ν⟩))):=by
    intro W D;refine(Li z.Bb z.fm 6 r.K r.O r.id W (S.below D).bs Lp).mono ?_;rintro e w3 ⟨b,V,rfl,Vz,_,_,b3⟩;have R3:=(S.below D).below b3;exact⟨b,V,rfl,Vz,b3,R3.c0,R3.c2⟩
   have Vn:Hid (∀e∈mT r.K r.id,1<=e.1):=by
    obtain⟨q,hq,kd⟩:=Vu.out.own;have:=pV r.id q.2 0 (ju kd).2.2.2;unfold mT;rw[hq];exact λe he=>(this e he).1.1
   have hn6:n<=6:=by have:=(ju kd).2.2.1;rw[ho.1]at this;exact this
   have sX:Hid (∀W b V,jc W a n os->jc W b (mT r.K r.id).length (mT r.K r.id)->eX eY 189 #[.agg #[ι κ own,ι κ seq,σ a n cap],.agg #[ι κ (xW r.K r.id),ι κ (qA r.K r.id),σ b (mT r.K r.id).length V]] W λe w'=>e=ρ (ι κ (lT seq os (qA r.K r.id) (mT r.K r.id)))/\eB W w'):=λW b V h1 h2=>Ha own seq _ _ a b n _ cap V os _ W h1 h2 dZ;have A:Hid (own=r.id->newF r.K own seq os=lT seq os (qA r.K r.id) (mT r.K r.id)):=by
    intro e;obtain⟨q,hq,_⟩:=Vu.out.own;unfold newF qA mT;rw[e,hq];rfl
   have hsq:(1<=own/\own<=6)/\(1<=seq/\seq<=1000000):=⟨(ju kd).1,(ju kd).2.1⟩
   have Ju:Hid (own=r.id->0<newF r.K own seq os->∀W,eB U W->eX eY 180 #[π (μ ⟨z.R,0,ν⟩),ι κ seq] W λe w'=>e=ρ (τ #[])/\iD w w' z (jj r i s.data.toList) r.n):=by
    intro e1 e2 W D;have hE:jj r i s.data.toList=r.behind seq:=by
     unfold jj;rw[hR];simp only;rw[af (by simp[hb]),ai ⟨e1,e2⟩]
    refine(EG z r seq W (S.below D) Vu.out dZ).mono ?_;rintro e w5 ⟨rfl,MF⟩;exact⟨rfl,by rw[hE];exact iD.first HR.out rfl (gh b2 D) (λ_=>MF)⟩
   obtain⟨M,sD⟩:∃M:iN,({r with K:=lr r.K own seq os,O:=oT r.K r.O i own seq os}:iN)=M:=⟨_,rfl⟩
   obtain⟨y,hnf⟩:=gg (newF r.K own seq os);have zc:Hid (∀W,eB U W->jc W a n os->eX eY 190 #[π (μ ⟨z.Bb,0,ν⟩),ι κ (i:Int),.agg #[ι κ own,ι κ seq,σ a n cap]] W λe w'=>e=ρ (τ #[ι κ y,η])/\iD w w' z M r.n/\jc w' a n os/\∀p v,W.cell? p=μ v->w'.cell? p=μ v):=by
    intro W D hoW;refine(RE z r i own seq a n cap os W (S.below D) hi hoW ki kd).mono ?_;rintro e w5 ⟨rfl,MF,Xy,hc5⟩;rw[sD]at MF;rw[hnf];exact⟨rfl,iD.first HR.out rfl (gh b2 D) (λ_=>MF),Xy,hc5⟩
   have hP3:M.P=r.P:=by rw[<-sD]
   have x5:M.n=r.n:=by rw[<-sD]
   have oh:Hid (¬(own=r.id/\0<y)->0<=y->∀W,iD w W z M r.n->jc W a n os->eX eY 152 #[π (μ ⟨z.g,i*71,ν⟩),.string ⟨#[65]⟩,.agg #[ι κ own,ι κ seq,σ a n cap]] W λe w'=>e=ρ (τ #[])/\iD w w' z (jj r i s.data.toList) r.n):=by
    intro e1 e2 W D hoW;have hE:jj r i s.data.toList=M.iU i ((M.P i).put 65 (rh own seq os)):=by
     unfold jj;rw[hR];simp only;rw[af (by simp[hb]),hnf,af e1,ai e2,sD,hP3]
    rw[hE];refine D.call (r':=M.iU i ((M.P i).put 65 (rh own seq os))) λz1 R1 hl=> ?_;rw[<-hl.g];have hi3:i<M.n:=by rw[x5];exact hi
    refine(xZ ⟨#[65]⟩ 65 own seq a n cap os z1.g (i*71) (z1.B i) (z1.v i) (M.P i) W (R1.pt i hi3) rfl hoW kd (by rw[hP3];exact vC)).mono ?_;rintro e X ⟨rfl,MH⟩;have:=R1.port hi3 MH;rw[x5]at this;exact⟨rfl,this⟩
   have tT:Hid (¬(own=r.id/\0<y)->¬0<=y->∀W,iD w W z M r.n->iD w W z (jj r i s.data.toList) r.n):=by
    intro e1 e2 W D;have hE:jj r i s.data.toList=M:=by
     unfold jj;rw[hR];simp only;rw[af (by simp[hb]),hnf,af e1,af e2,sD]
    rw[hE];exact D
   rw[hnf]at Ju A;obtain⟨T,hT⟩:∃T:dX->Prop,(λx=>iD w x z (jj r i s.data.toList) r.n)=T:=⟨_,rfl⟩
   have Lt:∀x,iD w x z (jj r i s.data.toList) r.n=T x:=λx=>cu hT x;simp only[Lt]at Ju oh tT;have HT:Hid _:=Lt;obtain⟨T3,hT3⟩:∃T:dX->Prop,(λx=>iD w x z M r.n)=T:=⟨_,rfl⟩
   have YU:∀x,iD w x z M r.n=T3 x:=λx=>cu hT3 x;have HR3:Hid (∀x,T3 x->x.cell? ⟨z.R,1,ν⟩=μ (σ (μ ⟨z.g,0,ν⟩) r.n z.cap)):=λx hx=>by
    rw[<-YU]at hx;have:=hx.c1;rw[x5]at this;exact this
   simp only[YU]at zc oh tT;have af5:Hid (∀x,T3 x->T3 x.drew):=λx hx=>by
    rw[<-YU]at hx⊢;exact hx.below x5 (iZ x)
   have HR0:Hid (∀W,eB U W->W.cell? ⟨z.R,0,ν⟩=μ (ι κ r.id)/\W.cell? ⟨z.R,2,ν⟩=μ (π (μ ⟨z.Bb,0,ν⟩))):=λW D=>⟨(S.below D).c0,(S.below D).c2⟩
   clear hT Lt hT3 YU S hR Lp HR Vu b1 ba hA ho vC hP3 x5 sD hnf kd;go_wp2_with(fail)
   try rw[nr]
   try rw[hZ]
   clear nr hZ;generalize xW r.K r.id=ow at N7 sX;generalize qA r.K r.id=sq at N7 sX A;generalize mT r.K r.id=es at N7 sX A Vn;generalize (r.K r.id).isSome=okb at N7
   go_cut [8] (λv wx=>∃(Y:Nat) (b:Option dW) (V:Nat),v=π (μ ⟨Y,0,ν⟩)/\S3 wx Y ow sq (σ b es.length V)/\jc wx b es.length es/\eB U wx)
   case first=>
    have F0:=HR0.out _ (iZ U);have F0:U.drew.cell? ⟨z.R,0,ν⟩=μ (ι κ r.id)/\U.drew.cell? ⟨z.R,2,ν⟩=μ (π (μ ⟨z.Bb,0,ν⟩)):=F0;have ba:eB U (U.alloc (γ #[ι κ 0,ι κ 0,σ ν 0 0] 40)).drew:=jD (gT U _);have x5:iX (U.alloc (γ #[ι κ 0,ι κ 0,σ ν 0 0] 40)).drew U.heap.size #[ι κ 0,ι κ 0,σ ν 0 0] 40:=(iX.new U _ _).drew;have jt:z.R≠U.heap.size:=dZ;clear sX A Ju zc oh tT HR3 c1 g1 gl S2 YJ
    go_region_held3(λx=>x.cell? ⟨z.R,0,ν⟩=μ (ι κ r.id)/\x.cell? ⟨z.R,2,ν⟩=μ (π (μ ⟨z.Bb,0,ν⟩)))
     (first|assumption|exact F0|exact F1|exact oC F1|exact oC F0|exact uR F1 jt jt)
     (first
      |(go_at_call 177;refine(N7 _ (by first|exact iZ U|exact ba)).mono ?_;rintro e w3 ⟨b,V,rfl,Vz,b3,F1⟩;first|(have mO:=x5.below b3;have y0:=mO.cell 0;have y1:=mO.cell 1;have y2:=mO.cell 2;have z0:=mO.frozen 0;have z1:=mO.frozen 1;have z2:=mO.frozen 2)|skip))
    all_goals
     go_wp2_with(fail)
     go_meet
     first
      |exact⟨_,b,V,rfl,⟨aq w3 _ _ (0,0) 0,aq w3 _ _ (0,0) 1,aq w3 _ _ (0,0) 2⟩,Vz.below (gT _ _),gh (gh (iZ U) b3) (gT _ _)⟩
      |(have h5:=Jq (a:=.int .i64 ow) (b:=.int .i64 sq) (c:=.slice b es.length V) mO rfl (Nat.le_refl _) (gh ba b3)
        have h6:=((mO.set 0 (ι κ ow)).set 1 (ι κ sq)).set 2 (σ b es.length V);exact⟨_,b,V,rfl,⟨h6.cell 0,h5.1,h5.2.1⟩,jc.not_zero Vz mO Vn.out h5.2.2.2,h5.2.2.1⟩)
   case rest=>
    obtain⟨Y,b,V,rfl,SY,Vz,qH⟩:=hcut;have SZ:=S2.below qH;have hoa:=YJ.below qH;have hR0:=HR0.out _ qH;have zl:=ag _ _ SZ.1;have yl:=ag _ _ SY.1;have rl:=ag _ _ hR0.1;cases q1:(own==r.id)with
    |false=>
     have ll:¬(own=r.id/\0<y):=λe=>by simp[e.1]at q1
     obtain⟨d0,d1,d2⟩:=SZ;have d3:=hR0.1;clear sX A N7
     go_wp2
     go_quiet(fail)
     have b5:=below_drewN qH nq;obtain⟨Q,MF⟩:=gg (wc.drewN nq);rw[MF]at b5;rw[MF];clear MF d0 d1 d2 d3 hR0 hoa Vz SY qH zl yl rl;have SZ5:=S2.below b5;have Xy:=YJ.below b5;have R5:=HR0.out _ (gh b5 (iZ Q));have ht5:=zc.out _ (gh b5 (iZ Q)) (Xy.below (iZ Q));have J:Q.drew.cell? ⟨z.R,2,ν⟩=μ (π (μ ⟨z.Bb,0,ν⟩))/\Q.drew.cell? ⟨Z,0,ν⟩=μ (ι κ own)/\Q.drew.cell? ⟨Z,1,ν⟩=μ (ι κ seq)/\Q.drew.cell? ⟨Z,2,ν⟩=μ (σ a n cap):=⟨R5.2,SZ5⟩
     have H:eX eY 190 #[π (μ ⟨z.Bb,0,ν⟩),ι κ (i:Int),.agg #[ι κ own,ι κ seq,σ a n cap]] Q.drew λe w'=>e=ρ (τ #[ι κ y,η])/\T3 w'/\jc w' a n os/\(w'.cell? ⟨z.R,2,ν⟩=μ (π (μ ⟨z.Bb,0,ν⟩))/\w'.cell? ⟨Z,0,ν⟩=μ (ι κ own)/\w'.cell? ⟨Z,1,ν⟩=μ (ι κ seq)/\w'.cell? ⟨Z,2,ν⟩=μ (σ a n cap)):=by
      refine ht5.mono ?_;rintro e X ⟨rfl,h1,h2,h3⟩;exact⟨rfl,h1,h2,h3 _ _ J.1,h3 _ _ J.2.1,h3 _ _ J.2.2.1,h3 _ _ J.2.2.2⟩
     clear ht5 zc R5 SZ5 Xy
     go_wp2
     go_region_held3(λx=>x.cell? ⟨z.R,2,ν⟩=μ (π (μ ⟨z.Bb,0,ν⟩))/\x.cell? ⟨Z,0,ν⟩=μ (ι κ own)/\x.cell? ⟨Z,1,ν⟩=μ (ι κ seq)/\x.cell? ⟨Z,2,ν⟩=μ (σ a n cap))
      (first|assumption|exact J|exact F6)
      (first
       |(go_at_call 190;refine H.mono ?_;rintro e X ⟨rfl,G,ho6,F6⟩))
     all_goals
      have m1:=HR3.out _ G;by_cases Rj:0<=y
      ·have hp7:=oh.out ll Rj;have F7:X.drew.cell? ⟨z.R,1,ν⟩=μ (σ (μ ⟨z.g,0,ν⟩) r.n z.cap)/\X.drew.cell? ⟨Z,0,ν⟩=μ (ι κ own)/\X.drew.cell? ⟨Z,1,ν⟩=μ (ι κ seq)/\X.drew.cell? ⟨Z,2,ν⟩=μ (σ a n cap):=⟨m1,F6.2⟩
       have hp8:=hp7 X.drew (af5.out _ G) (ho6.below (iZ X));have m1':X.drew.cell? ⟨z.R,1,ν⟩=μ (σ (μ ⟨z.g,0,ν⟩) r.n z.cap):=F7.1;have m2:X.drew.cell? ⟨Z,0,ν⟩=μ (ι κ own):=F7.2.1;have m3:X.drew.cell? ⟨Z,1,ν⟩=μ (ι κ seq):=F7.2.2.1;have m4:X.drew.cell? ⟨Z,2,ν⟩=μ (σ a n cap):=F7.2.2.2;have m5:=ag _ _ m1';have m6:=ag _ _ m2;clear H oh tT hp7 J F6 F7 Ju
       go_wp2
       go_region_with(go_at_call 152;refine hp8.mono ?_;rintro e w8 ⟨rfl,YV⟩)
       all_goals
        clear hp8
        go_wp2
        first|go_end0|refine iK rfl rfl ?_
        exact⟨rfl,by rw[HT.out];exact YV⟩
      ·have YV:=tT.out ll dZ _ G;clear H oh tT J F6 Ju
       go_wp2
       first|go_end0|refine iK rfl rfl ?_
       exact⟨rfl,by rw[HT.out];exact YV⟩
    |true=>
     have HID:Hid (own=r.id):=by show own=r.id;simpa using q1
     have hns:=A.out HID.out;obtain⟨d0,d1,d2⟩:=SZ;obtain⟨y0,y1,y2⟩:=SY;have F0:wc.drew.cell? ⟨z.R,0,ν⟩=μ (ι κ r.id)/\wc.drew.cell? ⟨Z,0,ν⟩=μ (ι κ own)/\wc.drew.cell? ⟨Z,1,ν⟩=μ (ι κ seq)/\wc.drew.cell? ⟨Z,2,ν⟩=μ (σ a n cap)/\wc.drew.cell? ⟨Y,0,ν⟩=μ (ι κ ow)/\wc.drew.cell? ⟨Y,1,ν⟩=μ (ι κ sq)/\wc.drew.cell? ⟨Y,2,ν⟩=μ (σ b es.length V):=⟨hR0.1,d0,d1,d2,y0,y1,y2⟩
     have qy:=sX.out wc.drew b V (hoa.below (iZ wc)) (Vz.below (iZ wc));rw[<-hns]at qy;clear hns;have mQ:eX eY 189 #[.agg #[ι κ own,ι κ seq,σ a n cap],.agg #[ι κ ow,ι κ sq,σ b es.length V]] wc.drew λe w'=>e=ρ (ι κ y)/\eB U w'/\(w'.cell? ⟨z.R,0,ν⟩=μ (ι κ r.id)/\w'.cell? ⟨Z,0,ν⟩=μ (ι κ own)/\w'.cell? ⟨Z,1,ν⟩=μ (ι κ seq)/\w'.cell? ⟨Z,2,ν⟩=μ (σ a n cap)/\w'.cell? ⟨Y,0,ν⟩=μ (ι κ ow)/\w'.cell? ⟨Y,1,ν⟩=μ (ι κ sq)/\w'.cell? ⟨Y,2,ν⟩=μ (σ b es.length V)):=by
      refine qy.mono ?_;rintro e w5 ⟨rfl,b5⟩;have bb:=gh qH (gh (iZ wc) b5);have SY5:=S3.below (x:=wc.drew) ⟨y0,y1,y2⟩ b5;exact⟨rfl,bb,(HR0.out _ bb).1,(S2.below bb).1,(S2.below bb).2.1,(S2.below bb).2.2,SY5.1,SY5.2.1,SY5.2.2⟩
     clear sX A N7 qy d0 d1 d2 y0 y1 y2 hR0 hoa Vz
     go_wp2
     go_region_held3(λx=>x.cell? ⟨z.R,0,ν⟩=μ (ι κ r.id)/\x.cell? ⟨Z,0,ν⟩=μ (ι κ own)/\x.cell? ⟨Z,1,ν⟩=μ (ι κ seq)/\x.cell? ⟨Z,2,ν⟩=μ (σ a n cap)/\x.cell? ⟨Y,0,ν⟩=μ (ι κ ow)/\x.cell? ⟨Y,1,ν⟩=μ (ι κ sq)/\x.cell? ⟨Y,2,ν⟩=μ (σ b es.length V))
      (first|assumption|exact F0|exact F1)
      (first
       |(go_at_call 189;refine mQ.mono ?_;rintro e Q ⟨rfl,b5,F1⟩))
     all_goals
      by_cases h0:0<y
      ·have YO:=Ju.out HID.out h0 _ b5;have m3:=F1.2.2.1;have m6:=ag _ _ m3;clear mQ zc oh tT F0 F1 Ju;go_wp2_with(fail);refine YO.mono ?_;rintro e w8 ⟨rfl,YV⟩;clear YO
       go_wp2
       first|go_end0|refine iK rfl rfl ?_
       exact⟨rfl,by rw[HT.out];exact YV⟩
      ·have ll:¬(own=r.id/\0<y):=λe=>h0 e.2;clear mQ F0 F1 qH zl yl rl;have SZ5:=S2.below b5;have Xy:=YJ.below b5;have R5:=HR0.out _ (gh b5 (iZ Q));have ht5:=zc.out _ (gh b5 (iZ Q)) (Xy.below (iZ Q));have J:Q.drew.cell? ⟨z.R,2,ν⟩=μ (π (μ ⟨z.Bb,0,ν⟩))/\Q.drew.cell? ⟨Z,0,ν⟩=μ (ι κ own)/\Q.drew.cell? ⟨Z,1,ν⟩=μ (ι κ seq)/\Q.drew.cell? ⟨Z,2,ν⟩=μ (σ a n cap):=⟨R5.2,SZ5⟩
       have H:eX eY 190 #[π (μ ⟨z.Bb,0,ν⟩),ι κ (i:Int),.agg #[ι κ own,ι κ seq,σ a n cap]] Q.drew λe w'=>e=ρ (τ #[ι κ y,η])/\T3 w'/\jc w' a n os/\(w'.cell? ⟨z.R,2,ν⟩=μ (π (μ ⟨z.Bb,0,ν⟩))/\w'.cell? ⟨Z,0,ν⟩=μ (ι κ own)/\w'.cell? ⟨Z,1,ν⟩=μ (ι κ seq)/\w'.cell? ⟨Z,2,ν⟩=μ (σ a n cap)):=by
        refine ht5.mono ?_;rintro e X ⟨rfl,h1,h2,h3⟩;exact⟨rfl,h1,h2,h3 _ _ J.1,h3 _ _ J.2.1,h3 _ _ J.2.2.1,h3 _ _ J.2.2.2⟩
       clear ht5 zc R5 SZ5 Xy
       go_wp2
       go_region_held3(λx=>x.cell? ⟨z.R,2,ν⟩=μ (π (μ ⟨z.Bb,0,ν⟩))/\x.cell? ⟨Z,0,ν⟩=μ (ι κ own)/\x.cell? ⟨Z,1,ν⟩=μ (ι κ seq)/\x.cell? ⟨Z,2,ν⟩=μ (σ a n cap))
        (first|assumption|exact J|exact F6)
        (first
         |(go_at_call 190;refine H.mono ?_;rintro e X ⟨rfl,G,ho6,F6⟩))
       all_goals
        have m1:=HR3.out _ G;by_cases Rj:0<=y
        ·have hp7:=oh.out ll Rj;have F7:X.drew.cell? ⟨z.R,1,ν⟩=μ (σ (μ ⟨z.g,0,ν⟩) r.n z.cap)/\X.drew.cell? ⟨Z,0,ν⟩=μ (ι κ own)/\X.drew.cell? ⟨Z,1,ν⟩=μ (ι κ seq)/\X.drew.cell? ⟨Z,2,ν⟩=μ (σ a n cap):=⟨m1,F6.2⟩
         have hp8:=hp7 X.drew (af5.out _ G) (ho6.below (iZ X));have m1':X.drew.cell? ⟨z.R,1,ν⟩=μ (σ (μ ⟨z.g,0,ν⟩) r.n z.cap):=F7.1;have m2:X.drew.cell? ⟨Z,0,ν⟩=μ (ι κ own):=F7.2.1;have m3:X.drew.cell? ⟨Z,1,ν⟩=μ (ι κ seq):=F7.2.2.1;have m4:X.drew.cell? ⟨Z,2,ν⟩=μ (σ a n cap):=F7.2.2.2;have m5:=ag _ _ m1';have m6:=ag _ _ m2;clear H oh tT hp7 J F6 F7 Ju
         go_wp2
         go_region_with(go_at_call 152;refine hp8.mono ?_;rintro e w8 ⟨rfl,YV⟩)
         all_goals
          clear hp8
          go_wp2
          first|go_end0|refine iK rfl rfl ?_
          exact⟨rfl,by rw[HT.out];exact YV⟩
        ·have YV:=tT.out ll dZ _ G;clear H oh tT J F6 Ju
         go_wp2
         first|go_end0|refine iK rfl rfl ?_
         exact⟨rfl,by rw[HT.out];exact YV⟩
 ·have ee:ji f=.iface 128 (ι κ (f:Int)):=by simp only[ji];rw[af hf]
  rw[ee];have hE:jj r i s.data.toList=r:=by
   unfold jj;rw[hR];simp only;rw[ai (.inl hf)]
  have HW:Hid (iD w (w1.alloc (γ #[ι κ own,ι κ seq,σ a n cap] 40)) z (jj r i s.data.toList) r.n):=by
   show iD _ _ _ _ _;rw[hE];exact iD.still HR.out (gh b1 ba)
  clear hR ho hf ee hE
  go_wp2
  first|go_end0|refine iK rfl rfl ?_
  exact⟨rfl,HW.out⟩
theorem RF(a c me f s:Int)(b:Bool)(w:dX):eX eY 187 #[.agg #[ι κ a,.bool b,ι κ c],ι κ me,.agg #[ι κ f,ι κ s]] w λe w'=>
 e=ρ (.agg #[.int .i64 (jg me f s).who,.bool (jg me f s).both,.int .i64 (jg me f s).left])/\eB w w':=by
 have h:=UL a c me f s b w;have e:zy me f s=((jg me f s).who,(jg me f s).both,(jg me f s).left):=by
  unfold zy jg;split;{rfl};{simp only[fc,true_and,and_true];by_cases h:s=me;{simp[h]};{simp[h]}}
 rw[e]at h;exact h
theorem Gy(s:ByteArray)(z:Zt)(r:iN)(i:Nat)(w:dX)(h:mA w z r)(iO:ln r)(hi:i<r.n):
 eX eY 134 #[π (μ ⟨z.R,0,ν⟩),ι κ (i:Int),.string s] w λe w'=>e=ρ (τ #[])/\iD w w' z (if(kG s.data.toList).2.2=0 then r.meet i (jg r.id (kG s.data.toList).1 (kG s.data.toList).2.1)else r) r.n:=by
 have V:=Nu s w;have kT:(i:Int)<(r.n:Int):=dZ;have MC:(0:Int)<=(i:Int):=dZ;by_cases D:(kG s.data.toList).2.2=0
 ·rw[ai D];rw[D]at V;have hf:1<=(kG s.data.toList).1/\(kG s.data.toList).1<=6:=by
   unfold kG at D⊢;split at D
   ·rename_i hc
    rw[ai hc];have:=hc.2;simp only[um,Bool.and_eq_true,decide_eq_true_eq]at this;simp only;omega
   ·simp at D
  have e0:ji 0=η:=rfl;rw[e0]at V;generalize (kG s.data.toList).1=f at V hf⊢;generalize (kG s.data.toList).2.1=g at V⊢;have J:∀W Z,eB w W->w.heap.size<=Z->(W.cell? ⟨Z,0,ν⟩=μ (.int .i64 f)/\W.cell? ⟨Z,1,ν⟩=μ (.int .i64 g))->eX eY 74 #[π (μ ⟨z.R,0,ν⟩),.int .i64 (i:Int),.agg #[.int .i64 (jg r.id f g).who,.bool (jg r.id f g).both,.int .i64 (jg r.id f g).left]] W λe w'=>e=ρ (τ #[])/\iD w w' z (r.meet i (jg r.id f g)) r.n/\(w'.cell? ⟨Z,0,ν⟩=μ (.int .i64 f)/\w'.cell? ⟨Z,1,ν⟩=μ (.int .i64 g)/\w'.cell? ⟨z.R,0,ν⟩=μ (.int .i64 r.id)/\w'.cell? ⟨z.R,1,ν⟩=μ (σ (μ ⟨z.g,0,ν⟩) r.n z.cap)):=by
   intro W Z hW y hc;have R:=h.below hW;refine(wB z r i (jg r.id f g) W R iO hi (oj.YL iO.id.1 hf)).mono ?_;rintro e w' ⟨rfl,hw⟩;have O6:¬z.mine r.n Z:=h.ur y;have k0:=hw.c0;have k1:=hw.c1;rw[Du]at k0;rw[Bc]at k1;exact⟨rfl,iD.first h rfl hW (λ_=>hw),hw.cell R (p:=⟨Z,0,ν⟩) O6 hc.1,hw.cell R (p:=⟨Z,1,ν⟩) O6 hc.2,k0,k1⟩
  have M:Hid (∀W,eB w W->W.cell? ⟨z.R,0,ν⟩=μ (.int .i64 r.id)/\W.cell? ⟨z.R,1,ν⟩=μ (σ (μ ⟨z.g,0,ν⟩) r.n z.cap)/\W.cell? ⟨z.g,i*71+67,ν⟩=μ (.int .i64 (r.P i).pe.who)/\W.cell? ⟨z.g,i*71+67+1,ν⟩=μ (.bool (r.P i).pe.both)/\W.cell? ⟨z.g,i*71+67+2,ν⟩=μ (.int .i64 (r.P i).pe.left)):=by
   intro W hW;have R:=h.below hW;exact⟨R.c0,R.c1,(R.pt i hi).c67,(R.pt i hi).c68,(R.pt i hi).c69⟩
  obtain⟨T,hT⟩:∃T:dX->Prop,(λx=>iD w x z (r.meet i (jg r.id f g)) r.n)=T:=⟨_,rfl⟩
  have Lt:∀x,iD w x z (r.meet i (jg r.id f g)) r.n=T x:=λx=>cu hT x;simp only[Lt]at J⊢;have H:=RF (r.P i).pe.who (r.P i).pe.left r.id f g (r.P i).pe.both;generalize (jg r.id f g).who=q1 at J H;generalize (jg r.id f g).both=q2 at J H;generalize (jg r.id f g).left=q3 at J H;generalize (r.P i).pe.who=p1 at M H;generalize (r.P i).pe.both=p2 at M H;generalize (r.P i).pe.left=p3 at M H;generalize r.id=id at M H J;have hRl:=h.lt;have K0:=h.Ka;generalize z.R=RR at J M hRl⊢;generalize z.g=G at M K0 J;generalize z.cap=cp at M J;generalize r.n=n at M kT J;clear h iO hT Lt D hf
  go_in
  go_wp2_with(fail);refine V.mono ?_;rintro e w1 ⟨rfl,b1⟩;have ba:=gT w1 (γ #[ι κ f,ι κ g] 230);have hA:=λj=>aq w1 #[ι κ f,ι κ g] 230 (0,0) j;have b2:=gh b1 ba;obtain⟨Q,nr⟩:=gg (w1.alloc (γ #[ι κ f,ι κ g] 230));obtain⟨Z,y⟩:=gg (w1.heap.size);rw[nr]at b2;have z0:Q.cell? ⟨Z,0,ν⟩=μ (ι κ f):=by rw[<-nr,<-y];exact hA 0
  have z1:Q.cell? ⟨Z,1,ν⟩=μ (ι κ g):=by rw[<-nr,<-y];exact hA 1
  have b3:=gh b2 (iZ Q);have U:=M.out _ b3;have F0:Q.drew.cell? ⟨Z,0,ν⟩=μ (ι κ f)/\Q.drew.cell? ⟨Z,1,ν⟩=μ (ι κ g)/\Q.drew.cell? ⟨RR,0,ν⟩=μ (ι κ id)/\Q.drew.cell? ⟨RR,1,ν⟩=μ (σ (μ ⟨G,0,ν⟩) n cp):=⟨z0,z1,U.1,U.2.1⟩
  have m1:=U.2.2.1;have m2:=U.2.2.2.1;have m3:=U.2.2.2.2;have zl:Z<Q.drew.heap.size:=ag _ _ F0.1;have hZw:w.heap.size<=Z:=by rw[<-y];exact b1.size
  have gl2:G<Q.drew.heap.size:=ag _ _ m1;have hh:eX eY 187 #[.agg #[ι κ p1,.bool p2,ι κ p3],ι κ id,.agg #[ι κ f,ι κ g]] Q.drew λe w'=>e=ρ (.agg #[ι κ q1,.bool q2,ι κ q3])/\eB w w'/\(w'.cell? ⟨Z,0,ν⟩=μ (ι κ f)/\w'.cell? ⟨Z,1,ν⟩=μ (ι κ g)/\w'.cell? ⟨RR,0,ν⟩=μ (ι κ id)/\w'.cell? ⟨RR,1,ν⟩=μ (σ (μ ⟨G,0,ν⟩) n cp)):=by
   refine(H Q.drew).mono ?_;rintro e w' ⟨rfl,b4⟩;have F4:=M.out _ (gh b3 b4);exact⟨rfl,gh b3 b4,(aj (a:=⟨Z,0,ν⟩) (b4.block Z zl)).trans F0.1,(aj (a:=⟨Z,1,ν⟩) (b4.block Z zl)).trans F0.2.1,F4.1,F4.2.1⟩
  clear V H hA ba b1 b2;go_wp2_with(fail)
  try rw[nr]
  try rw[y]
  clear nr y;refine cA (S:=λx=>x.cell? ⟨Z,0,ν⟩=μ (ι κ f)/\x.cell? ⟨Z,1,ν⟩=μ (ι κ g)/\x.cell? ⟨RR,0,ν⟩=μ (ι κ id)/\x.cell? ⟨RR,1,ν⟩=μ (σ (μ ⟨G,0,ν⟩) n cp)) gS F0 (λlF=> ?_);refine jo 0 (μ 15) rfl rfl gS gS gS (λ_ _ _ h=>h) (by rfl) (v:= ?_) ?_ je ?_
  rotate_left
  ·intro X Y
   (try dsimp only at Y)
   go_simp
   try with_reducible rfl
  simp only[gw,gA,gD,gE];refine jo 1 (μ 16) rfl rfl gS gS gS (λ_ _ _ h=>h) (by rfl) (v:= ?_) ?_ je ?_
  rotate_left
  ·intro X Y
   (try dsimp only at Y)
   go_simp
   try with_reducible rfl
  simp only[gw,gA,gD,gE];refine jo 2 (μ 17) rfl rfl gS gS gS (λ_ _ _ h=>h) (by rfl) (v:= ?_) ?_ je ?_
  rotate_left
  ·intro X Y
   (try dsimp only at Y)
   go_simp
   try with_reducible rfl
  simp only[gw,gA,gD,gE];refine jo 3 (μ 18) rfl rfl gS gS gS (λ_ _ _ h=>h) (by rfl) (v:= ?_) ?_ je ?_
  rotate_left
  ·intro X Y
   (try dsimp only at Y)
   go_simp
   try with_reducible rfl
  simp only[gw,gA,gD,gE];refine jo 4 (μ 19) rfl rfl gS gS gS (λ_ _ _ h=>h) (by rfl) (v:= ?_) ?_ je ?_
  rotate_left
  ·intro X Y
   (try dsimp only at Y)
   go_simp
   try with_reducible rfl
  simp only[gw,gA,gD,gE];refine jo 5 (μ 20) rfl rfl gS gS gS (λ_ _ _ h=>h) (by rfl) (v:= ?_) ?_ je ?_
  rotate_left
  ·intro X Y
   (try dsimp only at Y)
   go_simp
   try with_reducible rfl
  simp only[gw,gA,gD,gE];refine jo 6 (μ 21) rfl rfl gS gS gS (λ_ _ _ h=>h) (by rfl) (v:= ?_) ?_ je ?_
  rotate_left
  ·intro X Y
   (try dsimp only at Y)
   go_simp
   try with_reducible rfl
  simp only[gw,gA,gD,gE];refine jo 7 (μ 22) rfl rfl gS gS gS (λ_ _ _ h=>h) (by rfl) (v:= ?_) ?_ je ?_
  rotate_left
  ·intro X Y
   (try dsimp only at Y)
   go_simp
   try with_reducible rfl
  simp only[gw,gA,gD,gE];refine jo 8 (μ 23) rfl rfl gS gS gS (λ_ _ _ h=>h) (by rfl) (v:= ?_) ?_ je ?_
  rotate_left
  ·intro X Y
   (try dsimp only at Y)
   go_simp
   try with_reducible rfl
  simp only[gw,gA,gD,gE];refine jo 10 (μ 25) rfl rfl gS gS gS (λ_ _ _ h=>h) (by rfl) (v:= ?_) ?_ je ?_
  rotate_left
  ·intro X Y
   (try dsimp only at Y)
   go_simp
   try with_reducible rfl
  simp only[gw,gA,gD,gE];refine jo 11 (μ 26) rfl rfl gS gS gS (λ_ _ _ h=>h) (by rfl) (v:= ?_) ?_ je ?_
  rotate_left
  ·intro X Y
   (try dsimp only at Y)
   go_simp
   try with_reducible rfl
  simp only[gw,gA,gD,gE];refine jo 12 (μ 27) rfl rfl gS gS gS (λ_ _ _ h=>h) (by rfl) (v:= ?_) ?_ je ?_
  rotate_left
  ·intro X Y
   (try dsimp only at Y)
   go_simp
   try with_reducible rfl
  simp only[gw,gA,gD,gE];refine jo 13 (μ 28) rfl rfl gS gS gS (λ_ _ _ h=>h) (by rfl) (v:= ?_) ?_ je ?_
  rotate_left
  ·intro X Y
   (try dsimp only at Y)
   go_simp
   try with_reducible rfl
  simp only[gw,gA,gD,gE];refine jo 14 (μ 29) rfl rfl gS gS gS (λ_ _ _ h=>h) (by rfl) (v:= ?_) ?_ je ?_
  rotate_left
  ·intro X Y
   (try dsimp only at Y)
   go_simp
   try with_reducible rfl
  simp only[gw,gA,gD,gE];refine aQ (rs:=[9]) gS gU ?_;refine aG (o:=_) rfl (λK A=> ?_) aN
  go_simp
  refine A.out _ _ ?_ (λlF=> ?_);{exact F0};clear A K;refine aQ (rs:=[15]) gS gU ?_;refine aG (o:=_) rfl (λK A=> ?_) aN
  go_simp
  refine hh.mono ?_;rintro e w4 ⟨rfl,b4,F1⟩
  (try go_wp2_with(fail))
  refine A.out _ _ ?_ (λlF=> ?_);{exact F1};clear A K;refine aQ (rs:=[16]) gS gU ?_;refine aG (o:=_) rfl (λK A=> ?_) aN
  go_simp
  refine(J _ Z b4 hZw ⟨F1.1,F1.2.1⟩).mono ?_;rintro e w5 ⟨rfl,hW,F2⟩
  (try go_wp2_with(fail))
  refine A.out _ _ ?_ (λlF=> ?_);{exact F2};clear A K;refine cS gS ?_ _
  all_goals
   clear J hh F0 F1 F2 M
   go_wp2
   first|go_end0|refine iK rfl rfl ?_
   exact⟨rfl,hW⟩
 ·rw[af D];have ee:ji (kG s.data.toList).2.2=.iface 128 (ι κ ((kG s.data.toList).2.2:Int)):=by simp only[ji];rw[af D]
  rw[ee]at V;generalize (kG s.data.toList).1=f at V;generalize (kG s.data.toList).2.1=g at V;generalize (kG s.data.toList).2.2=k at V;have HR:Hid _:=h;clear h iO ee D
  go_in
  go_wp2_with(fail);refine V.mono ?_;rintro e w1 ⟨rfl,b1⟩;have HW:Hid _:=iD.still HR.out (gh b1 (gT w1 (γ #[ι κ f,ι κ g] 230)));clear V
  go_wp2
  first|go_end0|refine iK rfl rfl ?_
  exact⟨rfl,HW.out⟩
def zM(w w':dX)(y':Yt):Nat->Prop:=λk=>w.heap.size<=k/\k<w'.heap.size/\(y'.own k \/y'.ext k)
theorem jF.owned {y y':Yt} {n n':iM} (h:jF w y n)(hs:w.heap.size<=w'.heap.size)(hk:∀k,k<w.heap.size->¬y.own k->¬y.ext k->w'.heap[k]? =w.heap[k]?)
 (V:y'.bM=y.bM) (U:y'.z=λj=>(y.z j).plus (zM w w' y')) (jk:∀k,y'.own k \/y'.ext k->k<w'.heap.size)
 (T:∀k,y'.own k->y.own k \/w.heap.size<=k) (G:∀k,y'.ext k->y.ext k \/w.heap.size<=k) (X:n'.n=n.n) (J:n'.ms=n.ms) (A:n'.R=n.R)
 (c9:n'.nc<=9)
 (od:iX w' y'.N #[σ (μ ⟨y'.gR,0,ν⟩) n'.n y'.tR,σ (μ ⟨y'.gI,0,ν⟩) n'.n y'.yJ,.map (μ y'.bM),y'.cv n'.nc] 190)
 (rr:qg w' y'.gR 0 n'.n (λi=>π (μ ⟨(y.z i).R,0,ν⟩))) (ri:qg w' y'.gI 0 n'.n y'.iv) (rc:∀g,y'.gC=μ g->∀c,c<n'.nc->qg w' g (c*7) 7 (C2 (n'.C c) (y'.ov c))) (gc:∀c,c<n'.nc->∃g,y'.gC=μ g)
 (ib:∀i,i<n'.n->Row w' 3 (y'.iv i) (n'.j8 i).length (rO (n'.j8 i))) (ob:∀c d,c<n'.nc->d<2->Row w' 1 (y'.ov c d) ((n'.C c).on d).length (iP ((n'.C c).on d))) (ol:∀c d,c<n'.nc->d<2->((n'.C c).on d).length<=2000)
 (en:∀c d,c<n'.nc->d<2->((n'.C c).e d).1<n'.n/\((n'.C c).e d).2<3) (inj:∀l l' k,y'.at l=μ k->y'.at l'=μ k->l=l') (nx:∀k,y'.ext k->¬y'.own k):
 jF w' y' n'/\∀k,y'.all n.n k->y.all n.n k \/w.heap.size<=k:=by
 have S:∀j k,(y'.z j).ph k↔(y.z j).ph k:=λj k=>by rw[U];exact dV
 have M:=h.Hz;refine⟨⟨by rw[X];exact h.n1,by rw[X];exact h.n6,c9,od,?_,ri,rc,gc,?_,λi hi=> ?_,λi hi=> ?_,ib,ob,ol,en,inj,λi hi k Y=> ?_,nx,⟨λe=> ?_,λe=> ?_,λi hi e=> ?_⟩,λe=> ?_⟩,λk H=> ?_⟩;{refine rr.congr λj _=> ?_;rw[U];rfl};{obtain⟨E,h1,h2⟩:=h.mp;refine⟨E,?_,by rw[X,J];exact h2⟩;rw[V];exact h1.keep (hk _ M h.nM.1 h.nM.2.1)}
 ·rw[X]at hi;rw[U,A];refine(h.rt i hi).besides hs (λk H hc=>hk k H (λe=> ?_) (λe=> ?_)) _ (λk e=>⟨e.1,e.2.1⟩)
  ·have Y:=h.away i hi k (.inl e);rcases hc with hc|hc
   {exact hc Y.1};{rw[(h.rn i hi).1]at hc;exact Y.2 hc}
  ·have Y:=h.away i hi k (.inr (.inl e));rcases hc with hc|hc
   {exact hc Y.1};{rw[(h.rn i hi).1]at hc;exact Y.2 hc}
 ·rw[X]at hi;rw[A];exact h.rn i hi
 ·rw[X]at hi Y;rw[U];show((y.z i).fm.no k \/zM w w' y' k)/\¬(y.z i).mine 3 k;have D:w.heap.size<=k->¬(y.z i).mine 3 k:=λe Z=>by
   have:=h.yL hi (.inl Z);omega
  rcases Y with e|e|⟨j,Q,jt,e⟩
  ·rcases T k e with Z|Z
   {have Y:=h.away i hi k (.inl Z);exact⟨.inl Y.1,Y.2⟩};{exact⟨.inr ⟨Z,jk k (.inl e),.inl e⟩,D Z⟩}
  ·rcases G k e with Z|Z
   {have Y:=h.away i hi k (.inr (.inl Z));exact⟨.inl Y.1,Y.2⟩};{exact⟨.inr ⟨Z,jk k (.inr e),.inr e⟩,D Z⟩}
  ·have Y:=h.away i hi k (.inr (.inr ⟨j,Q,jt,(S j k).1 e⟩));exact⟨.inl Y.1,Y.2⟩
 ·rw[V]at e;rcases T _ e with Z|Z
  {exact h.nM.1 Z};{omega}
 ·rw[V]at e;rcases G _ e with Z|Z
  {exact h.nM.2.1 Z};{omega}
 ·rw[X]at hi;rw[V]at e;exact h.nM.2.2 i hi ((S i _).1 e)
 ·rcases T 0 e with Z|Z
  {exact h.z0 Z};{have:=h.Hz;omega}
 ·rcases H with e|⟨j,Q,e⟩
  {exact(T k e).imp_left .inl};{exact .inl (.inr ⟨j,Q,(S j k).1 e⟩)}
theorem jF.vt {y:Yt} {n:iM} (h:jF w y n) {l:Lab} (e:y.at l=μ k):k<w.heap.size:=h.lt (.inl ⟨l,e⟩)
theorem jF.wD {y:Yt} {n:iM} (h:jF w y n) {l l':Lab} {k':Nat} (e:y.at l=μ k)(e':y.at l'=μ k')(Z:l≠l'):k≠k':=λx=>Z (h.inj l l' k e (by rw[e',x]))
theorem jF.PO {y:Yt} {n:iM} {c g:Nat} (h:jF w y n)(hc:c<n.nc)(D:y.gC=μ g)(X:qC)(o:Nat->dY)(hs:w.heap.size<=w'.heap.size)(GV:w'.os=w.os)(PD:w'.tape=w.tape)(ME:w'.output=w.output)
 (hk:∀k,k<w.heap.size->k≠g->(∀d,d<2->(y.ov c d).ownBlock≠μ k)->w'.heap[k]? =w.heap[k]?)
 (hcell:∀j,j<c*7 \/c*7+7<=j->w'.cell? ⟨g,j,ν⟩=w.cell? ⟨g,j,ν⟩) (Pz:∀j,w'.frozen? ⟨g,j,ν⟩=w.frozen? ⟨g,j,ν⟩) (uM:qg w' g (c*7) 7 (C2 X o))
 (Vz:∀d,d<2->Row w' 1 (o d) (X.on d).length (iP (X.on d))) (Yo:∀d,d<2->(X.on d).length<=2000) (Ar:X.e=(n.C c).e)
 (jm:∀d k,d<2->(o d).ownBlock=μ k->(y.ov c d).ownBlock=μ k \/w.heap.size<=k) (jt:∀k,(o 0).ownBlock=μ k->(o 1).ownBlock≠μ k):iF w w' y (n.lq c X) n.n:=by
 obtain⟨ov,A⟩:∃ov:Nat->Nat->dY,ov=λx d=>if x=c/\d<2 then o d else y.ov x d:=⟨_,rfl⟩
 have V:∀d,d<2->ov c d=o d:=λd hd=>by rw[A];simp[hd]
 have Q:∀x d,¬(x=c/\d<2)->ov x d=y.ov x d:=λx d hx=>by rw[A];simp only[if_neg hx]
 obtain⟨M,Cg⟩:∃M:Yt,M={y with ov:=ov}:=⟨_,rfl⟩
 obtain⟨y',Y⟩:∃y':Yt,y'={y with ov:=ov,z:=λj=>(y.z j).plus (zM w w' M)}:=⟨_,rfl⟩
 have jE:∀k,y'.own k↔M.own k:=λk=>by
  rw[Y,Cg];constructor;{rintro⟨l,e⟩;exact⟨l,by cases l<;>exact e⟩};{rintro⟨l,e⟩;exact⟨l,by cases l<;>exact e⟩}
 have hX:zM w w' M=zM w w' y':=by
  funext k
  apply propext;unfold zM;rw[<-jE k];have:M.ext=y'.ext:=by rw[Cg,Y]
  rw[this]
 have hat:∀l k,y'.at l=μ k->y.at l=μ k \/(w.heap.size<=k/\∃d,d<2/\l=.on c d/\(o d).ownBlock=μ k):=by
  intro l k e;rw[Y]at e;cases l with
  |N=>exact .inl e
  |R=>exact .inl e
  |I=>exact .inl e
  |C=>exact .inl e
  |ib i=>exact .inl e
  |on x d=>
   have e':(ov x d).ownBlock=μ k:=e;by_cases hx:x=c/\d<2
   ·obtain⟨rfl,hd⟩:=hx;rw[V d hd]at e';rcases jm d k hd e' with Z|Z
    {exact .inl Z};{exact .inr ⟨Z,d,hd,rfl,e'⟩}
   ·rw[Q x d hx]at e';exact .inl e'
 have kA:∀k,y'.own k->k<w'.heap.size:=by
  rintro k ⟨l,e⟩;rcases hat l k e with Z|⟨_,d,hd,rfl,Z⟩
  {exact Nat.lt_of_lt_of_le (h.vt Z) hs};{exact(Vz d hd).lt k Z}
 have kr:∀l k,y.at l=μ k->l≠ .C->(∀d,d<2->l≠ .on c d)->w'.heap[k]? =w.heap[k]? :=by
  intro l k e S G;refine hk k (h.vt e) (λZ=> ?_) (λd hd Z=> ?_);{exact h.wD e (show y.at .C=μ g from D) S Z};{exact G d hd (h.inj _ _ k e (show y.at (.on c d)=μ k from Z))}
 have H:=h.owned (y':=y') (n':=n.lq c X) hs (λk uI S _=>hk k uI (λe=>S ⟨.C,by rw[e];exact D⟩) (λd _ e=>S ⟨.on c d,e⟩)) (by rw[Y]) (by rw[<-hX,Y])
  (λk e=>e.elim (kA k) (λe=>by
   have e':y.ext k:=by rw[Y]at e;exact e
   exact Nat.lt_of_lt_of_le (h.lt (.inr e')) hs))
  (by
   rintro k ⟨l,e⟩;rcases hat l k e with Z|⟨Z,_⟩
   ·exact .inl ⟨l,Z⟩
   ·exact .inr Z) (λk e=>.inl (by rw[Y]at e;exact e)) rfl rfl rfl h.c9 (by rw[Y];exact h.od.keep (kr .N _ rfl (λe=>nomatch e) (λ_ _ e=>nomatch e)))
  (by rw[Y];exact h.rr.keep (kr .R _ rfl (λe=>nomatch e) (λ_ _ e=>nomatch e))) (by rw[Y];exact h.ri.keep (kr .I _ rfl (λe=>nomatch e) (λ_ _ e=>nomatch e)))
  (by
   intro g' DM x hx;have BL:y.gC=μ g':=by rw[Y]at DM;exact DM
   obtain rfl:g=g':=by rw[D]at BL;exact Option.some.inj BL
   have vE:x<n.nc:=hx;show qg w' g (x*7) 7 (C2 (jU n.C c X x) (y'.ov x));by_cases e:x=c
   ·subst e;rw[iE];refine uM.congr λj _=> ?_;have U:y'.ov x 0=o 0:=by rw[Y];exact V 0 ew
    have Z:y'.ov x 1=o 1:=by rw[Y];exact V 1 ew
    unfold C2;rw[U,Z]
   ·rw[iC _ _ e];have hb:=h.rc g D x vE;have T:∀d,y'.ov x d=y.ov x d:=λd=>by rw[Y];exact Q x d (λe'=>e e'.1)
    intro j hj;have hr:x*7+j<c*7 \/c*7+7<=x*7+j:=by
     rcases Nat.lt_or_gt_of_ne e with S|S
     {exact .inl dZ};{exact .inr dZ}
    refine⟨(hcell _ hr).trans ?_,(Pz _).trans (hb.fz j hj)⟩;rw[hb.cell j hj];unfold C2;rw[T 0,T 1])
  (by
   intro x hx;obtain⟨g',e⟩:=h.gc x hx;exact⟨g',by rw[Y];exact e⟩)
  (by
   intro i hi;have:=(h.ib i hi).keep hs (λk e=>kr (.ib i) k e (λe=>nomatch e) (λ_ _ e=>nomatch e));rw[Y];exact this)
  (by
   intro x d hx hd;show Row w' 1 (y'.ov x d) ((jU n.C c X x).on d).length (iP ((jU n.C c X x).on d));by_cases e:x=c
   ·subst e;have U:y'.ov x d=o d:=by rw[Y];exact V d hd
    rw[iE,U];exact Vz d hd
   ·have U:y'.ov x d=y.ov x d:=by rw[Y];exact Q x d (λe'=>e e'.1)
    rw[iC _ _ e,U];exact(h.ob x d hx hd).keep hs (λk Z=>kr (.on x d) k Z (λe=>nomatch e) (λd' _ e'=>e (by injection e'))))
  (by
   intro x d hx hd;show((jU n.C c X x).on d).length<=2000;by_cases e:x=c;{subst e;rw[iE];exact Yo d hd}
   ·rw[iC _ _ e];exact h.ol x d hx hd)
  (by
   intro x d hx hd;show((jU n.C c X x).e d).1<n.n/\((jU n.C c X x).e d).2<3;by_cases e:x=c;{subst e;rw[iE,Ar];exact h.en x d hx hd}
   ·rw[iC _ _ e];exact h.en x d hx hd)
  (by
   intro l l' k e e';rcases hat l k e with Z|⟨Z,d,hd,rfl,T⟩
   ·rcases hat l' k e' with J|⟨J,_⟩
    {exact h.inj l l' k Z J};{have:=h.vt Z;omega}
   ·rcases hat l' k e' with J|⟨J,d',kg,rfl,e4⟩
    ·have:=h.vt J;omega
    ·have:d=d':=by
      rcases Nat.lt_or_ge d 1 with S|S
      ·rcases Nat.lt_or_ge d' 1 with G|G
       {omega};{obtain rfl:d=0:=dZ;obtain rfl:d'=1:=dZ;exact absurd e4 (jt k T)}
      ·rcases Nat.lt_or_ge d' 1 with G|G
       {obtain rfl:d=1:=dZ;obtain rfl:d'=0:=dZ;exact absurd T (jt k e4)};{omega}
     rw[this])
  (by
   intro k e;have U:y.ext k:=by rw[Y]at e;exact e
   rintro⟨l,Z⟩;rcases hat l k Z with T|⟨T,_⟩
   ·exact h.nx k U ⟨l,T⟩
   ·have:=h.lt (.inr U);omega)
 refine⟨⟨y',H.1,by rw[Y];exact⟨rfl,rfl,rfl,rfl,rfl,rfl,rfl,rfl⟩,H.2,λk=>by rw[Y]⟩,⟨GV,PD,ME,hs,λk uI hn=>hk k uI (λe=>hn (.inl ⟨.C,by rw[e];exact D⟩)) (λd _ e=>hn (.inl ⟨.on c d,e⟩))⟩⟩
theorem jF.box {y:Yt} {n:iM} (h:jF w y n)(hi:i<n.n)(v:dY)(l:List zb)(hs:w.heap.size<=w'.heap.size)(GV:w'.os=w.os)(PD:w'.tape=w.tape)(ME:w'.output=w.output)
 (J:∀k,k<w.heap.size->k≠y.gI->(y.iv i).ownBlock≠μ k->w'.heap[k]? =w.heap[k]?) (Gs:qg w' y.gI 0 n.n (jU y.iv i v)) (NQ:Row w' 3 v l.length (rO l))
 (jm:∀k,v.ownBlock=μ k->(y.iv i).ownBlock=μ k \/w.heap.size<=k):iF w w' y {n with j8:=jU n.j8 i l} n.n:=by
 obtain⟨X,A⟩:∃X:Yt,X={y with iv:=jU y.iv i v}:=⟨_,rfl⟩
 obtain⟨y',Y⟩:∃y':Yt,y'={y with iv:=jU y.iv i v,z:=λj=>(y.z j).plus (zM w w' X)}:=⟨_,rfl⟩
 have jE:∀k,y'.own k↔X.own k:=λk=>by
  rw[Y,A];constructor;{rintro⟨l,e⟩;exact⟨l,by cases l<;>exact e⟩};{rintro⟨l,e⟩;exact⟨l,by cases l<;>exact e⟩}
 have hX:zM w w' X=zM w w' y':=by
  funext k
  apply propext;unfold zM;rw[<-jE k];have:X.ext=y'.ext:=by rw[A,Y]
  rw[this]
 have hat:∀l k,y'.at l=μ k->y.at l=μ k \/(w.heap.size<=k/\l=.ib i/\v.ownBlock=μ k):=by
  intro l k e;rw[Y]at e;cases l with
  |N=>exact .inl e
  |R=>exact .inl e
  |I=>exact .inl e
  |C=>exact .inl e
  |on x d=>exact .inl e
  |ib x=>
   have e':(jU y.iv i v x).ownBlock=μ k:=e;by_cases hx:x=i
   ·subst hx;rw[iE]at e';rcases jm k e' with Z|Z
    {exact .inl Z};{exact .inr ⟨Z,rfl,e'⟩}
   ·rw[iC _ _ hx]at e';exact .inl e'
 have kA:∀k,y'.own k->k<w'.heap.size:=by
  rintro k ⟨l,e⟩;rcases hat l k e with Z|⟨_,rfl,Z⟩
  {exact Nat.lt_of_lt_of_le (h.vt Z) hs};{exact NQ.lt k Z}
 have T:∀l k,y.at l=μ k->l≠ .I->l≠ .ib i->w'.heap[k]? =w.heap[k]? :=by
  intro l k e Q h2;refine J k (h.vt e) (λZ=> ?_) (λZ=> ?_);{exact h.wD e (show y.at .I=μ y.gI from rfl) Q Z};{exact h2 (h.inj _ _ k e (show y.at (.ib i)=μ k from Z))}
 have H:=h.owned (y':=y') (n':={n with j8:=jU n.j8 i l}) hs (λk G Q _=>J k G (λe=>Q ⟨.I,by rw[e];rfl⟩) (λe=>Q ⟨.ib i,e⟩)) (by rw[Y]) (by rw[<-hX,Y])
  (λk e=>e.elim (kA k) (λe=>by
   have e':y.ext k:=by rw[Y]at e;exact e
   exact Nat.lt_of_lt_of_le (h.lt (.inr e')) hs))
  (by
   rintro k ⟨l,e⟩;rcases hat l k e with Z|⟨Z,_⟩
   ·exact .inl ⟨l,Z⟩
   ·exact .inr Z) (λk e=>.inl (by rw[Y]at e;exact e)) rfl rfl rfl h.c9 (by rw[Y];exact h.od.keep (T .N _ rfl (λe=>nomatch e) (λe=>nomatch e)))
  (by rw[Y];exact h.rr.keep (T .R _ rfl (λe=>nomatch e) (λe=>nomatch e))) (by rw[Y];exact Gs)
  (by
   intro U DM x hx;have D:y.gC=μ U:=by rw[Y]at DM;exact DM
   have:=(h.rc U D x hx).keep (T .C U D (λe=>nomatch e) (λe=>nomatch e));rw[Y];exact this)
  (by
   intro x hx;obtain⟨U,e⟩:=h.gc x hx;exact⟨U,by rw[Y];exact e⟩)
  (by
   intro x hx;show Row w' 3 (y'.iv x) (jU n.j8 i l x).length (rO (jU n.j8 i l x));have S:y'.iv x=jU y.iv i v x:=by rw[Y]
   rw[S];by_cases e:x=i;{subst e;rw[iE,iE];exact NQ}
   ·rw[iC _ _ e,iC _ _ e];exact(h.ib x hx).keep hs (λk Z=>T (.ib x) k Z (λe=>nomatch e) (λe'=>e (by injection e'))))
  (by
   intro x d hx hd;have:=(h.ob x d hx hd).keep hs (λk Z=>T (.on x d) k Z (λe=>nomatch e) (λe=>nomatch e));rw[Y];exact this)
  h.ol h.en
  (by
   intro l l' k e e';rcases hat l k e with Z|⟨Z,rfl,M⟩
   ·rcases hat l' k e' with V|⟨V,_⟩
    {exact h.inj l l' k Z V};{have:=h.vt Z;omega}
   ·rcases hat l' k e' with V|⟨V,rfl,e4⟩
    ·have:=h.vt V;omega
    ·rfl)
  (by
   intro k e;have S:y.ext k:=by rw[Y]at e;exact e
   rintro⟨l,Z⟩;rcases hat l k Z with M|⟨M,_⟩
   ·exact h.nx k S ⟨l,M⟩
   ·have:=h.lt (.inr S);omega)
 refine⟨⟨y',H.1,by rw[Y];exact⟨rfl,rfl,rfl,rfl,rfl,rfl,rfl,rfl⟩,H.2,λk=>by rw[Y]⟩,⟨GV,PD,ME,hs,λk G hn=>J k G (λe=>hn (.inl ⟨.I,by rw[e];rfl⟩)) (λe=>hn (.inl ⟨.ib i,e⟩))⟩⟩
theorem jF.beside {y:Yt} {n:iM} (h:jF w y n)(hs:w.heap.size<=w'.heap.size)(hk:∀k,k<w.heap.size->¬y.ext k->w'.heap[k]? =w.heap[k]?)(X:Nat->Prop)(J:∀k,X k->w.heap.size<=k/\k<w'.heap.size):
 ∃y',jF w' y' n/\y.same y'/\(∀k,y'.all n.n k↔y.all n.n k)/\∀k,y'.ext k↔y.ext k \/X k:=by
 obtain⟨V,A⟩:∃V:Yt,V={y with ext:=λk=>y.ext k \/X k}:=⟨_,rfl⟩
 obtain⟨y',Z⟩:∃y':Yt,y'={y with ext:=λk=>y.ext k \/X k,z:=λj=>(y.z j).plus (zM w w' V)}:=⟨_,rfl⟩
 have hat:∀l,y'.at l=y.at l:=by
  intro l;rw[Z];cases l<;>rfl
 have M:∀l,V.at l=y.at l:=by
  intro l;rw[A];cases l<;>rfl
 have U:∀k,y'.own k↔y.own k:=λk=>by unfold Yt.own;simp only[hat]
 have jE:∀k,V.own k↔y.own k:=λk=>by unfold Yt.own;simp only[M]
 have G:zM w w' V=zM w w' y':=by
  funext k
  apply propext;unfold zM;rw[U k,jE k];have:V.ext=y'.ext:=by rw[A,Z]
  rw[this]
 have T:∀l k,y.at l=μ k->w'.heap[k]? =w.heap[k]? :=λl k e=>hk k (h.vt e) (λY=>h.nx k Y ⟨l,e⟩);have Q:∀k,y'.ext k↔y.ext k \/X k:=λk=>by rw[Z]
 have H:=h.owned (y':=y') (n':=n) hs (λk uI _ h2=>hk k uI h2) (by rw[Z]) (by rw[<-G,Z])
  (λk e=>by
   rcases e with e|e
   ·exact Nat.lt_of_lt_of_le (h.lt (.inl ((U k).1 e))) hs
   ·rcases(Q k).1 e with e|e
    ·exact Nat.lt_of_lt_of_le (h.lt (.inr e)) hs
    ·exact(J k e).2)
  (λk e=>.inl ((U k).1 e)) (λk e=>((Q k).1 e).imp_right (λe=>(J k e).1)) rfl rfl rfl h.c9 (by rw[Z];exact h.od.keep (T .N _ rfl))
  (by rw[Z];exact h.rr.keep (T .R _ rfl)) (by rw[Z];exact h.ri.keep (T .I _ rfl))
  (by
   intro S DM x hx;have D:y.gC=μ S:=by rw[Z]at DM;exact DM
   have:=(h.rc S D x hx).keep (T .C S D);rw[Z];exact this)
  (by
   intro x hx;obtain⟨S,e⟩:=h.gc x hx;exact⟨S,by rw[Z];exact e⟩)
  (by
   intro x hx;have:=(h.ib x hx).keep hs (λk Y=>T (.ib x) k Y);rw[Z];exact this)
  (by
   intro x d hx hd;have:=(h.ob x d hx hd).keep hs (λk Y=>T (.on x d) k Y);rw[Z];exact this)
  h.ol h.en (λl l' k e e'=>h.inj l l' k ((hat l).symm.trans e) ((hat l').symm.trans e'))
  (by
   intro k e Y;rcases(Q k).1 e with e|e
   ·exact h.nx k e ((U k).1 Y)
   ·have h1:=h.lt (.inl ((U k).1 Y));have h2:=(J k e).1;omega)
 refine⟨y',H.1,by rw[Z];exact⟨rfl,rfl,rfl,rfl,rfl,rfl,rfl,rfl⟩,λk=> ?_,Q⟩;unfold Yt.all;rw[U k];have:∀j,(y'.z j).ph k↔(y.z j).ph k:=λj=>by rw[Z];exact dV
 simp only[this]
theorem jF.below {w w':dX} {y:Yt} {n:iM} (h:jF w y n)(hb:eB w w'):jF w' y n:=by
 refine⟨h.n1,h.n6,h.c9,h.od.below hb,h.rr.below h.n1 hb,h.ri.below h.n1 hb,λg X c hc=>(h.rc g X c hc).below ew hb,h.gc,?_,λi hi=>(h.rt i hi).below hb,h.rn,λi hi=>(h.ib i hi).below hb,λc d hc hd=>(h.ob c d hc hd).below hb,h.ol,h.en,h.inj,h.away,h.nx,h.nM,h.z0⟩;obtain⟨E,Z,Y⟩:=h.mp;exact⟨E,Z.keep (hb.block _ h.Hz),Y⟩
theorem ya.iT(y:Yt)(n:Nat)(h:eB w w'):ya w w' y n:=⟨h.os,h.tape,h.output,h.size,λk Z _=>h.block k Z⟩
theorem iF.still {y:Yt} {n:iM} (h:jF w y n)(hb:eB w w'):iF w w' y n n.n:=⟨⟨y,h.below hb,y.Hy,λ_ e=>.inl e,λ_=>dV⟩,ya.iT y n.n hb⟩
theorem iF.below {y:Yt} {n:iM} (h:iF a b y n m)(Y:n.n=m)(hb:eB b c):iF a c y n m:=by
 subst Y;exact h.step λy' Z _=>iF.still Z hb
