import Derived.Test.YtieklnlbljejdaaGreatDoorG16
open Go.Value renaming int → ι, slice → σ, pointer → π, tuple → τ, nilIface → η
open Go.IntKind renaming i64 → κ
open Go.Ending renaming returned → ρ
open Go.Obj renaming cells → γ
open Option renaming none → ν, some → μ
open Go renaming Value → eD, World → eB, Calls → fj
open Go.Proofs.Tryz renaming prog → fk
set_option maxRecDepth 100000
set_option maxHeartbeats 6000000
namespace Go.Proofs.YtieklnlbljejdaaGreatDoor
open Go.RowKit St
namespace Rt
variable {C args:Array Value} {E:Ending->Prop} {N i j k m n:Nat} {W w w' x:World} {a b c u v:Value} {f:FuncId} {o:Obj} {p q:Addr} {r r':iY} {t:TypeId} {α:Type}
theorem qY {k:Int} (h: -1000000<=k/\k<=1000000):rS k:=⟨eE,eE⟩
theorem MQ(K:Int->Option PS)(i:Int):Cm K i=mK K i:=by
 unfold Cm mK;cases K i<;>rfl
theorem MR(K:Int->Option PS)(i:Int):zd K i=pQ K i:=by
 unfold zd pQ;cases K i<;>rfl
theorem mD(h:w.cell? p=μ v):(w.alloc o).cell? p=μ v:=by
 rw[World.cell?_alloc_lt]
 ·exact h
 ·exact af w _ h
theorem nW(h:w.cell? p=μ u/\w.cell? q=μ v):(w.alloc o).cell? p=μ u/\(w.alloc o).cell? q=μ v:=⟨mD h.1,mD h.2⟩
theorem Cz {x:eD} (h:w.cell? p=μ v)(jV:p.block≠N):(w.setCell ⟨N,j,ν⟩ x).cell? p=μ v:=by
 rw[ai (w:=w) (ak _ _ _ _ jV)];exact h
theorem vP(h:w.cell? p=μ v)(jV:p.block≠N):(((w.setCell ⟨N,0,ν⟩ a).setCell ⟨N,1,ν⟩ b).setCell ⟨N,2,ν⟩ c).cell? p=μ v:=Cz (Cz (Cz h jV) jV) jV
theorem tW(h:w.cell? p=μ u/\w.cell? q=μ v)(hp:p.block≠N)(hq:q.block≠N):(((w.setCell ⟨N,0,ν⟩ a).setCell ⟨N,1,ν⟩ b).setCell ⟨N,2,ν⟩ c).cell? p=μ u/\(((w.setCell ⟨N,0,ν⟩ a).setCell ⟨N,1,ν⟩ b).setCell ⟨N,2,ν⟩ c).cell? q=μ v:=⟨vP h.1 hp,vP h.2 hq⟩
theorem Gb(hC:jr x N C t)(h3:C.size=3)(hN:w.heap.size<=N)(hb:eN w x):
 (((x.setCell ⟨N,0,ν⟩ a).setCell ⟨N,1,ν⟩ b).setCell ⟨N,2,ν⟩ c).cell? ⟨N,1,ν⟩=μ b/\(((x.setCell ⟨N,0,ν⟩ a).setCell ⟨N,1,ν⟩ b).setCell ⟨N,2,ν⟩ c).cell? ⟨N,2,ν⟩=μ c/\eN w (((x.setCell ⟨N,0,ν⟩ a).setCell ⟨N,1,ν⟩ b).setCell ⟨N,2,ν⟩ c)/\∀j,j≠N->(((x.setCell ⟨N,0,ν⟩ a).setCell ⟨N,1,ν⟩ b).setCell ⟨N,2,ν⟩ c).heap[j]? =x.heap[j]? :=by
 have h1:=((hC.set 0 a).set 1 b).set 2 c;refine⟨?_,?_,((hb.setCell (p:=⟨N,0,ν⟩) hN a).setCell (p:=⟨N,1,ν⟩) hN b).setCell (p:=⟨N,2,ν⟩) hN c,λj hj=> ?_⟩
 ·rw[h1.cell 1];simp[h3]
 ·rw[h1.cell 2];simp[h3]
 ·rw[ak _ _ _ _ hj,ak _ _ _ _ hj,ak _ _ _ _ hj]
theorem jm.not_zero {x':eB} {a:Option Addr} {es:List j2} (h:jm x a n es)(hN:jr x N #[ι κ 0,ι κ 0,σ ν 0 0] t)(he:∀e∈es,1<=e.1)(hw:∀j,j≠N->x'.heap[j]? =x.heap[j]?):jm x' a n es:=by
 refine⟨h.1,?_⟩;rcases h.2 with h2|⟨b,off,rfl,h2⟩
 ·exact .inl h2
 ·by_cases h0:n=0
  ·exact .inl h0
  ·have hl:0<es.length:=by have:=h.1;omega
   have hbN:b≠N:=by
    intro e;subst e;have h3:=(h2 0 hl).1;rw[hN.cell]at h3;have h4:=he es[0] (aE hl);have:off+0*2=0 \/off+0*2=1 \/off+0*2=2 \/3<=off+0*2:=eE;rcases this with e|e|e|e
    ·rw[e]at h3;simp at h3;omega
    ·rw[e]at h3;simp at h3;omega
    ·rw[e]at h3;simp at h3
    ·rw[aZ (by simpa using e)]at h3;cases h3
   exact .inr ⟨b,off,rfl,λj hj=>⟨(ai (a:=⟨b,_,ν⟩) (hw b hbN)).trans (h2 j hj).1,(ai (a:=⟨b,_,ν⟩) (hw b hbN)).trans (h2 j hj).2⟩⟩
theorem jk(w:eB):eN w w.drew:=jO (au _ _)
theorem CA(z:Zt)(r:iY)(seq:Int)(w:eB)(h:lW w z r)(jb:lp r)(hs:0<=seq/\seq<=1000000):
 fj fk 180 #[π (μ ⟨z.R,0,ν⟩),ι κ seq] w λe w'=>e=ρ (τ #[])/\iU w w' z (r.behind seq) r.n:=by
 by_cases kH:seq<1000000
 ·have HE:Hid (r.behind seq=r.w7 (seq+1) (jZ r)):=by
   show _=_;unfold iY.behind;rw[ag kH]
  have R0:=h.below (jk w);have he:=Cx z r w.drew R0;have kD:∀(w1:eB) (a:Option Addr) (cap:Nat),Made w.drew w1 (σ a (jZ r).length cap) (jZ r)->kM a cap->fj fk 67 #[π (μ ⟨z.Bb,0,ν⟩),.agg #[ι κ r.id,ι κ (seq+1),σ a (jZ r).length cap]] w1 λe w'=>e=ρ η/\iU w w' z (r.behind seq) r.n/\(w'.cell? ⟨z.R,0,ν⟩=μ (ι κ r.id)/\w'.cell? ⟨z.R,2,ν⟩=μ (π (μ ⟨z.Bb,0,ν⟩))):=by
   intro w1 a cap hM kj;have R1:=R0.below hM.below;refine(IA z.Bb z.fm 6 r.K r.O r.id (seq+1) a (jZ r).length cap (jZ r) w1 R1.bs (qY (by have:=jb.id;omega)) hM.opts.2 kj eE (Cu jb eE)).mono ?_;rintro e w2 ⟨rfl,hB,hk⟩;refine⟨rfl,?_,jN.cell hk R1.bs R1.c0,jN.cell hk R1.bs R1.c2⟩;rw[HE.out];exact iU.first h rfl (iA (jk w) hM.below) (λ_=>R1.base hB hk)
  have Vo:fj fk 179 #[π (μ ⟨z.R,0,ν⟩)] w.drew λe w'=>∃a cap,e=ρ (σ a (jZ r).length cap)/\Made w.drew w' (σ a (jZ r).length cap) (jZ r)/\kM a cap/\(w'.cell? ⟨z.R,0,ν⟩=μ (ι κ r.id)/\w'.cell? ⟨z.R,2,ν⟩=μ (π (μ ⟨z.Bb,0,ν⟩))):=by
   refine he.mono ?_;rintro e w1 ⟨v,rfl,hM⟩;obtain⟨a,cap,rfl,kj,hle⟩:=hM.shape;have R1:=R0.below hM.below;exact⟨a,cap,rfl,hM,kj,R1.c0,R1.c2⟩
  have c0:=R0.c0;have c2:=R0.c2;have cl:=R0.lt;have WN:=hs.1;obtain⟨n,hn⟩:∃n:eB->Prop,(λx=>iU w x z (r.behind seq) r.n)=n:=⟨_,rfl⟩
  have YU:∀x,iU w x z (r.behind seq) r.n=n x:=λx=>ch hn x;simp only[YU]at kD⊢;generalize jZ r=es at kD Vo;generalize z.R=RR at kD Vo c0 c2 cl⊢;generalize z.Bb=Bb at kD Vo c2;generalize r.id=id at kD Vo c0;clear h jb R0 hs he HE hn YU;have Ub:IntKind.i64.wrap (seq+1)=seq+1:=aS _ ⟨eE,eE⟩;have F0:w.drew.cell? ⟨RR,0,ν⟩=μ (ι κ id)/\w.drew.cell? ⟨RR,2,ν⟩=μ (π (μ ⟨Bb,0,ν⟩)):=⟨c0,c2⟩
  go_in
  go_wp2
  go_region_held3(λx=>x.cell? ⟨RR,0,ν⟩=μ (ι κ id)/\x.cell? ⟨RR,2,ν⟩=μ (π (μ ⟨Bb,0,ν⟩)))
   (first|assumption|exact F0|exact F1|exact F2)
   (first
    |(go_at_call 179;refine Vo.mono ?_;rintro e w1 ⟨a,cap,rfl,hM,kj,F1⟩;have HM:Hid _:=hM;clear hM)
    |(go_at_call 67;refine(kD _ _ _ HM.out kj).mono ?_;rintro e w2 ⟨rfl,nH,F2⟩))
  all_goals
   clear kD F0 F1 F2
   go_wp2
   first|go_end0|refine aj (ar rfl _ _ _) rfl ?_
   exact⟨rfl,nH⟩
 ·have HE:Hid (r.behind seq=r):=by
   show _=_;unfold iY.behind;rw[ae kH]
  have HR:Hid _:=h;clear h jb hs
  go_in
  go_wp2
  first|go_end0|refine aj (ar rfl _ _ _) rfl ?_
  exact⟨rfl,by rw[HE.out];exact iU.refl HR.out⟩
theorem K3(z:Zt)(r:iY)(w:eB)(h:lW w z r)(jb:lp r):
 fj fk 125 #[π (μ ⟨z.R,0,ν⟩)] w λe w'=>e=ρ (τ #[])/\iU w w' z r.change r.n:=by
 have IQ:=qY (k:=r.id) (by have:=jb.id;omega);have hg:∀W,eN w W->fj fk 177 #[π (μ ⟨z.Bb,0,ν⟩),ι κ r.id] W λe w'=>∃a cap,e=ρ (τ #[.agg #[ι κ (wC r.K r.id),ι κ (pQ r.K r.id),σ a (mK r.K r.id).length cap],.bool (r.K r.id).isSome])/\jm w' a (mK r.K r.id).length (mK r.K r.id)/\eN W w'/\(w'.cell? ⟨z.R,0,ν⟩=μ (ι κ r.id)/\w'.cell? ⟨z.R,2,ν⟩=μ (π (μ ⟨z.Bb,0,ν⟩))):=by
  intro W hW;refine(IC z.Bb z.fm 6 r.K r.O r.id W (h.below hW).bs IQ).mono ?_;rintro e w1 ⟨a,cap,rfl,ho,_,_,b1⟩;have R1:=h.below (iA hW b1);exact⟨a,cap,rfl,ho,b1,R1.c0,R1.c2⟩
 have h6:(mK r.K r.id).length<=6:=by
  obtain⟨q,hq,kD⟩:=jb.own;have:=(jT kD).2.2.1;unfold mK;rw[hq];exact this
 have R8:Hid (∀e∈mK r.K r.id,1<=e.1):=by
  obtain⟨q,hq,kD⟩:=jb.own;have:=ru r.id q.2 0 (jT kD).2.2.2;unfold mK;rw[hq];exact λe he=>(this e he).1.1
 have h6e:(jZ r).length<=6:=by
  have:=(qR jb 6 0 0 eE eE).2;rw[<-Ac]at this;omega
 have he:∀W,eN w W->fj fk 179 #[π (μ ⟨z.R,0,ν⟩)] W λe w'=>∃a cap,e=ρ (σ a (jZ r).length cap)/\jm w' a (jZ r).length (jZ r)/\eN W w':=by
  intro W hW;refine(Cx z r W (h.below hW)).mono ?_;rintro e w1 ⟨v,rfl,hM⟩;obtain⟨a,cap,rfl,_,_⟩:=hM.shape;exact⟨a,cap,rfl,hM.opts.2,hM.below⟩
 have ko:Hid (mK r.K r.id=jZ r->∀W,eN w W->iU w W z r.change r.n):=by
  intro hE W hW;have HC:r.change=r:=by
   unfold iY.change;rw[ag ((MQ _ _).trans hE)]
  rw[HC];exact iU.still h hW
 have Xd:Hid (mK r.K r.id≠jZ r->∀W,eN w W->fj fk 180 #[π (μ ⟨z.R,0,ν⟩),ι κ (pQ r.K r.id)] W λe w'=>e=ρ (τ #[])/\iU w w' z r.change r.n):=by
  intro hE W hW;have HC:r.change=r.behind (pQ r.K r.id):=by
   unfold iY.change;rw[ae (λe=>hE ((MQ _ _).symm.trans e)),MR]
  have hsq:=jb.seq;rw[MR]at hsq;refine(CA z r (pQ r.K r.id) W (h.below hW) jb eE).mono ?_;rintro e w5 ⟨rfl,JY⟩;refine⟨rfl,?_⟩;rw[HC];exact iU.first h rfl hW (λ_=>JY)
 have R0:=h.below (jk w);have F0:=And.intro R0.c0 R0.c2;have cl:=R0.lt;obtain⟨n,hn⟩:∃n:eB->Prop,(λx=>iU w x z r.change r.n)=n:=⟨_,rfl⟩
 have YU:∀x,iU w x z r.change r.n=n x:=λx=>ch hn x;simp only[YU]at ko Xd⊢;generalize jZ r=ed at he ko Xd h6e;generalize mK r.K r.id=es at hg ko Xd h6 R8;generalize pQ r.K r.id=sq at hg Xd;generalize wC r.K r.id=ow at hg;generalize (r.K r.id).isSome=ok at hg;generalize z.R=RR at hg he Xd F0 cl⊢;generalize z.Bb=Bb at hg F0;generalize r.id=id at hg F0;clear h jb R0 hn YU IQ
 go_in
 go_wp2
 go_cut [2] (λv wx=>∃(Z:Nat) (a:Option Addr) (cap:Nat),v=π (μ ⟨Z,0,ν⟩)/\wx.cell? ⟨Z,1,ν⟩=μ (ι κ sq)/\wx.cell? ⟨Z,2,ν⟩=μ (σ a es.length cap)/\jm wx a es.length es/\eN w wx)
 case first=>
  obtain⟨c0,c2⟩:=F0;have F0:w.drew.cell? ⟨RR,0,ν⟩=μ (ι κ id)/\w.drew.cell? ⟨RR,2,ν⟩=μ (π (μ ⟨Bb,0,ν⟩)):=⟨c0,c2⟩
  have ba:=jO (iB w (γ #[ι κ 0,ι κ 0,σ ν 0 0] 40));have wF:jr (w.alloc (γ #[ι κ 0,ι κ 0,σ ν 0 0] 40)).drew w.heap.size #[ι κ 0,ι κ 0,σ ν 0 0] 40:=(jr.new w _ _).drew;have jV:RR≠w.heap.size:=by have h2:RR<w.heap.size:=cl;omega
  go_region_held3(λx=>x.cell? ⟨RR,0,ν⟩=μ (ι κ id)/\x.cell? ⟨RR,2,ν⟩=μ (π (μ ⟨Bb,0,ν⟩)))
   (first|assumption|exact F0|exact F1|exact nW F1|exact nW F0|exact tW F1 jV jV)
   (first
    |(go_at_call 177;refine(hg _ (by first|exact jk w|exact ba)).mono ?_;rintro e w1 ⟨a,cap,rfl,ho,b1,F1⟩;first|(have mM:=wF.below b1;have y0:=mM.cell 0;have y1:=mM.cell 1;have y2:=mM.cell 2;have z0:=mM.frozen 0;have z1:=mM.frozen 1;have z2:=mM.frozen 2)|skip))
  all_goals
   go_wp2_with(fail)
   go_meet
   first
    |exact⟨_,a,cap,rfl,aq w1 _ _ (0,0) 1,aq w1 _ _ (0,0) 2,ho.below (iB _ _),iA (iA (jk w) b1) (iB _ _)⟩
    |(have h5:=Gb (a:=.int .i64 ow) (b:=.int .i64 sq) (c:=.slice a es.length cap) mM rfl (Nat.le_refl _) (iA ba b1)
      exact⟨_,a,cap,rfl,h5.1,h5.2.1,jm.not_zero ho mM R8.out h5.2.2.2,h5.2.2.1⟩)
 case rest=>
  obtain⟨Z,a,cap,rfl,d1,d2,ho,qC⟩:=hcut;have bd:=iA qC (jk wc);have F0:wc.drew.cell? ⟨Z,1,ν⟩=μ (ι κ sq)/\wc.drew.cell? ⟨Z,2,ν⟩=μ (σ a es.length cap):=⟨d1,d2⟩
  have zl:Z<wc.drew.heap.size:=af wc.drew _ F0.1;have Vo:fj fk 179 #[π (μ ⟨RR,0,ν⟩)] wc.drew λe w'=>∃a3 IU,e=ρ (σ a3 ed.length IU)/\jm w' a3 ed.length ed/\jm w' a es.length es/\eN w w'/\(w'.cell? ⟨Z,1,ν⟩=μ (ι κ sq)/\w'.cell? ⟨Z,2,ν⟩=μ (σ a es.length cap)):=by
   refine(he _ bd).mono ?_;rintro e w3 ⟨a3,IU,rfl,xS,b3⟩;exact⟨a3,IU,rfl,xS,(ho.below (jk wc)).below b3,iA bd b3,(ai (a:=⟨Z,1,ν⟩) (b3.block Z zl)).trans F0.1,(ai (a:=⟨Z,2,ν⟩) (b3.block Z zl)).trans F0.2⟩
  obtain⟨bb,RZ⟩:=gH (decide (es=ed));have heq:∀(W:eB) (a3:Option Addr) (IU:Nat),jm W a3 ed.length ed->jm W a es.length es->fj fk 178 #[σ a es.length cap,σ a3 ed.length IU] W λe w'=>e=ρ (.bool bb)/\∃k,w'=W.drewN k:=by
   intro W a3 IU h1 h2;rw[<-RZ];exact yW a a3 cap IU _ _ es ed W h2 h1 eE eE
  clear he hg d1 d2
  go_wp2
  go_region_held3(λx=>x.cell? ⟨Z,1,ν⟩=μ (ι κ sq)/\x.cell? ⟨Z,2,ν⟩=μ (σ a es.length cap))
   (first|assumption|exact F0|exact F1|exact F2)
   (first
    |(go_at_call 179;refine Vo.mono ?_;rintro e w3 ⟨a3,IU,rfl,xS,UU,b3,F1⟩)
    |(go_at_call 178;refine(heq _ _ _ xS UU).mono ?_;rintro e w4 ⟨rfl,kk,rfl⟩;have F2:(w3.drewN kk).cell? ⟨Z,1,none⟩=some (.int .i64 sq)/\(w3.drewN kk).cell? ⟨Z,2,none⟩=some (.slice a es.length cap):=F1))
  all_goals
   have b4:=below_drewN b3 kk;cases bb
   ·have hE:es≠ed:=by simpa using RZ
    have hb5:=Xd.out hE _ b4;have f1:=F2.1;have fl:Z<(w3.drewN kk).heap.size:=af (w3.drewN kk) _ f1;clear Xd ko heq Vo F0 F1 F2 xS UU;go_wp2_with(fail);refine hb5.mono ?_;rintro e w5 ⟨rfl,hW⟩;clear hb5
    go_wp2
    first|go_end0|refine aj (ar rfl _ _ _) rfl ?_
    exact⟨rfl,hW⟩
   ·have hE:es=ed:=by simpa using RZ
    have hW:=ko.out hE _ b4;clear Xd ko heq Vo F0 F1 F2 xS UU
    go_wp2
    first|go_end0|refine aj (ar rfl _ _ _) rfl ?_
    exact⟨rfl,hW⟩
theorem iU.pF {a b c:eB} {z z':Zt} (h:iU a b z r n)(_hR:lW b z' r)(hl:z.like z')(hm:∀k,z'.mine n k->z.mine n k \/a.heap.size<=k)(mr:∀k,z.fm.no k->z'.fm.no k)(k:iU b c z' r' n):iU a c z r' n:=by
 have hK:=h.kept;obtain⟨⟨z2,Hs,FC,yH,RX⟩,DL⟩:=k;refine⟨⟨z2,Hs,Zt.Cq hl FC,λx hx=> ?_,λx hx=>RX x (mr x hx)⟩,⟨DL.os.trans hK.os,DL.tape.trans hK.tape,DL.output.trans hK.output,Nat.le_trans hK.size DL.size,λx hx h1 h2 h3=>(DL.block x (Nat.lt_of_lt_of_le hx hK.size) (λe=> ?_) (by rw[hl.bm];exact h2) (by rw[hl.bs];exact h3)).trans (hK.block x hx h1 h2 h3)⟩⟩
 ·rcases yH x hx with e|e
  ·exact hm x e
  ·exact .inr (Nat.le_trans hK.size e)
 ·rcases hm x e with e1|e1
  ·exact h1 e1
  ·omega
section
variable {w w':World} {z:Zt} {r:iY} {n:Nat}
theorem iU.c0(h:iU w w' z r n):w'.cell? ⟨z.R,0,ν⟩=μ (ι κ r.id):=by
 obtain⟨⟨z',hR,hl,_⟩,_⟩:=h;have:=hR.c0
 rwa [hl.R]at this
theorem iU.c1(h:iU w w' z r n):w'.cell? ⟨z.R,1,ν⟩=μ (σ (μ ⟨z.g,0,ν⟩) r.n z.cap):=by
 obtain⟨⟨z',hR,hl,_⟩,_⟩:=h;have:=hR.c1
 rwa [hl.R,hl.g,hl.cap]at this
theorem iU.c2(h:iU w w' z r n):w'.cell? ⟨z.R,2,ν⟩=μ (π (μ ⟨z.Bb,0,ν⟩)):=by
 obtain⟨⟨z',hR,hl,_⟩,_⟩:=h;have:=hR.c2
 rwa [hl.R,hl.Bb]at this
theorem iU.lt(h:iU w w' z r n):z.R<w'.heap.size:=af _ _ h.c0
theorem iU.pt(h:iU w w' z r n) {i:Nat} (hi:i<r.n):∃v,pR w' z.g (i*71) (z.B i) v (r.P i):=by
 obtain⟨⟨z',hR,hl,_⟩,_⟩:=h;have:=hR.pt i hi;rw[hl.g,hl.B]at this;exact⟨_,this⟩
theorem iU.G6(h:iU w w' z r n):z.g<w'.heap.size:=by
 obtain⟨⟨z',hR,hl,_⟩,_⟩:=h;have:=hR.G6
 rwa [hl.g]at this
theorem iU.keep {r0:iY} (h:iU w w' z r n)(hR:lW w z r0)(hm:¬z.mine n k) {fr:Nat×Nat} (hc:w.heap[k]? =μ (Obj.cells C t fr)):w'.heap[k]? =w.heap[k]? :=
 h.kept.block k (aw.1 hc).1 hm (wD hc (hR.bs.maps _ (.inl rfl))) (λe=>wD hc (hR.bs.maps _ (.inr e)) rfl)
theorem iU.cell {r0:iY} (h:iU w w' z r n)(hR:lW w z r0) {p:Addr} {v:eD} (hm:¬z.mine n p.block)(hc:w.cell? p=μ v):w'.cell? p=μ v:=by
 rw[ai (w:=w) (h.kept.block p.block (af w _ hc) hm (pD hc (hR.bs.maps _ (.inl rfl))) (λe=>pD hc (hR.bs.maps _ (.inr e)) rfl))];exact hc
theorem lW.sY {z:Zt} (h:lW w z r)(hk:w.heap.size<=k):¬z.mine r.n k:=λe=>by have:=h.zf k e;omega
end
structure nX(w w':eB)(z:Zt)(r:iY)(n N:Nat)(C:Array eD)(t:TypeId):Prop where
 went:iU w w' z r n
 nN:jr w' N C t
 nn:r.n=n
 lt:N<w.heap.size
 no:¬z.mine n N
theorem nX.with {w a b:eB} {z z':Zt} {r r':iY} {n N:Nat} {C:Array eD} {t:TypeId} (h:nX w a z r n N C t)(hn:r'.n=n)(hR:lW a z' r)(hl:z.like z')(hm:∀k,z'.mine n k->z.mine n k \/w.heap.size<=k)(mr:∀k,z.fm.no k->z'.fm.no k)(k:iU a b z' r' n):nX w b z r' n N C t:=by
 refine⟨h.went.pF hR hl hm mr k,?_,hn,h.lt,h.no⟩;refine h.nN.keep (k.keep hR (λe=> ?_) h.nN);rcases hm N e with e1|e1
 ·exact h.no e1
 ·have:=h.lt;omega
theorem iU.call {z:Zt} (h:iU w W z r n)(k:∀z1,lW W z1 r->z.like z1->fj fk f args W λe w'=>E e/\iU W w' z1 r' n):fj fk f args W λe w'=>E e/\iU w w' z r' n:=by
 obtain⟨z1,hR,hl,hm,mr⟩:=h.ex;refine(k z1 hR hl).mono ?_;rintro e w' ⟨he,hw⟩;exact⟨he,h.pF hR hl hm mr hw⟩
theorem nX.call {z:Zt} (h:nX w W z r n N C t)(hn:r'.n=n)(k:∀z1,lW W z1 r->z.like z1->fj fk f args W λe w'=>E e/\iU W w' z1 r' n):fj fk f args W λe w'=>E e/\nX w w' z r' n N C t:=by
 obtain⟨z1,hR,hl,hm,mr⟩:=h.went.ex;refine(k z1 hR hl).mono ?_;rintro e w' ⟨he,hw⟩;exact⟨he,h.with hn hR hl hm mr hw⟩
theorem Sb(z:Zt)(r:iY)(i:Nat)(w:eB)(h:lW w z r)(hi:i<r.n):
 fj fk 124 #[π (μ ⟨z.Bb,0,ν⟩),ι κ (i:Int)] w λe w'=>e=ρ (τ #[])/\iU w w' z {r with O:=λx=>if x=i then λ_=>ν else r.O x} r.n:=by
 refine(Oj z.Bb z.fm 6 r.K r.O i w h.bs (by rw[h.bl];exact hi)).mono ?_;rintro e w1 ⟨rfl,hB,hk⟩;exact⟨rfl,h.base hB hk⟩
theorem Oy(z:Zt)(r:iY)(i:Nat)(w:eB)(h:lW w z r)(hi:i<r.n):
 fj fk 126 #[π (μ ⟨z.Bb,0,ν⟩),ι κ (i:Int)] w λe w'=>e=ρ η/\iU w w' z {r with O:=λx=>if x=i then pP (r.O i) r.K else r.O x} r.n:=by
 refine(Ok z.Bb z.fm 6 r.K r.O i w h.bs (by rw[h.bl];exact hi) eE).mono ?_;rintro e w1 ⟨rfl,hB,hk⟩;exact⟨rfl,h.base hB hk⟩
def jI {α:Type} (f:Nat->α)(i:Nat)(x:α):Nat->α:=λj=>if j=i then x else f j
theorem iP(f:Nat->α)(i:Nat)(x:α):jI f i x i=x:=by simp[jI]
theorem iL(f:Nat->α)(x:α)(h:j≠i):jI f i x j=f j:=by simp[jI,h]
theorem uS(f:Nat->α)(i:Nat):jI f i (f i)=f:=by
 funext j
 by_cases e:j=i
 ·subst e;exact iP _ _ _
 ·exact iL _ _ e
structure pX where
 e:Nat->Nat×Nat
 jG:Bool
 on:Nat->List UInt8
structure jc where
 n:Nat
 R:Nat->iY
 jA:Nat->List tV
 ms:Nat->Nat->Int
 nc:Nat
 C:Nat->pX
def jc.jQ(y:jc)(i:Nat)(r:iY):jc:={y with R:=jI y.R i r}
def jc.ll(y:jc)(i:Nat)(c:pX):jc:={y with C:=jI y.C i c}
def pX.put(c:pX)(d:Nat)(s:List UInt8):pX:=if c.jG=true/\(c.on d).length+s.length<=2000 then {c with on:=jI c.on d (c.on d++s)}else c
def jc.lA(y:jc)(i d:Nat):jc:=
 (y.jQ ((y.C i).e d).1 ((y.R ((y.C i).e d).1).out ((y.C i).e d).2)).ll i ((y.C i).put d ((y.R ((y.C i).e d).1).P ((y.C i).e d).2).out)
def jc.kr(y:jc):Nat->jc
 |0=>y
 |k+1=>((y.kr k).lA k 0).lA k 1
def jc.wG(y:jc)(k:Nat):jc:={y with jA:=jI y.jA k (y.jA k++(y.R k).jA),R:=jI y.R k {y.R k with jA:=[] }}
def jc.mX(y:jc):Nat->jc
 |0=>y
 |k+1=>(y.mX k).wG k
def jc.gather(y:jc):jc:=(y.kr y.nc).mX y.n
def jc.mL(y:jc)(i d:Nat)(up:Bool):jc:=y.jQ ((y.C i).e d).1 ((y.R ((y.C i).e d).1).iW ((y.C i).e d).2 up).1
def jc.j5(y:jc)(i:Nat)(up:Bool):jc:=((y.ll i {y.C i with jG:=up,on:=λ_=>[] }).mL i 0 up).mL i 1 up
def jc.iW(y:jc)(i:Int)(up:Bool):jc×Nat:=
 if i<0 \/(y.nc:Int)<=i then(y,6)else if(y.C i.toNat).jG=up then(y,7)else((y.j5 i.toNat up).gather,0)
def jc.tick(y:jc)(i:Int):jc×Nat:=
 if i<1 \/(y.n:Int)<i then(y,6)else((y.jQ (i-1).toNat (y.R (i-1).toNat).tick).gather,0)
def jc.j0(y:jc)(i d k:Nat):jc:=
 (y.ll i {y.C i with on:=jI (y.C i).on d (((y.C i).on d).drop k)}).jQ ((y.C i).e (1-d)).1 ((y.R ((y.C i).e (1-d)).1).recv ((y.C i).e (1-d)).2 (((y.C i).on d).take k))
def jc.deliver(y:jc)(i d many:Int):jc×Nat:=
 if i<0 \/(y.nc:Int)<=i \/d<0 \/2<=d then(y,6)else((y.j0 i.toNat d.toNat (min many.toNat ((y.C i.toNat).on d.toNat).length)).gather,0)
def jc.kT(y:jc)(k:Nat):List Nat:=(List.range y.nc).filter λc=>(y.C c).jG&& (((y.C c).e 0).1==k||((y.C c).e 1).1==k)
def jc.jS(y:jc)(up:Bool):List Nat->jc
 |[] =>y
 |c::l=>(y.j5 c up).jS up l
def jc.restart(y:jc)(i:Int):jc×Nat:=
 if i<1 \/(y.n:Int)<i then(y,6)else
  ((((y.jS false (y.kT (i-1).toNat)).jQ (i-1).toNat (jX i 3 (y.ms (i-1).toNat))).jS true (y.kT (i-1).toNat)).gather,0)
def jc.send(y:jc)(f t:Int)(tx:List UInt8):jc×Nat:=
 if f<1 \/(y.n:Int)<f then(y,6)
 else if(kg (y.R (f-1).toNat) t tx).2≠0 then(y,(kg (y.R (f-1).toNat) t tx).2)
 else((y.jQ (f-1).toNat (kg (y.R (f-1).toNat) t tx).1).gather,0)
def jc.inbox(y:jc)(k:Nat):jc:=({y with jA:=jI y.jA k [] }:jc).gather
def jc.jB(y:jc):Nat->jc
 |0=>y
 |k+1=>((y.jB k).tick ((k:Int)+1)).1
def jc.kF(y:jc):Nat->jc
 |0=>y
 |k+1=>(((y.kF k).deliver (k:Int) 0 2000).1.deliver (k:Int) 1 2000).1
def jc.turns(y:jc):Nat->jc
 |0=>y
 |k+1=>(y.turns k).kF y.nc
def jc.round(y:jc):jc:=(y.jB y.n).turns 12
structure oI where
 a:Int
 pa:Int
 b:Int
 pb:Int
 m:Int
def kX:List (Int×Int×Int)->Int->Int->Option Int
 |[],_,_=>none
 |x::l,r,p=>if x.1=r/\x.2.1=p then some x.2.2 else kX l r p
def kB(l:List oI):List (Int×Int×Int):=l.flatMap λc=>[(c.a,c.pa,c.m),(c.b,c.pb,c.m)]
def pM(l:List oI)(i p:Nat):Int:=(kX (kB l) ((i:Int)+1) (p:Int)).getD 1
def ot(many r p:Int):Bool:=decide (1<=r)&&decide (r<=many)&&decide (0<=p)&&decide (p<3)
def xf(many:Int):List oI->List (Int×Int×Int)->Nat
 |[],_=>0
 |c::l,E=>
  if c.m<1 \/20<c.m then 1
  else if ot many c.a c.pa=false then 1
  else if(kX E c.a c.pa).isSome=true then 8
  else if ot many c.b c.pb=false then 1
  else if(kX (E++ [(c.a,c.pa,c.m)]) c.b c.pb).isSome=true then 8
  else xf many l (E++ [(c.a,c.pa,c.m),(c.b,c.pb,c.m)])
def nk(many:Int)(l:List oI):Nat:=if many<1 \/6<many then 1 else if 9<l.length then 2 else xf many l []
def oI.at(c:oI)(d:Nat):Nat×Nat:=if d=0 then((c.a-1).toNat,c.pa.toNat)else((c.b-1).toNat,c.pb.toNat)
def rY(l:List oI)(k:Nat):pX:=⟨(l.getD k ⟨1,0,1,0,1⟩).at,false,λ_=>[]⟩
def jE(many:Nat)(l:List oI):jc:=⟨many,λi=>jX ((i:Int)+1) 3 (pM l i),λ_=>[],pM l,l.length,rY l⟩
def Zt.plus(z:Zt)(X:Nat->Prop):Zt:={z with fm:={z.fm with no:=λk=>z.fm.no k \/X k}}
theorem lW.besides {z:Zt} (h:lW w z r)(hs:w.heap.size<=w'.heap.size)(hk:∀k,k<w.heap.size->(¬z.fm.no k \/z.mine r.n k)->w'.heap[k]? =w.heap[k]?)
 (X:Nat->Prop) (hX:∀k,X k->w.heap.size<=k/\k<w'.heap.size):lW w' (z.plus X) r:=by
 have hm:∀k,z.mine r.n k->w'.heap[k]? =w.heap[k]? :=λk e=>hk k (h.zf k e) (.inr e);have Cb:=h.bs.still hs (λj hj hn=>hk j hj (.inl hn)) h.nb.1 h.nb.2.1 h.nb.2.2 (λk=>z.fm.no k \/X k) (λj hj=>hj.imp_right (λe=>(hX j e).1)) (λj hj=>hj.elim (λe=>Nat.lt_of_lt_of_le (h.bs.Oh j e) hs) (λe=>(hX j e).2));have YP:z.Bb<w.heap.size:=by obtain⟨_,_,hF,_⟩:=h.bs.ex;exact hF.lt
 have YQ:z.fm.g<w.heap.size:=by obtain⟨_,_,hF,_⟩:=h.bs.ex;exact hF.row.lt _ rfl
 refine⟨h.n1,h.n3,h.KW,h.id,h.nN.keep (hm _ (.inl rfl)),λi hi=> ?_,h.ib.keep hs (λk e=>hm k (.inr (.inr (.inr e)))),Cb,h.bl,λk e=>.inl (h.no k e),⟨λe=> ?_,λe=> ?_,λb hb e=> ?_⟩,h.sR,h.sB,h.sV,h.sI,h.Ot⟩
 ·have hp:=h.pt i hi;obtain⟨F,hC,hF⟩:=hp.vN;exact⟨⟨F,hC.keep (hm _ (.inr (.inl rfl))),hF⟩,hp.lk.keep (hm _ (.inr (.inr (.inl ⟨i,hi,.inl rfl⟩)))),hp.ou.keep hs (λx hx=>hm x (.inr (.inr (.inl ⟨i,hi,.inr hx⟩)))),hp.few,hp.ok,hp.gB,hp.vg,hp.vB,hp.nz⟩
 ·rcases e with e|e
  ·exact h.nb.1 e
  ·have h8:w.heap.size<=z.Bb:=(hX _ e).1;omega
 ·rcases e with e|e
  ·exact h.nb.2.1 e
  ·have h8:w.heap.size<=z.fm.g:=(hX _ e).1;omega
 ·rcases e with e|e
  ·exact h.nb.2.2 b hb e
  ·have h9:=h.bs.mlt b hb;have h8:=(hX _ e).1;omega
inductive Lab where
 |N
 |R
 |I
 |C
 |ib (i:Nat)
 |on (c d:Nat)
structure Yt where
 N:Nat
 gR:Nat
 sA:Nat
 gI:Nat
 xh:Nat
 gC:Option Nat
 uT:Nat
 bM:Nat
 z:Nat->Zt
 iv:Nat->eD
 ov:Nat->Nat->eD
 ext:Nat->Prop
def Yt.at(y:Yt):Lab->Option Nat
 | .N=>some y.N
 | .R=>some y.gR
 | .I=>some y.gI
 | .C=>y.gC
 | .ib i=>(y.iv i).ownBlock
 | .on c d=>(y.ov c d).ownBlock
def Yt.own(y:Yt)(k:Nat):Prop:=∃l,y.at l=μ k
def Zt.oj(z:Zt)(k:Nat):Prop:=z.mine 3 k \/k=z.fm.bm \/k∈z.fm.bs
def Yt.away(y:Yt)(n i k:Nat):Prop:=y.own k \/y.ext k \/ ∃j,j<n/\j≠i/\(y.z j).oj k
def Yt.all(y:Yt)(n k:Nat):Prop:=y.own k \/ ∃j,j<n/\(y.z j).oj k
def Yt.cv(y:Yt)(nc:Nat):eD:=match y.gC with|none=>.slice none 0 0|some g=>.slice (some ⟨g,0,none⟩) nc y.uT
def AO(c:pX)(o:Nat->eD):Nat->eD:=λj=>
 if j=0 then ι κ (((c.e 0).1:Int)+1)else if j=1 then ι κ ((c.e 0).2:Int)else if j=2 then ι κ (((c.e 1).1:Int)+1)else if j=3 then ι κ ((c.e 1).2:Int)
 else if j=4 then .bool c.jG else if j=5 then o 0 else o 1
def uU(r p:Int):eD:=.agg #[ι κ r,ι κ p]
def nY(w:eB)(b:Nat)(E:List (Int×Int×Int)):Prop:=∃es clock,w.heap[b]? =μ (.map es clock)/\es.toList.map (λe=>(e.key,e.val))=E.map λx=>(uU x.1 x.2.1,.int .i64 x.2.2)
def Bi(E:List (Int×Int×Int)):Prop:=∀x∈E,(1<=x.1/\x.1<=6/\0<=x.2.1/\x.2.1<=2)/\kX E x.1 x.2.1=μ x.2.2
def Sc(E:List (Int×Int×Int))(n:Nat)(ms:Nat->Nat->Int):Prop:=(∀(i p:Nat),i<n->p<3->(kX E ((i:Int)+1) (p:Int)).getD 1=ms i p/\1<=ms i p/\ms i p<=20)/\Bi E
structure jJ(w:eB)(y:Yt)(n:jc):Prop where
 n1:1<=n.n
 n6:n.n<=6
 c9:n.nc<=9
 nN:jr w y.N #[σ (μ ⟨y.gR,0,ν⟩) n.n y.sA,σ (μ ⟨y.gI,0,ν⟩) n.n y.xh,.map (μ y.bM),y.cv n.nc] 190
 rr:pL w y.gR 0 n.n (λi=>π (μ ⟨(y.z i).R,0,ν⟩))
 ri:pL w y.gI 0 n.n y.iv
 rc:∀g,y.gC=μ g->∀c,c<n.nc->pL w g (c*7) 7 (AO (n.C c) (y.ov c))
 gc:∀c,c<n.nc->∃g,y.gC=μ g
 mp:∃E,nY w y.bM E/\Sc E n.n n.ms
 rt:∀i,i<n.n->lW w (y.z i) (n.R i)
 rn:∀i,i<n.n->(n.R i).n=3/\(n.R i).id=(i:Int)+1
 ib:∀i,i<n.n->Row w 3 (y.iv i) (n.jA i).length (nh (n.jA i))
 ob:∀c d,c<n.nc->d<2->Row w 1 (y.ov c d) ((n.C c).on d).length (iZ ((n.C c).on d))
 ol:∀c d,c<n.nc->d<2->((n.C c).on d).length<=2000
 en:∀c d,c<n.nc->d<2->((n.C c).e d).1<n.n/\((n.C c).e d).2<3
 inj:∀l l' k,y.at l=μ k->y.at l'=μ k->l=l'
 away:∀i,i<n.n->∀k,y.away n.n i k->(y.z i).fm.no k/\¬(y.z i).mine 3 k
 nx:∀k,y.ext k->¬y.own k
 nM:¬y.own y.bM/\¬y.ext y.bM/\∀i,i<n.n->¬(y.z i).oj y.bM
 z0:¬y.own 0
structure Yt.same(y y':Yt):Prop where
 N:y'.N=y.N
 gR:y'.gR=y.gR
 sA:y'.sA=y.sA
 gI:y'.gI=y.gI
 xh:y'.xh=y.xh
 gC:y'.gC=y.gC
 uT:y'.uT=y.uT
 bM:y'.bM=y.bM
theorem Yt.EF(y:Yt):y.same y:=⟨rfl,rfl,rfl,rfl,rfl,rfl,rfl,rfl⟩
theorem Yt.xj {a b c:Yt} (h:a.same b)(k:b.same c):a.same c:=⟨k.N.trans h.N,k.gR.trans h.gR,k.sA.trans h.sA,k.gI.trans h.gI,k.xh.trans h.xh,k.gC.trans h.gC,k.uT.trans h.uT,k.bM.trans h.bM⟩
structure uj(w w':eB)(y:Yt)(n:Nat):Prop where
 os:w'.os=w.os
 tape:w'.tape=w.tape
 output:w'.output=w.output
 size:w.heap.size<=w'.heap.size
 block:∀k,k<w.heap.size->¬y.all n k->w'.heap[k]? =w.heap[k]?
structure iV(w w':eB)(y:Yt)(n:jc)(m:Nat):Prop where
 ex:∃y',jJ w' y' n/\y.same y'/\(∀k,y'.all m k->y.all m k \/w.heap.size<=k)/\(∀k,y'.ext k↔y.ext k)
 kept:uj w w' y m
theorem jJ.lt {y:Yt} {n:jc} (h:jJ w y n)(hk:y.own k \/y.ext k):k<w.heap.size:=by
 have h1:=(h.away 0 h.n1 k (hk.imp_right .inl)).1;exact(h.rt 0 h.n1).bs.Oh k h1
theorem jJ.EG {y:Yt} {n:jc} (h:jJ w y n):y.bM<w.heap.size:=by
 obtain⟨E,⟨es,clock,h1,_⟩,_⟩:=h.mp;exact(aw.1 h1).1
theorem jJ.xk {y:Yt} {n:jc} (h:jJ w y n)(hi:i<n.n)(hk:(y.z i).oj k):k<w.heap.size:=by
 rcases hk with e|e|e
 ·have h1:=(h.rt i hi).zf k;rw[(h.rn i hi).1]at h1;exact h1 e
 ·exact(h.rt i hi).bs.mlt k (.inl e)
 ·exact(h.rt i hi).bs.mlt k (.inr e)
theorem jJ.IV {y:Yt} {n:jc} (h:jJ w y n)(hi:i<n.n)(hk:y.away n.n i k):¬(y.z i).oj k:=by
 obtain⟨h1,h2⟩:=h.away i hi k hk;intro e;rcases e with e|e|e
 ·exact h2 e
 ·exact(h.rt i hi).nb.2.2 k (.inl e) h1
 ·exact(h.rt i hi).nb.2.2 k (.inr e) h1
theorem jJ.Gc {y:Yt} {n:jc} (h:jJ w y n)(hi:i<n.n)(hk:y.own k):¬(y.z i).oj k:=h.IV hi (.inl hk)
theorem nY.keep {b:Nat} {E:List (Int×Int×Int)} (h:nY w b E)(hb:w'.heap[b]? =w.heap[b]?):nY w' b E:=by
 obtain⟨es,clock,h1,h2⟩:=h;exact⟨es,clock,hb.trans h1,h2⟩
theorem uj.refl(w:eB)(y:Yt)(n:Nat):uj w w y n:=⟨rfl,rfl,rfl,Nat.le_refl _,λ_ _ _=>rfl⟩
theorem iV.refl {w:eB} {y:Yt} {n:jc} (h:jJ w y n):iV w w y n n.n:=⟨⟨y,h,y.EF,λ_ e=>.inl e,λ_=>eu⟩,uj.refl w y n.n⟩
theorem iV.pF {a b c:eB} {y y':Yt} {n':jc} (h:uj a b y m)(hN:y.same y')(hm:∀k,y'.all m k->y.all m k \/a.heap.size<=k)(he:∀k,y'.ext k↔y.ext k)(k:iV b c y' n' m):iV a c y n' m:=by
 obtain⟨⟨y2,hR,hN2,yH,he2⟩,hK⟩:=k;refine⟨⟨y2,hR,Yt.xj hN hN2,λx hx=> ?_,λx=>(he2 x).trans (he x)⟩,⟨hK.os.trans h.os,hK.tape.trans h.tape,hK.output.trans h.output,Nat.le_trans h.size hK.size,λx hx h1=>(hK.block x (Nat.lt_of_lt_of_le hx h.size) (λe=> ?_)).trans (h.block x hx h1)⟩⟩
 ·rcases yH x hx with e|e
  ·exact hm x e
  ·exact .inr (Nat.le_trans h.size e)
 ·rcases hm x e with e1|e1
  ·exact h1 e1
  ·omega
theorem iV.step {a b c:eB} {y:Yt} {n n':jc} (h:iV a b y n m)(k:∀y',jJ b y' n->y.same y'->iV b c y' n' m):iV a c y n' m:=by
 obtain⟨⟨y',hR,hN,hm,he⟩,hK⟩:=h;exact iV.pF hK hN hm he (k y' hR hN)
theorem iV.call {y:Yt} {n n':jc} (h:iV w W y n m)(k:∀y1,jJ W y1 n->y.same y1->fj fk f args W λe w'=>E e/\iV W w' y1 n' m):fj fk f args W λe w'=>E e/\iV w w' y n' m:=by
 obtain⟨y1,hR,hN,hm,he⟩:=h.ex;refine(k y1 hR hN).mono ?_;rintro e w' ⟨Ep,hw⟩;exact⟨Ep,iV.pF h.kept hN hm he hw⟩
theorem jJ.CB {y:Yt} {n:jc} (h:jJ w y n)(hi:i<n.n)(hW:iU w w' (y.z i) r 3)(hr:r.n=3/\r.id=(i:Int)+1):iV w w' y (n.jQ i r) n.n:=by
 obtain⟨⟨z',hR,hl,hm,mr⟩,hK⟩:=hW;have MS:∀k,z'.oj k->(y.z i).oj k \/w.heap.size<=k:=by
  intro k hk;rcases hk with e|e|e
  ·exact(hm k e).imp_left .inl
  ·rw[hl.bm]at e;exact .inl (.inr (.inl e))
  ·rw[hl.bs]at e;exact .inl (.inr (.inr e))
 have nR:∀k,k<w.heap.size->¬(y.z i).oj k->w'.heap[k]? =w.heap[k]? :=λk hk hf=>hK.block k hk (λe=>hf (.inl e)) (λe=>hf (.inr (.inl e))) (λe=>hf (.inr (.inr e)));have jC:∀k,y.own k->w'.heap[k]? =w.heap[k]? :=λk e=>nR k (h.lt (.inl e)) (h.Gc hi e);obtain⟨X,JU⟩:∃X:Nat->Prop,X=λk=>w.heap.size<=k/\k<w'.heap.size/\z'.mine 3 k:=⟨_,rfl⟩
 have hX:∀k,X k->w.heap.size<=k/\k<w'.heap.size:=λk e=>by rw[JU]at e;exact⟨e.1,e.2.1⟩
 have ab0:∀k,z'.mine 3 k->k<w'.heap.size:=λk e=>by
  have:=hR.zf k;rw[hr.1]at this;exact this e
 obtain⟨Z,hZ⟩:∃Z:Nat->Zt,Z=λj=>if j=i then z' else(y.z j).plus X:=⟨_,rfl⟩
 have hZi:Z i=z':=by rw[hZ];simp
 have Vp:∀j,j≠i->Z j=(y.z j).plus X:=λj hj=>by rw[hZ];simp[hj]
 have hZR:∀j,(Z j).R=(y.z j).R:=λj=>by
  by_cases e:j=i
  ·subst e;rw[hZi];exact hl.R
  ·rw[Vp j e];rfl
 have K5:∀j k,(Z j).oj k->(y.z j).oj k \/(j=i/\w.heap.size<=k/\z'.mine 3 k):=by
  intro j k hk;by_cases e:j=i
  ·subst e;rw[hZi]at hk;rcases hk with e1|e1|e1
   ·rcases hm k e1 with e2|e2
    ·exact .inl (.inl e2)
    ·exact .inr ⟨rfl,e2,e1⟩
   ·rw[hl.bm]at e1;exact .inl (.inr (.inl e1))
   ·rw[hl.bs]at e1;exact .inl (.inr (.inr e1))
  ·rw[Vp j e]at hk;exact .inl hk
 refine⟨⟨{y with z:=Z},⟨h.n1,h.n6,h.c9,h.nN.keep (jC _ ⟨.N,rfl⟩),?_,h.ri.keep (jC _ ⟨.I,rfl⟩),λg hg c hc=>(h.rc g hg c hc).keep (jC _ ⟨.C,hg⟩),h.gc,?_,?_,?_,λj hj=>(h.ib j hj).keep hK.size (λk hk=>jC k ⟨.ib j,hk⟩),λc d hc hd=>(h.ob c d hc hd).keep hK.size (λk hk=>jC k ⟨.on c d,hk⟩),h.ol,h.en,h.inj,?_,h.nx,⟨h.nM.1,h.nM.2.1,?_⟩,h.z0⟩,⟨rfl,rfl,rfl,rfl,rfl,rfl,rfl,rfl⟩,?_,λ_=>eu⟩,⟨hK.os,hK.tape,hK.output,hK.size,λk hk hn=>nR k hk (λe=>hn (.inr ⟨i,hi,e⟩))⟩⟩
 ·refine(h.rr.keep (jC _ ⟨.R,rfl⟩)).congr λj _=> ?_;show Value.pointer (μ ⟨(y.z j).R,0,ν⟩)=π (μ ⟨(Z j).R,0,ν⟩);rw[hZR j]
 ·obtain⟨E,h1,h2⟩:=h.mp;exact⟨E,h1.keep (nR _ h.EG (h.nM.2.2 i hi)),h2⟩
 ·intro j hj;show lW w' (Z j) (jI n.R i r j);by_cases e:j=i
  ·subst e;rw[hZi,iP];exact hR
  ·rw[Vp j e,iL _ _ e];refine(h.rt j hj).besides hK.size (λk hk hc=>nR k hk (λef=> ?_)) X hX;have ha:=h.away j hj k (.inr (.inr ⟨i,hi,λe'=>e e'.symm,ef⟩));rcases hc with hc|hc
   ·exact hc ha.1
   ·rw[(h.rn j hj).1]at hc;exact ha.2 hc
 ·intro j hj;show(jI n.R i r j).n=3/\(jI n.R i r j).id=(j:Int)+1;by_cases e:j=i
  ·subst e;rw[iP];exact hr
  ·rw[iL _ _ e];exact h.rn j hj
 ·intro j hj k hk;show(Z j).fm.no k/\¬(Z j).mine 3 k;have hold:(y.own k \/y.ext k \/ ∃x,x<n.n/\x≠j/\(y.z x).oj k) \/(j≠i/\w.heap.size<=k/\z'.mine 3 k):=by
   rcases hk with e|e|⟨x,hx,jV,e⟩
   ·exact .inl (.inl e)
   ·exact .inl (.inr (.inl e))
   ·rcases K5 x k e with e1|⟨e1,e2,e3⟩
    ·exact .inl (.inr (.inr ⟨x,hx,jV,e1⟩))
    ·exact .inr ⟨λe'=>jV (e1.trans e'.symm),e2,e3⟩
  by_cases e:j=i
  ·subst e;rw[hZi];rcases hold with ho|ho
   ·have ha:=h.away j hj k ho;refine⟨mr k ha.1,λe1=> ?_⟩;rcases hm k e1 with e2|e2
    ·exact ha.2 e2
    ·have:=(h.rt j hj).bs.Oh k ha.1;omega
   ·exact absurd rfl ho.1
  ·rw[Vp j e];rcases hold with ho|ho
   ·have ha:=h.away j hj k ho;exact⟨.inl ha.1,ha.2⟩
   ·refine⟨.inr ?_,λe1=> ?_⟩
    ·rw[JU];exact⟨ho.2.1,ab0 k ho.2.2,ho.2.2⟩
    ·have h1:k<w.heap.size:=h.xk hj (.inl e1);omega
 ·intro j hj e;rcases K5 j _ e with e1|⟨_,e2,_⟩
  ·exact h.nM.2.2 j hj e1
  ·have:=h.EG;have e2':w.heap.size<=y.bM:=e2;omega
 ·intro k hk;rcases hk with e|⟨j,hj,e⟩
  ·exact .inl (.inl e)
  ·rcases K5 j k e with e1|⟨_,e2,_⟩
   ·exact .inl (.inr ⟨j,hj,e1⟩)
   ·exact .inr e2
end Rt
end Go.Proofs.YtieklnlbljejdaaGreatDoor
