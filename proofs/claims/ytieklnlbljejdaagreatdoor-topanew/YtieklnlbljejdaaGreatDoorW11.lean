import Derived.Test.YtieklnlbljejdaaGreatDoorW10
open Go.Value renaming int → ι, slice → σ, pointer → π, tuple → τ, nilIface → η
open Go.IntKind renaming i64 → κ
open Go.Ending renaming returned → ρ
open Go.Obj renaming cells → γ
open Option renaming none → ν, some → μ
open Go renaming World → dY, Value → dZ, Calls → eZ
open Go.Instr renaming makeSlice → ic, loadAt → fT
open Go.Proofs.Tryz renaming prog → e7
open Go.Value renaming ownBlock → eu
open Go.Act renaming put → gG
open List renaming setIfInBounds_toArray → gH, set_cons_zero → gJ, set_cons_succ → gK, range → gg, mem_filter → ig
open Prod renaming fst → ij, snd → ik
set_option maxRecDepth 100000
set_option maxHeartbeats 8000000
namespace Go.Proofs.YtieklnlbljejdaaGreatDoor
open Go.RowKit St
namespace Rt
variable {D i p:Nat} {ps:List (List UInt8)} {s:LS} {y:iP}
theorem ads(W:dY):(ic 75 (ι κ 1) (ι κ 1)).run e7 W=.ok (σ (μ ⟨W.heap.size,0,ν⟩) 1 1) (W.alloc (γ (pL 1) 53)):=gX
theorem adt(W:dY):(ic 75 (ι κ 2) (ι κ 2)).run e7 W=.ok (σ (μ ⟨W.heap.size,0,ν⟩) 2 2) (W.alloc (γ (pL 2) 53)):=gX
theorem adu(W:dY):(ic 75 (ι κ 3) (ι κ 3)).run e7 W=.ok (σ (μ ⟨W.heap.size,0,ν⟩) 3 3) (W.alloc (γ (pL 3) 53)):=gX
theorem adv(W:dY):(ic 75 (ι κ 4) (ι κ 4)).run e7 W=.ok (σ (μ ⟨W.heap.size,0,ν⟩) 4 4) (W.alloc (γ (pL 4) 53)):=gX
theorem adw(W:dY):(ic 75 (ι κ 5) (ι κ 5)).run e7 W=.ok (σ (μ ⟨W.heap.size,0,ν⟩) 5 5) (W.alloc (γ (pL 5) 53)):=gX
theorem adx(W:dY):(ic 75 (ι κ 6) (ι κ 6)).run e7 W=.ok (σ (μ ⟨W.heap.size,0,ν⟩) 6 6) (W.alloc (γ (pL 6) 53)):=gX
theorem ag4(p:Nat)(hp:1<=p/\p<=6)(W:dY):(ic 75 (ι κ (p:Int)) (ι κ (p:Int))).run e7 W=.ok (σ (μ ⟨W.heap.size,0,ν⟩) p p) (W.alloc (γ (pL p) 53)):=by
 have:p=1 \/p=2 \/p=3 \/p=4 \/p=5 \/p=6:=eh;rcases this with rfl|rfl|rfl|rfl|rfl|rfl
 ·exact ads W
 ·exact adt W
 ·exact adu W
 ·exact adv W
 ·exact adw W
 ·exact adx W
theorem Zm:(e7.info? 26).map (λi=>(i.zero,i.size,i.bytes))=μ (μ (π ν),1,8):=gX
theorem Sv:(e7.info? 197).map (λi=>(i.zero,i.size,i.bytes))=μ (μ (.agg #[ι κ 0,ι κ 0,ι κ 0,ι κ 0,.bool false,σ ν 0 0,σ ν 0 0]),7,88):=gX
theorem Zn:(e7.info? 81).map (·.size)=μ 5:=gX
theorem Zo(p:Option Addr):∀u∈ [Value.pointer p],u.oneCell'=true:=by simp[Value.oneCell']
theorem L5(w:dY)(c:oQ)(C:Array dZ)(t:TypeId)(g:Nat)(Z:w.heap.size=g)(hC:C.toList=vf [c] :=by rfl):∀(j:Nat) (u:dZ),(vf [c])[j]? =μ u->(w.alloc (γ C t)).cell? ((⟨g,0,ν⟩:Addr).add j)=μ u:=by
 subst Z;intro j u Y;rw[add_plain,aq,<-Y,<-hC];simp
def Sw(w:dY)(many:Int)(L:List oQ)(X:Nat->Prop)(e:Ending)(w':dY):Prop:=
 (nP many L≠0->e=ρ (τ #[π ν,jk (nP many L)]))/\(nP many L=0->∃y,e=ρ (τ #[π (μ ⟨y.N,0,ν⟩),η])/\jJ w' y (jS many.toNat L)/\(∀b,y.all many.toNat b->w.heap.size<=b)/\∀b,y.ext b↔X b)/\eE w w'
theorem P6(many:Int)(a:Option Addr)(cap:Nat)(L:List oQ)(w:dY)(hL:zZ w a L)(hl:L.length<=1000)(hT:jh w)(X:Nat->Prop)(hX:∀b,X b->b<w.heap.size):
 eZ e7 36 #[ι κ many,σ a L.length cap] w λe w'=>Sw w many L X e w':=by
 have hm:=yi many a cap L w hL hl;by_cases h0:nP many L=0
 ·have iQ:=vh h0;have hm6:=iQ.m;obtain⟨m,Ru⟩:∃m:Nat,many=(m:Int):=⟨many.toNat,eh⟩
  subst Ru;have Jv:((m:Int)).toNat=m:=Int.toNat_natCast m;have C2:eZ e7 95 #[ι κ (m:Int),σ a L.length cap] w λe w'=>∃b,e=ρ (τ #[.map (μ b),η])/\oI w' b (kx L)/\Dx (kx L)/\w.heap.size<=b/\eE w w':=by
   refine hm.mono ?_;rintro e w1 ⟨_,h2,hb⟩;obtain⟨b,h3,h4,h5,h6⟩:=h2 h0;exact⟨b,h3,h4,h5,h6,hb⟩
  have HL:Hid _:=hL;have Vz:Hid _:=iQ;have HT:Hid _:=hT;have H00:Hid _:=h0;obtain⟨i1,vC,alW,alX,alY⟩:=aX Zm;obtain⟨i2,Rh,alZ,al0,al1⟩:=aX Sv;obtain⟨n,hn⟩:=gq (L.length);have HN:Hid _:=hn;have hl9:=iQ.l;rw[hn]at C2 hl9⊢;have vX:1<=m:=eh;have hm6:m<=6:=eh;have hmk:=ag4 m ⟨vX,hm6⟩;clear hm hL iQ hT hl h0 hn
  go_in
  go_wp2_with(fail);refine C2.mono ?_;rintro e w1 ⟨bM,rfl,hE,hEO,hbM,kC⟩;have HE:Hid _:=hE;have HEO:Hid _:=hEO;have Ds:Hid _:=kC;clear C2 hE hEO kC;go_wp2_with(fail);have Ge:(w1.alloc (γ (pL m) 53)).heap.size=w1.heap.size+1:=gZ;obtain⟨W2,ny⟩:=gq ((w1.alloc (γ (pL m) 53)).alloc (γ #[σ ν 0 0,σ (μ ⟨w1.heap.size,0,ν⟩) m m,.map (μ bM),σ ν 0 0] 190));have Jr:eE w1 W2:=by rw[<-ny];exact(gY _ _).alloc gZ _
  have Lw:Fb w W2 (w1.heap.size+1) w1.heap.size bM m (kx L) (pz L) 0 0 L (σ ν 0 0) (σ ν 0 0) (λ_=>0) (λ_=>0) (λ_=>0):=by
   have DV:=Ds.out.size;have qe:bM<w1.heap.size:=by
    obtain⟨es,clock,h1,_⟩:=HE.out;exact(ax.1 h1).1
   refine⟨gu Ds.out Jr,?_,?_,oI.keep HE.out (Jr.block bM qe),Row.nil _ _,Row.nil _ _,⟨eh,eh,eh,eh,eh,hbM⟩,λk e=>by simp[eu]at e,λk e=>by simp[eu]at e,λi hi=>eh,λi hi=>eh,λi k _ hk=>eh,λi hi=>eh⟩
   ·have h1:iZ W2 ((w1.alloc (γ (pL m) 53)).heap.size) #[σ ν 0 0,σ (μ ⟨w1.heap.size,0,ν⟩) m m,.map (μ bM),σ ν 0 0] 190:=by rw[<-ny];exact iZ.new _ _ _
    rw[Ge]at h1;exact h1
   ·have h1:iZ (w1.alloc (γ (pL m) 53)) w1.heap.size (pL m) 53:=iZ.new w1 _ _;rw[<-ny];exact h1.below (gY _ _)
  obtain⟨N,XU⟩:=gq (w1.heap.size+1);obtain⟨gI,hgI⟩:=gq (w1.heap.size);rw[XU,hgI]at Lw;have HM0:Hid _:=Lw;have UM:Hid _:=ny;have HNe:Hid _:=XU;have HgI:Hid _:=hgI;clear ny Jr Lw XU hgI Ge;rw[UM.out]
  try rw[HNe.out]
  try rw[HgI.out]
  go_loopw [29] (λx wr=>∃(q:Nat) (v:dZ) (P lo hi:Nat->Nat),q<=m/\x=ι κ q/\Fb w wr N gI bM m (kx L) (pz L) q 0 L v (σ ν 0 0) P lo hi) (λx _=>m-(intOf x).toNat)
  case atStart=>exact⟨0,_,_,_,_,Nat.zero_le _,rfl,HM0.out⟩
  case round=>
   obtain⟨q,v,P,lo,hi,hq,rfl,H⟩:=hrel;obtain⟨V,rfl⟩:∃V,V=wr:=⟨_,rfl⟩
   by_cases kD:q<m
   ·have nS:(q:Int)<(m:Int):=eh;have UW:IntKind.i64.wrap ((q:Int)+1)=(q:Int)+1:=aQ _ ⟨eh,eh⟩;have Pp:=yh N bM q (kx L) (pz L q) V (H.nb.cell 2) H.mp HEO.out eh (λp _=>⟨rfl,Vz.out.ms q p⟩) (jh.below (w:=w) HT.out H.nU) (λb=>b<V.heap.size) (λb e=>e);have HM:Hid _:=H;clear H;go_wp2_with(fail);refine Pp.mono ?_;rintro e w3 ⟨z,rfl,np,sy,P2,hz4,hz5,hz6⟩;have u:=HM.out.below sy;have c0:w3.cell? ⟨N,0,ν⟩=μ v:=u.nb.cell 0;have Nl:=u.yg;have iX:=u.row;have HZ:Hid (mC w3 z (jO ((q:Int)+1) 3 (pz L q))/\eE V w3/\(∀b,z.pA b->V.heap.size<=b)/\∀b,b<V.heap.size->z.fm.no b):=by
     refine⟨np,sy,λb hb=> ?_,hz6⟩;rcases hb with e|e|e
     ·exact P2 b e
     ·rw[e];exact hz4
     ·exact hz5 b e
    have HM3:Hid _:=u;clear Pp np sy P2 hz4 hz5 hz6 u;go_wp2_with(at_builtin;go_must(refine iI _ rfl (.tmp 46) (.tmp 48) 187 rfl 26 i1 (π ν) 1 8 Tryz.underlying187 vC alW alX alY rfl eA v q (wR P q) rfl (iX.alloc _) _ 1 1 [π (μ ⟨z.R,0,ν⟩)] rfl rfl eA (qJ _ _ _) (Zo _) (by unfold maxLen;omega) eh ?_));intro g' jv w4 hr4 hg4 YD;have hNv:v.ownBlock≠μ N:=λe=>(HM3.out.fv N e).2.1 rfl;have MK:iZ w4 N #[v,σ (μ ⟨gI,0,ν⟩) m m,.map (μ bM),σ ν 0 0] 190:=HM3.out.nb.keep ((hg4.block N (by simp;have:=HM3.out.yg;omega) (λe=>hNv e.symm)).trans (aU _ _ _ HM3.out.yg));have c4:w4.cell? ⟨N,0,ν⟩=μ v:=MK.cell 0;have f4:=MK.frozen 0;have l4:=MK.lt;have HAdd:Hid (Fb w (w4.setCell ⟨N,0,ν⟩ (σ (μ ⟨g',0,ν⟩) (q+1) jv)) N gI bM m (kx L) (pz L) (q+1) 0 L (σ (μ ⟨g',0,ν⟩) (q+1) jv) (σ ν 0 0) (jW P q z.R) (jW lo q V.heap.size) (jW hi q w3.heap.size)):=by
     obtain⟨a1,a2,a3,a4⟩:=HZ.out;refine Fb.EO HM.out a1 a2 a3 a4 hr4 hg4 (λk hk=> ?_);have zn:g'=k:=by simpa[eu]using hk
     subst zn;rcases YD with e|e
     ·exact .inl e
     ·right;have:(w3.alloc (γ #[π (μ ⟨z.R,0,ν⟩)] 26)).heap.size=w3.heap.size+1:=gZ;omega
    clear hr4 hg4 YD MK hNv iX c0 Nl
    go_wp2
    go_roundw
    case rel=>exact⟨q+1,_,_,_,_,eh,by go_num,HAdd.out⟩
    case measure=>simp[intOf];omega
   ·have xZ:¬(q:Int)<(m:Int):=eh;obtain rfl:q=m:=eh;have HMq:Hid _:=H;clear H
    go_wp2
    go_loopw [55] (λx wr=>∃(j:Nat) (v2:dZ),j<=n/\x=ι κ j/\Fb w wr N gI bM q (kx L) (pz L) q j L v v2 P lo hi) (λx _=>n-(intOf x).toNat)
    case atStart=>exact⟨0,_,Nat.zero_le _,rfl,HMq.out⟩
    case round=>
    obtain⟨j,v2,hj,rfl,H⟩:=hrel;obtain⟨A,rfl⟩:∃A,A=wr:=⟨_,rfl⟩
    by_cases hjl:j<n
    ·have alF:(j:Int)<(n:Int):=eh;have yM:(0:Int)<=(j:Int):=eh;have hjL:j<L.length:=by rw[HN.out];exact hjl
     obtain⟨b,off,rfl,k0,k1,k2,k3,k4⟩:=zZ.below (w:=w) HL.out H.nU j hjL;have bl:=ag _ _ k0;have YM:Hid (L.take (j+1)=L.take j++ [L[j]]):=by
      show _=_;rw[aA hjL]
     generalize L[j] =c at k0 k1 k2 k3 k4 YM;obtain⟨ca,T,U,Q,cm⟩:=c;have kC:=gY A (γ #[ι κ ca,ι κ T,ι κ U,ι κ Q,ι κ cm] 81);have Ou:iZ (A.alloc (γ #[ι κ ca,ι κ T,ι κ U,ι κ Q,ι κ cm] 81)) A.heap.size #[ι κ ca,ι κ T,ι κ U,ι κ Q,ι κ cm] 81:=iZ.new A _ _;obtain⟨W1,j8⟩:=gq (A.alloc (γ #[ι κ ca,ι κ T,ι κ U,ι κ Q,ι κ cm] 81));obtain⟨Y,hY⟩:=gq (A.heap.size);have hMW:=H.below kC;have HYo:Hid (v2.ownBlock≠μ Y):=λe=>by have:=H.GQ.lt Y e;omega
     have HYN:Hid (Y≠N):=λe=>by have:=H.yg;omega
     rw[j8]at Ou hMW;rw[hY]at Ou;have HM:Hid _:=hMW;have hV0:iZ W1.drew Y #[ι κ ca,ι κ T,ι κ U,ι κ Q,ι κ cm] 81:=Ou.drew;have c3a:W1.drew.cell? ⟨N,3,ν⟩=μ v2:=hMW.nb.cell 3;have Nl0:N<W1.drew.heap.size:=hMW.yg;have kj:∀E:dY,iZ E Y #[ι κ ca,ι κ T,ι κ U,ι κ Q,ι κ cm] 81->(fT 81 (π (μ ⟨Y,0,ν⟩))).run e7 E=.ok (.agg #[ι κ ca,ι κ T,ι κ U,ι κ Q,ι κ cm]) E:=λE hS=>by
      simp only[fT,Instr.sureAddr,Sem.run_bind,Sem.run_pure,Result.andThen];exact bU E Y 81 81 _ (0,0) _ hS Tryz.underlying81 rfl Zn
     have z8:=E9 ca T U Q cm W1.drew;have Kg:Hid _:=j8;have HY:Hid _:=hY;clear H hMW kC Ou j8 hY;go_wp2_with(fail);rw[Kg.out]
     try rw[HY.out]
     refine cu (S:=λx=>iZ x Y #[ι κ ca,ι κ T,ι κ U,ι κ Q,ι κ cm] 81) gX hV0 (λlK=> ?_);refine jr 0 (μ 59) rfl rfl gX gX gX (λ_ _ _ h=>h) (by rfl) (v:= ?_) ?_ jf ?_
     rotate_left
     ·intro E J
      (try dsimp only at J)
      go_simp
      try with_reducible rfl
     simp only[gG,gH,gJ,gK];refine jr 1 (μ 60) rfl rfl gX gX gX (λ_ _ _ h=>h) (by rfl) (v:= ?_) ?_ jf ?_
     rotate_left
     ·intro E J
      (try dsimp only at J)
      go_simp
      try with_reducible rfl
     simp only[gG,gH,gJ,gK];refine jr 2 (μ 61) rfl rfl gX gX gX (λ_ _ _ h=>h) (by rfl) (v:= ?_) ?_ jf ?_
     rotate_left
     ·intro E J
      (try dsimp only at J)
      go_simp
      try with_reducible rfl
     simp only[gG,gH,gJ,gK];refine jr 3 (μ 62) rfl rfl gX gX gX (λ_ _ _ h=>h) (by rfl) (v:= ?_) ?_ jf ?_
     rotate_left
     ·intro E J
      (try dsimp only at J)
      go_simp
      try with_reducible rfl
     simp only[gG,gH,gJ,gK];refine jr 5 (μ 64) rfl rfl gX gX gX (λ_ _ _ h=>h) (by rfl) (v:=.agg #[ι κ ca,ι κ T,ι κ U,ι κ Q,ι κ cm]) ?_ jf ?_
     ·intro E J;have h7:=kj E J;simp[execOp,Act.eval,h7]
     simp only[gG,gH,gJ,gK];refine aR (rs:=[4,6]) gX gZ ?_;refine aG (o:=_) rfl (λK Z=> ?_) (aG (o:=_) rfl (λK Z=> ?_) aN)
     focus
      go_simp
      (try go_wp2_with(fail))
      refine Z.out _ _ (by exact hV0) (λlK=> ?_);clear Z K;refine aR (rs:=[6]) gX gZ ?_;refine aG (o:=_) rfl (λK Z=> ?_) aN
      go_simp
      refine z8.mono ?_;rintro e w1 ⟨rfl,be⟩;have qZ:=HM.out.below (gu (jb _) be);have M:=hV0.below be;have c3b:w1.cell? ⟨N,3,ν⟩=μ v2:=qZ.nb.cell 3;have Nl1:=qZ.yg
      (try go_wp2_with(fail))
      refine Z.out _ _ (by exact M) (λlK=> ?_);clear Z K;refine jr 7 (μ 66) rfl rfl gX gX gX (λ_ _ _ h=>h) (by rfl) (v:= ?_) ?_ jf ?_
      rotate_left
      ·intro E J
       (try dsimp only at J)
       go_simp
       try with_reducible rfl
      simp only[gG,gH,gJ,gK];refine aR (rs:=[8]) gX gZ ?_;refine aG (o:=_) rfl (λK Z=> ?_) aN
      go_simp
      have R7:=iZ.below M (gY w1 (γ #[ι κ ca,ι κ T,ι κ U,ι κ Q,.bool false,σ ν 0 0,σ ν 0 0] 197));have G:=qZ.below (gY w1 (γ #[ι κ ca,ι κ T,ι κ U,ι κ Q,.bool false,σ ν 0 0,σ ν 0 0] 197));have c3c:(w1.alloc (γ #[ι κ ca,ι κ T,ι κ U,ι κ Q,.bool false,σ ν 0 0,σ ν 0 0] 197)).cell? ⟨N,3,ν⟩=μ v2:=G.nb.cell 3;have Nl2:=G.yg
      (try go_wp2_with(fail))
      refine Z.out _ _ (by exact R7) (λlK=> ?_);clear Z K
     rotate_left
     focus
      go_simp
      refine z8.mono ?_;rintro e w1 ⟨rfl,be⟩;have qZ:=HM.out.below (gu (jb _) be);have M:=hV0.below be;have c3b:w1.cell? ⟨N,3,ν⟩=μ v2:=qZ.nb.cell 3;have Nl1:=qZ.yg
      (try go_wp2_with(fail))
      refine Z.out _ _ (by exact M) (λlK=> ?_);clear Z K;refine jr 7 (μ 66) rfl rfl gX gX gX (λ_ _ _ h=>h) (by rfl) (v:= ?_) ?_ jf ?_
      rotate_left
      ·intro E J
       (try dsimp only at J)
       go_simp
       try with_reducible rfl
      simp only[gG,gH,gJ,gK];refine aR (rs:=[4,8]) gX gZ ?_;refine aG (o:=_) rfl (λK Z=> ?_) (aG (o:=_) rfl (λK Z=> ?_) aN)
      focus
       go_simp
       (try go_wp2_with(fail))
       refine Z.out _ _ (by exact M) (λlK=> ?_);clear Z K;refine aR (rs:=[8]) gX gZ ?_;refine aG (o:=_) rfl (λK Z=> ?_) aN
       go_simp
       have R7:=iZ.below M (gY w1 (γ #[ι κ ca,ι κ T,ι κ U,ι κ Q,.bool false,σ ν 0 0,σ ν 0 0] 197));have G:=qZ.below (gY w1 (γ #[ι κ ca,ι κ T,ι κ U,ι κ Q,.bool false,σ ν 0 0,σ ν 0 0] 197));have c3c:(w1.alloc (γ #[ι κ ca,ι κ T,ι κ U,ι κ Q,.bool false,σ ν 0 0,σ ν 0 0] 197)).cell? ⟨N,3,ν⟩=μ v2:=G.nb.cell 3;have Nl2:=G.yg
       (try go_wp2_with(fail))
       refine Z.out _ _ (by exact R7) (λlK=> ?_);clear Z K
      rotate_left
      go_simp
      have R7:=iZ.below M (gY w1 (γ #[ι κ ca,ι κ T,ι κ U,ι κ Q,.bool false,σ ν 0 0,σ ν 0 0] 197));have G:=qZ.below (gY w1 (γ #[ι κ ca,ι κ T,ι κ U,ι κ Q,.bool false,σ ν 0 0,σ ν 0 0] 197));have c3c:(w1.alloc (γ #[ι κ ca,ι κ T,ι κ U,ι κ Q,.bool false,σ ν 0 0,σ ν 0 0] 197)).cell? ⟨N,3,ν⟩=μ v2:=G.nb.cell 3;have Nl2:=G.yg
      (try go_wp2_with(fail))
      refine Z.out _ _ (by exact R7) (λlK=> ?_);clear Z K;refine aR (rs:=[4]) gX gZ ?_;refine aG (o:=_) rfl (λK Z=> ?_) aN
      go_simp
      (try go_wp2_with(fail))
      refine Z.out _ _ (by exact R7) (λlK=> ?_);clear Z K
     all_goals
      refine aR (rs:=[9]) gX gZ ?_;refine aG (o:=_) rfl (λK Z=> ?_) aN;refine l8 (by rfl) (.tmp 63) (.tmp 67) 188 (by rfl) 197 i2 (.agg #[ι κ 0,ι κ 0,ι κ 0,ι κ 0,.bool false,σ ν 0 0,σ ν 0 0]) 7 88 Tryz.underlying188 Rh alZ al0 al1 (by rfl) eA v2 j (vf (L.take j)) (by rfl) G.GQ _ 1 1 (vf [⟨ca,T,U,Q,cm⟩]) (by rfl) (by rfl) eA (L5 _ _ _ _ _ rfl) (Wj _) (by unfold maxLen;omega) eh ?_;intro g' jv x1 lg kG jI;have De:iZ x1 N _ 190:=G.nb.keep (kG.block N G.yg (λe=>(G.LY N e.symm).2.1 rfl));have hV3:iZ x1 Y _ 81:=R7.keep (kG.block Y R7.lt (λe=>HYo.out e.symm));have c3d:x1.cell? ⟨N,3,ν⟩=μ v2:=De.cell 3;have f3d:=De.frozen 3;have Nl3:=De.lt;refine Z.out _ _ (by exact hV3) (λlK=> ?_);clear Z K;refine jr 10 (μ 69) rfl rfl gX gX gX (λ_ _ _ h=>h) (by rfl) (v:= ?_) ?_ jf ?_
      rotate_left
      ·intro E J
       (try dsimp only at J)
       go_simp
       try with_reducible rfl
      simp only[gG,gH];refine jr 11 (μ 70) rfl rfl gX gX gX (λ_ _ _ h=>h) (by rfl) (v:= ?_) ?_ jf ?_
      rotate_left
      ·intro E J
       (try dsimp only at J)
       go_simp
       try with_reducible rfl
      simp only[gG];refine aR (rs:=[12]) gX gZ ?_;refine aG (o:=_) rfl (λK Z=> ?_) aN
      go_simp
      (try go_wp2_with(fail))
      refine Z.out _ _ (by exact hV3.other HYN.out _) (λlK=> ?_);clear Z K;refine cQ gX ?_ _;have HAdd:Hid _:=Fb.PR G (c:=⟨ca,T,U,Q,cm⟩) YM.out lg kG (λk hk=>by
       have zn:g'=k:=by simpa[eu]using hk
       subst zn;exact jI)
      clear lg kG jI De hV3 c3d f3d Nl3 qZ G M R7
      go_wp2
      go_roundw
      case rel=>exact⟨j+1,_,eh,by go_num,HAdd.out⟩
      case measure=>simp[intOf];omega
    ·have agM:¬(j:Int)<(n:Int):=eh;obtain rfl:j=n:=eh;have uy:∃y,jJ A y (jS ((q:Int)).toNat L)/\y.N=N/\(∀b,y.all ((q:Int)).toNat b->w.heap.size<=b)/\∀b,y.ext b↔X b:=by
      have G:Fb w A N gI bM ((q:Int)).toNat (kx L) (pz L) ((q:Int)).toNat L.length L v v2 P lo hi:=by
       rw[Jv,HN.out];exact H
      exact Fb.done (w:=w) (many:=(q:Int)) Vz.out HEO.out G (jh.lt (w:=w) HT.out) X hX
     have HF:Hid (Sw w (q:Int) L X (ρ (τ #[π (μ ⟨N,0,ν⟩),η])) A):=by
      obtain⟨y,y1,y2,y3,y4⟩:=uy;exact⟨λe=>absurd H00.out e,λ_=>⟨y,by rw[y2],y1,y3,y4⟩,H.nU⟩
     clear H uy
     go_wp2
     go_ret2
     exact HF.out
 ·have C2:eZ e7 95 #[ι κ many,σ a L.length cap] w λe w'=>e=ρ (τ #[.map ν,jk (nP many L)])/\eE w w':=by
   refine hm.mono ?_;rintro e w1 ⟨h1,_,hb⟩;exact⟨h1 h0,hb⟩
  have ee:jk (nP many L)=.iface 128 (ι κ ((nP many L:Nat):Int)):=by simp only[jk];rw[af h0]
  have HE:Hid _:=ee;have H0:Hid _:=h0;rw[ee]at C2;generalize L.length=n at C2⊢;clear hm hL hT ee h0
  go_in
  go_wp2_with(fail);refine C2.mono ?_;rintro e w1 ⟨rfl,hb⟩;have HB:Hid _:=hb;clear C2 hb
  go_wp2
  go_ret2
  exact⟨λ_=>by rw[HE.out];rfl,λe=>absurd e H0.out,HB.out⟩
def sj(y:iP)(v:AV):iP:=
 if(v.kind.toList==[112,108,117,103])=true then(y.iL v.a (v.b==1)).1
 else if(v.kind.toList==[116,105,99,107])=true then(y.tick v.a).1
 else if(v.kind.toList==[100,101,108,105,118,101,114])=true then(y.deliver v.a v.b v.c).1
 else if(v.kind.toList==[114,101,115,116,97,114,116])=true then(y.restart v.a).1
 else if(v.kind.toList==[115,101,110,100])=true then(y.send v.a v.b v.s.data.toList).1
 else if(v.kind.toList==[114,111,117,110,100])=true then y.round
 else y
theorem Sx(y:iP)(i:Int)(up:Bool):(y.iL i up).1.n=y.n/\(y.iL i up).1.nc=y.nc/\(y.iL i up).1.ms=y.ms/\∀x,((y.iL i up).1.C x).e=(y.C x).e:=by
 unfold iP.iL;split
 ·exact⟨rfl,rfl,rfl,λ_=>rfl⟩
 ·split
  ·exact⟨rfl,rfl,rfl,λ_=>rfl⟩
  ·obtain⟨g1,Z,Y,X⟩:=lV (y.jZ i.toNat up);obtain⟨V,U,p3,_,T⟩:=pK y i.toNat up;exact⟨g1.trans V,Z.trans U,Y.trans p3,λx=>(X x).1.trans (T x).1⟩
theorem Aa(y:iP)(i:Int):(y.restart i).1.n=y.n/\(y.restart i).1.nc=y.nc/\(y.restart i).1.ms=y.ms/\∀x,((y.restart i).1.C x).e=(y.C x).e:=by
 unfold iP.restart;split
 ·exact⟨rfl,rfl,rfl,λ_=>rfl⟩
 ·obtain⟨Z,Y,X,_,V⟩:=nt false (y.lA (i-1).toNat) y;obtain⟨b1,b2,b3,_,b5⟩:=nt true (y.lA (i-1).toNat) ((y.jD false (y.lA (i-1).toNat)).jA (i-1).toNat (jO i 3 (y.ms (i-1).toNat)));obtain⟨g1,U,T,S⟩:=lV (((y.jD false (y.lA (i-1).toNat)).jA (i-1).toNat (jO i 3 (y.ms (i-1).toNat))).jD true (y.lA (i-1).toNat));exact⟨g1.trans (b1.trans Z),U.trans (b2.trans Y),T.trans (b3.trans X),λx=>(S x).1.trans ((b5 x).trans (V x))⟩
theorem Sy(y:iP)(f t:Int)(tx:List UInt8):(y.send f t tx).1.n=y.n/\(y.send f t tx).1.nc=y.nc/\(y.send f t tx).1.ms=y.ms/\∀x,((y.send f t tx).1.C x).e=(y.C x).e:=by
 unfold iP.send;split
 ·exact⟨rfl,rfl,rfl,λ_=>rfl⟩
 ·split
  ·exact⟨rfl,rfl,rfl,λ_=>rfl⟩
  ·obtain⟨g1,Z,Y,X⟩:=lV (y.jA (f-1).toNat (kg (y.R (f-1).toNat) t tx).1);exact⟨g1,Z,Y,λx=>(X x).1⟩
theorem Sz(y:iP)(v:AV):(sj y v).n=y.n/\(sj y v).nc=y.nc/\(sj y v).ms=y.ms/\∀x,((sj y v).C x).e=(y.C x).e:=by
 unfold sj;split
 ·exact Sx _ _ _
 ·split
  ·obtain⟨a,b,c,d⟩:=Ij y v.a;exact⟨a,b,c,λx=>(d x).1⟩
  ·split
   ·obtain⟨a,b,c,d⟩:=ng y v.a v.b v.c;exact⟨a,b,c,λx=>(d x).1⟩
   ·split
    ·exact Aa _ _
    ·split
     ·exact Sy _ _ _ _
     ·split
      ·obtain⟨a,b,c,d⟩:=kM y;exact⟨a,b,c,λx=>(d x).1⟩
      ·exact⟨rfl,rfl,rfl,λ_=>rfl⟩
theorem j5.act(h:j5 y D 0)(Z:D<=800000000)(v:AV):j5 (sj y v) (D+1300000) 0:=by
 unfold sj;split
 ·exact(h.iL eh _ _).mono eh (Nat.le_refl _)
 ·split
  ·exact(h.tick eh _).mono eh (Nat.le_refl _)
  ·split
   ·exact(h.deliver eh _ _ _).mono eh (Nat.le_refl _)
   ·split
    ·exact(h.restart eh _).mono eh (Nat.le_refl _)
    ·split
     ·exact(h.send eh _ _ _).mono eh (Nat.le_refl _)
     ·split
      ·exact h.round Z
      ·exact h.mono eh (Nat.le_refl _)
theorem jJ.from {w W:dY} {y:Yt} {n n':iP} {f:FuncId} {args:Array dZ} {ev:dZ} (hb:eE w W)(hc:eZ e7 f args W λe w'=>e=ρ ev/\iH W w' y n' n.n):eZ e7 f args W λe w'=>(∃v,e=ρ v)/\iH w w' y n' n.n:=by
 refine hc.mono ?_;rintro e w' ⟨rfl,Z⟩;exact⟨⟨_,rfl⟩,iH.first hb Z⟩
theorem Dj(y:Yt)(n:iP)(D:Nat)(v:AV)(w:dY)(h:jJ w y n)(hT:jh w)(iQ:j5 n D 0)(hD:D<=800000000):
 eZ e7 59 #[π (μ ⟨y.N,0,ν⟩),.agg #[.string v.kind,ι κ v.a,ι κ v.b,ι κ v.c,ι κ v.d,.string v.s,ι κ v.Pr,ι κ v.pid,σ v.po v.pn v.Eh,ι κ v.x.own,ι κ v.x.seq,σ v.x.a v.x.n v.x.cap]] w λe w'=>e=ρ (τ #[])/\iH w w' y (sj n v) n.n:=by
 obtain⟨Z,T,M,vc,vd,vs,J,H,E,XB,Ca,⟨xo,xq,xa,xn,xc⟩⟩:=v;have hb:=gY w (γ #[.string Z,ι κ T,ι κ M,ι κ vc,ι κ vd,.string vs,ι κ J,ι κ H,σ E XB Ca,ι κ xo,ι κ xq,σ xa xn xc] 42);have A:iZ (w.alloc (γ #[.string Z,ι κ T,ι κ M,ι κ vc,ι κ vd,.string vs,ι κ J,ι κ H,σ E XB Ca,ι κ xo,ι κ xq,σ xa xn xc] 42)) w.heap.size #[.string Z,ι κ T,ι κ M,ι κ vc,ι κ vd,.string vs,ι κ J,ι κ H,σ E XB Ca,ι κ xo,ι κ xq,σ xa xn xc] 42:=iZ.new w _ _;obtain⟨S,n8⟩:=gq (w.alloc (γ #[.string Z,ι κ T,ι κ M,ι κ vc,ι κ vd,.string vs,ι κ J,ι κ H,σ E XB Ca,ι κ xo,ι κ xq,σ xa xn xc] 42));obtain⟨X,hX⟩:=gq (w.heap.size);rw[n8]at hb A;rw[hX]at A;have R0:=h.below hb;have T0:jh S:=jh.below (w:=w) hT hb;have c0:S.cell? ⟨X,0,ν⟩=μ (.string Z):=A.cell 0;have c1:S.cell? ⟨X,1,ν⟩=μ (ι κ T):=A.cell 1;have c2:S.cell? ⟨X,2,ν⟩=μ (ι κ M):=A.cell 2;have c3:S.cell? ⟨X,3,ν⟩=μ (ι κ vc):=A.cell 3;have c5:S.cell? ⟨X,5,ν⟩=μ (.string vs):=A.cell 5;have xl:=A.lt;have GK:Hid _:=n8;have HX:Hid _:=hX;have q1:=jJ.from hb (LO y n D T (M==1) S R0 T0 iQ eh);have q2:=jJ.from hb (LL y n D T S R0 T0 iQ eh);have u:=jJ.from hb (Ct y n D T M vc S R0 T0 iQ eh);have j:=jJ.from hb (Cv y n D T S R0 T0 iQ eh);have q5:=jJ.from hb (V8 y n D T M vs S R0 iQ eh);have q6:=jJ.from hb (Bu y n D S R0 T0 iQ hD);have q7:iH w S y n n.n:=iH.still h hb;obtain⟨G,hG⟩:=gq (sj n ⟨Z,T,M,vc,vd,vs,J,H,E,XB,Ca,⟨xo,xq,xa,xn,xc⟩⟩)
 rw[hG];have HG:Hid (G=if(Z.toList==[112,108,117,103])=true then(n.iL T (M==1)).1
  else if(Z.toList==[116,105,99,107])=true then(n.tick T).1
  else if(Z.toList==[100,101,108,105,118,101,114])=true then(n.deliver T M vc).1
  else if(Z.toList==[114,101,115,116,97,114,116])=true then(n.restart T).1
  else if(Z.toList==[115,101,110,100])=true then(n.send T M vs.data.toList).1
  else if(Z.toList==[114,111,117,110,100])=true then n.round
  else n):=hG.symm
 clear h hT iQ R0 T0 hb A n8 hX hG;cases k1:(Z.toList==[112,108,117,103])
 case true=>
  have V:=q1;clear q1 q2 u j q5 q6 q7;have Y:Hid (∀x,iH w x y _ n.n->iH w x y G n.n):=λx hx=>by
   rw[HG.out,ai k1];exact hx
  go_in
  go_wp2_with(fail)
  try rw[GK.out]
  try rw[HX.out]
  go_wp2_with(fail);refine V.mono ?_;rintro e w6 ⟨⟨ev,rfl⟩,U⟩;have Q:Hid _:=Y.out _ U;clear V U Y
  go_wp2
  first|go_end0|refine iM rfl rfl ?_
  exact⟨rfl,Q.out⟩
 case false=>
  cases k2:(Z.toList==[116,105,99,107])
  case true=>
   have V:=q2;clear q1 q2 u j q5 q6 q7;have Y:Hid (∀x,iH w x y _ n.n->iH w x y G n.n):=λx hx=>by
    rw[HG.out,af (by rw[k1];simp),ai k2];exact hx
   go_in
   go_wp2_with(fail)
   try rw[GK.out]
   try rw[HX.out]
   go_wp2_with(fail);refine V.mono ?_;rintro e w6 ⟨⟨ev,rfl⟩,U⟩;have Q:Hid _:=Y.out _ U;clear V U Y
   go_wp2
   first|go_end0|refine iM rfl rfl ?_
   exact⟨rfl,Q.out⟩
  case false=>
   cases k3:(Z.toList==[100,101,108,105,118,101,114])
   case true=>
    have V:=u;clear q1 q2 u j q5 q6 q7;have Y:Hid (∀x,iH w x y _ n.n->iH w x y G n.n):=λx hx=>by
     rw[HG.out,af (by rw[k1];simp),af (by rw[k2];simp),ai k3];exact hx
    go_in
    go_wp2_with(fail)
    try rw[GK.out]
    try rw[HX.out]
    go_wp2_with(fail);refine V.mono ?_;rintro e w6 ⟨⟨ev,rfl⟩,U⟩;have Q:Hid _:=Y.out _ U;clear V U Y
    go_wp2
    first|go_end0|refine iM rfl rfl ?_
    exact⟨rfl,Q.out⟩
   case false=>
    cases k4:(Z.toList==[114,101,115,116,97,114,116])
    case true=>
     have V:=j;clear q1 q2 u j q5 q6 q7;have Y:Hid (∀x,iH w x y _ n.n->iH w x y G n.n):=λx hx=>by
      rw[HG.out,af (by rw[k1];simp),af (by rw[k2];simp),af (by rw[k3];simp),ai k4];exact hx
     go_in
     go_wp2_with(fail)
     try rw[GK.out]
     try rw[HX.out]
     go_wp2_with(fail);refine V.mono ?_;rintro e w6 ⟨⟨ev,rfl⟩,U⟩;have Q:Hid _:=Y.out _ U;clear V U Y
     go_wp2
     first|go_end0|refine iM rfl rfl ?_
     exact⟨rfl,Q.out⟩
    case false=>
     cases k5:(Z.toList==[115,101,110,100])
     case true=>
      have V:=q5;clear q1 q2 u j q5 q6 q7;have Y:Hid (∀x,iH w x y _ n.n->iH w x y G n.n):=λx hx=>by
       rw[HG.out,af (by rw[k1];simp),af (by rw[k2];simp),af (by rw[k3];simp),af (by rw[k4];simp),ai k5];exact hx
      go_in
      go_wp2_with(fail)
      try rw[GK.out]
      try rw[HX.out]
      go_wp2_with(fail);refine V.mono ?_;rintro e w6 ⟨⟨ev,rfl⟩,U⟩;have Q:Hid _:=Y.out _ U;clear V U Y
      go_wp2
      first|go_end0|refine iM rfl rfl ?_
      exact⟨rfl,Q.out⟩
     case false=>
      cases k6:(Z.toList==[114,111,117,110,100])
      case true=>
       have V:=q6;clear q1 q2 u j q5 q6 q7;have Y:Hid (∀x,iH w x y _ n.n->iH w x y G n.n):=λx hx=>by
        rw[HG.out,af (by rw[k1];simp),af (by rw[k2];simp),af (by rw[k3];simp),af (by rw[k4];simp),af (by rw[k5];simp),ai k6];exact hx
       go_in
       go_wp2_with(fail)
       try rw[GK.out]
       try rw[HX.out]
       go_wp2_with(fail);refine V.mono ?_;rintro e w6 ⟨⟨ev,rfl⟩,U⟩;have Q:Hid _:=Y.out _ U;clear V U Y
       go_wp2
       first|go_end0|refine iM rfl rfl ?_
       exact⟨rfl,Q.out⟩
      case false=>
       have Q:Hid (iH w S y G n.n):=by
        show iH _ _ _ _ _;rw[HG.out,af (by rw[k1];simp),af (by rw[k2];simp),af (by rw[k3];simp),af (by rw[k4];simp),af (by rw[k5];simp),af (by rw[k6];simp)];exact q7
       clear q1 q2 u j q5 q6 q7
       go_in
       go_wp2_with(fail)
       try rw[GK.out]
       try rw[HX.out]
       go_wp2
       first|go_end0|refine iM rfl rfl ?_
       exact⟨rfl,Q.out⟩
theorem Zq(c:UInt8)(s:LS):(pY c s).st=s.st:=by
 unfold pY
 repeat' split
 all_goals rfl
theorem P7:∀(L:List UInt8) (s:LS),(qM L s).st=s.st
 |[],_=>rfl
 |c::r,s=>by
  show(qM r (pY c s)).st=s.st;rw[P7 r,Zq]
theorem Zr(s:LS)(nx:Int):(s.next nx).st=nx:=by
 unfold LS.next;split<;>rfl
theorem wT(s:LS)(ev:Int):(nY s ev).st=(jj s.st ev).2.1:=by
 unfold nY;rw[P7,Zr]
def uG(s:Int):Bool:=s==3||(decide (5<=s)&&decide (s<=9))
theorem DB {s:Int} (h:uG s=true):∃k:Nat,s=k/\k<10:=by
 refine⟨s.toNat,?_⟩;simp only[uG,Bool.or_eq_true,beq_iff_eq,Bool.and_eq_true,decide_eq_true_eq]at h;omega
theorem ady:((gg 12).all λe=>(gg 10).all λs=> !(decide (4<=e)&&uG (s:Int)&& ((lE s e).2.2==0))||uG (lE s e).2.1)=true:=by decide+kernel
theorem Zs {e s:Nat} (V:e<12)(X:4<=e)(hs:s<10)(U:uG (s:Int)=true)(Y:(lE s e).2.2=0):uG (lE s e).2.1=true:=by
 have Z:=aZ.1 (aZ.1 ady e (aP.2 V)) s (aP.2 hs);have b4:decide (4<=e)=true:=by simpa using X
 have b7:((lE s e).2.2==0)=true:=by simpa using Y
 rw[b4,U,b7]at Z;simpa using Z
theorem Fe(e:Nat)(X:e<12)(V:4<=e)(a:kP)(h:uG s.st=true):uG (tr s e a).1.st=true:=by
 obtain⟨k,U,Y⟩:=DB h;by_cases Z:(jj s.st e).2.2=0
 ·rw[tW a Z];show uG (nY s e).st=true;rw[wT];rw[U]at h Z⊢;rw[nE k e Y X]at Z⊢;exact Zs X V Y h Z
 ·rw[wC a Z];exact h
theorem Zu(s:LS)(code:Int)(os:List jH):(s.tell code os).st=s.st:=by
 unfold LS.tell;split<;>rfl
theorem Wn(s:LS)(os:List jH):(s.sized os).st=s.st:=by
 unfold LS.sized;split<;>rfl
theorem Zv(p:kP)(h:uG s.st=true):uG (jN s p).1.st=true:=by
 unfold jN;split
 ·exact h
 ·split
  ·unfold uA;split
   ·split
    ·rw[Wn];exact Fe 6 eA eA _ h
    ·exact Fe 6 eA eA _ h
   ·exact Fe 7 eA eA _ h
  ·split
   ·exact Fe 10 eA eA _ h
   ·split
    ·exact Fe 11 eA eA _ h
    ·unfold tX;split
     ·exact h
     ·split
      ·split
       ·exact h
       ·exact Fe 8 eA eA _ h
      ·exact Fe 9 eA eA _ (by rw[Zu];exact h)
theorem L6:((gg 10).all λs=> !(uG (s:Int)&&decide (4<=s)&&decide (s<=8))||(uG (lE s 4).2.1&&uG (lE s 5).2.1))=true:=by decide+kernel
theorem Wo(h:uG s.st=true):uG (kt s).st=true:=by
 obtain⟨k,Y,X⟩:=DB h;unfold kt;split
 ·exact h
 ·rename_i U
  have V:4<=k/\k<=8:=by
   rw[Y]at U;simp at U;omega
  have Z:=aZ.1 L6 k (aP.2 X);rw[<-Y,h]at Z;simp[V.1,V.2]at Z;split
  ·exact h
  ·split
   ·rw[wT];show uG (jj s.st 4).2.1=true;rw[Y,show(4:Int)=((4:Nat):Int)from rfl,nE k 4 X eA];exact Z.1
   ·rw[wT];show uG (jj s.st 5).2.1=true;rw[Y,show(5:Int)=((5:Nat):Int)from rfl,nE k 5 X eA];exact Z.2
theorem L7:((gg 10).all λs=> !(uG (s:Int))||((lE s 1).2.2==0&& (lE s 1).2.1==1))=true:=by decide+kernel
theorem tO(h:uG s.st=true):(k8 s 1).2.2=0/\(k8 s 1).1.st=1:=by
 obtain⟨k,X,Y⟩:=DB h;have Z:=aZ.1 L7 k (aP.2 Y);rw[<-X,h]at Z;simp at Z;have V:(jj s.st 1).2.2=0:=by
  rw[X,show(1:Int)=((1:Nat):Int)from rfl,nE k 1 Y eA];exact Z.1
 have e:k8 s 1=(nY s 1,pT s 1 (0,0,[]),0):=by
  unfold k8;rw[ai gZ,tW _ V]
 rw[e];refine⟨rfl,?_⟩;show(nY s 1).st=1;rw[wT,X,show(1:Int)=((1:Nat):Int)from rfl,nE k 1 Y eA];exact Z.2
theorem Eu(h:s.st=1):(k8 s 0).2.2=0/\uG (k8 s 0).1.st=true:=by
 have Z:(jj s.st 0).2.2=0:=by rw[h];decide+kernel
 have e:k8 s 0=(nY s 0,pT s 0 (0,0,[]),0):=by
  unfold k8;rw[ai gZ,tW _ Z]
 rw[e];refine⟨rfl,?_⟩;show uG (nY s 0).st=true;rw[wT,h];decide+kernel
theorem Wp(h:uG s.st=true):uG (je s).1.st=true:=by
 have Z:=Wo h;unfold je;split
 ·exact(Eu (tO Z).2).2
 ·exact Z
theorem SA(h:s.st=1):(je s).1=s:=by
 have Z:kt s=s:=by unfold kt;simp[h]
 unfold je;rw[Z];simp[h]
structure pB(up:Bool)(p:jy):Prop where
 st:if up=true then uG p.L.st=true else p.L.st=1
 gate:p.pe.who≠0->p.L.st=9
theorem pB.congr {up:Bool} {p q:jy} (h:pB up p)(Z:q.L=p.L)(Y:q.pe=p.pe):pB up q:=⟨by rw[Z];exact h.st,by rw[Z,Y];exact h.gate⟩
theorem wU(p:jy)(c:UInt8)(s:List UInt8):(p.put c s).L=p.L:=by
 unfold jy.put
 repeat' split
 all_goals rfl
theorem Ff:∀(l:List kP) (p:jy),(p.say l).L=p.L
 |[],_=>rfl
 |q::r,p=>by
  show((if jU q.1 q.2.1 q.2.2=0 then p.put 76 (mL q.1 q.2.1 q.2.2)else p).say r).L=_;rw[Ff r];split
  ·exact wU _ _ _
  ·rfl
theorem wV:∀(l:List (Int×PS)) (p:jy),(p.kJ l).L=p.L/\(p.kJ l).pe=p.pe
 |[],_=>⟨rfl,rfl⟩
 |q::r,p=>by
  obtain⟨Z,Y⟩:=wV r (p.put 83 (ru q.1 q.2.1 q.2.2));exact⟨Z.trans (wU _ _ _),Y.trans (rS _ _ _)⟩
def ki(r r':iO)(p:Nat):Prop:=(r'.P p).L=(r.P p).L/\(r'.P p).pe=(r.P p).pe
theorem ki.refl(r:iO)(p:Nat):ki r r p:=⟨rfl,rfl⟩
theorem ki.trans {a b c:iO} {p:Nat} (h:ki a b p)(g:ki b c p):ki a c p:=⟨g.1.trans h.1,g.2.trans h.2⟩
theorem ki.xV {r r':iO} (h:r'.P=r.P)(p:Nat):ki r r' p:=by unfold ki;rw[h];exact⟨rfl,rfl⟩
theorem ki.iU(r:iO)(i:Nat)(q:jy)(Z:q.L=(r.P i).L)(Y:q.pe=(r.P i).pe)(p:Nat):ki r (r.iU i q) p:=by
 show(ll r.P i q p).L=_/\(ll r.P i q p).pe=_;by_cases e:p=i
 ·subst e;rw[jB];exact⟨Z,Y⟩
 ·rw[ju _ _ e];exact⟨rfl,rfl⟩
theorem ki.yX(r:iO)(q:jy)(h:p≠i):ki r (r.iU i q) p:=by
 show(ll r.P i q p).L=_/\(ll r.P i q p).pe=_;rw[ju _ _ h];exact⟨rfl,rfl⟩
theorem ki.qT(r:iO)(q:lr)(h:p≠i):ki r (r.meet i q) p:=by
 unfold ki;rw[(mZ r i q).2.2.2,ju _ _ h];exact⟨rfl,rfl⟩
theorem Ab(r:iO)(i:Nat)(q:lr):((r.meet i q).P i).L=(r.P i).L/\((r.meet i q).P i).pe=q:=by
 rw[(mZ r i q).2.2.2,jB];exact⟨rfl,rfl⟩
theorem ki.send(r:iO)(t:zi)(p:Nat):ki r (r.send t) p:=by
 unfold iO.send;split
 ·exact ki.xV rfl p
 ·split
  ·exact ki.xV rfl p
  ·exact ki.iU _ _ _ (wU _ _ _) (rS _ _ _) p
theorem ki.state(r:iO)(i:Nat)(l:List UInt8)(p:Nat):ki r (jm r i l) p:=by
 unfold jm;simp only;split
 ·exact ki.refl r p
 ·split
  ·exact ki.xV (oJ _ _).2.2.2 p
  ·split
   ·exact ki.iU _ i _ (wU _ _ _) (rS _ _ _) p
   ·exact ki.xV rfl p
theorem Ox(r:iO)(i:Nat)(c:UInt8)(s:List UInt8)(p:Nat):((mF r i c s).P p).L=(r.P p).L/\(p≠i->ki r (mF r i c s) p):=by
 unfold mF;split
 ·split
  ·refine⟨?_,λh=>ki.qT r _ h⟩;by_cases e:p=i
   ·subst e;exact(Ab r p _).1
   ·exact(ki.qT r _ e).1
  ·exact⟨rfl,λ_=>ki.refl r p⟩
 ·split
  ·exact⟨(ki.state r i s p).1,λ_=>ki.state r i s p⟩
  ·split
   ·have h:ki r (kF r i s) p:=by
     unfold kF;simp only;split<;>exact ki.xV rfl p
    exact⟨h.1,λ_=>h⟩
   ·split
    ·have h:ki r (rC r s) p:=by
      unfold rC;split
      ·exact ki.send _ _ p
      ·exact ki.refl r p
     exact⟨h.1,λ_=>h⟩
    ·exact⟨rfl,λ_=>ki.refl r p⟩
def Oy(p:jy):Prop:=uG p.L.st=true/\(p.pe.who≠0->p.L.st=9)
theorem pB.up {p:jy}:pB true p↔Oy p:=⟨λh=>⟨by simpa using h.st,h.gate⟩,λh=>⟨by simpa using h.1,h.2⟩⟩
theorem Oy.congr {p q:jy} (h:Oy p)(Z:q.L=p.L)(Y:q.pe=p.pe):Oy q:=by
 unfold Oy;rw[Z,Y];exact h
theorem SB {p:jy} (s:List UInt8)(h:uG p.L.st=true):uG (p.packet s).L.st=true:=by
 unfold jy.packet;simp only;split
 ·rw[Ff];exact Zv _ h
 ·exact h
theorem Il {r:iO} (i:Nat)(c:UInt8)(s:List UInt8)(h:Oy (r.P i)):Oy ((r.take i c s).P i)/\∀p,p≠i->ki r (r.take i c s) p:=by
 have X:uG ((j4 r i c s).P i).L.st=true:=by
  unfold j4;split
  ·show uG (ll r.P i _ i).L.st=true;rw[jB];exact SB s h.1
  ·exact h.1
 have V:∀p,p≠i->ki r (j4 r i c s) p:=λp Z=>by
  unfold j4;split
  ·exact ki.yX r _ Z
  ·exact ki.refl r p
 rw[lP];split
 ·obtain⟨a,b⟩:=Ab (j4 r i c s) i nobody;refine⟨⟨by rw[a];exact X,λe=>absurd (by rw[b];rfl) e⟩,λp Z=>(V p Z).trans (ki.qT _ _ Z)⟩
 ·rename_i U
  have Y:((j4 r i c s).P i).L.st=9:=by simpa using U
  obtain⟨a,_⟩:=Ox (j4 r i c s) i c s i;exact⟨⟨by rw[a];exact X,λ_=>by rw[a];exact Y⟩,λp Z=>(V p Z).trans ((Ox _ i c s p).2 Z)⟩
theorem Fg:∀(l:List (List UInt8)) {r:iO} (i:Nat),Oy (r.P i)->Oy ((r.takes i l).P i)/\∀p,p≠i->ki r (r.takes i l) p
 |[],r,i,h=>⟨h,λp _=>ki.refl r p⟩
 |t::l,r,i,h=>by
  show Oy (((jP r i t).takes i l).P i)/\∀p,p≠i->ki r ((jP r i t).takes i l) p;have Z:Oy ((jP r i t).P i)/\∀p,p≠i->ki r (jP r i t) p:=by
   cases t with
   |nil=>exact⟨h,λp _=>ki.refl r p⟩
   |cons c s=>exact Il i c s h
  obtain⟨a,b⟩:=Fg l i Z.1;exact⟨a,λp Y=>(Z.2 p Y).trans (b p Y)⟩
theorem SC {r:iO} (i:Nat)(l:List UInt8)(h:Oy (r.P i)):Oy ((r.recv i l).P i)/\∀p,p≠i->ki r (r.recv i l) p:=by
 unfold iO.recv;simp only;have Z:∀p,ki r (r.iU i {r.P i with rd:=(kB (r.P i).rd l).2.2}) p:=λp=>ki.iU r i {r.P i with rd:=(kB (r.P i).rd l).2.2} rfl rfl p;obtain⟨a,b⟩:=Fg (kB (r.P i).rd l).1 (r:=r.iU i {r.P i with rd:=(kB (r.P i).rd l).2.2}) i (h.congr (Z i).1 (Z i).2);exact⟨a,λp Y=>(Z p).trans (b p Y)⟩
theorem Wq(r:iO)(i p:Nat):ki r (r.recv i []) p:=ki.iU r i _ rfl rfl p
theorem sX(p:jy):p.tick.L=(je p.L).1:=by
 unfold jy.tick;rw[Ff]
theorem Io {r:iO} {up:Bool} (i:Nat)(h:pB up (r.P i)):pB up ((r.iY i).P i)/\∀p,p≠i->ki r (r.iY i) p:=by
 have S:((jd r i).P i).L=(je (r.P i).L).1:=by
  show(ll r.P i (r.P i).tick i).L=_;rw[jB,sX]
 have V:if up=true then uG ((jd r i).P i).L.st=true else((jd r i).P i).L.st=1:=by
  rw[S];have:=h.st;split
  ·rename_i X;rw[ai X]at this;exact Wp this
  ·rename_i X;rw[af X]at this;rw[SA this];exact this
 have U:∀p,p≠i->ki r (jd r i) p:=λp Z=>ki.yX r _ Z;rw[ld];split
 ·obtain⟨a,b⟩:=Ab (jd r i) i nobody;exact⟨⟨by rw[a];exact V,λe=>absurd (by rw[b];rfl) e⟩,λp Z=>(U p Z).trans (ki.qT _ _ Z)⟩
 ·rename_i Q
  have Y:((jd r i).P i).L.st=9:=by simpa using Q
  have T:∀(x:iO) (p:Nat),ki x (mP x i) p:=λx p=>by
   unfold mP;simp only;refine ki.iU x i _ ?_ ?_ p
   ·split
    ·exact(wV _ _).1.trans (wU _ _ _)
    ·exact wU _ _ _
   ·split
    ·exact(wV _ _).2.trans (rS _ _ _)
    ·exact rS _ _ _
  obtain⟨a,b⟩:=Ab (jd r i) i (iK ((jd r i).P i).pe);obtain⟨c,d⟩:=T ((jd r i).meet i (iK ((jd r i).P i).pe)) i;exact⟨⟨by rw[c,a];exact V,λ_=>by rw[c,a];exact Y⟩,λp Z=>(U p Z).trans ((ki.qT _ _ Z).trans (T _ p))⟩
theorem Fh {r:iO} {U:Nat->Bool}:∀q,(∀p,p<q->pB (U p) (r.P p))->(∀p,p<q->pB (U p) ((r.jc q).P p))/\∀p,q<=p->ki r (r.jc q) p
 |0,_=>⟨λp Z=>absurd Z eh,λp _=>ki.refl r p⟩
 |q+1,h=>by
  obtain⟨a,b⟩:=Fh (U:=U) q (λp Z=>h p eh);have Y:=b q (Nat.le_refl q);obtain⟨c,d⟩:=Io (r:=r.jc q) q ((h q eh).congr Y.1 Y.2);refine⟨λp Z=> ?_,λp Z=>(b p eh).trans (d p eh)⟩;by_cases e:p=q
  ·subst e;exact c
  ·have:=d p e;exact(a p eh).congr this.1 this.2
theorem xH {r:iO} {up:Bool} (i:Nat)(h:pB (!up) (r.P i)):pB up ((r.iL i up).1.P i)/\(r.iL i up).2=0/\∀p,p≠i->ki r (r.iL i up).1 p:=by
 have Y:(k8 (r.P i).L (if up=true then 0 else 1)).2.2=0/\(if up=true then uG (k8 (r.P i).L (if up=true then 0 else 1)).1.st=true else(k8 (r.P i).L (if up=true then 0 else 1)).1.st=1):=by
  cases up
  ·exact tO (pB.up.1 h).1
  ·exact Eu (by simpa using h.st)
 have e:(r.P i).iL up=(({r.P i with L:=(k8 (r.P i).L (if up=true then 0 else 1)).1,rd:=([],false,false)}:jy).say (k8 (r.P i).L (if up=true then 0 else 1)).2.1,0):=by
  unfold jy.iL;simp only;rw[af (by simp[Y.1])]
 unfold iO.iL;rw[e];simp only;rw[af gZ];obtain⟨x,hx⟩:=gq (({r.P i with L:=(k8 (r.P i).L (if up=true then 0 else 1)).1,rd:=([],false,false)}:jy).say (k8 (r.P i).L (if up=true then 0 else 1)).2.1);have Z:x.L=(k8 (r.P i).L (if up=true then 0 else 1)).1:=by rw[<-hx,Ff]
 rw[hx];obtain⟨a,b⟩:=Ab (r.iU i x) i nobody;have c:((r.iU i x).P i)=x:=by show ll r.P i x i=x;exact jB _ _ _
 refine⟨⟨by rw[a,c,Z];exact Y.2,λe=>absurd (by rw[b];rfl) e⟩,rfl,λp X=>(ki.yX r _ X).trans (ki.qT _ _ X)⟩
structure GN(y:iP):Prop where
 ends:∀c d,c<y.nc->d<2->pB (y.C c).iT ((y.R ((y.C c).e d).1).P ((y.C c).e d).2)
 off:∀c d,c<y.nc->d<2->(y.C c).iT=false->(y.C c).on d=[]
structure Ends(y:iP):Prop where
 ds:∀c d c' d',c<y.nc->d<2->c'<y.nc->d'<2->(y.C c).e d=(y.C c').e d'->c=c'/\d=d'
 p3:∀c d,c<y.nc->d<2->((y.C c).e d).2<3
 rn:∀i,(y.R i).n=3 \/y.n<=i
 en:∀c d,c<y.nc->d<2->((y.C c).e d).1<y.n
theorem j5.oM {k:Nat} (h:j5 y D k):Ends y:=⟨h.ds,λc d hc hd=>(h.en c d hc hd).2,λi=>by
 by_cases e:i<y.n
 ·exact .inl (h.rn i e).1
 ·exact .inr eh,λc d hc hd=>(h.en c d hc hd).1⟩
theorem GN.alike {y':iP} (h:GN y)(Y:y'.nc=y.nc)(hC:∀c,c<y.nc->(y'.C c).e=(y.C c).e/\(y'.C c).iT=(y.C c).iT/\((y.C c).iT=false->∀d,d<2->(y'.C c).on d=[]))
 (Z:∀i p,ki (y.R i) (y'.R i) p):GN y':=by
 refine⟨λc d hc hd=> ?_,λc d hc hd hf=> ?_⟩
 ·rw[Y]at hc;rw[(hC c hc).1,(hC c hc).2.1];exact(h.ends c d hc hd).congr (Z _ _).1 (Z _ _).2
 ·rw[Y]at hc;rw[(hC c hc).2.1]at hf;exact(hC c hc).2.2 hf d hd
theorem Ip(h:GN y)(c d:Nat)(hc:c<y.nc):GN (y.kU c d):=by
 obtain⟨s1,X,s3,s4,Y⟩:=m7 y c d;refine h.alike X (λx hx=>⟨(Y x).1,(Y x).2,λhf e Z=> ?_⟩) (λi p=> ?_)
 ·show(if x=c then(y.C c).put d _ else y.C x).on e=[]
  by_cases ex:x=c
  ·rw[ai ex];subst ex;unfold qF.put;rw[af (by simp[hf])];exact h.off x e hx Z hf
  ·rw[af ex];exact h.off x e hx Z hf
 ·unfold ki;rw[Br];split<;>exact⟨rfl,rfl⟩
theorem Iq {y:iP} (h:GN y):∀k,k<=y.nc->GN (y.j2 k)
 |0,_=>h
 |k+1,hk=>by
  have Y:=Iq h k eh;have Z:(y.j2 k).nc=y.nc:=(j6 y k).2.1;exact Ip (Ip Y k 0 (by rw[Z];omega)) k 1 (by show k<(y.j2 k).nc;rw[Z];omega)
theorem GN.gather {y:iP} (h:GN y):GN y.gather:=by
 unfold iP.gather;have Y:=Iq h y.nc (Nat.le_refl _);obtain⟨e1,X,e3,Z⟩:=n9 (y.j2 y.nc) y.n;refine Y.alike X (λc hc=>⟨by rw[Z],by rw[Z],λhf d hd=>by rw[Z];exact Y.off c d hc hd hf⟩) (λi p=> ?_);rw[(wQ (y.j2 y.nc) i y.n).1];split<;>exact⟨rfl,rfl⟩
theorem GN.jA {y:iP} (h:GN y)(i:Nat)(r:iO)(Z:∀c d,c<y.nc->d<2->((y.C c).e d).1=i->pB (y.C c).iT ((y.R i).P ((y.C c).e d).2)->pB (y.C c).iT (r.P ((y.C c).e d).2)):GN (y.jA i r):=by
 refine⟨λc d hc hd=> ?_,h.off⟩;show pB (y.C c).iT ((jW y.R i r ((y.C c).e d).1).P ((y.C c).e d).2);by_cases e:((y.C c).e d).1=i
 ·rw[e,iF];exact Z c d hc hd e (by have:=h.ends c d hc hd;rw[e]at this;exact this)
 ·rw[iE _ _ e];exact h.ends c d hc hd
theorem GN.jd(h:GN y)(X:Ends y)(pZ:∀i p,i<y.n->p<3->(∀c d,c<y.nc->d<2->(y.C c).e d≠(i,p))->Idle ((y.R i).P p))(i:Nat)(hi:i<y.n):GN (y.jA i (y.R i).tick):=by
 classical
 have ye:(y.R i).n=3:=(X.rn i).resolve_right eh;obtain⟨U,J⟩:∃U:Nat->Bool,∀c d,c<y.nc->d<2->((y.C c).e d).1=i->U ((y.C c).e d).2=(y.C c).iT:=by
  refine⟨λp=>if h:∃c d,c<y.nc/\d<2/\(y.C c).e d=(i,p)then(y.C h.choose).iT else false,λc d hc hd Z=> ?_⟩;have hex:∃c' d',c'<y.nc/\d'<2/\(y.C c').e d'=(i,((y.C c).e d).2):=⟨c,d,hc,hd,by rw[<-Z]⟩
  show(if h:∃c' d',c'<y.nc/\d'<2/\(y.C c').e d'=(i,((y.C c).e d).2)then(y.C h.choose).iT else false)=_;rw[dif_pos hex];obtain⟨d',j0,kh,E⟩:=hex.choose_spec;have:=(X.ds _ _ _ _ j0 kh hc hd (E.trans (by rw[<-Z]))).1;rw[this]
 have A:∀p,p<3->pB (U p) ((y.R i).P p) \/ ∀c d,c<y.nc->d<2->(y.C c).e d≠(i,p):=λp _=>by
  by_cases hex:∃c d,c<y.nc/\d<2/\(y.C c).e d=(i,p)
  ·obtain⟨c,d,hc,hd,Z⟩:=hex;refine .inl ?_;have Y:=h.ends c d hc hd;have Q:=J c d hc hd (by rw[Z]);rw[Z]at Y Q;rw[Q];exact Y
  ·exact .inr λc d hc hd Z=>hex ⟨c,d,hc,hd,Z⟩
 obtain⟨V,H⟩:∃V:Nat->Bool,V=λp=>if h:∃c d,c<y.nc/\d<2/\(y.C c).e d=(i,p)then U p else false:=⟨_,rfl⟩
 have T:∀p,p<3->pB (V p) ((y.R i).P p):=λp G=>by
  rw[H];show pB (if h:∃c d,c<y.nc/\d<2/\(y.C c).e d=(i,p)then U p else false) _;by_cases hex:∃c d,c<y.nc/\d<2/\(y.C c).e d=(i,p)
  ·rw[dif_pos hex];refine(A p G).resolve_right (λu=> ?_);obtain⟨c,d,hc,hd,Z⟩:=hex;exact u c d hc hd Z
  ·rw[dif_neg hex];have M:=pZ i p hi G (λc d hc hd Z=>hex ⟨c,d,hc,hd,Z⟩);exact⟨by simpa using M.st,λe=>absurd (by rw[M.pe];rfl) e⟩
 have j:=(Fh (r:=y.R i) (U:=V) 3 T).1;refine h.jA i _ (λc d hc hd Z _=> ?_);have S:=X.p3 c d hc hd;have Y:=j ((y.C c).e d).2 S;have hex:∃c' d',c'<y.nc/\d'<2/\(y.C c').e d'=(i,((y.C c).e d).2):=⟨c,d,hc,hd,by rw[<-Z]⟩
 have hv:V ((y.C c).e d).2=(y.C c).iT:=by
  rw[H];show(if h:∃c' d',c'<y.nc/\d'<2/\(y.C c').e d'=(i,((y.C c).e d).2)then U ((y.C c).e d).2 else false)=_;rw[dif_pos hex];exact J c d hc hd Z
 rw[hv]at Y;show pB _ (((y.R i).jc (y.R i).n).P _);rw[ye];exact Y
theorem GN.jt {y:iP} (h:GN y)(M:Ends y)(c d k:Nat)(hc:c<y.nc)(hd:d<2):GN (y.jt c d k):=by
 have Q:GN (y.lz c {y.C c with on:=jW (y.C c).on d (((y.C c).on d).drop k)}):=by
  refine h.alike rfl (λx hx=> ?_) (λi p=>ki.refl _ _);show(if x=c then _ else y.C x).e=_/\(if x=c then _ else y.C x).iT=_/\(_->∀d',d'<2->(if x=c then _ else y.C x).on d'=[])
  by_cases e:x=c
  ·rw[ai e];subst e;refine⟨rfl,rfl,λhf d' Z=> ?_⟩;show jW (y.C x).on d _ d'=[]
   by_cases U:d'=d
   ·subst U;rw[iF,h.off x d' hx Z hf];simp
   ·rw[iE _ _ U];exact h.off x d' hx Z hf
  ·rw[af e];exact⟨rfl,rfl,λhf d' Z=>h.off x d' hx Z hf⟩
 have T:∀x,((y.lz c {y.C c with on:=jW (y.C c).on d (((y.C c).on d).drop k)}).C x).e=(y.C x).e/\((y.lz c {y.C c with on:=jW (y.C c).on d (((y.C c).on d).drop k)}).C x).iT=(y.C x).iT:=λx=>by
  show(if x=c then _ else y.C x).e=_/\(if x=c then _ else y.C x).iT=_;by_cases e:x=c
  ·rw[ai e];subst e;exact⟨rfl,rfl⟩
  ·rw[af e];exact⟨rfl,rfl⟩
 refine Q.jA _ _ (λx d' hx Z S V=> ?_);rw[(T x).1]at S V⊢;rw[(T x).2]at V⊢;have H:x<y.nc:=hx;have Y:pB (y.C x).iT ((y.R ((y.C c).e (1-d)).1).P ((y.C x).e d').2):=V;by_cases X:(y.C c).iT=true
 ·have J:Oy ((y.R ((y.C c).e (1-d)).1).P ((y.C c).e (1-d)).2):=by
   have:=h.ends c (1-d) hc eh;rw[X]at this;exact pB.up.1 this
  obtain⟨a,b⟩:=SC ((y.C c).e (1-d)).2 (((y.C c).on d).take k) J;by_cases e:((y.C x).e d').2=((y.C c).e (1-d)).2
  ·have:=(M.ds x d' c (1-d) H Z hc eh (by rw[cL];exact⟨S,e⟩)).1;rw[e,this,X];exact pB.up.2 a
  ·exact Y.congr (b _ e).1 (b _ e).2
 ·have hf:(y.C c).iT=false:=by simpa using X
  rw[h.off c d hc hd hf];have:=Wq (y.R ((y.C c).e (1-d)).1) ((y.C c).e (1-d)).2 ((y.C x).e d').2;rw[List.take_nil];exact Y.congr this.1 this.2
theorem GN.jZ {y:iP} (h:GN y)(hE:Ends y)(c:Nat)(up:Bool)(hc:c<y.nc)(hu:(y.C c).iT= !up):GN (y.jZ c up):=by
 obtain⟨Z,S⟩:=gq ((y.C c).e 0);obtain⟨Y,H⟩:=gq ((y.C c).e 1);have jx:Z≠Y:=λe=>by
  have:=(hE.ds c 0 c 1 hc eh hc eh (by rw[S,H,e])).2;omega
 have h0:=h.ends c 0 hc eh;have h1:=h.ends c 1 hc eh;rw[S,hu]at h0;rw[H,hu]at h1;obtain⟨E,_,b0⟩:=xH Z.2 h0;obtain⟨X,G⟩:∃X:qF,X={y.C c with iT:=up,on:=λ_=>[] }:=⟨_,rfl⟩
 have T:X.e=(y.C c).e:=by rw[G]
 have j:X.iT=up:=by rw[G]
 have cbo:∀d,X.on d=[] :=λd=>by rw[G]
 have hf:∀(z:iP) (d:Nat) (e:Nat×Nat),(z.C c).e d=e->z.lI c d up=z.jA e.1 ((z.R e.1).iL e.2 up).1:=by
  intro z d e he;unfold iP.lI;rw[he]
 have Q:(y.lz c X).C c=X:=iF _ _ _;have hp:y.jZ c up=((y.lz c X).jA Z.1 ((y.R Z.1).iL Z.2 up).1).jA Y.1 ((jW y.R Z.1 ((y.R Z.1).iL Z.2 up).1 Y.1).iL Y.2 up).1:=by
  unfold iP.jZ;rw[<-G,hf (y.lz c X) 0 Z (by rw[Q,T,S]),hf _ 1 Y (by show((y.lz c X).C c).e 1=Y;rw[Q,T,H])];rfl
 obtain⟨r1,lg⟩:=gq (jW y.R Z.1 ((y.R Z.1).iL Z.2 up).1 Y.1);have U:∀p,(Y.1,p)≠Z->ki (y.R Y.1) r1 p:=λp oP=>by
  rw[<-lg];by_cases e:Y.1=Z.1
  ·rw[e,iF];exact b0 p (λV=>oP (by rw[cL];exact⟨e,V⟩))
  ·rw[iE _ _ e];exact ki.refl _ _
 have A:pB (!up) (r1.P Y.2):=h1.congr (U Y.2 (λe=>jx e.symm)).1 (U Y.2 (λe=>jx e.symm)).2;obtain⟨a1,_,b1⟩:=xH Y.2 A;rw[hp,lg];have u:∀i p,pB up ((jW (jW y.R Z.1 ((y.R Z.1).iL Z.2 up).1) Y.1 (r1.iL Y.2 up).1 i).P p) \/((i,p)≠Z/\(i,p)≠Y):=λi p=>by
  by_cases x1:(i,p)=Y
  ·left;rw[<-x1]at a1⊢;rw[iF];exact a1
  ·by_cases x0:(i,p)=Z
   ·left;by_cases e:i=Y.1
    ·rw[e,iF];have J:p≠Y.2:=λV=>x1 (by rw[cL];exact⟨e,V⟩);have hr:r1.P p=((y.R Z.1).iL Z.2 up).1.P Z.2:=by
      rw[<-lg,<-e,<-x0,iF]
     exact(E.congr (by rw[hr]) (by rw[hr]):pB up (r1.P p)).congr (b1 p J).1 (b1 p J).2
    ·rw[iE _ _ e,<-x0,iF];rw[<-x0]at E;exact E
   ·exact .inr ⟨x0,x1⟩
 have ku:∀i p,(i,p)≠Z->(i,p)≠Y->ki (y.R i) (jW (jW y.R Z.1 ((y.R Z.1).iL Z.2 up).1) Y.1 (r1.iL Y.2 up).1 i) p:=λi p x0 x1=>by
  by_cases e:i=Y.1
  ·subst e;rw[iF];exact(U p x0).trans (b1 p (λV=>x1 (by rw[cL];exact⟨rfl,V⟩)))
  ·rw[iE _ _ e];by_cases e':i=Z.1
   ·subst e';rw[iF];exact b0 p (λV=>x0 (by rw[cL];exact⟨rfl,V⟩))
   ·rw[iE _ _ e'];exact ki.refl _ _
 refine⟨λx d hx hd=> ?_,λx d hx hd hf=> ?_⟩
 ·show pB ((if x=c then X else y.C x):qF).iT ((jW (jW y.R Z.1 ((y.R Z.1).iL Z.2 up).1) Y.1 (r1.iL Y.2 up).1 (((if x=c then X else y.C x):qF).e d).1).P (((if x=c then X else y.C x):qF).e d).2);have vM:x<y.nc:=hx;by_cases e:x=c
  ·rw[ai e,T,j];refine(u _ _).resolve_right (λhn=> ?_);have:d=0 \/d=1:=eh;rcases this with rfl|rfl
   ·exact hn.1 S
   ·exact hn.2 H
  ·rw[af e];have n0:(y.C x).e d≠Z:=λV=>e (hE.ds x d c 0 vM hd hc eh (by rw[S];exact V)).1;have n1:(y.C x).e d≠Y:=λV=>e (hE.ds x d c 1 vM hd hc eh (by rw[H];exact V)).1;have:=ku ((y.C x).e d).1 ((y.C x).e d).2 n0 n1;exact(h.ends x d vM hd).congr this.1 this.2
 ·have M:((if x=c then X else y.C x):qF).iT=false:=hf;show((if x=c then X else y.C x):qF).on d=[]
  by_cases e:x=c
  ·rw[ai e];exact cbo d
  ·rw[af e]at M⊢;exact h.off x d hx hd M
theorem Ends.jZ {y:iP} (h:Ends y)(c:Nat)(up:Bool):Ends (y.jZ c up):=by
 obtain⟨g1,V,g3,g4,Y⟩:=pK y c up;refine⟨λa d a' d' Z hd ha' T e=> ?_,λa d Z hd=> ?_,λi=> ?_,λa d Z hd=> ?_⟩
 ·rw[(Y a).1,(Y a').1]at e;rw[V]at Z ha';exact h.ds a d a' d' Z hd ha' T e
 ·rw[(Y a).1];rw[V]at Z;exact h.p3 a d Z hd
 ·have U:∀(x:iP) (d:Nat),(∀i,(x.R i).n=3 \/x.n<=i)->∀i,((x.lI c d up).R i).n=3 \/(x.lI c d up).n<=i:=λx d hx i=>by
   show(jW x.R ((x.C c).e d).1 _ i).n=3 \/x.n<=i;by_cases e:i=((x.C c).e d).1
   ·rw[e,iF,(jK.iL _ _ up).n];exact hx _
   ·rw[iE _ _ e];exact hx i
  unfold iP.jZ;obtain⟨X,S⟩:∃X:qF,X={y.C c with iT:=up,on:=λ_=>[] }:=⟨_,rfl⟩
  rw[<-S];exact U _ 1 (U (y.lz c X) 0 h.rn) i
 ·rw[(Y a).1,g1];rw[V]at Z;exact h.en a d Z hd
theorem GN.jD(up:Bool):∀(l:List Nat) {y:iP},GN y->Ends y->l.Nodup->(∀c∈l,c<y.nc/\(y.C c).iT= !up)->GN (y.jD up l)/\Ends (y.jD up l)/\∀x,((y.jD up l).C x).iT=if x∈l then up else(y.C x).iT
 |[],y,h,hE,_,_=>⟨h,hE,λx=>by simp[iP.jD]⟩
 |c::l,y,h,hE,xI,hl=>by
  obtain⟨g1,U,g3,g4,V⟩:=pK y c up;have hc:=hl c gZ;have X:=bq.1 xI;obtain⟨a,b,d⟩:=GN.jD up l (h.jZ hE c up hc.1 hc.2) (hE.jZ c up) X.2 (λx hx=>by
   have T:x≠c:=λe=>X.1 (e▸hx);rw[U,(V x).2,af T];exact hl x (by simp[hx]))
  refine⟨a,b,λx=> ?_⟩;show(((y.jZ c up).jD up l).C x).iT=_;rw[d x,(V x).2];by_cases Z:x∈l
  ·rw[ai Z,ai (by simp[Z])]
  ·by_cases Y:x=c
   ·rw[af Z,ai Y,ai (by simp[Y])]
   ·rw[af Z,af Y,af (by simp[Z,Y])]
theorem GN.restart {y:iP} {D:Nat} (h:GN y)(A:j5 y D 0)(i:Int):GN (y.restart i).1/\∀x,x<y.nc->((y.restart i).1.C x).iT=(y.C x).iT:=by
 unfold iP.restart;split
 ·exact⟨h,λ_ _=>rfl⟩
 ·rename_i hi
  obtain⟨k,E⟩:=gq ((i-1).toNat);rw[E];obtain⟨l,hl⟩:=gq (y.lA k);rw[hl];have X:∀c,c∈l↔c<y.nc/\(y.C c).iT=true/\(((y.C c).e 0).1=k \/((y.C c).e 1).1=k):=λc=>by
   rw[<-hl];unfold iP.lA;simp[ig]
  have Q:l.Nodup:=by
   rw[<-hl];exact du dj bV
  obtain⟨a,b,d⟩:=GN.jD false l h A.oM Q (λc hc=>⟨((X c).1 hc).1,((X c).1 hc).2.1⟩);obtain⟨s1,V,s3,s4,S⟩:=nt false l y;obtain⟨Z,M⟩:=gq (y.jD false l);rw[M]at a b d s1 V s3 s4 S⊢;have J:GN (Z.jA k (jO i 3 (y.ms k))):=by
   refine a.jA k _ (λc e hc he heq _=> ?_);have u:c<y.nc:=by rw[V]at hc;exact hc
   have hf:(Z.C c).iT=false:=by
    rw[d c];by_cases Y:c∈l
    ·rw[ai Y]
    ·rw[af Y];by_cases T:(y.C c).iT=true
     ·exfalso;rw[S c]at heq;refine Y ((X c).2 ⟨u,T,?_⟩);have:e=0 \/e=1:=eh;rcases this with rfl|rfl
      ·exact .inl heq
      ·exact .inr heq
     ·simpa using T
   rw[hf];have U:=qQ i (y.ms k) ((Z.C c).e e).2;exact⟨by simpa using U.st,λe=>absurd (by rw[U.pe];rfl) e⟩
  have b2:Ends (Z.jA k (jO i 3 (y.ms k))):=⟨b.ds,b.p3,λj=>by
   show(jW Z.R k _ j).n=3 \/Z.n<=j;by_cases e:j=k
   ·rw[e,iF];exact .inl rfl
   ·rw[iE _ _ e];exact b.rn j,b.en⟩
  obtain⟨H,_,G⟩:=GN.jD true l J b2 Q (λc hc=>⟨by show c<Z.nc;rw[V];exact((X c).1 hc).1,by show(Z.C c).iT=_;rw[d c,ai hc];rfl⟩);refine⟨H.gather,λx hx=> ?_⟩;rw[((lV _).2.2.2 x).2,G x];show(if x∈l then true else(Z.C x).iT)=_;rw[d x];by_cases Y:x∈l
  ·rw[ai Y,((X x).1 Y).2.1]
  ·rw[af Y,af Y]
theorem GN.iL {y:iP} {D:Nat} (h:GN y)(Y:j5 y D 0)(i:Int)(up:Bool):GN (y.iL i up).1/\∀x,((y.iL i up).1.C x).iT=if(x:Int)=i/\x<y.nc then up else(y.C x).iT:=by
 unfold iP.iL;split
 ·rename_i hi
  exact⟨h,λx=>by rw[af eh]⟩
 ·rename_i hi
  split
  ·rename_i Z
   refine⟨h,λx=> ?_⟩;split
   ·rename_i hx
    have:x=i.toNat:=eh;rw[this,Z]
   ·rfl
  ·rename_i Z
   refine⟨(h.jZ Y.oM i.toNat up eh (by cases hv:(y.C i.toNat).iT<;>cases up<;>simp_all)).gather,λx=> ?_⟩;rw[((lV _).2.2.2 x).2,((pK y i.toNat up).2.2.2.2 x).2];by_cases e:x=i.toNat
   ·rw[ai e,ai eh]
   ·rw[af e,af eh]
theorem GN.tick {y:iP} {D:Nat} (h:GN y)(Z:j5 y D 0)(i:Int):GN (y.tick i).1/\∀x,((y.tick i).1.C x).iT=(y.C x).iT:=by
 unfold iP.tick;split
 ·exact⟨h,λ_=>rfl⟩
 ·exact⟨(h.jd Z.oM Z.idle (i-1).toNat eh).gather,λx=>((lV _).2.2.2 x).2⟩
theorem Fj(y:iP)(c d k x:Nat):((y.jt c d k).C x).iT=(y.C x).iT:=by
 show((if x=c then _ else y.C x):qF).iT=_;by_cases e:x=c
 ·rw[ai e];subst e;rfl
 ·rw[af e]
theorem GN.deliver {y:iP} {D:Nat} (h:GN y)(Z:j5 y D 0)(i d m:Int):GN (y.deliver i d m).1/\∀x,((y.deliver i d m).1.C x).iT=(y.C x).iT:=by
 unfold iP.deliver;split
 ·exact⟨h,λ_=>rfl⟩
 ·exact⟨(h.jt Z.oM _ _ _ eh eh).gather,λx=>by rw[((lV _).2.2.2 x).2,Fj]⟩
theorem GN.send {y:iP} (h:GN y)(f t:Int)(tx:List UInt8):GN (y.send f t tx).1/\∀x,((y.send f t tx).1.C x).iT=(y.C x).iT:=by
 unfold iP.send;split
 ·exact⟨h,λ_=>rfl⟩
 ·split
  ·exact⟨h,λ_=>rfl⟩
  ·refine⟨GN.gather (h.jA _ _ (λc d hc hd he Z=> ?_)),λx=>((lV _).2.2.2 x).2⟩;have:∀(r:iO) (p:Nat),ki r (kg r t tx).1 p:=λr p=>by
    unfold kg;split
    ·exact ki.refl r p
    ·exact ki.send r (t,8,tx) p
   exact Z.congr (this _ _).1 (this _ _).2
theorem GN.jc {y:iP} {D:Nat} (h:GN y)(Y:j5 y D 0)(Z:D<=800000000):∀q,q<=6->GN (y.jc q)
 |0,_=>h
 |q+1,hq=>((GN.jc h Y Z q eh).tick (Y.jc Z q eh) ((q:Int)+1)).1
theorem GN.jQ {y:iP} {D:Nat} (h:GN y)(X:j5 y D 0)(Y:D<=890000000):∀q,q<=9->GN (y.jQ q)
 |0,_=>h
 |q+1,hq=>by
  have Z:=X.jQ Y q eh;have V:=GN.jQ h X Y q eh;exact((V.deliver Z (q:Int) 0 2000).1.deliver (Z.deliver eh (q:Int) 0 2000) (q:Int) 1 2000).1
theorem GN.turns {y:iP} {D:Nat} (h:GN y)(Z:j5 y D 0)(Y:D<=810000000):∀t,t<=12->GN (y.turns t)
 |0,_=>h
 |t+1,ht=>(GN.turns h Z Y t eh).jQ (Z.turns Y t eh) eh y.nc Z.c9
theorem GN.round {y:iP} {D:Nat} (h:GN y)(Z:j5 y D 0)(Y:D<=800000000):GN y.round:=
 (h.jc Z Y y.n Z.n6).turns (Z.jc Y y.n Z.n6) (by have:=Z.n6;omega) 12 (Nat.le_refl _)
def Bz(v:AV):Bool:=v.kind.toList==[112,108,117,103]
theorem GN.act(h:GN y)(Z:j5 y D 0)(V:D<=800000000)(v:AV):GN (sj y v)/\∀x,x<y.nc->((sj y v).C x).iT=if Bz v=true/\(x:Int)=v.a then v.b==1 else(y.C x).iT:=by
 unfold sj;by_cases k1:(v.kind.toList==[112,108,117,103])=true
 ·rw[ai k1];obtain⟨a,b⟩:=h.iL Z v.a (v.b==1);refine⟨a,λx hx=> ?_⟩;rw[b x];have Y:Bz v=true:=k1;by_cases e:(x:Int)=v.a
  ·rw[ai ⟨e,hx⟩,ai ⟨Y,e⟩]
  ·rw[af (λh=>e h.1),af (λh=>e h.2)]
 ·rw[af k1];have Y:∀x:Nat,¬(Bz v=true/\(x:Int)=v.a):=λx e=>k1 e.1;have U:∀z:iP,(GN z/\∀x,x<y.nc->(z.C x).iT=(y.C x).iT)->GN z/\∀x,x<y.nc->(z.C x).iT=if Bz v=true/\(x:Int)=v.a then v.b==1 else(y.C x).iT:=λz X=>⟨X.1,λx hx=>by rw[af (Y x)];exact X.2 x hx⟩
  apply U;split
  ·obtain⟨a,b⟩:=h.tick Z v.a;exact⟨a,λx _=>b x⟩
  ·split
   ·obtain⟨a,b⟩:=h.deliver Z v.a v.b v.c;exact⟨a,λx _=>b x⟩
   ·split
    ·exact h.restart Z v.a
    ·split
     ·obtain⟨a,b⟩:=h.send v.a v.b v.s.data.toList;exact⟨a,λx _=>b x⟩
     ·split
      ·exact⟨h.round Z V,λx _=>((kM y).2.2.2 x).2⟩
      ·exact⟨h,λ_ _=>rfl⟩
theorem Fk(many:Nat)(L:List oQ):GN (jS many L):=by
 refine⟨λc d _ _=> ?_,λc d _ _ _=>rfl⟩;have Z:=qQ (((((jS many L).C c).e d).1:Int)+1) (pz L (((jS many L).C c).e d).1) (((jS many L).C c).e d).2;have Y:((jS many L).R (((jS many L).C c).e d).1).P (((jS many L).C c).e d).2=(jO (((((jS many L).C c).e d).1:Int)+1) 3 (pz L (((jS many L).C c).e d).1)).P (((jS many L).C c).e d).2:=rfl;rw[Y];exact⟨by rw[show((jS many L).C c).iT=false from rfl,af eA];exact Z.st,λe=>absurd (by
  show((jO _ 3 _).P _).pe.who=0;rw[Z.pe];rfl) e⟩
def yj(p:List UInt8):Prop:=1<=p.length/\p.length<=60
def Frames(l:List UInt8)(ps:List (List UInt8)):Prop:=l=ps.flatMap Plain.lS/\∀p∈ps,yj p
def lL:kE:=([],false,false)
theorem Frames.nil:Frames [] [] :=⟨rfl,λ_ h=>by simp at h⟩
theorem Frames.snoc {l:List UInt8} (h:Frames l ps) {p:List UInt8} (X:yj p):Frames (l++Plain.lS p) (ps++ [p]):=by
 obtain⟨Z,Y⟩:=h;refine⟨by rw[Z];simp,λq V=> ?_⟩;rcases av.1 V with e|e
 ·exact Y q e
 ·rw[ar.1 e];exact X
theorem rF:∀(ps:List (List UInt8)),(∀p∈ps,yj p)->kB lL (ps.flatMap Plain.lS)=(ps,0,lL)
 |[],_=>rfl
 |p::ps,h=>by
  have e:(p::ps).flatMap Plain.lS=Plain.lS p++ps.flatMap Plain.lS:=gZ;have Z:kB lL (Plain.lS p)=([p],0,lL):=Nm p (h p gZ).2;rw[e,rz,Z];simp only;rw[rF ps (λq Y=>h q (by simp[Y]))];rfl
structure nC(r r':iO):Prop where
 rd:∀p,(r'.P p).rd=(r.P p).rd
 out:∀p ps,Frames (r.P p).out ps->∃qs,Frames (r'.P p).out (ps++qs)
theorem nC.refl(r:iO):nC r r:=⟨λ_=>rfl,λ_ ps h=>⟨[],by simpa using h⟩⟩
theorem nC.trans {a b c:iO} (h:nC a b)(g:nC b c):nC a c:=by
 refine⟨λp=>(g.rd p).trans (h.rd p),λp ps X=> ?_⟩;obtain⟨q1,Z⟩:=h.out p ps X;obtain⟨q2,Y⟩:=g.out p _ Z;exact⟨q1++q2,by rw[<-aD];exact Y⟩
theorem nC.xV {r r':iO} (h:r'.P=r.P):nC r r':=⟨λ_=>by rw[h],λ_ ps Z=>⟨[],by rw[h];simpa using Z⟩⟩
structure su(p q:jy):Prop where
 rd:q.rd=p.rd
 out:∀ps,Frames p.out ps->∃qs,Frames q.out (ps++qs)
theorem su.refl(p:jy):su p p:=⟨rfl,λps h=>⟨[],by simpa using h⟩⟩
theorem su.trans {a b c:jy} (h:su a b)(g:su b c):su a c:=by
 refine⟨g.rd.trans h.rd,λps X=> ?_⟩;obtain⟨q1,Z⟩:=h.out ps X;obtain⟨q2,Y⟩:=g.out _ Z;exact⟨q1++q2,by rw[<-aD];exact Y⟩
theorem su.put(p:jy)(c:UInt8)(s:List UInt8):su p (p.put c s):=by
 unfold jy.put;split
 ·exact su.refl p
 ·split
  ·rename_i h
   exact⟨rfl,λps Z=>⟨[c::s],Z.snoc ⟨gZ,by simpa using h⟩⟩⟩
  ·exact su.refl p
theorem su.say:∀(l:List kP) (p:jy),su p (p.say l)
 |[],p=>su.refl p
 |q::r,p=>by
  refine su.trans ?_ (su.say r _);split
  ·exact su.put _ _ _
  ·exact su.refl p
theorem su.kJ:∀(l:List (Int×PS)) (p:jy),su p (p.kJ l)
 |[],p=>su.refl p
 |q::r,p=>(su.put p 83 (ru q.1 q.2.1 q.2.2)).trans (su.kJ r _)
theorem su.aha(p:jy)(L:LS)(l:List kP):su p (({p with L:=L}:jy).say l):=by
 have h:su p ({p with L:=L}:jy):=⟨rfl,λps h=>⟨[],by simpa using h⟩⟩
 exact h.trans (su.say l _)
theorem su.tick(p:jy):su p p.tick:=su.aha p _ _
theorem su.packet(p:jy)(s:List UInt8):su p (p.packet s):=by
 unfold jy.packet;simp only;split
 ·exact su.aha p _ _
 ·exact su.refl p
theorem nC.iU(r:iO)(i:Nat) {q:jy} (h:su (r.P i) q):nC r (r.iU i q):=by
 refine⟨λp=> ?_,λp ps Z=> ?_⟩
 ·show(ll r.P i q p).rd=_;by_cases e:p=i
  ·subst e;rw[jB];exact h.rd
  ·rw[ju _ _ e]
 ·show∃qs,Frames (ll r.P i q p).out (ps++qs);by_cases e:p=i
  ·subst e;rw[jB];exact h.out ps Z
  ·rw[ju _ _ e];exact⟨[],by simpa using Z⟩
theorem nC.meet(r:iO)(i:Nat)(q:lr):nC r (r.meet i q):=by
 refine⟨λp=> ?_,λp ps Z=>⟨[],?_⟩⟩
 ·rw[(mZ r i q).2.2.2];by_cases e:p=i
  ·subst e;rw[jB]
  ·rw[ju _ _ e]
 ·rw[(mZ r i q).2.2.2];by_cases e:p=i
  ·subst e;rw[jB];simpa using Z
  ·rw[ju _ _ e];simpa using Z
theorem nC.send(r:iO)(t:zi):nC r (r.send t):=by
 unfold iO.send;split
 ·exact nC.xV rfl
 ·split
  ·exact nC.xV rfl
  ·exact nC.iU _ _ (su.put _ _ _)
theorem nC.state(r:iO)(i:Nat)(l:List UInt8):nC r (jm r i l):=by
 unfold jm;simp only;split
 ·exact nC.refl r
 ·split
  ·exact nC.xV (oJ _ _).2.2.2
  ·split
   ·exact⟨λp=>(nC.iU _ i (su.put _ _ _)).rd p,λp ps Z=>(nC.iU _ i (su.put _ _ _)).out p ps Z⟩
   ·exact nC.xV rfl
theorem nC.take(r:iO)(i:Nat)(c:UInt8)(s:List UInt8):nC r (r.take i c s):=by
 rw[lP];have Z:nC r (j4 r i c s):=by
  unfold j4;split
  ·exact nC.iU _ _ (su.packet _ _)
  ·exact nC.refl r
 split
 ·exact Z.trans (nC.meet _ _ _)
 ·refine Z.trans ?_;unfold mF;split
  ·split
   ·exact nC.meet _ _ _
   ·exact nC.refl _
  ·split
   ·exact nC.state _ _ _
   ·split
    ·unfold kF;simp only;split<;>exact nC.xV rfl
    ·split
     ·unfold rC;split
      ·exact nC.send _ _
      ·exact nC.refl _
     ·exact nC.refl _
theorem nC.takes:∀(l:List (List UInt8)) (r:iO) (i:Nat),nC r (r.takes i l)
 |[],r,_=>nC.refl r
 |t::l,r,i=>by
  refine nC.trans ?_ (nC.takes l _ i);cases t with
  |nil=>exact nC.refl r
  |cons c s=>exact nC.take r i c s
theorem nC.iY(r:iO)(i:Nat):nC r (r.iY i):=by
 rw[ld];have Z:nC r (jd r i):=nC.iU _ _ (su.tick _);split
 ·exact Z.trans (nC.meet _ _ _)
 ·refine Z.trans ((nC.meet _ i (iK ((jd r i).P i).pe)).trans ?_);unfold mP;simp only;refine nC.iU _ i ?_;split
  ·exact(su.put _ _ _).trans (su.kJ _ _)
  ·exact su.put _ _ _
theorem nC.jc(r:iO):∀q,nC r (r.jc q)
 |0=>nC.refl r
 |q+1=>(nC.jc r q).trans (nC.iY _ _)
theorem nC.kg(r:iO)(t:Int)(tx:List UInt8):nC r (kg r t tx).1:=by
 unfold Rt.kg;split
 ·exact nC.refl r
 ·exact nC.send r (t,8,tx)
theorem Ir(r:iO)(i:Nat)(l:List UInt8):((r.recv i l).P i).rd=(kB (r.P i).rd l).2.2/\(∀p,p≠i->((r.recv i l).P p).rd=(r.P p).rd)/\∀p ps,Frames (r.P p).out ps->∃qs,Frames ((r.recv i l).P p).out (ps++qs):=by
 unfold iO.recv;simp only;have h:=nC.takes (kB (r.P i).rd l).1 (r.iU i {r.P i with rd:=(kB (r.P i).rd l).2.2}) i;have Z:∀p,((r.iU i {r.P i with rd:=(kB (r.P i).rd l).2.2}).P p).out=(r.P p).out:=λp=>by
  show(ll r.P i _ p).out=_;by_cases e:p=i
  ·subst e;rw[jB]
  ·rw[ju _ _ e]
 refine⟨?_,λp Y=> ?_,λp ps hf=>h.out p ps (by rw[Z];exact hf)⟩
 ·rw[h.rd];show(ll r.P i _ i).rd=_;rw[jB]
 ·rw[h.rd];show(ll r.P i _ p).rd=_;rw[ju _ _ Y]
theorem Iu {r:iO} {up:Bool} (i:Nat)(h:pB (!up) (r.P i)):(((r.iL i up).1.P i).rd=lL)/\(∀p,p≠i->((r.iL i up).1.P p).rd=(r.P p).rd)/\∀p ps,Frames (r.P p).out ps->∃qs,Frames ((r.iL i up).1.P p).out (ps++qs):=by
 have V:(k8 (r.P i).L (if up=true then 0 else 1)).2.2=0:=by
  cases up
  ·exact(tO (pB.up.1 h).1).1
  ·exact(Eu (by simpa using h.st)).1
 have e:(r.P i).iL up=(({r.P i with L:=(k8 (r.P i).L (if up=true then 0 else 1)).1,rd:=([],false,false)}:jy).say (k8 (r.P i).L (if up=true then 0 else 1)).2.1,0):=by
  unfold jy.iL;simp only;rw[af (by simp[V])]
 unfold iO.iL;rw[e];simp only;rw[af gZ];obtain⟨x,hx⟩:=gq (({r.P i with L:=(k8 (r.P i).L (if up=true then 0 else 1)).1,rd:=([],false,false)}:jy).say (k8 (r.P i).L (if up=true then 0 else 1)).2.1);have Y:su {r.P i with L:=(k8 (r.P i).L (if up=true then 0 else 1)).1,rd:=([],false,false)} x:=by rw[<-hx];exact su.say _ _
 rw[hx];have Z:=nC.meet (r.iU i x) i nobody;refine⟨?_,λp S=> ?_,λp ps hf=> ?_⟩
 ·rw[Z.rd];show(ll r.P i x i).rd=_;rw[jB,Y.rd];rfl
 ·rw[Z.rd];show(ll r.P i x p).rd=_;rw[ju _ _ S]
 ·by_cases X:p=i
  ·subst X;obtain⟨q1,U⟩:=Y.out ps hf;obtain⟨q2,T⟩:=Z.out p (ps++q1) (by show Frames (ll r.P p x p).out _;rw[jB];exact U);exact⟨q1++q2,by rw[<-aD];exact T⟩
  ·exact Z.out p ps (by show Frames (ll r.P i x p).out _;rw[ju _ _ X];exact hf)
def jY(y:iP)(c d:Nat):kE:=((y.R ((y.C c).e (1-d)).1).P ((y.C c).e (1-d)).2).rd
structure jE(y:iP):Prop where
 q:∀c d,c<y.nc->d<2->(kB (jY y c d) ((y.C c).on d)).2=(0,lL)/\∀p∈(kB (jY y c d) ((y.C c).on d)).1,yj p
 o:∀i p,∃ps,Frames ((y.R i).P p).out ps
theorem jE.kU {y:iP} (h:jE y)(c d:Nat)(_hc:c<y.nc):jE (y.kU c d):=by
 have U:∀i p,(((y.kU c d).R i).P p).rd=((y.R i).P p).rd:=λi p=>by
  rw[Br];split<;>rfl
 have J:∀x,((y.kU c d).C x).e=(y.C x).e:=λx=>((m7 y c d).2.2.2.2 x).1;have G:∀x e,jY (y.kU c d) x e=jY y x e:=λx e=>by
  unfold jY;rw[J,U]
 refine⟨λx e hx Q=> ?_,λi p=> ?_⟩
 ·have E:x<y.nc:=hx;rw[G];have M:((y.kU c d).C x).on e=(y.C x).on e \/(x=c/\e=d/\((y.kU c d).C x).on e=(y.C x).on e++((y.R ((y.C c).e d).1).P ((y.C c).e d).2).out):=by
   show((if x=c then(y.C c).put d _ else y.C x):qF).on e=_ \/(x=c/\e=d/\((if x=c then(y.C c).put d _ else y.C x):qF).on e=_);by_cases ex:x=c
   ·rw[ai ex];subst ex;unfold qF.put;split
    ·show jW (y.C x).on d _ e=_ \/(x=x/\e=d/\jW (y.C x).on d _ e=_);by_cases ed:e=d
     ·subst ed;rw[iF];exact .inr ⟨rfl,rfl,rfl⟩
     ·rw[iE _ _ ed];exact .inl rfl
    ·exact .inl rfl
   ·rw[af ex];exact .inl rfl
  obtain⟨T,S⟩:=h.q x e E Q;rcases M with X|⟨_,_,X⟩
  ·rw[X];exact⟨T,S⟩
  ·obtain⟨ps,Y,Z⟩:=h.o ((y.C c).e d).1 ((y.C c).e d).2;rw[X,rz,T,Y,rF ps Z];refine⟨rfl,λp H=> ?_⟩;rcases av.1 H with V|V
   ·exact S p V
   ·exact Z p V
 ·rw[Br];split
  ·exact⟨[],Frames.nil⟩
  ·exact h.o i p
theorem jE.j2 {y:iP} (h:jE y):∀k,k<=y.nc->jE (y.j2 k)
 |0,_=>h
 |k+1,hk=>by
  have Y:=jE.j2 h k eh;have Z:(y.j2 k).nc=y.nc:=(j6 y k).2.1;exact(Y.kU k 0 (by rw[Z];omega)).kU k 1 (by show k<(y.j2 k).nc;rw[Z];omega)
theorem jE.gather {y:iP} (h:jE y):jE y.gather:=by
 unfold iP.gather;have Y:=h.j2 y.nc (Nat.le_refl _);obtain⟨e1,V,e3,Z⟩:=n9 (y.j2 y.nc) y.n;have X:∀i,(((y.j2 y.nc).lO y.n).R i).P=((y.j2 y.nc).R i).P:=λi=>by
  rw[(wQ (y.j2 y.nc) i y.n).1];split<;>rfl
 refine⟨λc d hc hd=> ?_,λi p=>by rw[X];exact Y.o i p⟩;have hf:jY ((y.j2 y.nc).lO y.n) c d=jY (y.j2 y.nc) c d:=by
  unfold jY;rw[Z,X]
 rw[hf,Z];exact Y.q c d (by rw[V]at hc;exact hc) hd
theorem jE.jA {y:iP} (h:jE y)(i:Nat) {r:iO} (Z:nC (y.R i) r):jE (y.jA i r):=by
 refine⟨λc d hc hd=> ?_,λj p=> ?_⟩
 ·have hf:jY (y.jA i r) c d=jY y c d:=by
   show((jW y.R i r ((y.C c).e (1-d)).1).P ((y.C c).e (1-d)).2).rd=((y.R ((y.C c).e (1-d)).1).P ((y.C c).e (1-d)).2).rd;by_cases e:((y.C c).e (1-d)).1=i
   ·rw[e,iF];exact Z.rd _
   ·rw[iE _ _ e]
  rw[hf];exact h.q c d hc hd
 ·show∃ps,Frames ((jW y.R i r j).P p).out ps;by_cases e:j=i
  ·subst e;rw[iF];obtain⟨ps,X⟩:=h.o j p;obtain⟨qs,Y⟩:=Z.out p ps X;exact⟨_,Y⟩
  ·rw[iE _ _ e];exact h.o j p
theorem jE.jt {y:iP} (h:jE y)(A:Ends y)(c d k:Nat)(hc:c<y.nc)(hd:d<2):jE (y.jt c d k):=by
 obtain⟨i,hi⟩:=gq (((y.C c).e (1-d)).1);obtain⟨p,T⟩:=gq (((y.C c).e (1-d)).2);obtain⟨r1,r2,r3⟩:=Ir (y.R i) p (((y.C c).on d).take k);have Z:∀x,((y.jt c d k).C x).e=(y.C x).e:=λx=>((rD y c d k).2.2.2 x).1;have U:∀j,(y.jt c d k).R j=jW y.R i ((y.R i).recv p (((y.C c).on d).take k)) j:=λj=>by
  unfold iP.jt;rw[hi,T];rfl
 have H:∀x e,((y.jt c d k).C x).on e=if x=c/\e=d then((y.C c).on d).drop k else(y.C x).on e:=λx e=>by
  show((if x=c then {y.C c with on:=jW (y.C c).on d (((y.C c).on d).drop k)}else y.C x):qF).on e=_;by_cases ex:x=c
  ·rw[ai ex];show jW (y.C c).on d _ e=_;by_cases ed:e=d
   ·rw[ed,iF,ai ⟨ex,rfl⟩]
   ·rw[iE _ _ ed,af (λh=>ed h.2),ex]
  ·rw[af ex,af (λh=>ex h.1)]
 refine⟨λx e hx he=> ?_,λj s=> ?_⟩
 ·have J:x<y.nc:=hx;rw[H];by_cases Y:x=c/\e=d
  ·obtain⟨rfl,rfl⟩:=Y;rw[ai ⟨rfl,rfl⟩];have hf:jY (y.jt x e k) x e=(kB (jY y x e) (((y.C x).on e).take k)).2.2:=by
    unfold jY;rw[Z,U,hi,T,iF];exact r1
   obtain⟨V,M⟩:=h.q x e hc hd;have Q:=rz (jY y x e) (((y.C x).on e).take k) (((y.C x).on e).drop k);rw[cF]at Q;rw[Q]at V M;rw[hf];refine⟨?_,λq S=>M q (av.2 (.inr S))⟩;have u:=congrArg ij V;have hb:=congrArg ik V;simp only at u hb;exact aV (by show _=0;omega) hb
  ·rw[af Y];have jx:(y.C x).e (1-e)≠(i,p):=λG=>Y (by
    have:=A.ds x (1-e) c (1-d) J eh hc eh (by rw[G,<-hi,<-T]);exact⟨this.1,eh⟩)
   have hf:jY (y.jt c d k) x e=jY y x e:=by
    unfold jY;rw[Z,U];by_cases X:((y.C x).e (1-e)).1=i
    ·rw[X,iF];exact r2 _ (λE=>jx (by rw[cL];exact⟨X,E⟩))
    ·rw[iE _ _ X]
   rw[hf];exact h.q x e J he
 ·rw[U];by_cases e:j=i
  ·subst e;rw[iF];obtain⟨ps,uO⟩:=h.o j s;obtain⟨qs,S⟩:=r3 s ps uO;exact⟨_,S⟩
  ·rw[iE _ _ e];exact h.o j s
theorem jE.jZ {y:iP} (h:jE y)(hG:GN y)(hE:Ends y)(c:Nat)(up:Bool)(hc:c<y.nc)(hu:(y.C c).iT= !up):jE (y.jZ c up):=by
 obtain⟨Z,S⟩:=gq ((y.C c).e 0);obtain⟨Y,H⟩:=gq ((y.C c).e 1);have jx:Z≠Y:=λe=>by
  have:=(hE.ds c 0 c 1 hc eh hc eh (by rw[S,H,e])).2;omega
 have h0:=hG.ends c 0 hc eh;have E:=hG.ends c 1 hc eh;rw[S,hu]at h0;rw[H,hu]at E;obtain⟨X,uV⟩:∃X:qF,X={y.C c with iT:=up,on:=λ_=>[] }:=⟨_,rfl⟩
 have V:X.e=(y.C c).e:=by rw[uV]
 have cbo:∀d,X.on d=[] :=λd=>by rw[uV]
 have hf:∀(z:iP) (d:Nat) (e:Nat×Nat),(z.C c).e d=e->z.lI c d up=z.jA e.1 ((z.R e.1).iL e.2 up).1:=by
  intro z d e he;unfold iP.lI;rw[he]
 have M:(y.lz c X).C c=X:=iF _ _ _;have hp:y.jZ c up=((y.lz c X).jA Z.1 ((y.R Z.1).iL Z.2 up).1).jA Y.1 ((jW y.R Z.1 ((y.R Z.1).iL Z.2 up).1 Y.1).iL Y.2 up).1:=by
  unfold iP.jZ;rw[<-uV,hf (y.lz c X) 0 Z (by rw[M,V,S]),hf _ 1 Y (by show((y.lz c X).C c).e 1=Y;rw[M,V,H])];rfl
 obtain⟨r1,A⟩:=gq (jW y.R Z.1 ((y.R Z.1).iL Z.2 up).1 Y.1);obtain⟨a1,a2,a3⟩:=Iu Z.2 h0;obtain⟨_,_,b0⟩:=xH Z.2 h0;have adB:pB (!up) (r1.P Y.2):=by
  rw[<-A];by_cases e:Y.1=Z.1
  ·rw[e,iF];have J:Y.2≠Z.2:=λQ=>jx (by rw[cL];exact⟨e.symm,Q.symm⟩);rw[e]at E;exact E.congr (b0 _ J).1 (b0 _ J).2
  ·rw[iE _ _ e];exact E
 obtain⟨c1,c2,c3⟩:=Iu Y.2 adB;rw[hp,A];obtain⟨R2,G⟩:=gq (jW (jW y.R Z.1 ((y.R Z.1).iL Z.2 up).1) Y.1 (r1.iL Y.2 up).1);have hrd:∀i p,((R2 i).P p).rd=if(i,p)=Z \/(i,p)=Y then lL else((y.R i).P p).rd:=λi p=>by
  rw[<-G];by_cases x1:i=Y.1
  ·rw[x1,iF];by_cases y1:p=Y.2
   ·rw[y1,ai (.inr rfl)];exact c1
   ·rw[c2 p y1,<-A];by_cases x0:Y.1=Z.1
    ·rw[x0,iF];by_cases T:p=Z.2
     ·rw[T,ai (.inl rfl)];exact a1
     ·rw[a2 p T,af];rintro(e|e)
      ·exact T (congrArg ik e)
      ·exact y1 (congrArg ik e)
    ·rw[iE _ _ x0,af];rintro(e|e)
     ·exact x0 (by have U:=congrArg ij e;exact U)
     ·exact y1 (congrArg ik e)
  ·rw[iE _ _ x1];by_cases x0:i=Z.1
   ·rw[x0,iF];by_cases T:p=Z.2
    ·rw[T,ai (.inl rfl)];exact a1
    ·rw[a2 p T,af];rintro(e|e)
     ·exact T (congrArg ik e)
     ·exact x1 (x0.trans (by have U:=congrArg ij e;exact U))
   ·rw[iE _ _ x0,af];rintro(e|e)
    ·exact x0 (by have U:=congrArg ij e;exact U)
    ·exact x1 (by have U:=congrArg ij e;exact U)
 have MI:∀i p,∃ps,Frames ((R2 i).P p).out ps:=λi p=>by
  rw[<-G];have hA:∀j s,∃ps,Frames ((jW y.R Z.1 ((y.R Z.1).iL Z.2 up).1 j).P s).out ps:=λj s=>by
   by_cases x0:j=Z.1
   ·rw[x0,iF];obtain⟨ps,u⟩:=h.o Z.1 s;obtain⟨qs,hq⟩:=a3 s ps u;exact⟨_,hq⟩
   ·rw[iE _ _ x0];exact h.o j s
  by_cases x1:i=Y.1
  ·rw[x1,iF];obtain⟨ps,u⟩:=hA Y.1 p;rw[A]at u;obtain⟨qs,hq⟩:=c3 p ps u;exact⟨_,hq⟩
  ·rw[iE _ _ x1];exact hA i p
 refine⟨λx d hx hd=> ?_,λi p=> ?_⟩
 ·have vM:x<y.nc:=hx;show(kB (((jW (jW y.R Z.1 ((y.R Z.1).iL Z.2 up).1) Y.1 (r1.iL Y.2 up).1 ((((if x=c then X else y.C x):qF).e (1-d)).1)).P (((if x=c then X else y.C x):qF).e (1-d)).2).rd) (((if x=c then X else y.C x):qF).on d)).2=(0,lL)/\∀p∈(kB (((jW (jW y.R Z.1 ((y.R Z.1).iL Z.2 up).1) Y.1 (r1.iL Y.2 up).1 ((((if x=c then X else y.C x):qF).e (1-d)).1)).P (((if x=c then X else y.C x):qF).e (1-d)).2).rd) (((if x=c then X else y.C x):qF).on d)).1,yj p;rw[G,hrd];by_cases e:x=c
  ·rw[ai e,V,cbo];have rQ:(((y.C c).e (1-d)).1,((y.C c).e (1-d)).2)=Z \/(((y.C c).e (1-d)).1,((y.C c).e (1-d)).2)=Y:=by
    have:d=0 \/d=1:=eh;rcases this with rfl|rfl
    ·exact .inr H
    ·exact .inl S
   rw[ai rQ];exact⟨rfl,λp hp=>by simp[kB]at hp⟩
  ·rw[af e];have n0:¬((((y.C x).e (1-d)).1,((y.C x).e (1-d)).2)=Z \/(((y.C x).e (1-d)).1,((y.C x).e (1-d)).2)=Y):=by
    rintro(Q|Q)
    ·exact e (hE.ds x (1-d) c 0 vM eh hc eh (by rw[S];exact Q)).1
    ·exact e (hE.ds x (1-d) c 1 vM eh hc eh (by rw[H];exact Q)).1
   rw[af n0];exact h.q x d vM hd
 ·show∃ps,Frames ((jW (jW y.R Z.1 ((y.R Z.1).iL Z.2 up).1) Y.1 (r1.iL Y.2 up).1 i).P p).out ps;rw[G];exact MI i p
theorem jE.jD(up:Bool):∀(l:List Nat) {y:iP},jE y->GN y->Ends y->l.Nodup->(∀c∈l,c<y.nc/\(y.C c).iT= !up)->jE (y.jD up l)
 |[],_,h,_,_,_,_=>h
 |c::l,y,h,hG,hE,xI,hl=>by
  obtain⟨g1,Y,g3,g4,X⟩:=pK y c up;have hc:=hl c gZ;have Z:=bq.1 xI;exact jE.jD up l (h.jZ hG hE c up hc.1 hc.2) (hG.jZ hE c up hc.1 hc.2) (hE.jZ c up) Z.2 (λx hx=>by
   have V:x≠c:=λe=>Z.1 (e▸hx);rw[Y,(X x).2,af V];exact hl x (by simp[hx]))
theorem jE.anew(h:jE y)(Y:GN y)(i:Nat)(id:Int)(m:Nat->Int)(hf:∀c d,c<y.nc->d<2->((y.C c).e d).1=i->(y.C c).iT=false):jE (y.jA i (jO id 3 m)):=by
 refine⟨λc d hc hd=> ?_,λj p=> ?_⟩
 ·have Z:c<y.nc:=hc;show(kB (((jW y.R i (jO id 3 m) ((y.C c).e (1-d)).1).P ((y.C c).e (1-d)).2).rd) ((y.C c).on d)).2=(0,lL)/\∀p∈(kB (((jW y.R i (jO id 3 m) ((y.C c).e (1-d)).1).P ((y.C c).e (1-d)).2).rd) ((y.C c).on d)).1,yj p;by_cases e:((y.C c).e (1-d)).1=i
  ·rw[e,iF,Y.off c d Z hd (hf c (1-d) Z eh e)];exact⟨rfl,λp X=>by simp[kB]at X⟩
  ·rw[iE _ _ e];exact h.q c d Z hd
 ·show∃ps,Frames ((jW y.R i (jO id 3 m) j).P p).out ps;by_cases e:j=i
  ·rw[e,iF];exact⟨[],Frames.nil⟩
  ·rw[iE _ _ e];exact h.o j p
theorem jE.restart {y:iP} {D:Nat} (h:jE y)(S:GN y)(J:j5 y D 0)(i:Int):jE (y.restart i).1:=by
 unfold iP.restart;split
 ·exact h
 ·rename_i hi
  obtain⟨k,hk⟩:=gq ((i-1).toNat);rw[hk];obtain⟨l,hl⟩:=gq (y.lA k);rw[hl];have Y:∀c,c∈l↔c<y.nc/\(y.C c).iT=true/\(((y.C c).e 0).1=k \/((y.C c).e 1).1=k):=λc=>by
   rw[<-hl];unfold iP.lA;simp[ig]
  have U:l.Nodup:=by
   rw[<-hl];exact du dj bV
  have E:∀c∈l,c<y.nc/\(y.C c).iT= !false:=λc hc=>⟨((Y c).1 hc).1,((Y c).1 hc).2.1⟩
  obtain⟨a,b,d⟩:=GN.jD false l S J.oM U E;have f1:=jE.jD false l h S J.oM U E;obtain⟨s1,V,s3,s4,G⟩:=nt false l y;obtain⟨Z,A⟩:=gq (y.jD false l);rw[A]at a b d s1 V s3 s4 G f1⊢;have T:∀c e,c<Z.nc->e<2->((Z.C c).e e).1=k->(Z.C c).iT=false:=λc e hc M heq=>by
   have j0:c<y.nc:=by rw[V]at hc;exact hc
   rw[d c];by_cases X:c∈l
   ·rw[ai X]
   ·rw[af X];by_cases H:(y.C c).iT=true
    ·exfalso;rw[G c]at heq;refine X ((Y c).2 ⟨j0,H,?_⟩);have:e=0 \/e=1:=eh;rcases this with rfl|rfl
     ·exact .inl heq
     ·exact .inr heq
    ·simpa using H
  have f2:=f1.anew a k i (y.ms k) T;have u:GN (Z.jA k (jO i 3 (y.ms k))):=by
   refine a.jA k _ (λc e hc M heq _=> ?_);rw[T c e hc M heq];have Q:=qQ i (y.ms k) ((Z.C c).e e).2;exact⟨by simpa using Q.st,λe=>absurd (by rw[Q.pe];rfl) e⟩
  have b2:Ends (Z.jA k (jO i 3 (y.ms k))):=⟨b.ds,b.p3,λj=>by
   show(jW Z.R k _ j).n=3 \/Z.n<=j;by_cases e:j=k
   ·rw[e,iF];exact .inl rfl
   ·rw[iE _ _ e];exact b.rn j,b.en⟩
  exact(jE.jD true l f2 u b2 U (λc hc=>⟨by show c<Z.nc;rw[V];exact((Y c).1 hc).1,by show(Z.C c).iT=_;rw[d c,ai hc];rfl⟩)).gather
theorem jE.iL {y:iP} {D:Nat} (h:jE y)(Z:GN y)(Y:j5 y D 0)(i:Int)(up:Bool):jE (y.iL i up).1:=by
 unfold iP.iL;split
 ·exact h
 ·split
  ·exact h
  ·rename_i kR
   exact(h.jZ Z Y.oM i.toNat up eh (by cases hv:(y.C i.toNat).iT<;>cases up<;>simp_all)).gather
theorem jE.tick {y:iP} (h:jE y)(i:Int):jE (y.tick i).1:=by
 unfold iP.tick;split
 ·exact h
 ·exact(h.jA _ (nC.jc _ _)).gather
theorem jE.deliver {y:iP} {D:Nat} (h:jE y)(Z:j5 y D 0)(i d m:Int):jE (y.deliver i d m).1:=by
 unfold iP.deliver;split
 ·exact h
 ·exact(h.jt Z.oM _ _ _ eh eh).gather
theorem jE.send {y:iP} (h:jE y)(f t:Int)(tx:List UInt8):jE (y.send f t tx).1:=by
 unfold iP.send;split
 ·exact h
 ·split
  ·exact h
  ·exact(h.jA _ (nC.kg _ _ _)).gather
theorem jE.jc {y:iP} (h:jE y):∀q,jE (y.jc q)
 |0=>h
 |q+1=>(jE.jc h q).tick _
theorem jE.jQ {y:iP} {D:Nat} (h:jE y)(X:j5 y D 0)(Y:D<=890000000):∀q,q<=9->jE (y.jQ q)
 |0,_=>h
 |q+1,hq=>by
  have Z:=X.jQ Y q eh;exact((jE.jQ h X Y q eh).deliver Z (q:Int) 0 2000).deliver (Z.deliver eh (q:Int) 0 2000) (q:Int) 1 2000
theorem jE.turns {y:iP} {D:Nat} (h:jE y)(Z:j5 y D 0)(Y:D<=810000000):∀t,t<=12->jE (y.turns t)
 |0,_=>h
 |t+1,ht=>(jE.turns h Z Y t eh).jQ (Z.turns Y t eh) eh y.nc Z.c9
theorem jE.round {y:iP} {D:Nat} (h:jE y)(Z:j5 y D 0)(Y:D<=800000000):jE y.round:=
 (h.jc y.n).turns (Z.jc Y y.n Z.n6) (by have:=Z.n6;omega) 12 (Nat.le_refl _)
theorem jE.act(h:jE y)(Y:GN y)(Z:j5 y D 0)(X:D<=800000000)(v:AV):jE (sj y v):=by
 unfold sj;split
 ·exact h.iL Y Z _ _
 ·split
  ·exact h.tick _
  ·split
   ·exact h.deliver Z _ _ _
   ·split
    ·exact h.restart Y Z _
    ·split
     ·exact h.send _ _ _
     ·split
      ·exact h.round Z X
      ·exact h
theorem OA(many:Nat)(L:List oQ):jE (jS many L):=⟨λ_ _ _ _=>⟨rfl,λp Z=>by simp[kB,jS,mO]at Z⟩,λ_ _=>⟨[],Frames.nil⟩⟩
def jy.pt(p:jy)(rd:kE)(o:List UInt8):jy:={p with rd:=rd,out:=o++p.out}
def iO.pat(s:iO)(rd:Nat->kE)(os:Nat->List UInt8)(ib:List zi):iO:={s with P:=λp=>(s.P p).pt (rd p) (os p),kd:=ib++s.kd}
def iO.core(r:iO):iO:={r with P:=λp=>{r.P p with rd:=lL,out:=[] },kd:=[] }
theorem L8(s:iO)(rd:Nat->kE)(os:Nat->List UInt8)(ib:List zi):(s.pat rd os ib).core=s.core:=rfl
theorem wW(r:iO):r.core.pat (λp=>(r.P p).rd) (λp=>(r.P p).out) r.kd=r:=by
 unfold iO.pat iO.core jy.pt;simp only[List.append_nil]
theorem Fm(p:jy)(rd:kE)(o:List UInt8)(c:UInt8)(s:List UInt8):(p.pt rd o).put c s=(p.put c s).pt rd o:=by
 unfold jy.put;have e:(p.pt rd o).L=p.L:=rfl;rw[e];split
 ·rfl
 ·split
  ·simp[jy.pt]
  ·rfl
theorem JE(rd:kE)(o:List UInt8):∀(l:List kP) (p:jy),(p.pt rd o).say l=(p.say l).pt rd o
 |[],_=>rfl
 |q::r,p=>by
  show((if jU q.1 q.2.1 q.2.2=0 then(p.pt rd o).put 76 (mL q.1 q.2.1 q.2.2)else p.pt rd o)).say r=((if jU q.1 q.2.1 q.2.2=0 then p.put 76 (mL q.1 q.2.1 q.2.2)else p).say r).pt rd o;split
  ·rw[Fm,JE rd o r]
  ·exact JE rd o r p
theorem P8(rd:kE)(o:List UInt8)(L:LS)(l:List kP)(p:jy):({p.pt rd o with L:=L}:jy).say l=(({p with L:=L}:jy).say l).pt rd o:=JE rd o l {p with L:=L}
theorem Iv(rd:kE)(o:List UInt8):∀(l:List (Int×PS)) (p:jy),(p.pt rd o).kJ l=(p.kJ l).pt rd o
 |[],_=>rfl
 |q::r,p=>by
  show((p.pt rd o).put 83 _).kJ r=_;rw[Fm,Iv rd o r];rfl
theorem Zw(rd:kE)(o:List UInt8)(p:jy):(p.pt rd o).tick=p.tick.pt rd o:=P8 rd o _ _ p
theorem SD(rd:kE)(o:List UInt8)(p:jy)(s:List UInt8):(p.pt rd o).packet s=(p.packet s).pt rd o:=by
 unfold jy.packet;simp only;split
 ·exact P8 rd o _ _ p
 ·rfl
section
variable (rd:Nat->kE) (os:Nat->List UInt8) (ib:List zi)
theorem uH(s:iO)(i:Nat)(q:jy):(s.pat rd os ib).iU i (q.pt (rd i) (os i))=(s.iU i q).pat rd os ib:=by
 unfold iO.iU iO.pat;congr 1
 funext p
 show ll _ i _ p=(ll s.P i q p).pt (rd p) (os p);by_cases e:p=i
 ·subst e;rw[jB,jB]
 ·rw[ju _ _ e,ju _ _ e]
theorem BA(s:iO)(n:Int):∀k,jR (s.pat rd os ib).P n k=jR s.P n k
 |0=>rfl
 |k+1=>by
  have ih:=BA s n k;unfold jR;rw[ih];rfl
theorem Fp(s:iO):jz (s.pat rd os ib)=jz s:=by
 unfold jz;congr 1
 funext j
 rw[BA];rfl
theorem Fq(s:iO)(q:Int):(s.pat rd os ib).behind q=(s.behind q).pat rd os ib:=by
 unfold iO.behind;rw[Fp];split<;>rfl
theorem OB(s:iO):(s.pat rd os ib).change=s.change.pat rd os ib:=by
 unfold iO.change;rw[Fp,Fq];show(if C5 s.K s.id=jz s then s.pat rd os ib else(s.behind (Bc s.K s.id)).pat rd os ib)=_;split<;>rfl
theorem wX(s:iO)(i:Nat)(q:lr):(s.pat rd os ib).meet i q=(s.meet i q).pat rd os ib:=by
 have Z:(s.pat rd os ib).iU i {(s.pat rd os ib).P i with pe:=q}=(s.iU i {s.P i with pe:=q}).pat rd os ib:=uH rd os ib s i {s.P i with pe:=q};unfold iO.meet;simp only;rw[Z];have Y:=OB rd os ib ({s.iU i {s.P i with pe:=q}with O:=λx=>if x=i then λ_=>ν else s.O x}:iO);show(if q.who=(s.P i).pe.who/\q.both=(s.P i).pe.both then _ else _)=_;split
 ·rfl
 ·have X:({(s.iU i {s.P i with pe:=q}).pat rd os ib with O:=λx=>if x=i then λ_=>ν else((s.iU i {s.P i with pe:=q}).pat rd os ib).O x}:iO).change=(({s.iU i {s.P i with pe:=q}with O:=λx=>if x=i then λ_=>ν else s.O x}:iO).change).pat rd os ib:=Y;rw[X];split<;>rfl
theorem L9(s:iO)(t:zi):(s.pat rd os ib).send t=(s.send t).pat rd os ib:=by
 unfold iO.send;have Z:(λh:HP=>jR (s.pat rd os ib).P h.rM (s.pat rd os ib).n)=λh:HP=>jR s.P h.rM s.n:=by
  funext h;exact BA rd os ib s h.rM s.n
 rw[Z];show(if t.1=s.id then _ else match (if 1<=t.2.1 then(A3 (la s) t.1).bind λh=>jR s.P h.rM s.n else none)with|none=>_|some i=>_)=_;split
 ·simp[iO.pat]
 ·cases (if 1<=t.2.1 then(A3 (la s) t.1).bind λh=>jR s.P h.rM s.n else ν)with
  |none=>rfl
  |some i=>
   show(s.pat rd os ib).iU i (((s.P i).pt (rd i) (os i)).put 77 _)=_;rw[Fm];exact uH rd os ib s i _
theorem SE(s:iO)(i:Nat)(l:List UInt8):jm (s.pat rd os ib) i l=(jm s i l).pat rd os ib:=by
 unfold jm;simp only;show(if(St.iu l).2.2.2≠0 \/(s.P i).pe.both=false then _ else if(St.iu l).1=s.id/\0<newF s.K (St.iu l).1 (St.iu l).2.1 (St.iu l).2.2.1 then _ else if 0<=newF s.K (St.iu l).1 (St.iu l).2.1 (St.iu l).2.2.1 then _ else _)=_;split
 ·rfl
 ·split
  ·exact Fq rd os ib s _
  ·split
   ·obtain⟨x,hx⟩:∃x:iO,({s with K:=lF s.K (St.iu l).1 (St.iu l).2.1 (St.iu l).2.2.1,O:=oX s.K s.O i (St.iu l).1 (St.iu l).2.1 (St.iu l).2.2.1}:iO)=x:=⟨_,rfl⟩
    have Z:(x.pat rd os ib).iU i (((x.P i).pt (rd i) (os i)).put 65 (ru (St.iu l).1 (St.iu l).2.1 (St.iu l).2.2.1))=(x.iU i ((x.P i).put 65 (ru (St.iu l).1 (St.iu l).2.1 (St.iu l).2.2.1))).pat rd os ib:=by
     rw[Fm];exact uH rd os ib x i _
    rw[<-hx]at Z;exact Z
   ·rfl
theorem Wu(s:iO)(i:Nat)(c:UInt8)(l:List UInt8):(s.pat rd os ib).take i c l=(s.take i c l).pat rd os ib:=by
 rw[lP,lP];have Z:j4 (s.pat rd os ib) i c l=(j4 s i c l).pat rd os ib:=by
  unfold j4;split
  ·show(s.pat rd os ib).iU i (((s.P i).pt (rd i) (os i)).packet l)=_;rw[SD];exact uH rd os ib s i _
  ·rfl
 rw[Z];show(if((j4 s i c l).P i).L.st≠9 then _ else _)=_;split
 ·exact wX rd os ib _ i _
 ·unfold mF;split
  ·split
   ·exact wX rd os ib _ i _
   ·rfl
  ·split
   ·exact SE rd os ib _ i l
   ·split
    ·unfold kF;simp only;split<;>rfl
    ·split
     ·unfold rC;split
      ·exact L9 rd os ib _ _
      ·rfl
     ·rfl
theorem SF(s:iO)(i:Nat)(x:List UInt8):jP (s.pat rd os ib) i x=(jP s i x).pat rd os ib:=by
 cases x with
 |nil=>rfl
 |cons c l=>exact Wu rd os ib s i c l
theorem BD:∀(l:List (List UInt8)) (s:iO) (i:Nat),(s.pat rd os ib).takes i l=(s.takes i l).pat rd os ib
 |[],_,_=>rfl
 |x::l,s,i=>by
  show(jP (s.pat rd os ib) i x).takes i l=((jP s i x).takes i l).pat rd os ib;rw[SF,BD l]
theorem SG(s:iO)(i:Nat):(s.pat rd os ib).iY i=(s.iY i).pat rd os ib:=by
 rw[ld,ld];have Z:jd (s.pat rd os ib) i=(jd s i).pat rd os ib:=by
  show(s.pat rd os ib).iU i (((s.P i).pt (rd i) (os i)).tick)=_;rw[Zw];exact uH rd os ib s i _
 rw[Z];show(if((jd s i).P i).L.st≠9 then _ else _)=_;split
 ·exact wX rd os ib _ i _
 ·show mP (((jd s i).pat rd os ib).meet i (iK ((jd s i).P i).pe)) i=_;rw[wX];obtain⟨x,hx⟩:=gq ((jd s i).meet i (iK ((jd s i).P i).pe));rw[hx];have Y:∀p q:jy,(if(x.P i).pe.both=true then p.pt (rd i) (os i)else q.pt (rd i) (os i))=(if(x.P i).pe.both=true then p else q).pt (rd i) (os i):=λp q=>by split<;>rfl
  show(x.pat rd os ib).iU i (if(x.P i).pe.both=true then(((x.P i).pt (rd i) (os i)).put 72 _).kJ (lJ (x.O i))else((x.P i).pt (rd i) (os i)).put 72 _)=_;rw[Fm,Iv,Y];exact uH rd os ib x i _
theorem Ma(s:iO)(i:Nat)(up:Bool)(Z:(k8 (s.P i).L (if up=true then 0 else 1)).2.2=0):((s.pat rd os ib).iL i up).1=((s.iL i up).1).pat (jW rd i lL) os ib:=by
 obtain⟨E,Y⟩:=gq (k8 (s.P i).L (if up=true then 0 else 1));rw[Y]at Z;have e:∀p:jy,p.L=(s.P i).L->p.iL up=(({p with L:=E.1,rd:=lL}:jy).say E.2.1,0):=λp U=>by
  unfold jy.iL;rw[U,Y];simp only;rw[af (by simp[Z])];rfl
 unfold iO.iL;rw[e _ rfl,e ((s.pat rd os ib).P i) rfl];simp only;rw[af gZ,af gZ];have X:(({(s.pat rd os ib).P i with L:=E.1,rd:=lL}:jy).say E.2.1)=((({s.P i with L:=E.1,rd:=lL}:jy)).say E.2.1).pt lL (os i):=
  JE lL (os i) _ ({s.P i with L:=E.1,rd:=lL}:jy)
 rw[X];obtain⟨q,T⟩:=gq ((({s.P i with L:=E.1,rd:=lL}:jy)).say E.2.1);rw[T];have V:(s.pat rd os ib).iU i (q.pt lL (os i))=(s.iU i q).pat (jW rd i lL) os ib:=by
  unfold iO.iU iO.pat;congr 1
  funext p
  show ll _ i _ p=(ll s.P i q p).pt (jW rd i lL p) (os p);by_cases e:p=i
  ·subst e;rw[jB,jB,iF]
  ·rw[ju _ _ e,ju _ _ e,iE _ _ e]
 rw[V,wX]
end
def isM(k:Nat)(tx:List UInt8):List UInt8->Bool
 |77::a::_::s=>a.toNat==k&&s==tx
 |_=>false
def cP(k:Nat)(tx:List UInt8)(ps:List (List UInt8)):Nat:=ps.countP (isM k tx)
def isI(k:Nat)(tx:List UInt8)(m:zi):Bool:=m.1==(k:Int)&&m.2.2==tx
def cI(k:Nat)(tx:List UInt8)(l:List zi):Nat:=l.countP (isI k tx)
def jo(p:jy):List (List UInt8):=(kB lL p.out).1
theorem nh {p:jy} (h:Frames p.out ps):jo p=ps:=by
 unfold jo;rw[h.1,rF ps h.2]
def pc(k:Nat)(tx:List UInt8)(p:jy):Nat:=cP k tx (jo p)
theorem su.fr {p q:jy} (h:su p q)(Z:∃ps,Frames p.out ps):∃ps,Frames q.out ps:=by
 obtain⟨ps,X⟩:=Z;obtain⟨qs,Y⟩:=h.out ps X;exact⟨_,Y⟩
