import Derived.Test.YtieklnlbljejdaaGreatDoorG28
open Go.Value renaming int → ι, slice → σ, pointer → π, tuple → τ, nilIface → η
open Go.IntKind renaming i64 → κ
open Go.Ending renaming returned → ρ
open Go.Obj renaming cells → γ
open Option renaming none → ν, some → μ
open Go renaming World → eB, Value → eD, Calls → fj
open Go.Instr renaming makeSlice → iD, loadAt → fO
open Go.Proofs.Tryz renaming prog → fk
open Go.Value renaming ownBlock → eF
open Go.RowKit renaming intOf → ft
open Go.Act renaming put → gW
open List renaming setIfInBounds_toArray → gX, set_cons_zero → gY, set_cons_succ → gZ
set_option maxRecDepth 100000
set_option maxHeartbeats 8000000
namespace Go.Proofs.YtieklnlbljejdaaGreatDoor
open Go.RowKit St
namespace Rt
theorem ZH(W:eB):(iD 75 (ι κ 1) (ι κ 1)).run fk W=.ok (σ (μ ⟨W.heap.size,0,ν⟩) 1 1) (W.alloc (γ (oP 1) 53)):=gT
theorem ZI(W:eB):(iD 75 (ι κ 2) (ι κ 2)).run fk W=.ok (σ (μ ⟨W.heap.size,0,ν⟩) 2 2) (W.alloc (γ (oP 2) 53)):=gT
theorem ZJ(W:eB):(iD 75 (ι κ 3) (ι κ 3)).run fk W=.ok (σ (μ ⟨W.heap.size,0,ν⟩) 3 3) (W.alloc (γ (oP 3) 53)):=gT
theorem ZK(W:eB):(iD 75 (ι κ 4) (ι κ 4)).run fk W=.ok (σ (μ ⟨W.heap.size,0,ν⟩) 4 4) (W.alloc (γ (oP 4) 53)):=gT
theorem ZL(W:eB):(iD 75 (ι κ 5) (ι κ 5)).run fk W=.ok (σ (μ ⟨W.heap.size,0,ν⟩) 5 5) (W.alloc (γ (oP 5) 53)):=gT
theorem ZM(W:eB):(iD 75 (ι κ 6) (ι κ 6)).run fk W=.ok (σ (μ ⟨W.heap.size,0,ν⟩) 6 6) (W.alloc (γ (oP 6) 53)):=gT
theorem ac9(p:Nat)(hp:1<=p/\p<=6)(W:eB):(iD 75 (ι κ (p:Int)) (ι κ (p:Int))).run fk W=.ok (σ (μ ⟨W.heap.size,0,ν⟩) p p) (W.alloc (γ (oP p) 53)):=by
 have:p=1 \/p=2 \/p=3 \/p=4 \/p=5 \/p=6:=eE;rcases this with rfl|rfl|rfl|rfl|rfl|rfl
 ·exact ZH W
 ·exact ZI W
 ·exact ZJ W
 ·exact ZK W
 ·exact ZL W
 ·exact ZM W
theorem VT:(fk.info? 26).map (λi=>(i.zero,i.size,i.bytes))=μ (μ (π ν),1,8):=gT
theorem Pf:(fk.info? 197).map (λi=>(i.zero,i.size,i.bytes))=μ (μ (.agg #[ι κ 0,ι κ 0,ι κ 0,ι κ 0,.bool false,σ ν 0 0,σ ν 0 0]),7,88):=gT
theorem VU:(fk.info? 81).map (·.size)=μ 5:=gT
theorem VW(p:Option Addr):∀u∈ [Value.pointer p],u.oneCell'=true:=by simp[Value.oneCell']
theorem vr(w:eB)(c:oI)(C:Array eD)(t:TypeId)(g:Nat)(hg:w.heap.size=g)(hC:C.toList=rE [c] :=by rfl):∀(j:Nat) (u:eD),(rE [c])[j]? =μ u->(w.alloc (γ C t)).cell? ((⟨g,0,ν⟩:Addr).add j)=μ u:=by
 subst hg;intro j u hu;rw[add_plain,aq,<-hu,<-hC];simp
def Pg(w:eB)(many:Int)(L:List oI)(X:Nat->Prop)(e:Ending)(w':eB):Prop:=
 (nk many L≠0->e=ρ (τ #[π ν,jy (nk many L)]))/\(nk many L=0->∃y,e=ρ (τ #[π (μ ⟨y.N,0,ν⟩),η])/\jJ w' y (jE many.toNat L)/\(∀b,y.all many.toNat b->w.heap.size<=b)/\∀b,y.ext b↔X b)/\eN w w'
theorem M3(many:Int)(a:Option Addr)(cap:Nat)(L:List oI)(w:eB)(hL:AX w a L)(hl:L.length<=1000)(hT:jo w)(X:Nat->Prop)(hX:∀b,X b->b<w.heap.size):
 fj fk 36 #[ι κ many,σ a L.length cap] w λe w'=>Pg w many L X e w':=by
 have hm:=wI many a cap L w hL hl;by_cases h0:nk many L=0
 ·have jb:=tY h0;have hm6:=jb.m;obtain⟨m,R6⟩:∃m:Nat,many=(m:Int):=⟨many.toNat,eE⟩
  subst R6;have Gd:((m:Int)).toNat=m:=Int.toNat_natCast m;have yH:fj fk 95 #[ι κ (m:Int),σ a L.length cap] w λe w'=>∃b,e=ρ (τ #[.map (μ b),η])/\nY w' b (kB L)/\Bi (kB L)/\w.heap.size<=b/\eN w w':=by
   refine hm.mono ?_;rintro e w1 ⟨_,h2,hb⟩;obtain⟨b,h3,h4,h5,h6⟩:=h2 h0;exact⟨b,h3,h4,h5,h6,hb⟩
  have HL:Hid _:=hL;have Sg:Hid _:=jb;have HT:Hid _:=hT;have H00:Hid _:=h0;obtain⟨i1,uD,ahg,ahh,ahi⟩:=aW VT;obtain⟨i2,hi2,ZN,ZO,ZP⟩:=aW Pf;obtain⟨n,hn⟩:=gH (L.length);have HN:Hid _:=hn;have hl9:=jb.l;rw[hn]at yH hl9⊢;have vY:1<=m:=eE;have hm6:m<=6:=eE;have T6:=ac9 m ⟨vY,hm6⟩;clear hm hL jb hT hl h0 hn
  go_in
  go_wp2_with(fail);refine yH.mono ?_;rintro e w1 ⟨bM,rfl,hE,hEO,Zy,kt⟩;have HE:Hid _:=hE;have HEO:Hid _:=hEO;have Bf:Hid _:=kt;clear yH hE hEO kt;go_wp2_with(fail);have hN1:(w1.alloc (γ (oP m) 53)).heap.size=w1.heap.size+1:=iC;obtain⟨W2,nH⟩:=gH ((w1.alloc (γ (oP m) 53)).alloc (γ #[σ ν 0 0,σ (μ ⟨w1.heap.size,0,ν⟩) m m,.map (μ bM),σ ν 0 0] 190));have RZ:eN w1 W2:=by rw[<-nH];exact(iB _ _).alloc iC _
  have IZ:AY w W2 (w1.heap.size+1) w1.heap.size bM m (kB L) (pM L) 0 0 L (σ ν 0 0) (σ ν 0 0) (λ_=>0) (λ_=>0) (λ_=>0):=by
   have BF:=Bf.out.size;have pO:bM<w1.heap.size:=by
    obtain⟨es,clock,h1,_⟩:=HE.out;exact(aw.1 h1).1
   refine⟨iA Bf.out RZ,?_,?_,nY.keep HE.out (RZ.block bM pO),Row.nil _ _,Row.nil _ _,⟨eE,eE,eE,eE,eE,Zy⟩,λk e=>by simp[eF]at e,λk e=>by simp[eF]at e,λi hi=>eE,λi hi=>eE,λi k _ hk=>eE,λi hi=>eE⟩
   ·have h1:jr W2 ((w1.alloc (γ (oP m) 53)).heap.size) #[σ ν 0 0,σ (μ ⟨w1.heap.size,0,ν⟩) m m,.map (μ bM),σ ν 0 0] 190:=by rw[<-nH];exact jr.new _ _ _
    rw[hN1]at h1;exact h1
   ·have h1:jr (w1.alloc (γ (oP m) 53)) w1.heap.size (oP m) 53:=jr.new w1 _ _;rw[<-nH];exact h1.below (iB _ _)
  obtain⟨N,hNe⟩:=gH (w1.heap.size+1);obtain⟨gI,Zm⟩:=gH (w1.heap.size);rw[hNe,Zm]at IZ;have HM0:Hid _:=IZ;have UL:Hid _:=nH;have HNe:Hid _:=hNe;have HgI:Hid _:=Zm;clear nH RZ IZ hNe Zm hN1;rw[UL.out]
  try rw[HNe.out]
  try rw[HgI.out]
  go_loopw [29] (λx wr=>∃(q:Nat) (v:eD) (P lo hi:Nat->Nat),q<=m/\x=ι κ q/\AY w wr N gI bM m (kB L) (pM L) q 0 L v (σ ν 0 0) P lo hi) (λx _=>m-(ft x).toNat)
  case atStart=>exact⟨0,_,_,_,_,Nat.zero_le _,rfl,HM0.out⟩
  case round=>
   obtain⟨q,v,P,lo,hi,hq,rfl,hM⟩:=hrel;obtain⟨V,rfl⟩:∃V,V=wr:=⟨_,rfl⟩
   by_cases kH:q<m
   ·have nG:(q:Int)<(m:Int):=eE;have Ub:IntKind.i64.wrap ((q:Int)+1)=(q:Int)+1:=aS _ ⟨eE,eE⟩;have ML:=wH N bM q (kB L) (pM L q) V (hM.nb.cell 2) hM.mp HEO.out eE (λp _=>⟨rfl,Sg.out.ms q p⟩) (jo.below (w:=w) HT.out hM.nU) (λb=>b<V.heap.size) (λb e=>e);have HM:Hid _:=hM;clear hM;go_wp2_with(fail);refine ML.mono ?_;rintro e w3 ⟨z,rfl,mW,sL,Xu,hz4,hz5,hz6⟩;have Xx:=HM.out.below sL;have c0:w3.cell? ⟨N,0,ν⟩=μ v:=Xx.nb.cell 0;have Nl:=Xx.uW;have ji:=Xx.row;have HZ:Hid (lW w3 z (jX ((q:Int)+1) 3 (pM L q))/\eN V w3/\(∀b,z.oj b->V.heap.size<=b)/\∀b,b<V.heap.size->z.fm.no b):=by
     refine⟨mW,sL,λb hb=> ?_,hz6⟩;rcases hb with e|e|e
     ·exact Xu b e
     ·rw[e];exact hz4
     ·exact hz5 b e
    have Xy:Hid _:=Xx;clear ML mW sL Xu hz4 hz5 hz6 Xx;go_wp2_with(at_builtin;go_must(refine iX _ rfl (.tmp 46) (.tmp 48) 187 rfl 26 i1 (π ν) 1 8 Tryz.underlying187 uD ahg ahh ahi rfl eH v q (vq P q) rfl (ji.alloc _) _ 1 1 [π (μ ⟨z.R,0,ν⟩)] rfl rfl eH (pT _ _ _) (VW _) (by unfold maxLen;omega) eE ?_));intro g' jL w4 hr4 hg4 UU;have hNv:v.ownBlock≠μ N:=λe=>(Xy.out.fv N e).2.1 rfl;have JZ:jr w4 N #[v,σ (μ ⟨gI,0,ν⟩) m m,.map (μ bM),σ ν 0 0] 190:=Xy.out.nb.keep ((hg4.block N (by simp;have:=Xy.out.uW;omega) (λe=>hNv e.symm)).trans (aT _ _ _ Xy.out.uW));have c4:w4.cell? ⟨N,0,ν⟩=μ v:=JZ.cell 0;have f4:=JZ.frozen 0;have l4:=JZ.lt;have HAdd:Hid (AY w (w4.setCell ⟨N,0,ν⟩ (σ (μ ⟨g',0,ν⟩) (q+1) jL)) N gI bM m (kB L) (pM L) (q+1) 0 L (σ (μ ⟨g',0,ν⟩) (q+1) jL) (σ ν 0 0) (jI P q z.R) (jI lo q V.heap.size) (jI hi q w3.heap.size)):=by
     obtain⟨a1,a2,a3,a4⟩:=HZ.out;refine AY.CB HM.out a1 a2 a3 a4 hr4 hg4 (λk hk=> ?_);have wa:g'=k:=by simpa[eF]using hk
     subst wa;rcases UU with e|e
     ·exact .inl e
     ·right;have:(w3.alloc (γ #[π (μ ⟨z.R,0,ν⟩)] 26)).heap.size=w3.heap.size+1:=iC;omega
    clear hr4 hg4 UU JZ hNv ji c0 Nl
    go_wp2
    go_roundw
    case rel=>exact⟨q+1,_,_,_,_,eE,by go_num,HAdd.out⟩
    case measure=>simp[ft];omega
   ·have yG:¬(q:Int)<(m:Int):=eE;obtain rfl:q=m:=eE;have HMq:Hid _:=hM;clear hM
    go_wp2
    go_loopw [55] (λx wr=>∃(j:Nat) (v2:eD),j<=n/\x=ι κ j/\AY w wr N gI bM q (kB L) (pM L) q j L v v2 P lo hi) (λx _=>n-(ft x).toNat)
    case atStart=>exact⟨0,_,Nat.zero_le _,rfl,HMq.out⟩
    case round=>
    obtain⟨j,v2,hj,rfl,hM⟩:=hrel;obtain⟨V2,rfl⟩:∃V2,V2=wr:=⟨_,rfl⟩
    by_cases VF:j<n
    ·have acG:(j:Int)<(n:Int):=eE;have xd:(0:Int)<=(j:Int):=eE;have hjL:j<L.length:=by rw[HN.out];exact VF
     obtain⟨b,off,rfl,k0,k1,k2,k3,k4⟩:=AX.below (w:=w) HL.out hM.nU j hjL;have bl:=af _ _ k0;have RV:Hid (L.take (j+1)=L.take j++ [L[j]]):=by
      show _=_;rw[ax hjL]
     generalize L[j] =c at k0 k1 k2 k3 k4 RV;obtain⟨ca,pv,cb,qM,cm⟩:=c;have kt:=iB V2 (γ #[ι κ ca,ι κ pv,ι κ cb,ι κ qM,ι κ cm] 81);have Lt:jr (V2.alloc (γ #[ι κ ca,ι κ pv,ι κ cb,ι κ qM,ι κ cm] 81)) V2.heap.size #[ι κ ca,ι κ pv,ι κ cb,ι κ qM,ι κ cm] 81:=jr.new V2 _ _;obtain⟨W1,ke⟩:=gH (V2.alloc (γ #[ι κ ca,ι κ pv,ι κ cb,ι κ qM,ι κ cm] 81));obtain⟨Y,hY⟩:=gH (V2.heap.size);have hMW:=hM.below kt;have HYo:Hid (v2.ownBlock≠μ Y):=λe=>by have:=hM.AZ.lt Y e;omega
     have Xp:Hid (Y≠N):=λe=>by have:=hM.uW;omega
     rw[ke]at Lt hMW;rw[hY]at Lt;have HM:Hid _:=hMW;have hV0:jr W1.drew Y #[ι κ ca,ι κ pv,ι κ cb,ι κ qM,ι κ cm] 81:=Lt.drew;have c3a:W1.drew.cell? ⟨N,3,ν⟩=μ v2:=hMW.nb.cell 3;have Nl0:N<W1.drew.heap.size:=hMW.uW;have kD:∀wS:eB,jr wS Y #[ι κ ca,ι κ pv,ι κ cb,ι κ qM,ι κ cm] 81->(fO 81 (π (μ ⟨Y,0,ν⟩))).run fk wS=.ok (.agg #[ι κ ca,ι κ pv,ι κ cb,ι κ qM,ι κ cm]) wS:=λwS hS=>by
      simp only[fO,Instr.sureAddr,Sem.run_bind,Sem.run_pure,Result.andThen];exact bP wS Y 81 81 _ (0,0) _ hS Tryz.underlying81 rfl VU
     have EW:=CT ca pv cb qM cm W1.drew;have O2:Hid _:=ke;have HY:Hid _:=hY;clear hM hMW kt Lt ke hY;go_wp2_with(fail);rw[O2.out]
     try rw[HY.out]
     refine cz (S:=λx=>jr x Y #[ι κ ca,ι κ pv,ι κ cb,ι κ qM,ι κ cm] 81) gT hV0 (λkY=> ?_);refine jq 0 (μ 59) rfl rfl gT gT gT (λ_ _ _ h=>h) (by rfl) (v:= ?_) ?_ jj ?_
     rotate_left
     ·intro wS kJ
      (try dsimp only at kJ)
      go_simp
      try with_reducible rfl
     simp only[gW,gX,gY,gZ];refine jq 1 (μ 60) rfl rfl gT gT gT (λ_ _ _ h=>h) (by rfl) (v:= ?_) ?_ jj ?_
     rotate_left
     ·intro wS kJ
      (try dsimp only at kJ)
      go_simp
      try with_reducible rfl
     simp only[gW,gX,gY,gZ];refine jq 2 (μ 61) rfl rfl gT gT gT (λ_ _ _ h=>h) (by rfl) (v:= ?_) ?_ jj ?_
     rotate_left
     ·intro wS kJ
      (try dsimp only at kJ)
      go_simp
      try with_reducible rfl
     simp only[gW,gX,gY,gZ];refine jq 3 (μ 62) rfl rfl gT gT gT (λ_ _ _ h=>h) (by rfl) (v:= ?_) ?_ jj ?_
     rotate_left
     ·intro wS kJ
      (try dsimp only at kJ)
      go_simp
      try with_reducible rfl
     simp only[gW,gX,gY,gZ];refine jq 5 (μ 64) rfl rfl gT gT gT (λ_ _ _ h=>h) (by rfl) (v:=.agg #[ι κ ca,ι κ pv,ι κ cb,ι κ qM,ι κ cm]) ?_ jj ?_
     ·intro wS kJ;have h7:=kD wS kJ;simp[execOp,Act.eval,h7]
     simp only[gW,gX,gY,gZ];refine aL (rs:=[4,6]) gT iC ?_;refine aB (o:=_) rfl (λK hK=> ?_) (aB (o:=_) rfl (λK hK=> ?_) aF)
     ·go_simp
      (try go_wp2_with(fail))
      refine hK.out _ _ (by exact hV0) (λkY=> ?_);clear hK K;refine aL (rs:=[6]) gT iC ?_;refine aB (o:=_) rfl (λK hK=> ?_) aF
      go_simp
      refine EW.mono ?_;rintro e w1 ⟨rfl,be⟩;have sG:=HM.out.below (iA (jk _) be);have Us:=hV0.below be;have c3b:w1.cell? ⟨N,3,ν⟩=μ v2:=sG.nb.cell 3;have Nl1:=sG.uW
      (try go_wp2_with(fail))
      refine hK.out _ _ (by exact Us) (λkY=> ?_);clear hK K;refine jq 7 (μ 66) rfl rfl gT gT gT (λ_ _ _ h=>h) (by rfl) (v:= ?_) ?_ jj ?_
      rotate_left
      ·intro wS kJ
       (try dsimp only at kJ)
       go_simp
       try with_reducible rfl
      simp only[gW,gX,gY,gZ];refine aL (rs:=[8]) gT iC ?_;refine aB (o:=_) rfl (λK hK=> ?_) aF
      go_simp
      have Gj:=jr.below Us (iB w1 (γ #[ι κ ca,ι κ pv,ι κ cb,ι κ qM,.bool false,σ ν 0 0,σ ν 0 0] 197));have qq:=sG.below (iB w1 (γ #[ι κ ca,ι κ pv,ι κ cb,ι κ qM,.bool false,σ ν 0 0,σ ν 0 0] 197));have c3c:(w1.alloc (γ #[ι κ ca,ι κ pv,ι κ cb,ι κ qM,.bool false,σ ν 0 0,σ ν 0 0] 197)).cell? ⟨N,3,ν⟩=μ v2:=qq.nb.cell 3;have Nl2:=qq.uW
      (try go_wp2_with(fail))
      refine hK.out _ _ (by exact Gj) (λkY=> ?_);clear hK K;refine aL (rs:=[9]) gT iC ?_;refine aB (o:=_) rfl (λK hK=> ?_) aF;refine kL (by rfl) (.tmp 63) (.tmp 67) 188 (by rfl) 197 i2 (.agg #[ι κ 0,ι κ 0,ι κ 0,ι κ 0,.bool false,σ ν 0 0,σ ν 0 0]) 7 88 dC hi2 ZN ZO ZP (by rfl) eH v2 j (rE (L.take j)) (by rfl) qq.AZ _ 1 1 (rE [⟨ca,pv,cb,qM,cm⟩]) (by rfl) (by rfl) eH (vr _ _ _ _ _ rfl) (CV _) (by unfold maxLen;omega) eE ?_;intro g' jL x1 kU ki jD;have vm:jr x1 N _ 190:=qq.nb.keep (ki.block N qq.uW (λe=>(qq.Gp N e.symm).2.1 rfl));have S8:jr x1 Y _ 81:=Gj.keep (ki.block Y Gj.lt (λe=>HYo.out e.symm));have c3d:x1.cell? ⟨N,3,ν⟩=μ v2:=vm.cell 3;have f3d:=vm.frozen 3;have Nl3:=vm.lt;refine hK.out _ _ (by exact S8) (λkY=> ?_);clear hK K;refine jq 10 (μ 69) rfl rfl gT gT gT (λ_ _ _ h=>h) (by rfl) (v:= ?_) ?_ jj ?_
      rotate_left
      ·intro wS kJ
       (try dsimp only at kJ)
       go_simp
       try with_reducible rfl
      simp only[gW,gX];refine jq 11 (μ 70) rfl rfl gT gT gT (λ_ _ _ h=>h) (by rfl) (v:= ?_) ?_ jj ?_
      rotate_left
      ·intro wS kJ
       (try dsimp only at kJ)
       go_simp
       try with_reducible rfl
      simp only[gW];refine aL (rs:=[12]) gT iC ?_;refine aB (o:=_) rfl (λK hK=> ?_) aF
      go_simp
      (try go_wp2_with(fail))
      refine hK.out _ _ (by exact S8.other Xp.out _) (λkY=> ?_);clear hK K;refine bZ gT ?_ _;have HAdd:Hid _:=AY.EK qq (c:=⟨ca,pv,cb,qM,cm⟩) RV.out kU ki (λk hk=>by
       have wa:g'=k:=by simpa[eF]using hk
       subst wa;exact jD)
      clear kU ki jD vm S8 c3d f3d Nl3 sG qq Us Gj
      go_wp2
      go_roundw
      case rel=>exact⟨j+1,_,eE,by go_num,HAdd.out⟩
      case measure=>simp[ft];omega
     ·go_simp
      refine EW.mono ?_;rintro e w1 ⟨rfl,be⟩;have sG:=HM.out.below (iA (jk _) be);have Us:=hV0.below be;have c3b:w1.cell? ⟨N,3,ν⟩=μ v2:=sG.nb.cell 3;have Nl1:=sG.uW
      (try go_wp2_with(fail))
      refine hK.out _ _ (by exact Us) (λkY=> ?_);clear hK K;refine jq 7 (μ 66) rfl rfl gT gT gT (λ_ _ _ h=>h) (by rfl) (v:= ?_) ?_ jj ?_
      rotate_left
      ·intro wS kJ
       (try dsimp only at kJ)
       go_simp
       try with_reducible rfl
      simp only[gW,gX,gY,gZ];refine aL (rs:=[4,8]) gT iC ?_;refine aB (o:=_) rfl (λK hK=> ?_) (aB (o:=_) rfl (λK hK=> ?_) aF)
      ·go_simp
       (try go_wp2_with(fail))
       refine hK.out _ _ (by exact Us) (λkY=> ?_);clear hK K;refine aL (rs:=[8]) gT iC ?_;refine aB (o:=_) rfl (λK hK=> ?_) aF
       go_simp
       have Gj:=jr.below Us (iB w1 (γ #[ι κ ca,ι κ pv,ι κ cb,ι κ qM,.bool false,σ ν 0 0,σ ν 0 0] 197));have qq:=sG.below (iB w1 (γ #[ι κ ca,ι κ pv,ι κ cb,ι κ qM,.bool false,σ ν 0 0,σ ν 0 0] 197));have c3c:(w1.alloc (γ #[ι κ ca,ι κ pv,ι κ cb,ι κ qM,.bool false,σ ν 0 0,σ ν 0 0] 197)).cell? ⟨N,3,ν⟩=μ v2:=qq.nb.cell 3;have Nl2:=qq.uW
       (try go_wp2_with(fail))
       refine hK.out _ _ (by exact Gj) (λkY=> ?_);clear hK K;refine aL (rs:=[9]) gT iC ?_;refine aB (o:=_) rfl (λK hK=> ?_) aF;refine kL (by rfl) (.tmp 63) (.tmp 67) 188 (by rfl) 197 i2 (.agg #[ι κ 0,ι κ 0,ι κ 0,ι κ 0,.bool false,σ ν 0 0,σ ν 0 0]) 7 88 dC hi2 ZN ZO ZP (by rfl) eH v2 j (rE (L.take j)) (by rfl) qq.AZ _ 1 1 (rE [⟨ca,pv,cb,qM,cm⟩]) (by rfl) (by rfl) eH (vr _ _ _ _ _ rfl) (CV _) (by unfold maxLen;omega) eE ?_;intro g' jL x1 kU ki jD;have vm:jr x1 N _ 190:=qq.nb.keep (ki.block N qq.uW (λe=>(qq.Gp N e.symm).2.1 rfl));have S8:jr x1 Y _ 81:=Gj.keep (ki.block Y Gj.lt (λe=>HYo.out e.symm));have c3d:x1.cell? ⟨N,3,ν⟩=μ v2:=vm.cell 3;have f3d:=vm.frozen 3;have Nl3:=vm.lt;refine hK.out _ _ (by exact S8) (λkY=> ?_);clear hK K;refine jq 10 (μ 69) rfl rfl gT gT gT (λ_ _ _ h=>h) (by rfl) (v:= ?_) ?_ jj ?_
       rotate_left
       ·intro wS kJ
        (try dsimp only at kJ)
        go_simp
        try with_reducible rfl
       simp only[gW,gX];refine jq 11 (μ 70) rfl rfl gT gT gT (λ_ _ _ h=>h) (by rfl) (v:= ?_) ?_ jj ?_
       rotate_left
       ·intro wS kJ
        (try dsimp only at kJ)
        go_simp
        try with_reducible rfl
       simp only[gW];refine aL (rs:=[12]) gT iC ?_;refine aB (o:=_) rfl (λK hK=> ?_) aF
       go_simp
       (try go_wp2_with(fail))
       refine hK.out _ _ (by exact S8.other Xp.out _) (λkY=> ?_);clear hK K;refine bZ gT ?_ _;have HAdd:Hid _:=AY.EK qq (c:=⟨ca,pv,cb,qM,cm⟩) RV.out kU ki (λk hk=>by
        have wa:g'=k:=by simpa[eF]using hk
        subst wa;exact jD)
       clear kU ki jD vm S8 c3d f3d Nl3 sG qq Us Gj
       go_wp2
       go_roundw
       case rel=>exact⟨j+1,_,eE,by go_num,HAdd.out⟩
       case measure=>simp[ft];omega
      ·go_simp
       have Gj:=jr.below Us (iB w1 (γ #[ι κ ca,ι κ pv,ι κ cb,ι κ qM,.bool false,σ ν 0 0,σ ν 0 0] 197));have qq:=sG.below (iB w1 (γ #[ι κ ca,ι κ pv,ι κ cb,ι κ qM,.bool false,σ ν 0 0,σ ν 0 0] 197));have c3c:(w1.alloc (γ #[ι κ ca,ι κ pv,ι κ cb,ι κ qM,.bool false,σ ν 0 0,σ ν 0 0] 197)).cell? ⟨N,3,ν⟩=μ v2:=qq.nb.cell 3;have Nl2:=qq.uW
       (try go_wp2_with(fail))
       refine hK.out _ _ (by exact Gj) (λkY=> ?_);clear hK K;refine aL (rs:=[4]) gT iC ?_;refine aB (o:=_) rfl (λK hK=> ?_) aF
       go_simp
       (try go_wp2_with(fail))
       refine hK.out _ _ (by exact Gj) (λkY=> ?_);clear hK K;refine aL (rs:=[9]) gT iC ?_;refine aB (o:=_) rfl (λK hK=> ?_) aF;refine kL (by rfl) (.tmp 63) (.tmp 67) 188 (by rfl) 197 i2 (.agg #[ι κ 0,ι κ 0,ι κ 0,ι κ 0,.bool false,σ ν 0 0,σ ν 0 0]) 7 88 dC hi2 ZN ZO ZP (by rfl) eH v2 j (rE (L.take j)) (by rfl) qq.AZ _ 1 1 (rE [⟨ca,pv,cb,qM,cm⟩]) (by rfl) (by rfl) eH (vr _ _ _ _ _ rfl) (CV _) (by unfold maxLen;omega) eE ?_;intro g' jL x1 kU ki jD;have vm:jr x1 N _ 190:=qq.nb.keep (ki.block N qq.uW (λe=>(qq.Gp N e.symm).2.1 rfl));have S8:jr x1 Y _ 81:=Gj.keep (ki.block Y Gj.lt (λe=>HYo.out e.symm));have c3d:x1.cell? ⟨N,3,ν⟩=μ v2:=vm.cell 3;have f3d:=vm.frozen 3;have Nl3:=vm.lt;refine hK.out _ _ (by exact S8) (λkY=> ?_);clear hK K;refine jq 10 (μ 69) rfl rfl gT gT gT (λ_ _ _ h=>h) (by rfl) (v:= ?_) ?_ jj ?_
       rotate_left
       ·intro wS kJ
        (try dsimp only at kJ)
        go_simp
        try with_reducible rfl
       simp only[gW,gX];refine jq 11 (μ 70) rfl rfl gT gT gT (λ_ _ _ h=>h) (by rfl) (v:= ?_) ?_ jj ?_
       rotate_left
       ·intro wS kJ
        (try dsimp only at kJ)
        go_simp
        try with_reducible rfl
       simp only[gW];refine aL (rs:=[12]) gT iC ?_;refine aB (o:=_) rfl (λK hK=> ?_) aF
       go_simp
       (try go_wp2_with(fail))
       refine hK.out _ _ (by exact S8.other Xp.out _) (λkY=> ?_);clear hK K;refine bZ gT ?_ _;have HAdd:Hid _:=AY.EK qq (c:=⟨ca,pv,cb,qM,cm⟩) RV.out kU ki (λk hk=>by
        have wa:g'=k:=by simpa[eF]using hk
        subst wa;exact jD)
       clear kU ki jD vm S8 c3d f3d Nl3 sG qq Us Gj
       go_wp2
       go_roundw
       case rel=>exact⟨j+1,_,eE,by go_num,HAdd.out⟩
       case measure=>simp[ft];omega
    ·have acR:¬(j:Int)<(n:Int):=eE;obtain rfl:j=n:=eE;have sO:∃y,jJ V2 y (jE ((q:Int)).toNat L)/\y.N=N/\(∀b,y.all ((q:Int)).toNat b->w.heap.size<=b)/\∀b,y.ext b↔X b:=by
      have qq:AY w V2 N gI bM ((q:Int)).toNat (kB L) (pM L) ((q:Int)).toNat L.length L v v2 P lo hi:=by
       rw[Gd,HN.out];exact hM
      exact AY.done (w:=w) (many:=(q:Int)) Sg.out HEO.out qq (jo.lt (w:=w) HT.out) X hX
     have HF:Hid (Pg w (q:Int) L X (ρ (τ #[π (μ ⟨N,0,ν⟩),η])) V2):=by
      obtain⟨y,y1,y2,y3,y4⟩:=sO;exact⟨λe=>absurd H00.out e,λ_=>⟨y,by rw[y2],y1,y3,y4⟩,hM.nU⟩
     clear hM sO
     go_wp2
     go_ret2
     exact HF.out
 ·have yH:fj fk 95 #[ι κ many,σ a L.length cap] w λe w'=>e=ρ (τ #[.map ν,jy (nk many L)])/\eN w w':=by
   refine hm.mono ?_;rintro e w1 ⟨h1,_,hb⟩;exact⟨h1 h0,hb⟩
  have ee:jy (nk many L)=.iface 128 (ι κ ((nk many L:Nat):Int)):=by simp only[jy];rw[ae h0]
  have HE:Hid _:=ee;have H0:Hid _:=h0;rw[ee]at yH;generalize L.length=n at yH⊢;clear hm hL hT ee h0
  go_in
  go_wp2_with(fail);refine yH.mono ?_;rintro e w1 ⟨rfl,hb⟩;have HB:Hid _:=hb;clear yH hb
  go_wp2
  go_ret2
  exact⟨λ_=>by rw[HE.out];rfl,λe=>absurd e H0.out,HB.out⟩
def rF(y:jc)(v:AV):jc:=
 if(v.kind.toList==[112,108,117,103])=true then(y.iW v.a (v.b==1)).1
 else if(v.kind.toList==[116,105,99,107])=true then(y.tick v.a).1
 else if(v.kind.toList==[100,101,108,105,118,101,114])=true then(y.deliver v.a v.b v.c).1
 else if(v.kind.toList==[114,101,115,116,97,114,116])=true then(y.restart v.a).1
 else if(v.kind.toList==[115,101,110,100])=true then(y.send v.a v.b v.s.data.toList).1
 else if(v.kind.toList==[114,111,117,110,100])=true then y.round
 else y
theorem Ph(y:jc)(i:Int)(up:Bool):(y.iW i up).1.n=y.n/\(y.iW i up).1.nc=y.nc/\(y.iW i up).1.ms=y.ms/\∀x,((y.iW i up).1.C x).e=(y.C x).e:=by
 unfold jc.iW;split
 ·exact⟨rfl,rfl,rfl,λ_=>rfl⟩
 ·split
  ·exact⟨rfl,rfl,rfl,λ_=>rfl⟩
  ·obtain⟨g1,g2,g3,g4⟩:=ld (y.j5 i.toNat up);obtain⟨p1,p2,p3,_,p5⟩:=oO y i.toNat up;exact⟨g1.trans p1,g2.trans p2,g3.trans p3,λx=>(g4 x).1.trans (p5 x).1⟩
theorem Gq(y:jc)(i:Int):(y.restart i).1.n=y.n/\(y.restart i).1.nc=y.nc/\(y.restart i).1.ms=y.ms/\∀x,((y.restart i).1.C x).e=(y.C x).e:=by
 unfold jc.restart;split
 ·exact⟨rfl,rfl,rfl,λ_=>rfl⟩
 ·obtain⟨a1,a2,a3,_,a5⟩:=mV false (y.kT (i-1).toNat) y;obtain⟨b1,b2,b3,_,b5⟩:=mV true (y.kT (i-1).toNat) ((y.jS false (y.kT (i-1).toNat)).jQ (i-1).toNat (jX i 3 (y.ms (i-1).toNat)));obtain⟨g1,g2,g3,g4⟩:=ld (((y.jS false (y.kT (i-1).toNat)).jQ (i-1).toNat (jX i 3 (y.ms (i-1).toNat))).jS true (y.kT (i-1).toNat));exact⟨g1.trans (b1.trans a1),g2.trans (b2.trans a2),g3.trans (b3.trans a3),λx=>(g4 x).1.trans ((b5 x).trans (a5 x))⟩
theorem Pj(y:jc)(f t:Int)(tx:List UInt8):(y.send f t tx).1.n=y.n/\(y.send f t tx).1.nc=y.nc/\(y.send f t tx).1.ms=y.ms/\∀x,((y.send f t tx).1.C x).e=(y.C x).e:=by
 unfold jc.send;split
 ·exact⟨rfl,rfl,rfl,λ_=>rfl⟩
 ·split
  ·exact⟨rfl,rfl,rfl,λ_=>rfl⟩
  ·obtain⟨g1,g2,g3,g4⟩:=ld (y.jQ (f-1).toNat (kg (y.R (f-1).toNat) t tx).1);exact⟨g1,g2,g3,λx=>(g4 x).1⟩
theorem Pk(y:jc)(v:AV):(rF y v).n=y.n/\(rF y v).nc=y.nc/\(rF y v).ms=y.ms/\∀x,((rF y v).C x).e=(y.C x).e:=by
 unfold rF;split
 ·exact Ph _ _ _
 ·split
  ·obtain⟨a,b,c,d⟩:=EU y v.a;exact⟨a,b,c,λx=>(d x).1⟩
  ·split
   ·obtain⟨a,b,c,d⟩:=pG y v.a v.b v.c;exact⟨a,b,c,λx=>(d x).1⟩
   ·split
    ·exact Gq _ _
    ·split
     ·exact Pj _ _ _ _
     ·split
      ·obtain⟨a,b,c,d⟩:=rD y;exact⟨a,b,c,λx=>(d x).1⟩
      ·exact⟨rfl,rfl,rfl,λ_=>rfl⟩
theorem j6.act {y:jc} {D:Nat} (h:j6 y D 0)(hD:D<=800000000)(v:AV):j6 (rF y v) (D+1300000) 0:=by
 unfold rF;split
 ·exact(h.iW eE _ _).mono eE (Nat.le_refl _)
 ·split
  ·exact(h.tick eE _).mono eE (Nat.le_refl _)
  ·split
   ·exact(h.deliver eE _ _ _).mono eE (Nat.le_refl _)
   ·split
    ·exact(h.restart eE _).mono eE (Nat.le_refl _)
    ·split
     ·exact(h.send eE _ _ _).mono eE (Nat.le_refl _)
     ·split
      ·exact h.round hD
      ·exact h.mono eE (Nat.le_refl _)
theorem jJ.from {w W:eB} {y:Yt} {n n':jc} {f:FuncId} {args:Array eD} {ev:eD} (hb:eN w W)(hc:fj fk f args W λe w'=>e=ρ ev/\iV W w' y n' n.n):fj fk f args W λe w'=>(∃v,e=ρ v)/\iV w w' y n' n.n:=by
 refine hc.mono ?_;rintro e w' ⟨rfl,hw⟩;exact⟨⟨_,rfl⟩,iV.first hb hw⟩
theorem A4(y:Yt)(n:jc)(D:Nat)(v:AV)(w:eB)(h:jJ w y n)(hT:jo w)(jb:j6 n D 0)(hD:D<=800000000):
 fj fk 59 #[π (μ ⟨y.N,0,ν⟩),.agg #[.string v.kind,ι κ v.a,ι κ v.b,ι κ v.c,ι κ v.d,.string v.s,ι κ v.Mu,ι κ v.pid,σ v.po v.pn v.BS,ι κ v.x.own,ι κ v.x.seq,σ v.x.a v.x.n v.x.cap]] w λe w'=>e=ρ (τ #[])/\iV w w' y (rF n v) n.n:=by
 obtain⟨vk,va,vb,vc,vd,vs,WX,WY,WZ,Uh,z9,⟨xo,xq,xa,xn,xc⟩⟩:=v;have hb:=iB w (γ #[.string vk,ι κ va,ι κ vb,ι κ vc,ι κ vd,.string vs,ι κ WX,ι κ WY,σ WZ Uh z9,ι κ xo,ι κ xq,σ xa xn xc] 42);have hB:jr (w.alloc (γ #[.string vk,ι κ va,ι κ vb,ι κ vc,ι κ vd,.string vs,ι κ WX,ι κ WY,σ WZ Uh z9,ι κ xo,ι κ xq,σ xa xn xc] 42)) w.heap.size #[.string vk,ι κ va,ι κ vb,ι κ vc,ι κ vd,.string vs,ι κ WX,ι κ WY,σ WZ Uh z9,ι κ xo,ι κ xq,σ xa xn xc] 42:=jr.new w _ _;obtain⟨W0,nL⟩:=gH (w.alloc (γ #[.string vk,ι κ va,ι κ vb,ι κ vc,ι κ vd,.string vs,ι κ WX,ι κ WY,σ WZ Uh z9,ι κ xo,ι κ xq,σ xa xn xc] 42));obtain⟨X,hX⟩:=gH (w.heap.size);rw[nL]at hb hB;rw[hX]at hB;have R0:=h.below hb;have T0:jo W0:=jo.below (w:=w) hT hb;have c0:W0.cell? ⟨X,0,ν⟩=μ (.string vk):=hB.cell 0;have c1:W0.cell? ⟨X,1,ν⟩=μ (ι κ va):=hB.cell 1;have c2:W0.cell? ⟨X,2,ν⟩=μ (ι κ vb):=hB.cell 2;have c3:W0.cell? ⟨X,3,ν⟩=μ (ι κ vc):=hB.cell 3;have c5:W0.cell? ⟨X,5,ν⟩=μ (.string vs):=hB.cell 5;have xl:=hB.lt;have D3:Hid _:=nL;have HX:Hid _:=hX;have q1:=jJ.from hb (Jb y n D va (vb==1) W0 R0 T0 jb eE);have q2:=jJ.from hb (I8 y n D va W0 R0 T0 jb eE);have q3:=jJ.from hb (Ak y n D va vb vc W0 R0 T0 jb eE);have q4:=jJ.from hb (Ji y n D va W0 R0 T0 jb eE);have q5:=jJ.from hb (SM y n D va vb vs W0 R0 jb eE);have q6:=jJ.from hb (zp y n D W0 R0 T0 jb hD);have q7:iV w W0 y n n.n:=iV.still h hb;obtain⟨G,hG⟩:=gH (rF n ⟨vk,va,vb,vc,vd,vs,WX,WY,WZ,Uh,z9,⟨xo,xq,xa,xn,xc⟩⟩)
 rw[hG];have HG:Hid (G=if(vk.toList==[112,108,117,103])=true then(n.iW va (vb==1)).1
  else if(vk.toList==[116,105,99,107])=true then(n.tick va).1
  else if(vk.toList==[100,101,108,105,118,101,114])=true then(n.deliver va vb vc).1
  else if(vk.toList==[114,101,115,116,97,114,116])=true then(n.restart va).1
  else if(vk.toList==[115,101,110,100])=true then(n.send va vb vs.data.toList).1
  else if(vk.toList==[114,111,117,110,100])=true then n.round
  else n):=hG.symm
 clear h hT jb R0 T0 hb hB nL hX hG;cases k1:(vk.toList==[112,108,117,103])
 case true=>
  have hq:=q1;clear q1 q2 q3 q4 q5 q6 q7;have HE:Hid (∀x,iV w x y _ n.n->iV w x y G n.n):=λx hx=>by
   rw[HG.out,ag k1];exact hx
  go_in
  go_wp2_with(fail)
  try rw[D3.out]
  try rw[HX.out]
  go_wp2_with(fail);refine hq.mono ?_;rintro e w6 ⟨⟨ev,rfl⟩,hw⟩;have HW:Hid _:=HE.out _ hw;clear hq hw HE
  go_wp2
  first|go_end0|refine aj (ar rfl _ _ _) rfl ?_
  exact⟨rfl,HW.out⟩
 case false=>
  cases k2:(vk.toList==[116,105,99,107])
  case true=>
   have hq:=q2;clear q1 q2 q3 q4 q5 q6 q7;have HE:Hid (∀x,iV w x y _ n.n->iV w x y G n.n):=λx hx=>by
    rw[HG.out,ae (by rw[k1];simp),ag k2];exact hx
   go_in
   go_wp2_with(fail)
   try rw[D3.out]
   try rw[HX.out]
   go_wp2_with(fail);refine hq.mono ?_;rintro e w6 ⟨⟨ev,rfl⟩,hw⟩;have HW:Hid _:=HE.out _ hw;clear hq hw HE
   go_wp2
   first|go_end0|refine aj (ar rfl _ _ _) rfl ?_
   exact⟨rfl,HW.out⟩
  case false=>
   cases k3:(vk.toList==[100,101,108,105,118,101,114])
   case true=>
    have hq:=q3;clear q1 q2 q3 q4 q5 q6 q7;have HE:Hid (∀x,iV w x y _ n.n->iV w x y G n.n):=λx hx=>by
     rw[HG.out,ae (by rw[k1];simp),ae (by rw[k2];simp),ag k3];exact hx
    go_in
    go_wp2_with(fail)
    try rw[D3.out]
    try rw[HX.out]
    go_wp2_with(fail);refine hq.mono ?_;rintro e w6 ⟨⟨ev,rfl⟩,hw⟩;have HW:Hid _:=HE.out _ hw;clear hq hw HE
    go_wp2
    first|go_end0|refine aj (ar rfl _ _ _) rfl ?_
    exact⟨rfl,HW.out⟩
   case false=>
    cases k4:(vk.toList==[114,101,115,116,97,114,116])
    case true=>
     have hq:=q4;clear q1 q2 q3 q4 q5 q6 q7;have HE:Hid (∀x,iV w x y _ n.n->iV w x y G n.n):=λx hx=>by
      rw[HG.out,ae (by rw[k1];simp),ae (by rw[k2];simp),ae (by rw[k3];simp),ag k4];exact hx
     go_in
     go_wp2_with(fail)
     try rw[D3.out]
     try rw[HX.out]
     go_wp2_with(fail);refine hq.mono ?_;rintro e w6 ⟨⟨ev,rfl⟩,hw⟩;have HW:Hid _:=HE.out _ hw;clear hq hw HE
     go_wp2
     first|go_end0|refine aj (ar rfl _ _ _) rfl ?_
     exact⟨rfl,HW.out⟩
    case false=>
     cases k5:(vk.toList==[115,101,110,100])
     case true=>
      have hq:=q5;clear q1 q2 q3 q4 q5 q6 q7;have HE:Hid (∀x,iV w x y _ n.n->iV w x y G n.n):=λx hx=>by
       rw[HG.out,ae (by rw[k1];simp),ae (by rw[k2];simp),ae (by rw[k3];simp),ae (by rw[k4];simp),ag k5];exact hx
      go_in
      go_wp2_with(fail)
      try rw[D3.out]
      try rw[HX.out]
      go_wp2_with(fail);refine hq.mono ?_;rintro e w6 ⟨⟨ev,rfl⟩,hw⟩;have HW:Hid _:=HE.out _ hw;clear hq hw HE
      go_wp2
      first|go_end0|refine aj (ar rfl _ _ _) rfl ?_
      exact⟨rfl,HW.out⟩
     case false=>
      cases k6:(vk.toList==[114,111,117,110,100])
      case true=>
       have hq:=q6;clear q1 q2 q3 q4 q5 q6 q7;have HE:Hid (∀x,iV w x y _ n.n->iV w x y G n.n):=λx hx=>by
        rw[HG.out,ae (by rw[k1];simp),ae (by rw[k2];simp),ae (by rw[k3];simp),ae (by rw[k4];simp),ae (by rw[k5];simp),ag k6];exact hx
       go_in
       go_wp2_with(fail)
       try rw[D3.out]
       try rw[HX.out]
       go_wp2_with(fail);refine hq.mono ?_;rintro e w6 ⟨⟨ev,rfl⟩,hw⟩;have HW:Hid _:=HE.out _ hw;clear hq hw HE
       go_wp2
       first|go_end0|refine aj (ar rfl _ _ _) rfl ?_
       exact⟨rfl,HW.out⟩
      case false=>
       have HW:Hid (iV w W0 y G n.n):=by
        show iV _ _ _ _ _;rw[HG.out,ae (by rw[k1];simp),ae (by rw[k2];simp),ae (by rw[k3];simp),ae (by rw[k4];simp),ae (by rw[k5];simp),ae (by rw[k6];simp)];exact q7
       clear q1 q2 q3 q4 q5 q6 q7
       go_in
       go_wp2_with(fail)
       try rw[D3.out]
       try rw[HX.out]
       go_wp2
       first|go_end0|refine aj (ar rfl _ _ _) rfl ?_
       exact⟨rfl,HW.out⟩
end Rt
end Go.Proofs.YtieklnlbljejdaaGreatDoor
