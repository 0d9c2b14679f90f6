import Derived.Test.YtieklnlbljejdaaGreatDoorG20
open Go.Value renaming int → ι, slice → σ, pointer → π, tuple → τ
open Go.IntKind renaming i64 → κ
open Go.Ending renaming returned → ρ
open Go.Obj renaming cells → γ
open Option renaming none → ν, some → μ
open Go renaming World → eB, Calls → fj
open Go.Proofs.Tryz renaming prog → fk
open And renaming intro → fE
open Go.Value renaming ownBlock → eF
open Go.IntKind renaming i64 → fY, u8 → ga
open Go.IntWalk renaming u8_in → ic
open Go.Act renaming put → gW
open List renaming setIfInBounds_toArray → gX, set_cons_zero → gY, set_cons_succ → gZ
set_option maxRecDepth 100000
set_option maxHeartbeats 8000000
namespace Go.Proofs.YtieklnlbljejdaaGreatDoor
open Go.RowKit St
namespace Rt
variable {k:Nat} {r:iY}
theorem Lh(z:Zt)(r:iY)(t hp:Int)(tx:ByteArray)(w:eB)(h:lW w z r)(hK:Vl r.K):
 fj fk 153 #[π (μ ⟨z.R,0,ν⟩),.agg #[ι κ t,ι κ hp,.string tx]] w λe w'=>e=ρ (τ #[ι κ (EE (Vr r t hp)),.bool (Vr r t hp).isSome])/\eN w w':=by
 obtain⟨hop,OI⟩:=gH ((yR (oX r) t).getD HP.zero);obtain⟨ok,jb⟩:=gH ((yR (oX r) t).isSome);have hho:∀W,eN w W->fj fk 64 #[π (μ ⟨z.R,0,ν⟩)] W λe w'=>∃b n c,e=ρ (σ b n c)/\eN W w'/\(∀W',eN w' W'->fj fk 199 #[σ b n c,ι κ t] W' λe w2=>e=ρ (τ #[.agg #[ι κ hop.dst,ι κ hop.far,ι κ hop.uf],.bool ok])/\eN W' w2):=by
  intro W hW;refine(EI z r W (h.below hW) hK).mono ?_;rintro e w1 ⟨b,c,rfl,hH,b1⟩;refine⟨b,_,c,rfl,b1,λW' hW'=> ?_⟩;have:=X8 b (oX r).length c (oX r) t W' (hH.r.below hW') (by have:=Ge (oH (MK r.K)) r.id.toNat;show(xQ _ _).length<=_;omega);rw[OI,jb]at this;exact this
 have Sr:Hid (∀W,eN w W->fj fk 200 #[π (μ ⟨z.R,0,ν⟩),ι κ hop.uf] W λe w'=>e=ρ (τ #[ι κ (EE (kd r.P hop.uf r.n)),.bool (kd r.P hop.uf r.n).isSome])/\eN W w'):=λW hW=>Cw z r hop.uf W (h.below hW);have AR:Hid (Vr r t hp=if 1<=hp/\ok=true then kd r.P hop.uf r.n else ν):=by
  show _=_;unfold Vr;rw[<-jb,<-OI];by_cases h1:1<=hp
  ·rw[ag h1];cases yR (oX r) t<;>simp[h1]
  ·rw[ae h1,ae (by simp[h1])]
 generalize kd r.P hop.uf r.n=bp at Sr AR;generalize Vr r t hp=op at AR⊢;obtain⟨d,f,x⟩:=hop;simp only at hho Sr;have hRl:=h.lt;generalize z.R=RR at hho Sr hRl⊢;clear h OI jb;obtain⟨C,hC⟩:∃C:Array Value,#[Value.int .i64 t,ι κ hp,.string tx] =C:=⟨_,rfl⟩
 have bm:=iB w (γ #[ι κ t,ι κ hp,.string tx] 106);have IZ:jr (w.alloc (γ #[ι κ t,ι κ hp,.string tx] 106)) w.heap.size #[ι κ t,ι κ hp,.string tx] 106:=jr.new w _ _;obtain⟨W0,nL⟩:=gH (w.alloc (γ #[ι κ t,ι κ hp,.string tx] 106));obtain⟨N,hN⟩:=gH (w.heap.size);have Ul:eN w W0.drew:=by rw[<-nL];exact jO bm
 have Xk:jr W0.drew N #[ι κ t,ι κ hp,.string tx] 106:=by rw[<-nL,<-hN];exact IZ.drew
 have D3:Hid _:=nL;have HN:Hid _:=hN;clear IZ bm nL hN hC C
 go_in
 go_wp2_with(fail);rw[D3.out,HN.out]
 go_cut [6,7] (λv6 v7 wx=>∃Z:Nat,v6=π (μ ⟨Z,0,ν⟩)/\v7=.bool ok/\wx.cell? ⟨Z,2,ν⟩=μ (ι κ x)/\eN w wx/\wx.cell? ⟨N,1,ν⟩=μ (ι κ hp))
 case first=>
  have F0:W0.drew.cell? ⟨N,0,ν⟩=μ (ι κ t)/\W0.drew.cell? ⟨N,1,ν⟩=μ (ι κ hp):=⟨Xk.cell 0,Xk.cell 1⟩
  have Nl:N<W0.drew.heap.size:=Xk.lt;have ba:Below W0.drew.heap.size W0.drew (W0.alloc (γ #[ι κ 0,ι κ 0,ι κ 0] 98)).drew:=by
   have b':=jO (iB W0 (γ #[ι κ 0,ι κ 0,ι κ 0] 98));exact⟨b'.os,b'.tape,b'.output,b'.size,b'.block⟩
  have wF:jr (W0.alloc (γ #[ι κ 0,ι κ 0,ι κ 0] 98)).drew W0.heap.size #[ι κ 0,ι κ 0,ι κ 0] 98:=(jr.new W0 _ _).drew;have jV:N≠W0.heap.size:=by have h2:N<W0.heap.size:=Nl;omega
  have hwW:w.heap.size<=W0.heap.size:=Ul.size
  go_region_held3(λx=>x.cell? ⟨N,0,ν⟩=μ (ι κ t)/\x.cell? ⟨N,1,ν⟩=μ (ι κ hp))
   (first|assumption|exact F0|exact F1|exact F2|exact nW F0|exact nW F1|exact nW F2|exact tW F2 jV jV|exact tW F2 D6 D6)
   (first
    |(go_at_call 64;refine(hho _ (by first|exact Ul|exact iA Ul ba)).mono ?_;rintro e w1 ⟨b,n,c,rfl,b1,agD⟩;first|(have mM:=wF.below b1;have sG:=(Xk.below ba).below b1;have F1:=fE (sG.cell 0) (sG.cell 1))|(have sG:=Xk.below b1;have F1:=fE (sG.cell 0) (sG.cell 1)))
    |(go_at_call 199;refine(agD _ (by first|exact au _ _|exact iB _ _)).mono ?_;rintro e w2 ⟨rfl,b2⟩;first|(have xF:=mM.below b2;have qq:=sG.below b2;have F2:=fE (qq.cell 0) (qq.cell 1);have y0:=xF.cell 0;have y1:=xF.cell 1;have y2:=xF.cell 2;have z0:=xF.frozen 0;have z1:=xF.frozen 1;have z2:=xF.frozen 2)|(have qq:=sG.below b2;have F2:=fE (qq.cell 0) (qq.cell 1))|(have xF:=(jr.new w1 #[.int .i64 0,.int .i64 0,.int .i64 0] 98).below b2;have qq:=(sG.below (iB w1 _)).below b2;have F2:=fE (qq.cell 0) (qq.cell 1);have D6:N≠w1.heap.size:=(by have h2:=sG.lt;omega);have y0:=xF.cell 0;have y1:=xF.cell 1;have y2:=xF.cell 2;have z0:=xF.frozen 0;have z1:=xF.frozen 1;have z2:=xF.frozen 2)))
  all_goals
   go_wp2_with(fail)
   go_meet
   first
    |exact⟨_,rfl,rfl,aq w2 _ _ (0,0) 2,iA (iA (iA Ul b1) b2) (iB _ _),mD F2.2⟩
    |(have h5:=Gb (a:=.int .i64 d) (b:=.int .i64 f) (c:=.int .i64 x) xF rfl hwW (iA (iA (iA Ul ba) b1) b2)
      exact⟨_,rfl,rfl,h5.2.1,h5.2.2.1,vP F2.2 jV⟩)
    |(have h5:=Gb (a:=.int .i64 d) (b:=.int .i64 f) (c:=.int .i64 x) xF rfl (Nat.le_trans hwW b1.size) (iA (iA (iA Ul b1) (iB w1 _)) b2)
      exact⟨_,rfl,rfl,h5.2.1,h5.2.2.1,vP F2.2 D6⟩)
 case rest=>
  obtain⟨Z,rfl,rfl,dz,qC,dn⟩:=hcut;have zl:=af _ _ dz;have nl:=af _ _ dn;cases ok with
  |false=>
   have HO:Hid (op=ν):=by show _=_;rw[AR.out,ae iC]
   clear hho Sr AR
   go_wp2
   go_ret2
   exact⟨by rw[HO.out];rfl,qC⟩
  |true=>
   by_cases h1:hp<1
   ·have HO:Hid (op=ν):=by show _=_;rw[AR.out,ae eE]
    clear hho Sr AR
    go_wp2
    go_ret2
    exact⟨by rw[HO.out];rfl,qC⟩
   ·have HO:Hid (op=bp):=by show _=_;rw[AR.out,ag ⟨eE,rfl⟩]
    have Ad:=Sr.out _ qC;clear hho Sr AR;go_wp2_with(fail);refine Ad.mono ?_;rintro e w5 ⟨rfl,b5⟩;have HB:Hid _:=iA qC b5;clear Ad
    go_wp2
    go_ret2
    exact⟨by rw[HO.out];rfl,HB.out⟩
theorem MU:(fk.info? 106).map (λi=>(i.zero,i.size,i.bytes))=μ (μ (.agg #[ι κ 0,ι κ 0,.string ⟨#[]⟩]),3,32):=gT
theorem OJ(l:List tV)(t:tV):nh (l++ [t])=nh l++ [ι κ t.1,ι κ t.2.1,.string ⟨t.2.2.toArray⟩] :=by simp[nh]
theorem MV(a b:Int)(s:ByteArray):∀u∈ [Value.int .i64 a,ι κ b,.string s],u.oneCell'=true:=by
 intro u hu;simp at hu;rcases hu with rfl|rfl|rfl<;>rfl
theorem OL(z:Zt)(r:iY)(hp:Int)(tx:ByteArray)(w:eB)(h:lW w z r)(hn:r.jA.length<=1000000):
 fj fk 91 #[π (μ ⟨z.R,0,ν⟩),.agg #[ι κ r.id,ι κ hp,.string tx]] w λe w'=>e=ρ (τ #[])/\iU w w' z {r with jA:=r.jA++ [(r.id,hp,tx.data.toList)] } r.n:=by
 obtain⟨i0,hi,oz,mW,nT⟩:=aW MU;have ba:=iB w (γ #[ι κ r.id,ι κ hp,.string tx] 106);have hM:jr (w.alloc (γ #[ι κ r.id,ι κ hp,.string tx] 106)) w.heap.size #[ι κ r.id,ι κ hp,.string tx] 106:=jr.new w _ _;obtain⟨W0,nL⟩:=gH (w.alloc (γ #[ι κ r.id,ι κ hp,.string tx] 106));obtain⟨N,hN⟩:=gH (w.heap.size);rw[nL]at ba hM;rw[hN]at hM;have R0:=h.below ba;have c0:=R0.c0;have cl:=R0.lt;have m0:W0.cell? ⟨N,0,ν⟩=μ (ι κ r.id):=hM.cell 0;have ml:=hM.lt;have heq:(r.id==r.id)=true:=iC;have HR:Hid _:=h;have Y2:Hid _:=R0;have HM:Hid _:=hM;have HBa:Hid _:=ba;have D3:Hid _:=nL;have HN:Hid _:=hN;clear h R0 hM ba nL hN
 go_in
 go_wp2_with(fail);rw[D3.out,HN.out]
 go_quiet(fail)
 obtain⟨W1,ke⟩:=gH (W0.drewN nq);have b1:eN w W1:=by rw[<-ke];exact below_drewN HBa.out nq
 have sG:jr W1 N #[ι κ r.id,ι κ hp,.string tx] 106:=by rw[<-ke];exact jr.drewN HM.out nq
 rw[ke];have R1:=HR.out.below b1;have nR:=R1.nN;have ji:=R1.ib;have e3:=R1.c3;have el:=R1.lt;have d0:W1.cell? ⟨N,0,ν⟩=μ (ι κ r.id):=sG.cell 0;have d1:W1.cell? ⟨N,1,ν⟩=μ (ι κ hp):=sG.cell 1;have d2:W1.cell? ⟨N,2,ν⟩=μ (.string tx):=sG.cell 2;have dl:=sG.lt;have HO:Hid (z.iv.ownBlock≠μ z.R):=λe=>(R1.sI _ e).1 rfl;have Bf:Hid _:=b1;have HR1:Hid _:=R1;obtain⟨nn,AE⟩:=gH (r.jA.length);have HNN:Hid _:=AE;rw[AE]at ji hn;clear ke b1 R1 c0 cl m0 ml Y2 HM HBa D3 AE
 go_wp2
 go_region_law ((refine kL (by rfl) (.tmp 17) (.tmp 19) 53 (by rfl) 106 i0 (.agg #[ι κ 0,ι κ 0,.string ⟨#[]⟩]) 3 32 dI hi oz mW nT (by rfl) eH z.iv nn (nh r.jA) (by rfl) ((ji.alloc _).drew) _ 1 1 [ι κ r.id,ι κ hp,.string tx] (by rfl) (by rfl) eH (xL _ _ _ _ _ _ rfl) (MV _ _ _) (by unfold maxLen;omega) eE ?_;intro g' jL x1 kU ki jD;have Ka:=sS nR ki HO.out;have f3:=Ka.frozen 3;have g3:x1.cell? ⟨z.R,3,ν⟩=μ z.iv:=Ka.cell 3))
 all_goals
  go_wp2
  first|go_end0|refine aj (ar rfl _ _ _) rfl ?_
  refine⟨rfl,iU.first HR.out rfl Bf.out (λR=> ?_)⟩;have qI:W1.heap.size<=x1.heap.size:=Nat.le_trans (by show W1.heap.size<=(W1.alloc _).heap.size;simp) ki.size;have kV:∀k,eF (σ (μ ⟨g',0,ν⟩) (nn+1) jL)=μ k->z.iv.ownBlock=μ k \/W1.heap.size<=k:=by
   intro k hk;have wa:g'=k:=by simpa[eF]using hk
   subst wa;rcases jD with hh|hh
   ·exact .inl hh
   ·exact .inr (Nat.le_trans (by show W1.heap.size<=(W1.alloc _).heap.size;simp) hh)
  have Vx:g'≠z.R:=by
   intro e;rcases kV g' rfl with hh|hh
   ·exact HO.out (by rw[hh,e])
   ·omega
  refine R.own (σ (μ ⟨g',0,ν⟩) (nn+1) jL) (r.jA++ [(r.id,hp,tx.data.toList)]) r.drop (by simpa using qI) ki.os ki.tape ki.output (λk hk h1 h2=> ?_) ?_ ?_ kV
  ·rw[ak _ _ _ k h1,ki.block k (by show k<(W1.alloc _).heap.size;simp;omega) (λe=>h2 e.symm)];exact aT W1 _ k hk
  ·exact Ka.set 3 _
  ·rw[OJ,aA,HNN.out];have e4:(⟨tx.data.toList.toArray⟩:ByteArray)=tx:=iC;rw[e4];refine kU.keep iC (λk hk=> ?_);have wa:g'=k:=by simpa[eF]using hk
   exact ak _ _ _ k (by show k≠z.R;omega)
theorem uZ {w:eB} {o:Obj} {p q s t:Addr} {a b c d:Value} (h:w.cell? p=μ a/\w.cell? q=μ b/\w.cell? s=μ c/\w.cell? t=μ d):(w.alloc o).cell? p=μ a/\(w.alloc o).cell? q=μ b/\(w.alloc o).cell? s=μ c/\(w.alloc o).cell? t=μ d:=⟨mD h.1,mD h.2.1,mD h.2.2.1,mD h.2.2.2⟩
theorem Y6 {t hp:Int} {j:Nat} (h:Vr r t hp=μ j):j<r.n/\1<=hp:=by
 unfold Vr at h;split at h
 ·rename_i h1
  cases ht:yR (oX r) t with
  |none=>rw[ht]at h;cases h
  |some x=>rw[ht]at h;exact⟨(pW h).1,h1⟩
 ·cases h
theorem OM(z:Zt)(r:iY)(t hp:Int)(tx:ByteArray)(w:eB)(h:lW w z r)(hK:Vl r.K)(jV:t≠r.id)(ht:0<=t/\t<=255)(hh:0<=hp/\hp<=255)(Y7:tx.size<=900)(hd:0<=r.drop/\r.drop<=4000000000000000000)(uq:∀j,j<r.n->(r.P j).out.length<=800000000):
 fj fk 91 #[π (μ ⟨z.R,0,ν⟩),.agg #[ι κ t,ι κ hp,.string tx]] w λe w'=>e=ρ (τ #[])/\iU w w' z (r.send (t,hp,tx.data.toList)) r.n:=by
 have hS:Hid (r.send (t,hp,tx.data.toList)=match Vr r t hp with|none=>{r with drop:=r.drop+1} |some i=>r.jd i ((r.P i).put 77 (j8 t::j8 (hp-1)::tx.data.toList))):=by
  show _=_;unfold iY.send;rw[ae jV];rfl
 have ba:=iB w (γ #[ι κ t,ι κ hp,.string tx] 106);have hM:jr (w.alloc (γ #[ι κ t,ι κ hp,.string tx] 106)) w.heap.size #[ι κ t,ι κ hp,.string tx] 106:=jr.new w _ _;obtain⟨W0,nL⟩:=gH (w.alloc (γ #[ι κ t,ι κ hp,.string tx] 106));obtain⟨N,hN⟩:=gH (w.heap.size);rw[nL]at ba hM;rw[hN]at hM;have R0:=h.below ba;have c0:=R0.c0;have cl:=R0.lt;have m0:W0.cell? ⟨N,0,ν⟩=μ (ι κ t):=hM.cell 0;have ml:=hM.lt;have heq:(t==r.id)=false:=by simp[jV]
 have HR:Hid _:=h;have HM:Hid _:=hM;have HBa:Hid _:=ba;have D3:Hid _:=nL;have HN:Hid _:=hN;clear h R0 hM ba nL hN jV
 go_in
 go_wp2_with(fail);rw[D3.out,HN.out]
 go_quiet(fail)
 obtain⟨W1,ke⟩:=gH (W0.drewN nq);have b1:eN w W1:=by rw[<-ke];exact below_drewN HBa.out nq
 have sG:jr W1 N #[ι κ t,ι κ hp,.string tx] 106:=by rw[<-ke];exact jr.drewN HM.out nq
 rw[ke];have d0:W1.cell? ⟨N,0,ν⟩=μ (ι κ t):=sG.cell 0;have d1:W1.cell? ⟨N,1,ν⟩=μ (ι κ hp):=sG.cell 1;have d2:W1.cell? ⟨N,2,ν⟩=μ (.string tx):=sG.cell 2;have dl:=sG.lt;have AR:=Lh z r t hp tx W1 (HR.out.below b1) hK;have HM1:Hid _:=sG;have Bf:Hid _:=b1;clear ke c0 cl m0 ml HM HBa D3 sG b1;cases ho:Vr r t hp with
 |none=>
  have AR:fj fk 153 #[π (μ ⟨z.R,0,ν⟩),.agg #[ι κ t,ι κ hp,.string tx]] W1 λe w'=>e=ρ (τ #[ι κ 0,.bool false])/\eN W1 w':=by
   rw[ho]at AR;exact AR
  rw[ho]at hS;go_wp2_with(fail);refine AR.mono ?_;rintro e w2 ⟨rfl,b2⟩;have bb:=iA Bf.out b2;have R2:=HR.out.below bb;have nR:=R2.nN;have e4:=R2.c4;have f4:=nR.frozen 4;have el:=R2.lt;have hsI:Hid (z.iv.ownBlock≠μ z.R):=λe=>(R2.sI _ e).1 rfl;have Uj:=R2.ib;have YV:Hid _:=bb;have hd0:=hd.1;have hd1:=hd.2;have Ub:fY.wrap (r.drop+1)=r.drop+1:=aS _ ⟨eE,eE⟩;clear AR R2 b2 bb hd
  go_wp2
  first|go_end0|refine aj (ar rfl _ _ _) rfl ?_
  refine⟨rfl,?_⟩;rw[hS.out];refine iU.first HR.out rfl YV.out (λR=> ?_);refine R.own z.iv r.jA (r.drop+1) iC rfl rfl rfl (λk _ h1 _=>ak _ _ _ k h1) (nR.set 4 _) ?_ (λk hk=>.inl hk);exact Uj.keep iC (λk hk=>ak _ _ _ k (by show k≠z.R;intro e;exact hsI.out (by rw[hk,e])))
 |some j=>
  have AR:fj fk 153 #[π (μ ⟨z.R,0,ν⟩),.agg #[ι κ t,ι κ hp,.string tx]] W1 λe w'=>e=ρ (τ #[ι κ (j:Int),.bool true])/\eN W1 w':=by
   rw[ho]at AR;exact AR
  rw[ho]at hS;obtain⟨Me,DK⟩:=Y6 ho;have Hd:(j:Int)<(r.n:Int):=eE;have xd:(0:Int)<=(j:Int):=eE;go_wp2_with(fail);refine AR.mono ?_;rintro e w2 ⟨rfl,b2⟩;have bb:=iA Bf.out b2;have qq:=jr.below HM1.out b2;have R2:=HR.out.below (iA bb (jk w2));have F0:w2.drew.cell? ⟨z.R,1,ν⟩=μ (σ (μ ⟨z.g,0,ν⟩) r.n z.cap)/\w2.drew.cell? ⟨N,0,ν⟩=μ (ι κ t)/\w2.drew.cell? ⟨N,1,ν⟩=μ (ι κ hp)/\w2.drew.cell? ⟨N,2,ν⟩=μ (.string tx):=⟨R2.c1,qq.cell 0,qq.cell 1,qq.cell 2⟩
  have hlen:¬(9223372036854775807<2+tx.size):=eE;have hw8:ga.wrap t=t:=ic _ ⟨eE,eE⟩;have hwm:fY.wrap (hp-1)=hp-1:=aS _ ⟨eE,eE⟩;have hw9:ga.wrap (hp-1)=hp-1:=ic _ ⟨eE,eE⟩;have uM:(convert 140 9 (σ (μ ⟨w2.heap.size,0,ν⟩) 2 2)).run fk (w2.alloc (γ #[.int .u8 t,.int .u8 (hp-1)] 5)).drew=.ok (.string ⟨#[u8 t,u8 (hp-1)]⟩) (w2.alloc (γ #[.int .u8 t,.int .u8 (hp-1)] 5)).drew:=W6 w2.drew t (hp-1) ht.1 ht.2 eE eE;have b3:eN w (w2.alloc (γ #[.int .u8 t,.int .u8 (hp-1)] 5)).drew:=jO (iA bb (iB _ _));obtain⟨s2,hs2⟩:∃s2:ByteArray,(⟨#[u8 t,u8 (hp-1)]⟩++tx)=s2:=⟨_,rfl⟩
  have Y8:s2.data.toList=u8 t::u8 (hp-1)::tx.data.toList:=by
   rw[<-hs2];simp
  have acj:s2.size<=1000:=by
   have e:s2.size=s2.data.toList.length:=iC;have e2:tx.data.toList.length=tx.size:=iC;rw[e,Y8];simp only[List.length_cons,e2];omega
  have nQ:fj fk 150 #[π (μ ⟨z.g,j*71,ν⟩),.string ⟨#[77]⟩,.string s2] (w2.alloc (γ #[.int .u8 t,.int .u8 (hp-1)] 5)).drew λe w'=>e=ρ (τ #[])/\iU w w' z (r.send (t,hp,tx.data.toList)) r.n/\(w'.cell? ⟨z.R,1,ν⟩=μ (σ (μ ⟨z.g,0,ν⟩) r.n z.cap)/\w'.cell? ⟨N,0,ν⟩=μ (ι κ t)/\w'.cell? ⟨N,1,ν⟩=μ (ι κ hp)/\w'.cell? ⟨N,2,ν⟩=μ (.string tx)):=by
   have R3:=HR.out.below b3;have Y9:(w2.alloc (γ #[.int .u8 t,.int .u8 (hp-1)] 5)).drew.cell? ⟨z.R,1,ν⟩=μ (σ (μ ⟨z.g,0,ν⟩) r.n z.cap)/\(w2.alloc (γ #[.int .u8 t,.int .u8 (hp-1)] 5)).drew.cell? ⟨N,0,ν⟩=μ (ι κ t)/\(w2.alloc (γ #[.int .u8 t,.int .u8 (hp-1)] 5)).drew.cell? ⟨N,1,ν⟩=μ (ι κ hp)/\(w2.alloc (γ #[.int .u8 t,.int .u8 (hp-1)] 5)).drew.cell? ⟨N,2,ν⟩=μ (.string tx):=uZ (o:=.cells #[.int .u8 t,.int .u8 (hp-1)] 5) F0;generalize (w2.alloc (γ #[.int .u8 t,.int .u8 (hp-1)] 5)).drew=W3 at b3 R3 Y9⊢;have hpj:=uq j Me;refine(Bg z.g (j*71) (z.B j) (z.v j) (r.P j) ⟨#[77]⟩ s2 77 W3 (R3.pt j Me) rfl acj eE).mono ?_;rintro e w6 ⟨rfl,Oz⟩;have hE:r.send (t,hp,tx.data.toList)=r.jd j ((r.P j).put 77 s2.data.toList):=by
    rw[hS.out,Y8];rfl
   have hw7:=R3.port Me Oz;rw[hE];have Mr:¬z.mine r.n N:=by rw[<-HN.out];exact HR.out.sY (Nat.le_refl _)
   exact⟨rfl,iU.first HR.out rfl b3 (λ_=>hw7),hw7.c1,hw7.cell R3 (p:=⟨N,0,ν⟩) Mr Y9.2.1,hw7.cell R3 (p:=⟨N,1,ν⟩) Mr Y9.2.2.1,hw7.cell R3 (p:=⟨N,2,ν⟩) Mr Y9.2.2.2⟩
  have el:=R2.lt;have eg:=R2.G6;obtain⟨T,hT⟩:∃T:eB->Prop,(λx=>iU w x z (r.send (t,hp,tx.data.toList)) r.n)=T:=⟨_,rfl⟩
  have IW:∀x,iU w x z (r.send (t,hp,tx.data.toList)) r.n=T x:=λx=>ch hT x;simp only[IW]at nQ;have HT:Hid _:=IW;clear AR qq b2 hT IW R2 b3 Y8 acj bb;go_wp2_with(fail);refine cz (S:=λx=>x.cell? ⟨z.R,1,ν⟩=μ (σ (μ ⟨z.g,0,ν⟩) r.n z.cap)/\x.cell? ⟨N,0,ν⟩=μ (ι κ t)/\x.cell? ⟨N,1,ν⟩=μ (ι κ hp)/\x.cell? ⟨N,2,ν⟩=μ (.string tx)) gT F0 (λkY=> ?_);refine jq 0 (μ 38) rfl rfl gT gT gT (λ_ _ _ h=>h) (by rfl) (v:= ?_) ?_ jj ?_
  rotate_left
  ·intro wS kJ
   (try dsimp only at kJ)
   go_simp
   try with_reducible rfl
  simp only[gW,gX,gY,gZ];refine jq 1 (μ 39) rfl rfl gT gT gT (λ_ _ _ h=>h) (by rfl) (v:= ?_) ?_ jj ?_
  rotate_left
  ·intro wS kJ
   (try dsimp only at kJ)
   go_simp
   try with_reducible rfl
  simp only[gW,gX,gY,gZ];refine jq 2 (μ 40) rfl rfl gT gT gT (λ_ _ _ h=>h) (by rfl) (v:= ?_) ?_ jj ?_
  rotate_left
  ·intro wS kJ
   (try dsimp only at kJ)
   go_simp
   try with_reducible rfl
  simp only[gW,gX,gY,gZ];refine jq 3 (μ 41) rfl rfl gT gT gT (λ_ _ _ h=>h) (by rfl) (v:= ?_) ?_ jj ?_
  rotate_left
  ·intro wS kJ
   (try dsimp only at kJ)
   go_simp
   try with_reducible rfl
  simp only[gW,gX,gY,gZ];refine jq 4 (μ 42) rfl rfl gT gT gT (λ_ _ _ h=>h) (by rfl) (v:= ?_) ?_ jj ?_
  rotate_left
  ·intro wS kJ
   (try dsimp only at kJ)
   go_simp
   try with_reducible rfl
  simp only[gW,gX,gY,gZ];refine jq 5 (μ 43) rfl rfl gT gT gT (λ_ _ _ h=>h) (by rfl) (v:= ?_) ?_ jj ?_
  rotate_left
  ·intro wS kJ
   (try dsimp only at kJ)
   go_simp
   try with_reducible rfl
  simp only[gW,gX,gY,gZ];refine jq 6 (μ 44) rfl rfl gT gT gT (λ_ _ _ h=>h) (by rfl) (v:= ?_) ?_ jj ?_
  rotate_left
  ·intro wS kJ
   (try dsimp only at kJ)
   go_simp
   try with_reducible rfl
  simp only[gW,gX,gY,gZ];refine jq 7 (μ 45) rfl rfl gT gT gT (λ_ _ _ h=>h) (by rfl) (v:= ?_) ?_ jj ?_
  rotate_left
  ·intro wS kJ
   (try dsimp only at kJ)
   go_simp
   try with_reducible rfl
  simp only[gW,gX,gY,gZ];refine jq 8 (μ 46) rfl rfl gT gT gT (λ_ _ _ h=>h) (by rfl) (v:= ?_) ?_ jj ?_
  rotate_left
  ·intro wS kJ
   (try dsimp only at kJ)
   go_simp
   try with_reducible rfl
  simp only[gW,gX,gY,gZ];refine jq 9 (μ 47) rfl rfl gT gT gT (λ_ _ _ h=>h) (by rfl) (v:= ?_) ?_ jj ?_
  rotate_left
  ·intro wS kJ
   (try dsimp only at kJ)
   go_simp
   try with_reducible rfl
  simp only[gW,gX,gY,gZ];refine jq 10 (μ 48) rfl rfl gT gT gT (λ_ _ _ h=>h) (by rfl) (v:= ?_) ?_ jj ?_
  rotate_left
  ·intro wS kJ
   (try dsimp only at kJ)
   go_simp
   try with_reducible rfl
  simp only[gW,gX,gY,gZ];refine jq 11 (μ 49) rfl rfl gT gT gT (λ_ _ _ h=>h) (by rfl) (v:= ?_) ?_ jj ?_
  rotate_left
  ·intro wS kJ
   (try dsimp only at kJ)
   go_simp
   try with_reducible rfl
  simp only[gW,gX,gY,gZ];refine jq 12 (μ 50) rfl rfl gT gT gT (λ_ _ _ h=>h) (by rfl) (v:= ?_) ?_ jj ?_
  rotate_left
  ·intro wS kJ
   (try dsimp only at kJ)
   go_simp
   try with_reducible rfl
  simp only[gW,gX,gY,gZ];refine jq 15 (μ 53) rfl rfl gT gT gT (λ_ _ _ h=>h) (by rfl) (v:= ?_) ?_ jj ?_
  rotate_left
  ·intro wS kJ
   (try dsimp only at kJ)
   go_simp
   try with_reducible rfl
  simp only[gW,gX,gY,gZ];refine jq 16 (μ 54) rfl rfl gT gT gT (λ_ _ _ h=>h) (by rfl) (v:= ?_) ?_ jj ?_
  rotate_left
  ·intro wS kJ
   (try dsimp only at kJ)
   go_simp
   try with_reducible rfl
  simp only[gW,gX,gY,gZ];refine aL (rs:=[13]) gT iC ?_;refine aB (o:=_) rfl (λK hK=> ?_) aF
  go_simp
  refine hK.out _ _ ?_ (λkY=> ?_)
  ·exact uZ F0
  clear hK K;refine aL (rs:=[14]) gT iC ?_;refine aB (o:=_) rfl (λK hK=> ?_) aF
  go_simp
  refine hK.out _ _ ?_ (λkY=> ?_)
  ·exact uZ F0
  clear hK K;refine jq 17 (μ 55) rfl rfl gT gT gT (λ_ _ _ h=>h) (by rfl) (v:= ?_) ?_ jj ?_
  rotate_left
  ·intro wS kJ
   (try dsimp only at kJ)
   go_simp
   try with_reducible rfl
  simp only[gW,gX,gY,gZ];refine aL (rs:=[18]) gT iC ?_;refine aB (o:=_) rfl (λK hK=> ?_) aF
  go_simp
  refine nQ.mono ?_;rintro e w5 ⟨rfl,JY,F5⟩
  (try go_wp2_with(fail))
  refine hK.out _ _ ?_ (λkY=> ?_)
  ·exact F5
  clear hK K;refine bZ gT ?_ _
  all_goals
   clear nQ F0 F5
   go_wp2
   first|go_end0|refine aj (ar rfl _ _ _) rfl ?_
   exact⟨rfl,by rw[HT.out];exact JY⟩
theorem EM(p:jF)(c:UInt8)(s:List UInt8):(p.put c s).m=p.m:=by
 unfold jF.put;split
 ·rfl
 ·split<;>rfl
theorem Za(p:jF)(q:kZ):(uR p q).m=p.m/\(uR p q).pe=p.pe:=by
 unfold uR;split
 ·exact⟨EM _ _ _,qG _ _ _⟩
 ·exact⟨rfl,rfl⟩
theorem ve:∀(l:List kZ) (p:jF),(p.say l).m=p.m/\(p.say l).pe=p.pe
 |[],_=>⟨rfl,rfl⟩
 |x::l,p=>by
  have h:=ve l (uR p x);have h1:=Za p x;exact⟨h.1.trans h1.1,h.2.trans h1.2⟩
theorem tf(p:jF)(s:List UInt8):(p.packet s).m=p.m/\(p.packet s).pe=p.pe:=by
 unfold jF.packet;simp only;split
 ·exact ve _ _
 ·exact⟨rfl,rfl⟩
theorem CD(p:jF)(s:List UInt8):(p.packet s).out.length<=p.out.length+5040:=by
 unfold jF.packet;simp only;split
 ·have h1:=EC p.L ((jf s).1,(jf s).2.1,(jf s).2.2.1);have h2:=xZ (j4 p.L ((jf s).1,(jf s).2.1,(jf s).2.2.1)).2.1 {p with L:=(j4 p.L ((jf s).1,(jf s).2.1,(jf s).2.2.1)).1};have h3:({p with L:=(j4 p.L ((jf s).1,(jf s).2.1,(jf s).2.2.1)).1}:jF).out.length=p.out.length:=rfl;omega
 ·omega
structure Fit(r:iY)(k:Nat):Prop where
 jA:r.jA.length<=k
 drop:0<=r.drop/\r.drop<=k+1000000000000000
 out:∀j,j<r.n->(r.P j).out.length<=6000*k
theorem Fit.mono {l:Nat} (h:Fit r k)(hl:k<=l):Fit r l:=⟨by have:=h.jA;omega,by have:=h.drop;omega,λj hj=>by have:=h.out j hj;omega⟩
theorem Fit.jd {r:iY} {k:Nat} (h:Fit r k)(i:Nat)(p:jF)(hp:i<r.n->p.out.length<=6000*k):Fit (r.jd i p) k:=⟨h.jA,h.drop,λj hj=>by
 show(k8 r.P i p j).out.length<=_;by_cases e:j=i
 ·subst e;rw[jz];exact hp hj
 ·rw[ju _ _ e];exact h.out j hj⟩
theorem Fit.grow(h:Fit r k)(i:Nat)(p:jF)(hp:p.out.length<=(r.P i).out.length+6000):Fit (r.jd i p) (k+1):=(h.mono (Nat.le_succ k)).jd i p (λhi=>by have:=h.out i hi;omega)
theorem Fit.congr {r':iY} (h:Fit r k)(h1:r'.jA=r.jA)(h2:r'.drop=r.drop)(h3:r'.n=r.n)(h4:r'.P=r.P):Fit r' k:=⟨by rw[h1];exact h.jA,by rw[h2];exact h.drop,λj hj=>by rw[h4];exact h.out j (by rw[<-h3];exact hj)⟩
theorem nt(r:iY)(s:Int):(r.behind s).jA=r.jA/\(r.behind s).drop=r.drop/\(r.behind s).n=r.n/\(r.behind s).P=r.P:=by
 unfold iY.behind;split<;>exact⟨rfl,rfl,rfl,rfl⟩
theorem vf(r:iY):r.change.jA=r.jA/\r.change.drop=r.drop/\r.change.n=r.n/\r.change.P=r.P:=by
 unfold iY.change;split
 ·exact⟨rfl,rfl,rfl,rfl⟩
 ·exact nt _ _
theorem l9(r:iY)(i:Nat)(q:ln):(r.meet i q).jA=r.jA/\(r.meet i q).drop=r.drop/\(r.meet i q).n=r.n/\(r.meet i q).P=k8 r.P i {r.P i with pe:=q}:=by
 unfold iY.meet;simp only;split
 ·exact⟨rfl,rfl,rfl,rfl⟩
 ·split
  ·obtain⟨h1,h2,h3,h4⟩:=vf ({r.jd i {r.P i with pe:=q}with O:=λx=>if x=i then λ_=>ν else(r.jd i {r.P i with pe:=q}).O x}:iY);exact⟨h1,h2,h3,h4⟩
  ·obtain⟨h1,h2,h3,h4⟩:=vf ({r.jd i {r.P i with pe:=q}with O:=λx=>if x=i then λ_=>ν else(r.jd i {r.P i with pe:=q}).O x}:iY);exact⟨h1,h2,h3,h4⟩
theorem Fit.meet {r:iY} {k:Nat} (h:Fit r k)(i:Nat)(q:ln):Fit (r.meet i q) k:=by
 obtain⟨h1,h2,h3,h4⟩:=l9 r i q;exact Fit.congr (h.jd i {r.P i with pe:=q} (λhi=>h.out i hi)) h1 h2 h3 h4
theorem Fit.behind {r:iY} {k:Nat} (h:Fit r k)(s:Int):Fit (r.behind s) k:=by
 obtain⟨h1,h2,h3,h4⟩:=nt r s;exact h.congr h1 h2 h3 h4
theorem Zb(r:iY)(t:tV):(r.send t).n=r.n/\(r.send t).id=r.id:=by
 unfold iY.send;split
 ·exact⟨rfl,rfl⟩
 ·split<;>exact⟨rfl,rfl⟩
theorem Fit.send {r:iY} {k:Nat} (h:Fit r k)(t:tV):Fit (r.send t) (k+1):=by
 unfold iY.send;split
 ·exact⟨by have:=h.jA;simp;omega,by have:=h.drop;simp;omega,λj hj=>by have:=h.out j hj;simp;omega⟩
 ·split
  ·exact⟨by have:=h.jA;simp;omega,by have:=h.drop;simp;omega,λj hj=>by have:=h.out j hj;simp;omega⟩
  ·rename_i b _
   exact h.grow b _ (Nat.le_trans (vO (r.P b) 77 (j8 t.1::j8 (t.2.1-1)::t.2.2)) eE)
theorem Fit.state(h:Fit r k)(i:Nat)(l:List UInt8):Fit (jK r i l) (k+1):=by
 unfold jK;simp only;split
 ·exact h.mono (Nat.le_succ k)
 ·split
  ·exact(h.behind _).mono (Nat.le_succ k)
  ·have h2:Fit ({r with K:=lR r.K (St.iT l).1 (St.iT l).2.1 (St.iT l).2.2.1,O:=oW r.K r.O i (St.iT l).1 (St.iT l).2.1 (St.iT l).2.2.1}:iY) k:=h.congr rfl rfl rfl rfl;split
   ·exact h2.grow i _ (Nat.le_trans (vO (r.P i) 65 (sj (St.iT l).1 (St.iT l).2.1 (St.iT l).2.2.1)) (by show(r.P i).out.length+126<=(r.P i).out.length+6000;omega))
   ·exact h2.mono (Nat.le_succ k)
theorem Vy(r:iY)(i:Nat)(l:List UInt8):(jK r i l).n=r.n/\(jK r i l).id=r.id:=by
 unfold jK;simp only;split
 ·exact⟨rfl,rfl⟩
 ·split
  ·exact⟨Sd _ _,zh _ _⟩
  ·split<;>exact⟨rfl,rfl⟩
theorem lp.send {r:iY} (h:lp r)(t:tV):lp (r.send t):=by
 unfold iY.send;split
 ·exact⟨h.id,h.m,h.pe,h.own,h.RY⟩
 ·split
  ·exact⟨h.id,h.m,h.pe,h.own,h.RY⟩
  ·exact h.jd _ _ (EM _ _ _) (λhi=>by rw[qG];exact h.pe _ hi)
theorem lp.state(h:lp r)(i:Nat)(l:List UInt8):lp (jK r i l):=by
 unfold jK;simp only;split
 ·exact h
 ·rename_i hc
  have hf:(St.iT l).2.2.2=0:=by
   by_cases e:(St.iT l).2.2.2=0
   ·exact e
   ·exact absurd (.inl e) hc
  have kD:pj (St.iT l).1 (St.iT l).2.1 (St.iT l).2.2.1=0:=qZ (l:=l) (by rw[<-hf]);split
  ·exact h.behind (by have:=(jT kD).2.1;omega)
  ·rename_i hn
   have h2:lp {r with K:=lR r.K (St.iT l).1 (St.iT l).2.1 (St.iT l).2.2.1,O:=oW r.K r.O i (St.iT l).1 (St.iT l).2.1 (St.iT l).2.2.1}:=by
    refine⟨h.id,h.m,h.pe,?_,?_⟩
    ·show∃q,lR r.K _ _ _ r.id=μ q/\_;unfold lR;split
     ·rename_i hp
      have jV:r.id≠(St.iT l).1:=λe=>hn ⟨e.symm,hp⟩;unfold uO;rw[ae jV];exact h.own
     ·exact h.own
    ·show Vl (lR r.K _ _ _);unfold lR;split
     ·exact h.RY.wv (jT kD).1 _
     ·exact h.RY
   split
   ·exact h2.jd _ _ (EM _ _ _) (λhi=>by rw[qG];exact h.pe _ hi)
   ·exact h2
theorem CF(z:Zt)(r:iY)(k:Nat)(t hp:Int)(tx:ByteArray)(w:eB)(h:lW w z r)(jb:lp r)(hf:Fit r k)(hk:k<=100000)(ht:0<=t/\t<=255)(hh:0<=hp/\hp<=255)(Y7:tx.size<=900):
 fj fk 91 #[π (μ ⟨z.R,0,ν⟩),.agg #[ι κ t,ι κ hp,.string tx]] w λe w'=>e=ρ (τ #[])/\iU w w' z (r.send (t,hp,tx.data.toList)) r.n:=by
 by_cases e:t=r.id
 ·subst e;refine(OL z r hp tx w h (by have:=hf.jA;omega)).mono ?_;rintro e w1 ⟨rfl,hw⟩;refine⟨rfl,?_⟩;unfold iY.send;rw[ag rfl];exact hw
 ·exact OM z r t hp tx w h jb.RY e ht hh Y7 (by have:=hf.drop;omega) (λj hj=>by have:=hf.out j hj;omega)
def qw(r:iY)(l:List UInt8):iY:=if 2<=l.length/\l.length<=22 then r.send (((l.getD 0 0).toNat:Int),((l.getD 1 0).toNat:Int),l.drop 2)else r
theorem AU(s:ByteArray)(z:Zt)(r:iY)(k:Nat)(w:eB)(h:lW w z r)(jb:lp r)(hf:Fit r k)(hk:k<=100000)(hs:s.size<=1000):
 fj fk 137 #[π (μ ⟨z.R,0,ν⟩),.string s] w λe w'=>e=ρ (τ #[])/\iU w w' z (qw r s.data.toList) r.n:=by
 have hl:s.data.toList.length=s.size:=iC;by_cases h2:2<=s.size
 ·by_cases h22:s.size<=22
  ·have b0:0<s.size:=eE;have b1:1<s.size:=eE;have g1:(2:Int)<=(s.size:Int):=eE;have g2:(s.size:Int)<=22:=eE;have Vz:∀W,eN w W->fj fk 91 #[π (μ ⟨z.R,0,ν⟩),.agg #[ι κ (s[0].toNat:Int),ι κ (s[1].toNat:Int),.string (s.extract 2 s.size)]] W λe w'=>e=ρ (τ #[])/\iU w w' z (qw r s.data.toList) r.n:=by
    intro W hW;have l0:=s[0].toNat_lt;have l1:=s[1].toNat_lt;refine(CF z r k (s[0].toNat:Int) (s[1].toNat:Int) (s.extract 2 s.size) W (h.below hW) jb hf hk eE eE (by simp;omega)).mono ?_;rintro e w1 ⟨rfl,hw⟩;refine⟨rfl,iU.first h rfl hW (λ_=> ?_)⟩;have hE:qw r s.data.toList=r.send ((s[0].toNat:Int),(s[1].toNat:Int),(s.extract 2 s.size).data.toList):=by
     unfold qw;rw[ag ⟨eE,eE⟩,nF s 0 b0,nF s 1 b1];rw[uN,aK eE]
    rw[hE];exact hw
   have BF:=Vz _ (jk w);have pN:fY.wrap (s[0].toNat:Int)=(s[0].toNat:Int):=aS _ ⟨by have:=s[0].toNat_lt;omega,by have:=s[0].toNat_lt;omega⟩;have l7:fY.wrap (s[1].toNat:Int)=(s[1].toNat:Int):=aS _ ⟨by have:=s[1].toNat_lt;omega,by have:=s[1].toNat_lt;omega⟩;clear Vz hf jb h;obtain⟨T,hT⟩:∃T:eB->Prop,(λx=>iU w x z (qw r s.data.toList) r.n)=T:=⟨_,rfl⟩
   have IW:∀x,iU w x z (qw r s.data.toList) r.n=T x:=λx=>ch hT x;simp only[IW]at BF⊢;clear hT IW
   go_in
   go_wp2
   go_region_held3(λ_=>True)
    (first|trivial)
    (first
     |(go_at_call 91;refine BF.mono ?_;rintro e w1 ⟨rfl,hw⟩))
   all_goals
    clear BF
    go_wp2
    first|go_end0|refine aj (ar rfl _ _ _) rfl ?_
    exact⟨rfl,hw⟩
  ·have g1:(2:Int)<=(s.size:Int):=eE;have g2:¬(s.size:Int)<=22:=eE;have HW:Hid (iU w w z (qw r s.data.toList) r.n):=by
    show iU _ _ _ _ _;unfold qw;rw[ae eE];exact iU.refl h
   clear h jb hf
   go_in
   go_wp2
   first|go_end0|refine aj (ar rfl _ _ _) rfl ?_
   exact⟨rfl,HW.out⟩
 ·have g1:¬(2:Int)<=(s.size:Int):=eE;have HW:Hid (iU w w z (qw r s.data.toList) r.n):=by
   show iU _ _ _ _ _;unfold qw;rw[ae eE];exact iU.refl h
  clear h jb hf
  go_in
  go_wp2
  first|go_end0|refine aj (ar rfl _ _ _) rfl ?_
  exact⟨rfl,HW.out⟩
end Rt
end Go.Proofs.YtieklnlbljejdaaGreatDoor
