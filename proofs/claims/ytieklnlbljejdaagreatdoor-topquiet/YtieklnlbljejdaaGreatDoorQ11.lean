import Derived.Test.YtieklnlbljejdaaGreatDoorQ10
open Go.Value renaming int → ι, slice → σ, pointer → π, tuple → τ, nilIface → η
open Go.IntKind renaming i64 → κ
open Go.Ending renaming returned → ρ
open Go.Obj renaming cells → γ
open Option renaming none → ν, some → μ
open Go renaming World → dR, Calls → eT
open Go.Proofs.Tryz renaming prog → eU
open And renaming intro → fQ
open Go.Value renaming ownBlock → dV
open Go.IntKind renaming i64 → fh, u8 → ft
open Go.IntWalk renaming u8_in → gA
open Go.Act renaming put → gj
open List renaming setIfInBounds_toArray → gk, set_cons_zero → gp, set_cons_succ → gq
open Go.RowKit renaming intOf → eV
open ByteArray renaming ext → gD
set_option maxRecDepth 100000
set_option maxHeartbeats 8000000
namespace Go.Proofs.YtieklnlbljejdaaGreatDoor
open Go.RowKit St
namespace Rt
variable {B g i k o:Nat} {p:jl} {r:iE} {v:Value} {w w':World}
theorem Mw(z:Zt)(r:iE)(t Y:Int)(tx:ByteArray)(w:dR)(h:lJ w z r)(hK:Wt r.K):
 eT eU 153 #[π (μ ⟨z.R,0,ν⟩),.agg #[ι κ t,ι κ Y,.string tx]] w λe w'=>e=ρ (τ #[ι κ (FR (WB r t Y)),.bool (WB r t Y).isSome])/\eh w w':=by
 obtain⟨hop,G⟩:=fW ((zN (pj r) t).getD HP.zero);obtain⟨ok,iF⟩:=fW ((zN (pj r) t).isSome);have U:∀W,eh w W->eT eU 64 #[π (μ ⟨z.R,0,ν⟩)] W λe w'=>∃b n c,e=ρ (σ b n c)/\eh W w'/\(∀W',eh w' W'->eT eU 199 #[σ b n c,ι κ t] W' λe w2=>e=ρ (τ #[.agg #[ι κ hop.dst,ι κ hop.far,ι κ hop.uF],.bool ok])/\eh W' w2):=by
  intro W hW;refine(F8 z r W (h.below hW) hK).mono ?_;rintro e w1 ⟨b,c,rfl,hH,b1⟩;refine⟨b,_,c,rfl,b1,λW' hW'=> ?_⟩;have:=Zh b (pj r).length c (pj r) t W' (hH.r.below hW') (by have:=Hq (oG (NG r.K)) r.id.toNat;show(yD _ _).length<=_;omega);rw[G,iF]at this;exact this
 have X:Hid (∀W,eh w W->eT eU 200 #[π (μ ⟨z.R,0,ν⟩),ι κ hop.uF] W λe w'=>e=ρ (τ #[ι κ (FR (jX r.P hop.uF r.n)),.bool (jX r.P hop.uF r.n).isSome])/\eh W w'):=λW hW=>Dx z r hop.uF W (h.below hW);have J:Hid (WB r t Y=if 1<=Y/\ok=true then jX r.P hop.uF r.n else ν):=by
  show _=_;unfold WB;rw[<-iF,<-G];by_cases u:1<=Y
  ·rw[ag u];cases zN (pj r) t<;>simp[u]
  ·rw[ae u,ae (by simp[u])]
 generalize jX r.P hop.uF r.n=bp at X J;generalize WB r t Y=op at J⊢;obtain⟨d,f,x⟩:=hop;simp only at U X;have hRl:=h.lt;generalize z.R=RR at U X hRl⊢;clear h G iF;obtain⟨C,hC⟩:∃C:Array Value,#[Value.int .i64 t,ι κ Y,.string tx] =C:=⟨_,rfl⟩
 have bm:=gN w (γ #[ι κ t,ι κ Y,.string tx] 106);have JW:jc (w.alloc (γ #[ι κ t,ι κ Y,.string tx] 106)) w.heap.size #[ι κ t,ι κ Y,.string tx] 106:=jc.new w _ _;obtain⟨W0,mT⟩:=fW (w.alloc (γ #[ι κ t,ι κ Y,.string tx] 106));obtain⟨N,hN⟩:=fW (w.heap.size);have D:eh w W0.drew:=by rw[<-mT];exact jt bm
 have T:jc W0.drew N #[ι κ t,ι κ Y,.string tx] 106:=by rw[<-mT,<-hN];exact JW.drew
 have Cq:Hid _:=mT;have HN:Hid _:=hN;clear JW bm mT hN hC C
 go_in
 go_wp2_with(fail);rw[Cq.out,HN.out]
 go_cut [6,7] (λv6 v7 wx=>∃Z:Nat,v6=π (μ ⟨Z,0,ν⟩)/\v7=.bool ok/\wx.cell? ⟨Z,2,ν⟩=μ (ι κ x)/\eh w wx/\wx.cell? ⟨N,1,ν⟩=μ (ι κ Y))
 case first=>
  have F0:W0.drew.cell? ⟨N,0,ν⟩=μ (ι κ t)/\W0.drew.cell? ⟨N,1,ν⟩=μ (ι κ Y):=⟨T.cell 0,T.cell 1⟩
  have Nl:N<W0.drew.heap.size:=T.lt;have ba:Below W0.drew.heap.size W0.drew (W0.alloc (γ #[ι κ 0,ι κ 0,ι κ 0] 98)).drew:=by
   have b':=jt (gN W0 (γ #[ι κ 0,ι κ 0,ι κ 0] 98));exact⟨b'.os,b'.tape,b'.output,b'.size,b'.block⟩
  have xh:jc (W0.alloc (γ #[ι κ 0,ι κ 0,ι κ 0] 98)).drew W0.heap.size #[ι κ 0,ι κ 0,ι κ 0] 98:=(jc.new W0 _ _).drew;have jm:N≠W0.heap.size:=by have h2:N<W0.heap.size:=Nl;omega
  have j:w.heap.size<=W0.heap.size:=D.size
  go_region_held3(λx=>x.cell? ⟨N,0,ν⟩=μ (ι κ t)/\x.cell? ⟨N,1,ν⟩=μ (ι κ Y))
   (first|assumption|exact F0|exact F1|exact Q|exact nT F0|exact nT F1|exact nT Q|exact uv Q jm jm|exact uv Q E6 E6)
   (first
    |(go_at_call 64;refine(U _ (by first|exact D|exact fY D ba)).mono ?_;rintro e w1 ⟨b,n,c,rfl,b1,ah8⟩;first|(have l9:=xh.below b1;have M:=(T.below ba).below b1;have F1:=fQ (M.cell 0) (M.cell 1))|(have M:=T.below b1;have F1:=fQ (M.cell 0) (M.cell 1)))
    |(go_at_call 199;refine(ah8 _ (by first|exact au _ _|exact gN _ _)).mono ?_;rintro e w2 ⟨rfl,b2⟩;first|(have V:=l9.below b2;have H:=M.below b2;have Q:=fQ (H.cell 0) (H.cell 1);have y0:=V.cell 0;have y1:=V.cell 1;have y2:=V.cell 2;have z0:=V.frozen 0;have z1:=V.frozen 1;have z2:=V.frozen 2)|(have H:=M.below b2;have Q:=fQ (H.cell 0) (H.cell 1))|(have V:=(jc.new w1 #[.int .i64 0,.int .i64 0,.int .i64 0] 98).below b2;have H:=(M.below (gN w1 _)).below b2;have Q:=fQ (H.cell 0) (H.cell 1);have E6:N≠w1.heap.size:=(by have h2:=M.lt;omega);have y0:=V.cell 0;have y1:=V.cell 1;have y2:=V.cell 2;have z0:=V.frozen 0;have z1:=V.frozen 1;have z2:=V.frozen 2)))
  all_goals
   go_wp2_with(fail)
   go_meet
   first
    |exact⟨_,rfl,rfl,aj w2 _ _ (0,0) 2,fY (fY (fY D b1) b2) (gN _ _),lV Q.2⟩
    |(have y:=Hn (a:=.int .i64 d) (b:=.int .i64 f) (c:=.int .i64 x) V rfl j (fY (fY (fY D ba) b1) b2)
      exact⟨_,rfl,rfl,y.2.1,y.2.2.1,wE Q.2 jm⟩)
    |(have y:=Hn (a:=.int .i64 d) (b:=.int .i64 f) (c:=.int .i64 x) V rfl (Nat.le_trans j b1.size) (fY (fY (fY D b1) (gN w1 _)) b2)
      exact⟨_,rfl,rfl,y.2.1,y.2.2.1,wE Q.2 E6⟩)
 case rest=>
  obtain⟨Z,rfl,rfl,dz,qp,dn⟩:=hcut;have zl:=af _ _ dz;have nl:=af _ _ dn;cases ok with
  |false=>
   have A:Hid (op=ν):=by show _=_;rw[J.out,ae gO]
   clear U X J
   go_wp2
   go_ret2
   exact⟨by rw[A.out];rfl,qp⟩
  |true=>
   by_cases u:Y<1
   ·have A:Hid (op=ν):=by show _=_;rw[J.out,ae dU]
    clear U X J
    go_wp2
    go_ret2
    exact⟨by rw[A.out];rfl,qp⟩
   ·have A:Hid (op=bp):=by show _=_;rw[J.out,ag ⟨dU,rfl⟩]
    have A6:=X.out _ qp;clear U X J;go_wp2_with(fail);refine A6.mono ?_;rintro e w5 ⟨rfl,b5⟩;have HB:Hid _:=fY qp b5;clear A6
    go_wp2
    go_ret2
    exact⟨by rw[A.out];rfl,HB.out⟩
theorem NS:(eU.info? 106).map (λi=>(i.zero,i.size,i.bytes))=μ (μ (.agg #[ι κ 0,ι κ 0,.string ⟨#[]⟩]),3,32):=gL
theorem PG(l:List yn)(t:yn):qS (l++ [t])=qS l++ [ι κ t.1,ι κ t.2.1,.string ⟨t.2.2.toArray⟩] :=by simp[qS]
theorem NT(a b:Int)(s:ByteArray):∀u∈ [Value.int .i64 a,ι κ b,.string s],u.oneCell'=true:=by
 intro u Z;simp at Z;rcases Z with rfl|rfl|rfl<;>rfl
theorem PH(z:Zt)(r:iE)(Y:Int)(tx:ByteArray)(w:dR)(h:lJ w z r)(hn:r.jZ.length<=1000000):
 eT eU 91 #[π (μ ⟨z.R,0,ν⟩),.agg #[ι κ r.id,ι κ Y,.string tx]] w λe w'=>e=ρ (τ #[])/\iw w w' z {r with jZ:=r.jZ++ [(r.id,Y,tx.data.toList)] } r.n:=by
 obtain⟨i0,hi,od,mK,mL⟩:=aY NS;have ba:=gN w (γ #[ι κ r.id,ι κ Y,.string tx] 106);have T:jc (w.alloc (γ #[ι κ r.id,ι κ Y,.string tx] 106)) w.heap.size #[ι κ r.id,ι κ Y,.string tx] 106:=jc.new w _ _;obtain⟨W0,D⟩:=fW (w.alloc (γ #[ι κ r.id,ι κ Y,.string tx] 106));obtain⟨N,A⟩:=fW (w.heap.size);rw[D]at ba T;rw[A]at T;have J:=h.below ba;have c0:=J.c0;have cl:=J.lt;have m0:W0.cell? ⟨N,0,ν⟩=μ (ι κ r.id):=T.cell 0;have ml:=T.lt;have heq:(r.id==r.id)=true:=gO;have HR:Hid _:=h;have u:Hid _:=J;have HM:Hid _:=T;have M:Hid _:=ba;have Cq:Hid _:=D;have HN:Hid _:=A;clear h J T ba D A
 go_in
 go_wp2_with(fail);rw[Cq.out,HN.out]
 go_quiet(fail)
 obtain⟨Z,G⟩:=fW (W0.drewN nq);have b1:eh w Z:=by rw[<-G];exact below_drewN M.out nq
 have H:jc Z N #[ι κ r.id,ι κ Y,.string tx] 106:=by rw[<-G];exact jc.drewN HM.out nq
 rw[G];have X:=HR.out.below b1;have nS:=X.nN;have iQ:=X.ib;have e3:=X.c3;have el:=X.lt;have d0:Z.cell? ⟨N,0,ν⟩=μ (ι κ r.id):=H.cell 0;have d1:Z.cell? ⟨N,1,ν⟩=μ (ι κ Y):=H.cell 1;have d2:Z.cell? ⟨N,2,ν⟩=μ (.string tx):=H.cell 2;have dl:=H.lt;have HO:Hid (z.iv.ownBlock≠μ z.R):=λe=>(X.sI _ e).1 rfl;have C5:Hid _:=b1;have HR1:Hid _:=X;obtain⟨nn,BO⟩:=fW (r.jZ.length);have y:Hid _:=BO;rw[BO]at iQ hn;clear G b1 X c0 cl m0 ml u HM M Cq BO
 go_wp2
 go_region_law ((refine lv (by rfl) (.tmp 17) (.tmp 19) 53 (by rfl) 106 i0 (.agg #[ι κ 0,ι κ 0,.string ⟨#[]⟩]) 3 32 Tryz.underlying53 hi od mK mL (by rfl) dX z.iv nn (qS r.jZ) (by rfl) ((iQ.alloc _).drew) _ 1 1 [ι κ r.id,ι κ Y,.string tx] (by rfl) (by rfl) dX (yx _ _ _ _ _ _ rfl) (NT _ _ _) (by unfold maxLen;omega) dU ?_;intro U jn x1 kQ V jv;have j:=tI nS V HO.out;have f3:=j.frozen 3;have g3:x1.cell? ⟨z.R,3,ν⟩=μ z.iv:=j.cell 3))
 all_goals
  go_wp2
  first|go_end0|refine iC rfl rfl ?_
  refine⟨rfl,iw.first HR.out rfl C5.out (λR=> ?_)⟩;have qX:Z.heap.size<=x1.heap.size:=Nat.le_trans (by show Z.heap.size<=(Z.alloc _).heap.size;simp) V.size;have kI:∀k,dV (σ (μ ⟨U,0,ν⟩) (nn+1) jn)=μ k->z.iv.ownBlock=μ k \/Z.heap.size<=k:=by
   intro k Q;have yv:U=k:=by simpa[dV]using Q
   subst yv;rcases jv with hh|hh
   ·exact .inl hh
   ·exact .inr (Nat.le_trans (by show Z.heap.size<=(Z.alloc _).heap.size;simp) hh)
  have WH:U≠z.R:=by
   intro e;rcases kI U rfl with hh|hh
   ·exact HO.out (by rw[hh,e])
   ·omega
  refine R.own (σ (μ ⟨U,0,ν⟩) (nn+1) jn) (r.jZ++ [(r.id,Y,tx.data.toList)]) r.drop (by simpa using qX) V.os V.tape V.output (λk Q h1 h2=> ?_) ?_ ?_ kI
  ·rw[aq _ _ _ k h1,V.block k (by show k<(Z.alloc _).heap.size;simp;omega) (λe=>h2 e.symm)];exact aT Z _ k Q
  ·exact j.set 3 _
  ·rw[PG,az,y.out];have e4:(⟨tx.data.toList.toArray⟩:ByteArray)=tx:=gO;rw[e4];refine kQ.keep gO (λk Q=> ?_);have yv:U=k:=by simpa[dV]using Q
   exact aq _ _ _ k (by show k≠z.R;omega)
theorem vM {o:Obj} {p q s t:Addr} {a b c d:Value} (h:w.cell? p=μ a/\w.cell? q=μ b/\w.cell? s=μ c/\w.cell? t=μ d):(w.alloc o).cell? p=μ a/\(w.alloc o).cell? q=μ b/\(w.alloc o).cell? s=μ c/\(w.alloc o).cell? t=μ d:=⟨lV h.1,lV h.2.1,lV h.2.2.1,lV h.2.2.2⟩
theorem aam {t hp:Int} {j:Nat} (h:WB r t hp=μ j):j<r.n/\1<=hp:=by
 unfold WB at h;split at h
 ·rename_i Y
  cases Z:zN (pj r) t with
  |none=>rw[Z]at h;cases h
  |some x=>rw[Z]at h;exact⟨(qe h).1,Y⟩
 ·cases h
theorem PI(z:Zt)(r:iE)(t Z:Int)(tx:ByteArray)(w:dR)(h:lJ w z r)(J:Wt r.K)(jm:t≠r.id)(ht:0<=t/\t<=255)(hh:0<=Z/\Z<=255)(htx:tx.size<=900)(hd:0<=r.drop/\r.drop<=4000000000000000000)(uO:∀j,j<r.n->(r.P j).out.length<=800000000):
 eT eU 91 #[π (μ ⟨z.R,0,ν⟩),.agg #[ι κ t,ι κ Z,.string tx]] w λe w'=>e=ρ (τ #[])/\iw w w' z (r.send (t,Z,tx.data.toList)) r.n:=by
 have hS:Hid (r.send (t,Z,tx.data.toList)=match WB r t Z with|none=>{r with drop:=r.drop+1} |some i=>r.iK i ((r.P i).put 77 (jO t::jO (Z-1)::tx.data.toList))):=by
  show _=_;unfold iE.send;rw[ae jm];rfl
 have ba:=gN w (γ #[ι κ t,ι κ Z,.string tx] 106);have hM:jc (w.alloc (γ #[ι κ t,ι κ Z,.string tx] 106)) w.heap.size #[ι κ t,ι κ Z,.string tx] 106:=jc.new w _ _;obtain⟨W0,mT⟩:=fW (w.alloc (γ #[ι κ t,ι κ Z,.string tx] 106));obtain⟨N,hN⟩:=fW (w.heap.size);rw[mT]at ba hM;rw[hN]at hM;have R0:=h.below ba;have c0:=R0.c0;have cl:=R0.lt;have m0:W0.cell? ⟨N,0,ν⟩=μ (ι κ t):=hM.cell 0;have ml:=hM.lt;have heq:(t==r.id)=false:=by simp[jm]
 have A:Hid _:=h;have HM:Hid _:=hM;have HBa:Hid _:=ba;have Cq:Hid _:=mT;have HN:Hid _:=hN;clear h R0 hM ba mT hN jm
 go_in
 go_wp2_with(fail);rw[Cq.out,HN.out]
 go_quiet(fail)
 obtain⟨H,j0⟩:=fW (W0.drewN nq);have b1:eh w H:=by rw[<-j0];exact below_drewN HBa.out nq
 have u:jc H N #[ι κ t,ι κ Z,.string tx] 106:=by rw[<-j0];exact jc.drewN HM.out nq
 rw[j0];have d0:H.cell? ⟨N,0,ν⟩=μ (ι κ t):=u.cell 0;have d1:H.cell? ⟨N,1,ν⟩=μ (ι κ Z):=u.cell 1;have d2:H.cell? ⟨N,2,ν⟩=μ (.string tx):=u.cell 2;have dl:=u.lt;have M:=Mw z r t Z tx H (A.out.below b1) J;have HM1:Hid _:=u;have C5:Hid _:=b1;clear j0 c0 cl m0 ml HM HBa Cq u b1;cases ho:WB r t Z with
 |none=>
  have M:eT eU 153 #[π (μ ⟨z.R,0,ν⟩),.agg #[ι κ t,ι κ Z,.string tx]] H λe w'=>e=ρ (τ #[ι κ 0,.bool false])/\eh H w':=by
   rw[ho]at M;exact M
  rw[ho]at hS;go_wp2_with(fail);refine M.mono ?_;rintro e X ⟨rfl,b2⟩;have bb:=fY C5.out b2;have Q:=A.out.below bb;have nS:=Q.nN;have e4:=Q.c4;have f4:=nS.frozen 4;have el:=Q.lt;have hsI:Hid (z.iv.ownBlock≠μ z.R):=λe=>(Q.sI _ e).1 rfl;have Mb:=Q.ib;have Z8:Hid _:=bb;have hd0:=hd.1;have hd1:=hd.2;have Sv:fh.wrap (r.drop+1)=r.drop+1:=aP _ ⟨dU,dU⟩;clear M Q b2 bb hd
  go_wp2
  first|go_end0|refine iC rfl rfl ?_
  refine⟨rfl,?_⟩;rw[hS.out];refine iw.first A.out rfl Z8.out (λR=> ?_);refine R.own z.iv r.jZ (r.drop+1) gO rfl rfl rfl (λk _ h1 _=>aq _ _ _ k h1) (nS.set 4 _) ?_ (λk hk=>.inl hk);exact Mb.keep gO (λk hk=>aq _ _ _ k (by show k≠z.R;intro e;exact hsI.out (by rw[hk,e])))
 |some j=>
  have M:eT eU 153 #[π (μ ⟨z.R,0,ν⟩),.agg #[ι κ t,ι κ Z,.string tx]] H λe w'=>e=ρ (τ #[ι κ (j:Int),.bool true])/\eh H w':=by
   rw[ho]at M;exact M
  rw[ho]at hS;obtain⟨KO,BN⟩:=aam ho;have IK:(j:Int)<(r.n:Int):=dU;have xQ:(0:Int)<=(j:Int):=dU;go_wp2_with(fail);refine M.mono ?_;rintro e X ⟨rfl,b2⟩;have bb:=fY C5.out b2;have tj:=jc.below HM1.out b2;have Q:=A.out.below (fY bb (iP X));have F0:X.drew.cell? ⟨z.R,1,ν⟩=μ (σ (μ ⟨z.g,0,ν⟩) r.n z.cap)/\X.drew.cell? ⟨N,0,ν⟩=μ (ι κ t)/\X.drew.cell? ⟨N,1,ν⟩=μ (ι κ Z)/\X.drew.cell? ⟨N,2,ν⟩=μ (.string tx):=⟨Q.c1,tj.cell 0,tj.cell 1,tj.cell 2⟩
  have hlen:¬(9223372036854775807<2+tx.size):=dU;have hw8:ft.wrap t=t:=gA _ ⟨dU,dU⟩;have hwm:fh.wrap (Z-1)=Z-1:=aP _ ⟨dU,dU⟩;have hw9:ft.wrap (Z-1)=Z-1:=gA _ ⟨dU,dU⟩;have uI:(convert 140 9 (σ (μ ⟨X.heap.size,0,ν⟩) 2 2)).run eU (X.alloc (γ #[.int .u8 t,.int .u8 (Z-1)] 5)).drew=.ok (.string ⟨#[u8 t,u8 (Z-1)]⟩) (X.alloc (γ #[.int .u8 t,.int .u8 (Z-1)] 5)).drew:=Ya X.drew t (Z-1) ht.1 ht.2 dU dU;have b3:eh w (X.alloc (γ #[.int .u8 t,.int .u8 (Z-1)] 5)).drew:=jt (fY bb (gN _ _));obtain⟨D,hs2⟩:∃D:ByteArray,(⟨#[u8 t,u8 (Z-1)]⟩++tx)=D:=⟨_,rfl⟩
  have y:D.data.toList=u8 t::u8 (Z-1)::tx.data.toList:=by
   rw[<-hs2];simp
  have adC:D.size<=1000:=by
   have e:D.size=D.data.toList.length:=gO;have e2:tx.data.toList.length=tx.size:=gO;rw[e,y];simp only[List.length_cons,e2];omega
  have nP:eT eU 150 #[π (μ ⟨z.g,j*71,ν⟩),.string ⟨#[77]⟩,.string D] (X.alloc (γ #[.int .u8 t,.int .u8 (Z-1)] 5)).drew λe w'=>e=ρ (τ #[])/\iw w w' z (r.send (t,Z,tx.data.toList)) r.n/\(w'.cell? ⟨z.R,1,ν⟩=μ (σ (μ ⟨z.g,0,ν⟩) r.n z.cap)/\w'.cell? ⟨N,0,ν⟩=μ (ι κ t)/\w'.cell? ⟨N,1,ν⟩=μ (ι κ Z)/\w'.cell? ⟨N,2,ν⟩=μ (.string tx)):=by
   have R3:=A.out.below b3;have G:(X.alloc (γ #[.int .u8 t,.int .u8 (Z-1)] 5)).drew.cell? ⟨z.R,1,ν⟩=μ (σ (μ ⟨z.g,0,ν⟩) r.n z.cap)/\(X.alloc (γ #[.int .u8 t,.int .u8 (Z-1)] 5)).drew.cell? ⟨N,0,ν⟩=μ (ι κ t)/\(X.alloc (γ #[.int .u8 t,.int .u8 (Z-1)] 5)).drew.cell? ⟨N,1,ν⟩=μ (ι κ Z)/\(X.alloc (γ #[.int .u8 t,.int .u8 (Z-1)] 5)).drew.cell? ⟨N,2,ν⟩=μ (.string tx):=vM (o:=.cells #[.int .u8 t,.int .u8 (Z-1)] 5) F0;generalize (X.alloc (γ #[.int .u8 t,.int .u8 (Z-1)] 5)).drew=W3 at b3 R3 G⊢;have hpj:=uO j KO;refine(Cm z.g (j*71) (z.B j) (z.v j) (r.P j) ⟨#[77]⟩ D 77 W3 (R3.pt j KO) rfl adC dU).mono ?_;rintro e w6 ⟨rfl,K3⟩;have hE:r.send (t,Z,tx.data.toList)=r.iK j ((r.P j).put 77 D.data.toList):=by
    rw[hS.out,y];rfl
   have U:=R3.port KO K3;rw[hE];have Ng:¬z.mine r.n N:=by rw[<-HN.out];exact A.out.tK (Nat.le_refl _)
   exact⟨rfl,iw.first A.out rfl b3 (λ_=>U),U.c1,U.cell R3 (p:=⟨N,0,ν⟩) Ng G.2.1,U.cell R3 (p:=⟨N,1,ν⟩) Ng G.2.2.1,U.cell R3 (p:=⟨N,2,ν⟩) Ng G.2.2.2⟩
  have el:=Q.lt;have eg:=Q.FQ;obtain⟨T,hT⟩:∃T:dR->Prop,(λx=>iw w x z (r.send (t,Z,tx.data.toList)) r.n)=T:=⟨_,rfl⟩
  have JU:∀x,iw w x z (r.send (t,Z,tx.data.toList)) r.n=T x:=λx=>bY hT x;simp only[JU]at nP;have HT:Hid _:=JU;clear M tj b2 hT JU Q b3 y adC bb;go_wp2_with(fail);refine cg (S:=λx=>x.cell? ⟨z.R,1,ν⟩=μ (σ (μ ⟨z.g,0,ν⟩) r.n z.cap)/\x.cell? ⟨N,0,ν⟩=μ (ι κ t)/\x.cell? ⟨N,1,ν⟩=μ (ι κ Z)/\x.cell? ⟨N,2,ν⟩=μ (.string tx)) gL F0 (λk8=> ?_);refine jf 0 (μ 38) rfl rfl gL gL gL (λ_ _ _ h=>h) (by rfl) (v:= ?_) ?_ iX ?_
  rotate_left
  ·intro V Y
   (try dsimp only at Y)
   go_simp
   try with_reducible rfl
  simp only[gj,gk,gp,gq];refine jf 1 (μ 39) rfl rfl gL gL gL (λ_ _ _ h=>h) (by rfl) (v:= ?_) ?_ iX ?_
  rotate_left
  ·intro V Y
   (try dsimp only at Y)
   go_simp
   try with_reducible rfl
  simp only[gj,gk,gp,gq];refine jf 2 (μ 40) rfl rfl gL gL gL (λ_ _ _ h=>h) (by rfl) (v:= ?_) ?_ iX ?_
  rotate_left
  ·intro V Y
   (try dsimp only at Y)
   go_simp
   try with_reducible rfl
  simp only[gj,gk,gp,gq];refine jf 3 (μ 41) rfl rfl gL gL gL (λ_ _ _ h=>h) (by rfl) (v:= ?_) ?_ iX ?_
  rotate_left
  ·intro V Y
   (try dsimp only at Y)
   go_simp
   try with_reducible rfl
  simp only[gj,gk,gp,gq];refine jf 4 (μ 42) rfl rfl gL gL gL (λ_ _ _ h=>h) (by rfl) (v:= ?_) ?_ iX ?_
  rotate_left
  ·intro V Y
   (try dsimp only at Y)
   go_simp
   try with_reducible rfl
  simp only[gj,gk,gp,gq];refine jf 5 (μ 43) rfl rfl gL gL gL (λ_ _ _ h=>h) (by rfl) (v:= ?_) ?_ iX ?_
  rotate_left
  ·intro V Y
   (try dsimp only at Y)
   go_simp
   try with_reducible rfl
  simp only[gj,gk,gp,gq];refine jf 6 (μ 44) rfl rfl gL gL gL (λ_ _ _ h=>h) (by rfl) (v:= ?_) ?_ iX ?_
  rotate_left
  ·intro V Y
   (try dsimp only at Y)
   go_simp
   try with_reducible rfl
  simp only[gj,gk,gp,gq];refine jf 7 (μ 45) rfl rfl gL gL gL (λ_ _ _ h=>h) (by rfl) (v:= ?_) ?_ iX ?_
  rotate_left
  ·intro V Y
   (try dsimp only at Y)
   go_simp
   try with_reducible rfl
  simp only[gj,gk,gp,gq];refine jf 8 (μ 46) rfl rfl gL gL gL (λ_ _ _ h=>h) (by rfl) (v:= ?_) ?_ iX ?_
  rotate_left
  ·intro V Y
   (try dsimp only at Y)
   go_simp
   try with_reducible rfl
  simp only[gj,gk,gp,gq];refine jf 9 (μ 47) rfl rfl gL gL gL (λ_ _ _ h=>h) (by rfl) (v:= ?_) ?_ iX ?_
  rotate_left
  ·intro V Y
   (try dsimp only at Y)
   go_simp
   try with_reducible rfl
  simp only[gj,gk,gp,gq];refine jf 10 (μ 48) rfl rfl gL gL gL (λ_ _ _ h=>h) (by rfl) (v:= ?_) ?_ iX ?_
  rotate_left
  ·intro V Y
   (try dsimp only at Y)
   go_simp
   try with_reducible rfl
  simp only[gj,gk,gp,gq];refine jf 11 (μ 49) rfl rfl gL gL gL (λ_ _ _ h=>h) (by rfl) (v:= ?_) ?_ iX ?_
  rotate_left
  ·intro V Y
   (try dsimp only at Y)
   go_simp
   try with_reducible rfl
  simp only[gj,gk,gp,gq];refine jf 12 (μ 50) rfl rfl gL gL gL (λ_ _ _ h=>h) (by rfl) (v:= ?_) ?_ iX ?_
  rotate_left
  ·intro V Y
   (try dsimp only at Y)
   go_simp
   try with_reducible rfl
  simp only[gj,gk,gp,gq];refine jf 15 (μ 53) rfl rfl gL gL gL (λ_ _ _ h=>h) (by rfl) (v:= ?_) ?_ iX ?_
  rotate_left
  ·intro V Y
   (try dsimp only at Y)
   go_simp
   try with_reducible rfl
  simp only[gj,gk,gp,gq];refine jf 16 (μ 54) rfl rfl gL gL gL (λ_ _ _ h=>h) (by rfl) (v:= ?_) ?_ iX ?_
  rotate_left
  ·intro V Y
   (try dsimp only at Y)
   go_simp
   try with_reducible rfl
  simp only[gj,gk,gp,gq];refine aN (rs:=[13]) gL gO ?_;refine aF (o:=_) rfl (λK J=> ?_) aM
  go_simp
  refine J.out _ _ ?_ (λk8=> ?_)
  ·exact vM F0
  clear J K;refine aN (rs:=[14]) gL gO ?_;refine aF (o:=_) rfl (λK J=> ?_) aM
  go_simp
  refine J.out _ _ ?_ (λk8=> ?_)
  ·exact vM F0
  clear J K;refine jf 17 (μ 55) rfl rfl gL gL gL (λ_ _ _ h=>h) (by rfl) (v:= ?_) ?_ iX ?_
  rotate_left
  ·intro V Y
   (try dsimp only at Y)
   go_simp
   try with_reducible rfl
  simp only[gj,gk,gp,gq];refine aN (rs:=[18]) gL gO ?_;refine aF (o:=_) rfl (λK J=> ?_) aM
  go_simp
  refine nP.mono ?_;rintro e w5 ⟨rfl,KZ,F5⟩
  (try go_wp2_with(fail))
  refine J.out _ _ ?_ (λk8=> ?_)
  ·exact F5
  clear J K;refine cK gL ?_ _
  all_goals
   clear nP F0 F5
   go_wp2
   first|go_end0|refine iC rfl rfl ?_
   exact⟨rfl,by rw[HT.out];exact KZ⟩
theorem Ga(p:jl)(c:UInt8)(s:List UInt8):(p.put c s).m=p.m:=by
 unfold jl.put;split
 ·rfl
 ·split<;>rfl
theorem aap(p:jl)(q:kG):(vE p q).m=p.m/\(vE p q).pe=p.pe:=by
 unfold vE;split
 ·exact⟨Ga _ _ _,qT _ _ _⟩
 ·exact⟨rfl,rfl⟩
theorem vN:∀(l:List kG) (p:jl),(p.say l).m=p.m/\(p.say l).pe=p.pe
 |[],_=>⟨rfl,rfl⟩
 |x::l,p=>by
  have h:=vN l (vE p x);have Z:=aap p x;exact⟨h.1.trans Z.1,h.2.trans Z.2⟩
theorem tM(p:jl)(s:List UInt8):(p.packet s).m=p.m/\(p.packet s).pe=p.pe:=by
 unfold jl.packet;simp only;split
 ·exact vN _ _
 ·exact⟨rfl,rfl⟩
theorem DJ(p:jl)(s:List UInt8):(p.packet s).out.length<=p.out.length+5040:=by
 unfold jl.packet;simp only;split
 ·have h1:=FL p.L ((iM s).1,(iM s).2.1,(iM s).2.2.1);have h2:=yQ (jA p.L ((iM s).1,(iM s).2.1,(iM s).2.2.1)).2.1 {p with L:=(jA p.L ((iM s).1,(iM s).2.1,(iM s).2.2.1)).1};have h3:({p with L:=(jA p.L ((iM s).1,(iM s).2.1,(iM s).2.2.1)).1}:jl).out.length=p.out.length:=rfl;omega
 ·omega
structure Fit(r:iE)(k:Nat):Prop where
 jZ:r.jZ.length<=k
 drop:0<=r.drop/\r.drop<=k+1000000000000000
 out:∀j,j<r.n->(r.P j).out.length<=6000*k
theorem Fit.mono {l:Nat} (h:Fit r k)(hl:k<=l):Fit r l:=⟨by have:=h.jZ;omega,by have:=h.drop;omega,λj Z=>by have:=h.out j Z;omega⟩
theorem Fit.iK {r:iE} {k:Nat} (h:Fit r k)(i:Nat)(p:jl)(Y:i<r.n->p.out.length<=6000*k):Fit (r.iK i p) k:=⟨h.jZ,h.drop,λj Z=>by
 show(kR r.P i p j).out.length<=_;by_cases e:j=i
 ·subst e;rw[jk];exact Y Z
 ·rw[jh _ _ e];exact h.out j Z⟩
theorem Fit.grow(h:Fit r k)(i:Nat)(p:jl)(hp:p.out.length<=(r.P i).out.length+6000):Fit (r.iK i p) (k+1):=(h.mono (Nat.le_succ k)).iK i p (λhi=>by have:=h.out i hi;omega)
theorem Fit.congr {r':iE} (h:Fit r k)(Y:r'.jZ=r.jZ)(Z:r'.drop=r.drop)(V:r'.n=r.n)(X:r'.P=r.P):Fit r' k:=⟨by rw[Y];exact h.jZ,by rw[Z];exact h.drop,λj U=>by rw[X];exact h.out j (by rw[<-V];exact U)⟩
theorem nW(r:iE)(s:Int):(r.behind s).jZ=r.jZ/\(r.behind s).drop=r.drop/\(r.behind s).n=r.n/\(r.behind s).P=r.P:=by
 unfold iE.behind;split<;>exact⟨rfl,rfl,rfl,rfl⟩
theorem vO(r:iE):r.change.jZ=r.jZ/\r.change.drop=r.drop/\r.change.n=r.n/\r.change.P=r.P:=by
 unfold iE.change;split
 ·exact⟨rfl,rfl,rfl,rfl⟩
 ·exact nW _ _
theorem mC(r:iE)(i:Nat)(q:kN):(r.meet i q).jZ=r.jZ/\(r.meet i q).drop=r.drop/\(r.meet i q).n=r.n/\(r.meet i q).P=kR r.P i {r.P i with pe:=q}:=by
 unfold iE.meet;simp only;split
 ·exact⟨rfl,rfl,rfl,rfl⟩
 ·split
  ·obtain⟨Y,Z,V,X⟩:=vO ({r.iK i {r.P i with pe:=q}with O:=λx=>if x=i then λ_=>ν else(r.iK i {r.P i with pe:=q}).O x}:iE);exact⟨Y,Z,V,X⟩
  ·obtain⟨Y,Z,V,X⟩:=vO ({r.iK i {r.P i with pe:=q}with O:=λx=>if x=i then λ_=>ν else(r.iK i {r.P i with pe:=q}).O x}:iE);exact⟨Y,Z,V,X⟩
theorem Fit.meet {r:iE} {k:Nat} (h:Fit r k)(i:Nat)(q:kN):Fit (r.meet i q) k:=by
 obtain⟨Y,Z,V,X⟩:=mC r i q;exact Fit.congr (h.iK i {r.P i with pe:=q} (λhi=>h.out i hi)) Y Z V X
theorem Fit.behind {r:iE} {k:Nat} (h:Fit r k)(s:Int):Fit (r.behind s) k:=by
 obtain⟨Y,Z,V,X⟩:=nW r s;exact h.congr Y Z V X
theorem aaq(r:iE)(t:yn):(r.send t).n=r.n/\(r.send t).id=r.id:=by
 unfold iE.send;split
 ·exact⟨rfl,rfl⟩
 ·split<;>exact⟨rfl,rfl⟩
theorem Fit.send {r:iE} {k:Nat} (h:Fit r k)(t:yn):Fit (r.send t) (k+1):=by
 unfold iE.send;split
 ·exact⟨by have:=h.jZ;simp;omega,by have:=h.drop;simp;omega,λj Z=>by have:=h.out j Z;simp;omega⟩
 ·split
  ·exact⟨by have:=h.jZ;simp;omega,by have:=h.drop;simp;omega,λj Z=>by have:=h.out j Z;simp;omega⟩
  ·rename_i b _
   exact h.grow b _ (Nat.le_trans (wD (r.P b) 77 (jO t.1::jO (t.2.1-1)::t.2.2)) dU)
theorem Fit.state(h:Fit r k)(i:Nat)(l:List UInt8):Fit (jd r i l) (k+1):=by
 unfold jd;simp only;split
 ·exact h.mono (Nat.le_succ k)
 ·split
  ·exact(h.behind _).mono (Nat.le_succ k)
  ·have Z:Fit ({r with K:=kY r.K (St.il l).1 (St.il l).2.1 (St.il l).2.2.1,O:=oq r.K r.O i (St.il l).1 (St.il l).2.1 (St.il l).2.2.1}:iE) k:=h.congr rfl rfl rfl rfl;split
   ·exact Z.grow i _ (Nat.le_trans (wD (r.P i) 65 (qC (St.il l).1 (St.il l).2.1 (St.il l).2.2.1)) (by show(r.P i).out.length+126<=(r.P i).out.length+6000;omega))
   ·exact Z.mono (Nat.le_succ k)
theorem WI(r:iE)(i:Nat)(l:List UInt8):(jd r i l).n=r.n/\(jd r i l).id=r.id:=by
 unfold jd;simp only;split
 ·exact⟨rfl,rfl⟩
 ·split
  ·exact⟨Ty _ _,Ab _ _⟩
  ·split<;>exact⟨rfl,rfl⟩
theorem kU.send {r:iE} (h:kU r)(t:yn):kU (r.send t):=by
 unfold iE.send;split
 ·exact⟨h.id,h.m,h.pe,h.own,h.Pr⟩
 ·split
  ·exact⟨h.id,h.m,h.pe,h.own,h.Pr⟩
  ·exact h.iK _ _ (Ga _ _ _) (λhi=>by rw[qT];exact h.pe _ hi)
theorem kU.state(h:kU r)(i:Nat)(l:List UInt8):kU (jd r i l):=by
 unfold jd;simp only;split
 ·exact h
 ·rename_i hc
  have hf:(St.il l).2.2.2=0:=by
   by_cases e:(St.il l).2.2.2=0
   ·exact e
   ·exact absurd (.inl e) hc
  have Y:oD (St.il l).1 (St.il l).2.1 (St.il l).2.2.1=0:=pv (l:=l) (by rw[<-hf]);split
  ·exact h.behind (by have:=(jw Y).2.1;omega)
  ·rename_i U
   have Z:kU {r with K:=kY r.K (St.il l).1 (St.il l).2.1 (St.il l).2.2.1,O:=oq r.K r.O i (St.il l).1 (St.il l).2.1 (St.il l).2.2.1}:=by
    refine⟨h.id,h.m,h.pe,?_,?_⟩
    ·show∃q,kY r.K _ _ _ r.id=μ q/\_;unfold kY;split
     ·rename_i V
      have X:r.id≠(St.il l).1:=λe=>U ⟨e.symm,V⟩;unfold vD;rw[ae X];exact h.own
     ·exact h.own
    ·show Wt (kY r.K _ _ _);unfold kY;split
     ·exact h.Pr.sN (jw Y).1 _
     ·exact h.Pr
   split
   ·exact Z.iK _ _ (Ga _ _ _) (λhi=>by rw[qT];exact h.pe _ hi)
   ·exact Z
theorem DK(z:Zt)(r:iE)(k:Nat)(t Z:Int)(tx:ByteArray)(w:dR)(h:lJ w z r)(X:kU r)(hf:Fit r k)(hk:k<=100000)(T:0<=t/\t<=255)(hh:0<=Z/\Z<=255)(Y:tx.size<=900):
 eT eU 91 #[π (μ ⟨z.R,0,ν⟩),.agg #[ι κ t,ι κ Z,.string tx]] w λe w'=>e=ρ (τ #[])/\iw w w' z (r.send (t,Z,tx.data.toList)) r.n:=by
 by_cases e:t=r.id
 ·subst e;refine(PH z r Z tx w h (by have:=hf.jZ;omega)).mono ?_;rintro e w1 ⟨rfl,V⟩;refine⟨rfl,?_⟩;unfold iE.send;rw[ag rfl];exact V
 ·exact PI z r t Z tx w h X.Pr e T hh Y (by have:=hf.drop;omega) (λj U=>by have:=hf.out j U;omega)
def qH(r:iE)(l:List UInt8):iE:=if 2<=l.length/\l.length<=22 then r.send (((l.getD 0 0).toNat:Int),((l.getD 1 0).toNat:Int),l.drop 2)else r
theorem BW(s:ByteArray)(z:Zt)(r:iE)(k:Nat)(w:dR)(h:lJ w z r)(Y:kU r)(hf:Fit r k)(D:k<=100000)(hs:s.size<=1000):
 eT eU 137 #[π (μ ⟨z.R,0,ν⟩),.string s] w λe w'=>e=ρ (τ #[])/\iw w w' z (qH r s.data.toList) r.n:=by
 have hl:s.data.toList.length=s.size:=gO;by_cases h2:2<=s.size
 ·by_cases h22:s.size<=22
  ·have b0:0<s.size:=dU;have b1:1<s.size:=dU;have g1:(2:Int)<=(s.size:Int):=dU;have G:(s.size:Int)<=22:=dU;have Z:∀W,eh w W->eT eU 91 #[π (μ ⟨z.R,0,ν⟩),.agg #[ι κ (s[0].toNat:Int),ι κ (s[1].toNat:Int),.string (s.extract 2 s.size)]] W λe w'=>e=ρ (τ #[])/\iw w w' z (qH r s.data.toList) r.n:=by
    intro W J;have l0:=s[0].toNat_lt;have l1:=s[1].toNat_lt;refine(DK z r k (s[0].toNat:Int) (s[1].toNat:Int) (s.extract 2 s.size) W (h.below J) Y hf D dU dU (by simp;omega)).mono ?_;rintro e w1 ⟨rfl,V⟩;refine⟨rfl,iw.first h rfl J (λ_=> ?_)⟩;have H:qH r s.data.toList=r.send ((s[0].toNat:Int),(s[1].toNat:Int),(s.extract 2 s.size).data.toList):=by
     unfold qH;rw[ag ⟨dU,dU⟩,nu s 0 b0,nu s 1 b1];rw[vC,aG dU]
    rw[H];exact V
   have X:=Z _ (iP w);have oB:fh.wrap (s[0].toNat:Int)=(s[0].toNat:Int):=aP _ ⟨by have:=s[0].toNat_lt;omega,by have:=s[0].toNat_lt;omega⟩;have mb:fh.wrap (s[1].toNat:Int)=(s[1].toNat:Int):=aP _ ⟨by have:=s[1].toNat_lt;omega,by have:=s[1].toNat_lt;omega⟩;clear Z hf Y h;obtain⟨T,M⟩:∃T:dR->Prop,(λx=>iw w x z (qH r s.data.toList) r.n)=T:=⟨_,rfl⟩
   have Q:∀x,iw w x z (qH r s.data.toList) r.n=T x:=λx=>bY M x;simp only[Q]at X⊢;clear M Q
   go_in
   go_wp2
   go_region_held3(λ_=>True)
    (first|trivial)
    (first
     |(go_at_call 91;refine X.mono ?_;rintro e w1 ⟨rfl,V⟩))
   all_goals
    clear X
    go_wp2
    first|go_end0|refine iC rfl rfl ?_
    exact⟨rfl,V⟩
  ·have g1:(2:Int)<=(s.size:Int):=dU;have G:¬(s.size:Int)<=22:=dU;have U:Hid (iw w w z (qH r s.data.toList) r.n):=by
    show iw _ _ _ _ _;unfold qH;rw[ae dU];exact iw.refl h
   clear h Y hf
   go_in
   go_wp2
   first|go_end0|refine iC rfl rfl ?_
   exact⟨rfl,U.out⟩
 ·have g1:¬(2:Int)<=(s.size:Int):=dU;have U:Hid (iw w w z (qH r s.data.toList) r.n):=by
   show iw _ _ _ _ _;unfold qH;rw[ae dU];exact iw.refl h
  clear h Y hf
  go_in
  go_wp2
  first|go_end0|refine iC rfl rfl ?_
  exact⟨rfl,U.out⟩
def jS(r:iE)(i:Nat)(c:UInt8)(s:List UInt8):iE:=if c=76 then r.iK i ((r.P i).packet s)else r
def lO(r1:iE)(i:Nat)(c:UInt8)(s:List UInt8):iE:=
 if c=72 then(if(kg s).2.2=0 then r1.meet i (iY r1.id (kg s).1 (kg s).2.1)else r1)
 else if c=83 then jd r1 i s
 else if c=65 then kd r1 i s
 else if c=77 then qH r1 s
 else r1
theorem lg(r:iE)(i:Nat)(c:UInt8)(s:List UInt8):r.take i c s=if((jS r i c s).P i).L.st≠9 then(jS r i c s).meet i nobody else lO (jS r i c s) i c s:=rfl
theorem TJ(T s:ByteArray)(c:UInt8)(z:Zt)(r:iE)(i k:Nat)(w:dR)(h:lJ w z r)(hT:T=⟨#[c]⟩)(DL:iV w)(iF:kU r)(hf:Fit r k)(hk:k<=99999)(hi:i<r.n)(hs:s.size<=1000):
 eT eU 79 #[π (μ ⟨z.R,0,ν⟩),ι κ (i:Int),.string T,.string s] w λe w'=>e=ρ (τ #[])/\iw w w' z (r.take i c s.data.toList) r.n:=by
 have kB:(i:Int)<(r.n:Int):=dU;have KU:(0:Int)<=(i:Int):=dU;have c1:=h.c1;have cl:=h.lt;have gl:=h.FQ;have HEq:=lg r i c s.data.toList;obtain⟨r1,kQ⟩:=fW (jS r i c s.data.toList);rw[kQ]at HEq;have l9:r1.n=r.n:=by rw[<-kQ];unfold jS;split<;>rfl
 have kK:kU r1:=by
  rw[<-kQ];unfold jS;split
  ·exact iF.iK i _ (tM _ _).1 (λhi=>by rw[(tM _ _).2];exact iF.pe i hi)
  ·exact iF
 have Vq:Fit r1 (k+1):=by
  rw[<-kQ];unfold jS;split
  ·exact hf.grow i _ (Nat.le_trans (DJ _ _) dU)
  ·exact hf.mono (Nat.le_succ k)
 have uG:i<r1.n:=by rw[l9];exact hi
 have hop:Hid (∀W,iw w W z r1 r.n->eT eU 83 #[π (μ ⟨z.g,i*71,ν⟩)] W λe w'=>e=ρ (.bool ((r1.P i).L.st==9))/\W=w'):=by
  intro W H;obtain⟨v,hv⟩:=H.pt uG;exact xO z.g (i*71) (z.B i) v (r1.P i) W hv
 have j:Hid (c=76->eT eU 133 #[π (μ ⟨z.g,i*71,ν⟩),.string s] w λe w'=>e=ρ (τ #[])/\iw w w' z r1 r.n):=by
  intro e;refine(JJ s z.g (i*71) (z.B i) (z.v i) (r.P i) w (h.pt i hi) DL hs (by have:=hf.out i hi;omega)).mono ?_;rintro e1 w1 ⟨rfl,hw⟩;refine⟨rfl,?_⟩;rw[<-kQ];unfold jS;rw[ag e];exact h.port hi hw
 have PJ:Hid (c≠76->iw w w z r1 r.n):=by
  intro e;rw[<-kQ];unfold jS;rw[ae e];exact iw.refl h
 have J:Hid ((r1.P i).L.st≠9->∀W,iw w W z r1 r.n->eT eU 74 #[π (μ ⟨z.R,0,ν⟩),ι κ (i:Int),.agg #[ι κ 0,.bool false,ι κ 0]] W λe w'=>e=ρ (τ #[])/\iw w w' z (r.take i c s.data.toList) r.n):=by
  intro e W H;rw[HEq,ag e];refine H.call λz1 R1 hl=> ?_;rw[<-hl.R,<-l9];exact vJ z1 r1 i nobody W R1 kK uG (nQ.nobody kK.id.1)
 have G:Hid ((r1.P i).L.st=9->c=72->∀W,iw w W z r1 r.n->eT eU 134 #[π (μ ⟨z.R,0,ν⟩),ι κ (i:Int),.string s] W λe w'=>e=ρ (τ #[])/\iw w w' z (r.take i c s.data.toList) r.n):=by
  intro e Y W H;rw[HEq,ae (by simp[e])];unfold lO;rw[ag Y];refine H.call λz1 R1 hl=> ?_;rw[<-hl.R,<-l9];exact E4 s z1 r1 i W R1 kK uG
 have y:Hid ((r1.P i).L.st=9->c=83->∀W,iw w W z r1 r.n->eT eU 135 #[π (μ ⟨z.R,0,ν⟩),ι κ (i:Int),.string s] W λe w'=>e=ρ (τ #[])/\iw w w' z (r.take i c s.data.toList) r.n):=by
  intro e Y W H;rw[HEq,ae (by simp[e])];unfold lO;rw[ae (by rw[Y];decide),ag Y];refine H.call λz1 R1 hl=> ?_;rw[<-hl.R,<-l9];exact E3 s z1 r1 i W R1 kK uG hs (by have:=Vq.out i uG;omega)
 have D:Hid ((r1.P i).L.st=9->c=65->∀W,iw w W z r1 r.n->eT eU 136 #[π (μ ⟨z.R,0,ν⟩),ι κ (i:Int),.string s] W λe w'=>e=ρ (τ #[])/\iw w w' z (r.take i c s.data.toList) r.n):=by
  intro e Y W H;rw[HEq,ae (by simp[e])];unfold lO;rw[ae (by rw[Y];decide),ae (by rw[Y];decide),ag Y];refine H.call λz1 R1 hl=> ?_;rw[<-hl.R,<-l9];exact EZ s z1 r1 i W R1 uG hs
 have A:Hid ((r1.P i).L.st=9->c=77->∀W,iw w W z r1 r.n->eT eU 137 #[π (μ ⟨z.R,0,ν⟩),.string s] W λe w'=>e=ρ (τ #[])/\iw w w' z (r.take i c s.data.toList) r.n):=by
  intro e Y W H;rw[HEq,ae (by simp[e])];unfold lO;rw[ae (by rw[Y];decide),ae (by rw[Y];decide),ae (by rw[Y];decide),ag Y];refine H.call λz1 R1 hl=> ?_;rw[<-hl.R,<-l9];exact BW s z1 r1 (k+1) W R1 kK Vq dU hs
 have U:Hid ((r1.P i).L.st=9->c≠72->c≠83->c≠65->c≠77->∀W,iw w W z r1 r.n->iw w W z (r.take i c s.data.toList) r.n):=by
  intro e e1 Y e3 e4 W H;rw[HEq,ae (by simp[e])];unfold lO;rw[ae e1,ae Y,ae e3,ae e4];exact H
 have HT:Hid _:=hT;generalize (r1.P i).L.st=st at hop J G y D A U;obtain⟨Q,hQ⟩:∃Q:dR->Prop,(λx=>iw w x z (r.take i c s.data.toList) r.n)=Q:=⟨_,rfl⟩
 have hQ':∀x,iw w x z (r.take i c s.data.toList) r.n=Q x:=λx=>bY hQ x;simp only[hQ']at J G y D A U⊢;obtain⟨Q1,hQ1⟩:∃Q:dR->Prop,(λx=>iw w x z r1 r.n)=Q:=⟨_,rfl⟩
 have adF:∀x,iw w x z r1 r.n=Q1 x:=λx=>bY hQ1 x;simp only[adF]at hop j PJ J G y D A U;clear h iF hf kK Vq uG l9 kQ HEq hQ hQ' hQ1 adF DL
 go_in
 cases M:(c==76)with
 |true=>
  have wZ:=j.out (by simpa using M);go_wp2_with(fail);refine wZ.mono ?_;rintro e W3 ⟨rfl,u⟩;clear wZ;have yI:=hop.out _ u;go_wp2_with(fail);refine yI.mono ?_;rintro e W4 ⟨rfl,rfl⟩;clear yI;cases q9:(st==9)with
  |false=>
   have Z:=J.out (by simpa using q9) _ u;clear J G y D A U j PJ hop;go_wp2_with(fail);refine Z.mono ?_;rintro e W5 ⟨rfl,X⟩;clear Z
   go_wp2
   first|go_end0|refine iC rfl rfl ?_
   exact⟨rfl,X⟩
  |true=>
   have V:st=9:=by simpa using q9
   have q72:(c==72)=false:=by rw[show c=76 by simpa using M];rfl
   have q83:(c==83)=false:=by rw[show c=76 by simpa using M];rfl
   have q65:(c==65)=false:=by rw[show c=76 by simpa using M];rfl
   have q77:(c==77)=false:=by rw[show c=76 by simpa using M];rfl
   have X:=U.out V (by simpa using q72) (by simpa using q83) (by simpa using q65) (by simpa using q77) _ u;clear J G y D A U j PJ hop V
   go_wp2
   first|go_end0|refine iC rfl rfl ?_
   exact⟨rfl,X⟩
 |false=>
  have u:=PJ.out (by simpa using M);have yI:=hop.out _ u;go_wp2_with(fail);refine yI.mono ?_;rintro e W4 ⟨rfl,rfl⟩;clear yI;cases q9:(st==9)with
  |false=>
   have Z:=J.out (by simpa using q9) _ u;clear J G y D A U j PJ hop;go_wp2_with(fail);refine Z.mono ?_;rintro e W5 ⟨rfl,X⟩;clear Z
   go_wp2
   first|go_end0|refine iC rfl rfl ?_
   exact⟨rfl,X⟩
  |true=>
   have V:st=9:=by simpa using q9
   cases q72:(c==72)with
   |true=>
    have Z:=G.out V (by simpa using q72) _ u;clear J G y D A U j PJ hop V;go_wp2_with(fail);refine Z.mono ?_;rintro e W5 ⟨rfl,X⟩;clear Z
    go_wp2
    first|go_end0|refine iC rfl rfl ?_
    exact⟨rfl,X⟩
   |false=>
    cases q83:(c==83)with
    |true=>
     have Z:=y.out V (by simpa using q83) _ u;clear J G y D A U j PJ hop V;go_wp2_with(fail);refine Z.mono ?_;rintro e W5 ⟨rfl,X⟩;clear Z
     go_wp2
     first|go_end0|refine iC rfl rfl ?_
     exact⟨rfl,X⟩
    |false=>
     cases q65:(c==65)with
     |true=>
      have Z:=D.out V (by simpa using q65) _ u;clear J G y D A U j PJ hop V;go_wp2_with(fail);refine Z.mono ?_;rintro e W5 ⟨rfl,X⟩;clear Z
      go_wp2
      first|go_end0|refine iC rfl rfl ?_
      exact⟨rfl,X⟩
     |false=>
      cases q77:(c==77)with
      |true=>
       have Z:=A.out V (by simpa using q77) _ u;clear J G y D A U j PJ hop V;go_wp2_with(fail);refine Z.mono ?_;rintro e W5 ⟨rfl,X⟩;clear Z
       go_wp2
       first|go_end0|refine iC rfl rfl ?_
       exact⟨rfl,X⟩
      |false=>
       have X:=U.out V (by simpa using q72) (by simpa using q83) (by simpa using q65) (by simpa using q77) _ u;clear J G y D A U j PJ hop V
       go_wp2
       first|go_end0|refine iC rfl rfl ?_
       exact⟨rfl,X⟩
theorem TK(l:List UInt8)(e d:Bool)(h:l.length<=62):(mX l e d).1.length<=62:=by
 unfold mX;split
 ·simp
 ·split
  ·simp
  ·split
   ·simp
   ·split
    ·simp;omega
    ·simp
theorem TL(s:kc)(c:UInt8)(h:s.1.length<=62):(rk s c).1.length<=62:=by
 obtain⟨l,e,d⟩:=s;unfold rk;simp only at h⊢;split
 ·exact h
 ·split
  ·exact h
  ·split
   ·exact h
   ·simp;omega
theorem PL(a:List (List UInt8)×Nat×kc)(c:UInt8)(h:a.2.2.1.length<=62)(Z:∀t∈a.1,t.length<=62):(lT a c).2.2.1.length<=62/\∀t∈(lT a c).1,t.length<=62:=by
 have Y:(pE a.2.2.1 a.2.2.2.1 a.2.2.2.2 c).1.length<=62:=by
  unfold pE;split
  ·simp
  ·exact TL _ c h
 have U:(pF a.2.2.1 a.2.2.2.1 a.2.2.2.2 c).1.length<=62:=by
  unfold pF;split
  ·exact TK _ _ _ h
  ·simp
 unfold lT;simp only;split
 ·exact⟨Y,Z⟩
 ·split
  ·refine⟨Y,λt V=> ?_⟩;rcases av.1 V with X|X
   ·exact Z t X
   ·rw[ar.1 X];exact U
  ·exact⟨Y,Z⟩
theorem Gb:∀(l:List UInt8) (a:List (List UInt8)×Nat×kc),a.2.2.1.length<=62->(∀t∈a.1,t.length<=62)->∀t∈(l.foldl lT a).1,t.length<=62
 |[],_,_,h2=>h2
 |c::l,a,h1,h2=>by
  have:=PL a c h1 h2;exact Gb l (lT a c) this.1 this.2
theorem TM(st:kc)(l:List UInt8)(h:st.1.length<=62):∀t∈(j9 st l).1,t.length<=62:=Gb l ([],0,st) h (λt Z=>by simp at Z)
theorem WJ(r:iE)(i:Nat)(c:UInt8)(s:List UInt8):(jS r i c s).n=r.n/\(jS r i c s).id=r.id:=by
 unfold jS;split<;>exact⟨rfl,rfl⟩
theorem WK(r:iE)(i:Nat)(c:UInt8)(s:List UInt8):(lO r i c s).n=r.n/\(lO r i c s).id=r.id:=by
 unfold lO;split
 ·split
  ·exact⟨Ac _ _ _,Cp _ _ _⟩
  ·exact⟨rfl,rfl⟩
 ·split
  ·exact WI _ _ _
  ·split
   ·unfold kd;simp only;split<;>exact⟨rfl,rfl⟩
   ·split
    ·unfold qH;split
     ·exact aaq _ _
     ·exact⟨rfl,rfl⟩
    ·exact⟨rfl,rfl⟩
theorem Mx(r:iE)(i:Nat)(c:UInt8)(s:List UInt8):(r.take i c s).n=r.n/\(r.take i c s).id=r.id:=by
 rw[lg];have Z:=WJ r i c s;split
 ·exact⟨(Ac _ _ _).trans Z.1,(Cp _ _ _).trans Z.2⟩
 ·have Y:=WK (jS r i c s) i c s;exact⟨Y.1.trans Z.1,Y.2.trans Z.2⟩
theorem kU.link(h:kU r)(i:Nat)(c:UInt8)(s:List UInt8):kU (jS r i c s):=by
 unfold jS;split
 ·exact h.iK i _ (tM _ _).1 (λhi=>by rw[(tM _ _).2];exact h.pe i hi)
 ·exact h
theorem Fit.link(h:Fit r k)(i:Nat)(c:UInt8)(s:List UInt8):Fit (jS r i c s) (k+1):=by
 unfold jS;split
 ·exact h.grow i _ (Nat.le_trans (DJ _ _) dU)
 ·exact h.mono (Nat.le_succ k)
theorem DM {s:List UInt8} (Z:(kg s).2.2=0):1<=(kg s).1/\(kg s).1<=6:=by
 unfold kg at Z⊢;split at Z
 ·rename_i hc
  rw[ag hc];have:=hc.2;simp only[tF,Bool.and_eq_true,decide_eq_true_eq]at this;simp only;omega
 ·simp at Z
theorem kU.rest(h:kU r)(i:Nat)(c:UInt8)(s:List UInt8):kU (lO r i c s):=by
 unfold lO;split
 ·split
  ·rename_i Z
   exact h.meet i (nQ.Wu h.id.1 (DM Z))
  ·exact h
 ·split
  ·exact h.state i s
  ·split
   ·unfold kd;simp only;split
    ·exact h.xR _
    ·exact h
   ·split
    ·unfold qH;split
     ·exact h.send _
     ·exact h
    ·exact h
theorem Fit.rest(h:Fit r k)(i:Nat)(c:UInt8)(s:List UInt8):Fit (lO r i c s) (k+1):=by
 unfold lO;split
 ·split
  ·exact(h.meet i _).mono (Nat.le_succ k)
  ·exact h.mono (Nat.le_succ k)
 ·split
  ·exact h.state i s
  ·split
   ·unfold kd;simp only;split
    ·exact Fit.mono (h.congr rfl rfl rfl rfl) (Nat.le_succ k)
    ·exact h.mono (Nat.le_succ k)
   ·split
    ·unfold qH;split
     ·exact h.send _
     ·exact h.mono (Nat.le_succ k)
    ·exact h.mono (Nat.le_succ k)
theorem kU.take {r:iE} (h:kU r)(i:Nat)(c:UInt8)(s:List UInt8):kU (r.take i c s):=by
 rw[lg];split
 ·exact(h.link i c s).meet i (nQ.nobody (h.link i c s).id.1)
 ·exact(h.link i c s).rest i c s
theorem Fit.take {r:iE} {k:Nat} (h:Fit r k)(i:Nat)(c:UInt8)(s:List UInt8):Fit (r.take i c s) (k+2):=by
 rw[lg];split
 ·exact((h.link i c s).meet i _).mono dU
 ·exact(h.link i c s).rest i c s
def jD(r:iE)(i:Nat):List UInt8->iE
 |[] =>r
 |c::s=>r.take i c s
theorem DN:∀(l:List (List UInt8)) (r:iE) (i:Nat) (t:List UInt8),r.takes i (l++ [t])=jD (r.takes i l) i t
 |[],r,i,t=>by cases t<;>rfl
 |x::l,r,i,t=>by
  show(match x with|[] =>r|c::s=>r.take i c s).takes i (l++ [t])=jD ((match x with|[] =>r|c::s=>r.take i c s).takes i l) i t;exact DN l _ i t
theorem PN(h:kU r)(hf:Fit r k)(i:Nat)(t:List UInt8):(jD r i t).n=r.n/\kU (jD r i t)/\Fit (jD r i t) (k+2):=by
 cases t with
 |nil=>exact⟨rfl,h,hf.mono dU⟩
 |cons c s=>exact⟨(Mx r i c s).1,h.take i c s,hf.take i c s⟩
theorem Ae:∀(l:List (List UInt8)) {r:iE} {k:Nat} (_:kU r) (_:Fit r k) (i:Nat),(r.takes i l).n=r.n/\kU (r.takes i l)/\Fit (r.takes i l) (k+2*l.length)
 |[],r,k,h,hf,i=>⟨rfl,h,hf⟩
 |x::l,r,k,h,hf,i=>by
  have Y:=PN h hf i x;have e:r.takes i (x::l)=(jD r i x).takes i l:=by cases x<;>rfl
  have Z:=Ae l Y.2.1 Y.2.2 i;rw[e];refine⟨Z.1.trans Y.1,Z.2.1,Z.2.2.mono (by simp;omega)⟩
theorem pS.rdC(h:pS w g o B v p):Rd w g (o+2) p.rd.1 p.rd.2.1 p.rd.2.2:=by
 obtain⟨F,hC,hF⟩:=h.wC;refine⟨F,(hC.sub 2 65 dX).congr (λj hj=> ?_),hF⟩;unfold wB;rw[ae dU,ae dU,ag dU,show 2+j-2=j by omega]
theorem pS.read(h:pS w g o B v p)(r:kc)(V:Rd w' g (o+2) r.1 r.2.1 r.2.2)(Z:kS w w' g (o+2) 65):pS w' g o B v {p with rd:=r} /\ni w w' g o B v:=by
 obtain⟨F,hC,hF⟩:=h.wC;obtain⟨G,T,X⟩:=V;have Y:=pP.join (a:=2) (k:=65) hC Z T;refine⟨⟨⟨G,Y.congr (λj Y=>Ti p B v F G r j Y),X⟩,h.lk.keep (Z.block B h.lk.lt (λe=>h.gB e.symm)),h.ou.keep Z.size (λx hx=>Z.block x (h.ou.lt x hx) (λe=>h.vg (by rw[hx,e]))),h.few,h.ok,h.gB,h.vg,h.vB,h.nz⟩,⟨Z.os,Z.tape,Z.output,Z.size,λi hi U _ _=>Z.block i hi U,λj Y=>Z.cell j dU,Z.fz⟩⟩
theorem lJ.adG {z:Zt} (h:lJ w z r)(hi:i<r.n)(H:pS w' z.g (i*71) (z.B i) (z.v i) p)(Z:ni w w' z.g (i*71) (z.B i) (z.v i)):lJ w' z (r.iK i p)/\yR w w' z r.n:=by
 have T:z.mine r.n z.g/\z.mine r.n (z.B i)/\∀k,(z.v i).ownBlock=μ k->z.mine r.n k:=⟨.inr (.inl rfl),.inr (.inr (.inl ⟨i,hi,.inl rfl⟩)),λk Y=>.inr (.inr (.inl ⟨i,hi,.inr Y⟩))⟩
 have Q:∀k,k<w.heap.size->¬z.mine r.n k->w'.heap[k]? =w.heap[k]? :=λk Y U=>Z.block k Y (λe=>U (by rw[e];exact T.1)) (λe=>U (by rw[e];exact T.2.1)) (λe=>U (T.2.2 k e));have M:=h.bs.still Z.size (λj V G=>Q j V (λe=>G (h.no j e))) h.nb.1 h.nb.2.1 h.nb.2.2 z.fm.no (λj V=>.inl V) (λj V=>Nat.lt_of_lt_of_le (h.bs.Pf j V) Z.size);refine⟨⟨h.n1,h.n3,h.Ma,h.id,?_,?_,?_,M,h.bl,h.no,h.nb,h.sR,h.sB,h.sV,h.sI,h.Pq⟩,⟨Z.os,Z.tape,Z.output,Z.size,λk Y U _ _=>Q k Y U⟩⟩
 ·exact h.nN.keep (Z.block z.R h.nN.lt h.sR.1 (λe=>(h.sR.2.2 i hi).1 e.symm) (h.sR.2.2 i hi).2)
 ·intro j V;by_cases e:j=i
  ·subst e;show pS w' z.g (j*71) (z.B j) (z.v j) (kR r.P j p j);rw[jk];exact H
  ·show pS w' z.g (j*71) (z.B j) (z.v j) (kR r.P i p j);rw[jh _ _ e];have X:=h.pt j V;obtain⟨F,hC,hF⟩:=X.wC;have hs:=h.sB j i V hi e;refine⟨⟨F,λx hx=>⟨(Z.cell (j*71+x) ?_).trans (hC.cell x hx),(Z.fz _).trans (hC.fz x hx)⟩,hF⟩,X.lk.keep (Z.block (z.B j) X.lk.lt (λe=>X.gB e.symm) hs.1 (h.sV i j hi V)),X.ou.keep Z.size (λk Y=>Z.block k (X.ou.lt k Y) (λe=>X.vg (by rw[Y,e])) (λe=>h.sV j i V hi (by rw[Y,e])) (hs.2 k Y)),X.few,X.ok,X.gB,X.vg,X.vB,X.nz⟩;rcases Nat.lt_or_gt_of_ne e with J|J
   ·exact .inl dU
   ·exact .inr dU
 ·exact h.ib.keep Z.size (λk Y=>Z.block k (h.ib.lt k Y) (h.sI k Y).2.1 ((h.sI k Y).2.2 i hi).1 ((h.sI k Y).2.2 i hi).2)
theorem WL(l:List (List UInt8))(j:Nat)(h:j<l.length):(strs l)[j]? =μ (.string ⟨l[j].toArray⟩):=by simp[strs,h]
theorem TN(s:ByteArray)(z:Zt)(r:iE)(i k:Nat)(w:dR)(h:lJ w z r)(DL:iV w)(iF:kU r)(hf:Fit r k)(hk:k+2*s.size<=99999)(hi:i<r.n):
 eT eU 23 #[π (μ ⟨z.R,0,ν⟩),ι κ (i:Int),.string s] w λe w'=>e=ρ η/\iw w w' z (r.recv i s.data.toList) r.n:=by
 have hh:=vF z r i w h;rw[tJ hi]at hh;have kB:(i:Int)<(r.n:Int):=dU;have KU:(0:Int)<=(i:Int):=dU;have c1:=h.c1;have cl:=h.lt;have gl:=h.FQ;have hp:=h.pt i hi;obtain⟨A,hA⟩:=fW (j9 (r.P i).rd s.data.toList);have J:=S1 z.g (i*71+2) (r.P i).rd s w hp.rdC dU;rw[hA]at J;have hAl:A.1.length<=s.size:=by
  have:=Ck (r.P i).rd s.data.toList;rw[hA]at this;have e:s.data.toList.length=s.size:=gO;omega
 have hAt:Hid (∀t∈A.1,t.length<=62):=by
  show∀t∈A.1,_;rw[<-hA];obtain⟨F,_,hF⟩:=hp.wC;exact TM _ _ hF.len
 obtain⟨r1,G⟩:=fW (r.iK i {r.P i with rd:=A.2.2});have y:r1.n=r.n:=by rw[<-G];rfl
 have kK:kU r1:=by rw[<-G];exact iF.iK i _ rfl (λhi=>iF.pe i hi)
 have Vq:Fit r1 k:=by rw[<-G];exact hf.iK i _ (λhi=>hf.out i hi)
 have hE:Hid (r.recv i s.data.toList=r1.takes i A.1):=by
  show _=_;unfold iE.recv;simp only[hA];rw[G]
 have adI:eT eU 78 #[π (μ ⟨z.g,i*71+2,ν⟩),.string s] w λe w'=>∃v,e=ρ (τ #[v,ι κ (A.2.1:Int)])/\Row w' 1 v A.1.length (strs A.1)/\(∀k,v.ownBlock=μ k->w.heap.size<=k)/\lJ w' z r1/\yR w w' z r.n:=by
  refine J.mono ?_;rintro e w1 ⟨v,rfl,h1,h2,_,h4,h5⟩;refine⟨v,rfl,h1,h2,?_⟩;rw[<-G];have h6:=pS.read hp A.2.2 h4 h5;exact h.adG hi h6.1 h6.2
 have HR:Hid _:=h;have PO:Hid _:=DL;clear h iF hf hp J DL
 go_in
 go_wp2_with(fail);refine hh.mono ?_;rintro e w0 ⟨rfl,rfl⟩;clear hh;go_wp2_with(fail);refine adI.mono ?_;rintro e V ⟨v,rfl,iQ,iZ,Q,Vi⟩;clear adI c1 cl gl;obtain⟨n,hn⟩:=fW (A.1.length);have Wp:∃a cp,v=σ a n cp:=by
  rcases iQ.2 with⟨e,h0⟩|⟨g,c,e,_⟩
  ·exact⟨ν,0,by rw[e,<-hn,h0]⟩
  ·exact⟨_,c,by rw[e,hn]⟩
 obtain⟨a,cp,rfl⟩:=Wp;have Ng:∀j,dV (σ a n cp)=μ j->¬z.mine r.n j:=λj hj=>HR.out.tK (iZ j hj);have adJ:Hid (∀wr rr,iw V wr z rr r.n->iV wr):=by
  have h1:iV V:=iw.tab (z:=z) (r:=r1) ⟨⟨z,Q,z.rC,λ_ e=>.inl e,λ_ e=>e⟩,Vi⟩ HR.out rfl PO.out;intro wr rr hw;exact hw.tab Q y h1
 have TP:Hid (∀wr rr,iw V wr z rr r.n->∀j,(hj:j<A.1.length)->∃g,a=μ ⟨g,0,ν⟩/\wr.cell? ⟨g,j,ν⟩=μ (.string ⟨(A.1[j]).toArray⟩)):=by
  intro wr rr hw j hj;rcases iQ.2 with⟨e,h0⟩|⟨g,c,e,_,_,_,hc,_⟩
  ·omega
  ·have ea:a=μ ⟨g,0,ν⟩:=(bG e).1;refine⟨g,ea,hw.cell Q (p:=⟨g,j,ν⟩) (Ng g (by rw[ea];rfl)) (hc j _ (WL A.1 j hj))⟩
 have aar:Hid (∀wr,iw V wr z (r1.takes i A.1) r.n->iw w wr z (r.recv i s.data.toList) r.n):=by
  intro wr hw;rw[hE.out];exact iw.qf (r:=r1) ⟨⟨z,Q,z.rC,λ_ e=>.inl e,λ_ e=>e⟩,Vi⟩ Q z.rC (λ_ e=>.inl e) (λ_ e=>e) hw
 have H0:Hid (iw V V z (r1.takes i (A.1.take 0)) r.n):=by
  show iw _ _ _ _ _;rw[<-y];exact iw.refl Q
 have HN:Hid _:=hn;have BU:Hid _:=kK;have HF1:Hid _:=Vq;clear iQ iZ Q Vi Ng hE kK Vq G hA;have hns:n<=s.size:=dU
 go_wp2
 go_loopw [30] (λx wr=>∃q:Nat,q<=n/\x=ι κ q/\iw V wr z (r1.takes i (A.1.take q)) r.n) (λx _=>n-(eV x).toNat)
 case atStart=>exact⟨0,Nat.zero_le _,rfl,H0.out⟩
 case round=>
  obtain⟨q,hq,rfl,Y⟩:=hrel;by_cases ka:q<n
  ·have m8:(q:Int)<(n:Int):=dU;have hq0:(0:Int)<=(q:Int):=dU;have M:q<A.1.length:=by have:=HN.out;omega
   obtain⟨g,rfl,hcell⟩:=TP.out _ _ Y q M;have Vp:=adJ.out _ _ Y;have D:=hAt.out _ (aK M);have H:Hid (r1.takes i (A.1.take (q+1))=jD (r1.takes i (A.1.take q)) i A.1[q]):=by
    show _=_;rw[ay M,DN]
   have U:=Ae (A.1.take q) BU.out HF1.out i;have hlq:(A.1.take q).length<=q:=b9 _ _;have gl:=af _ _ hcell;generalize A.1[q] =tt at hcell D H;obtain⟨rq,T⟩:=fW (r1.takes i (A.1.take q));rw[T]at Y H U;cases tt with
   |nil=>
    have HW:Hid (iw V wr z (r1.takes i (A.1.take (q+1))) r.n):=by
     show iw _ _ _ _ _;rw[H.out];exact Y
    clear Y H U T;obtain⟨Z,X⟩:∃Z:ByteArray,(⟨([] :List UInt8).toArray⟩:ByteArray)=Z:=⟨_,rfl⟩
    rw[X]at hcell;have jm:Z.toList.isEmpty=true:=by rw[<-X,cW];rfl
    clear X
    go_wp2
    go_roundw
    case rel=>exact⟨q+1,dU,by go_num,HW.out⟩
    case measure=>simp[eV];omega
   |cons c tl=>
    obtain⟨Z,X⟩:∃Z:ByteArray,(⟨(c::tl).toArray⟩:ByteArray)=Z:=⟨_,rfl⟩
    have qX:Z.size=tl.length+1:=by rw[<-X];simp[ByteArray.size]
    have hx0:Z.extract 0 1=⟨#[c]⟩:=by
     rw[<-X];apply gD;apply dt.1;rw[vC];simp
    have hx1:Z.extract 1 Z.size=⟨tl.toArray⟩:=by
     apply gD;apply dt.1;rw[vC,qX,<-X];simp
    have u:Z.toList=c::tl:=by rw[cW,<-X]
    have jm:Z.toList.isEmpty=false:=by rw[u];rfl
    rw[X]at hcell;have g1:(1:Int)<=(Z.size:Int):=dU;have g0:(0:Int)<=(Z.size:Int):=dU;have Vs:i<rq.n:=by rw[U.1,y];exact hi
    have yo:eT eU 79 #[π (μ ⟨z.R,0,ν⟩),ι κ (i:Int),.string ⟨#[c]⟩,.string ⟨tl.toArray⟩] wr.drew λe w'=>e=ρ (τ #[])/\iw V w' z (r1.takes i (A.1.take (q+1))) r.n:=by
     rw[H.out];have Cr:=Y.below (by rw[U.1];exact y) (iP wr);refine Cr.call λz1 Rz hl=> ?_;have hlen:(⟨tl.toArray⟩:ByteArray).size<=1000:=by
      show tl.toArray.size<=1000;simp at D⊢;omega
     have:=TJ ⟨#[c]⟩ ⟨tl.toArray⟩ c z1 rq i (k+2*(A.1.take q).length) wr.drew Rz rfl Vp U.2.1 U.2.2 dU Vs hlen;rw[hl.R,U.1,y]at this;have e1:(⟨tl.toArray⟩:ByteArray).data.toList=tl:=gO;rw[e1]at this;exact this
    have g1n:1<=Z.size:=dU;clear Y H U T X Vp u qX
    go_wp2
    go_region_held3(λ_=>True)
     (first|trivial)
     (first
      |(go_at_call 79;refine yo.mono ?_;rintro e w6 ⟨rfl,K3⟩))
    all_goals
     have HW6:Hid _:=K3;clear yo K3
     go_wp2
     go_roundw
     case rel=>exact⟨q+1,dU,by go_num,HW6.out⟩
     case measure=>simp[eV];omega
  ·have yt:¬(q:Int)<(n:Int):=dU;have HW:Hid (iw w wr z (r.recv i s.data.toList) r.n):=by
    show iw _ _ _ _ _;refine aar.out _ ?_;have e1:A.1.take q=A.1:=aG (by have:=HN.out;omega);rw[e1]at Y;exact Y
   clear Y
   go_wp2
   go_ret;exact⟨rfl,HW.out⟩
theorem PR(q:kN)(w:dR)(h:0<=q.left/\q.left<=4):eT eU 84 #[.agg #[.int .i64 q.who,.bool q.both,.int .i64 q.left]] w λe w'=>
 e=ρ (.agg #[.int .i64 (iA q).who,.bool (iA q).both,.int .i64 (iA q).left])/\eh w w':=by
 have Z:=Go.Proofs.YtieklnlbljejdaaGreatDoor.SI q.who q.left q.both w h.1 dU;have e:Go.Proofs.YtieklnlbljejdaaGreatDoor.iL (q.who,q.both,q.left)=((iA q).who,(iA q).both,(iA q).left):=by
  unfold Go.Proofs.YtieklnlbljejdaaGreatDoor.iL iA;by_cases hl:q.left<=1
  ·simp[hl,nobody]
  ·simp[hl]
 rw[e]at Z;exact Z
theorem rR(p:jl):p.tick.m=p.m/\p.tick.pe=p.pe/\p.tick.out.length<=p.out.length+1512:=by
 unfold jl.tick;have Z:=vN (iW p.L).2 {p with L:=(iW p.L).1};have h2:=yQ (iW p.L).2 {p with L:=(iW p.L).1};have h3:=FP p.L;refine⟨Z.1,Z.2,?_⟩;have h4:({p with L:=(iW p.L).1}:jl).out.length=p.out.length:=rfl;omega
theorem DP:∀(l:List (Int×PS)) (p:jl),(p.kh l).m=p.m/\(p.kh l).pe=p.pe
 |[],_=>⟨rfl,rfl⟩
 |x::l,p=>by
  have h:=DP l (p.put 83 (qC x.1 x.2.1 x.2.2));exact⟨h.1.trans (Ga _ _ _),h.2.trans (qT _ _ _)⟩
theorem Af(F:Int->Option PS):(kO F).length<=6:=by
 unfold kO;have:=List.length_filterMap_le (λ(j:Nat)=>(F ((j:Int)+1)).map λq=>((j:Int)+1,q)) (List.range 6);simpa using this
theorem kU.tell(h:kU r)(i:Nat):kU (lZ r i):=by
 unfold lZ;simp only;refine h.iK i _ ?_ (λhi=> ?_)
 ·split
  ·exact(DP _ _).1.trans (Ga _ _ _)
  ·exact Ga _ _ _
 ·have Z:=h.pe i hi;split
  ·rw[(DP _ _).2,qT];exact Z
  ·rw[qT];exact Z
theorem Fit.tell(h:Fit r k)(i:Nat):Fit (lZ r i) (k+1):=by
 unfold lZ;simp only;have h1:=wD (r.P i) 72 [jO r.id,jO (r.P i).pe.who];refine h.grow i _ ?_;split
 ·have h2:=xW (kO (r.O i)) ((r.P i).put 72 [jO r.id,jO (r.P i).pe.who]);have h3:=Af (r.O i);omega
 ·omega
def iT(r:iE)(i:Nat):iE:=r.iK i (r.P i).tick
theorem kP(r:iE)(i:Nat):r.iL i=if((iT r i).P i).L.st≠9 then(iT r i).meet i nobody else lZ ((iT r i).meet i (iA ((iT r i).P i).pe)) i:=rfl
theorem kU.iT {r:iE} (h:kU r)(i:Nat):kU (Rt.iT r i):=h.iK i _ (rR _).1 (λhi=>by rw[(rR _).2.1];exact h.pe i hi)
theorem Fit.iT {r:iE} {k:Nat} (h:Fit r k)(i:Nat):Fit (Rt.iT r i) (k+1):=h.grow i _ (Nat.le_trans (rR _).2.2 dU)
theorem PT(h:kU r)(hf:Fit r k)(hi:i<r.n):(r.iL i).n=r.n/\kU (r.iL i)/\Fit (r.iL i) (k+2):=by
 rw[kP];have Z:=h.iT i;have f1:=hf.iT i;split
 ·exact⟨Ac _ _ _,Z.meet i (nQ.nobody Z.id.1),(f1.meet i _).mono dU⟩
 ·have Y:=(Z.pe i hi).tick Z.id.1;exact⟨Ac _ _ _,(Z.meet i Y).tell i,(f1.meet i _).tell i⟩
theorem Ag {r:iE} {k:Nat} (h:kU r)(hf:Fit r k):∀q,q<=r.n->(r.iN q).n=r.n/\kU (r.iN q)/\Fit (r.iN q) (k+2*q)
 |0,_=>⟨rfl,h,hf⟩
 |q+1,hq=>by
  have ih:=Ag h hf q dU;have:=PT (i:=q) ih.2.1 ih.2.2 (by rw[ih.1];omega);exact⟨this.1.trans ih.1,this.2.1,this.2.2.mono dU⟩
theorem PU(z:Zt)(r:iE)(k:Nat)(w:dR)(h:lJ w z r)(DL:iV w)(iF:kU r)(hf:Fit r k)(hk:k<=90000):
 eT eU 25 #[π (μ ⟨z.R,0,ν⟩)] w λe w'=>e=ρ (τ #[])/\iw w w' z r.tick r.n:=by
 have c1:=h.c1;have cl:=h.lt;have xh:=h.n3;obtain⟨n,hn⟩:=fW (r.n);have H0:Hid (iw w w z (r.iN 0) r.n):=iw.refl h;have PO:Hid (∀wr rr,iw w wr z rr r.n->iV wr):=λwr rr hw=>hw.tab h rfl DL;have u:Hid (∀q,q<=r.n->(r.iN q).n=r.n/\kU (r.iN q)/\Fit (r.iN q) (k+2*q)):=Ag iF hf;have Hu:Hid (r.tick=r.iN r.n):=rfl;rw[hn]at c1 xh H0 PO u Hu⊢;clear h iF hf DL
 go_in
 go_wp2
 go_loopw [8] (λx wr=>∃q:Nat,q<=n/\x=ι κ q/\iw w wr z (r.iN q) n) (λx _=>n-(eV x).toNat)
 case atStart=>exact⟨0,Nat.zero_le _,rfl,H0.out⟩
 case round=>
  obtain⟨q,hq,rfl,X⟩:=hrel;by_cases ka:q<n
  ·have m8:(q:Int)<(n:Int):=dU;have hq0:(0:Int)<=(q:Int):=dU;obtain⟨a1,a2,a3⟩:=u.out q dU;have hT:=PO.out _ _ X;have d1:=X.c1;have dl:=X.lt;rw[a1]at d1;have HS:Hid (r.iN (q+1)=(r.iN q).iL q):=rfl;obtain⟨J,y⟩:=fW (r.iN q);rw[y]at X HS a1 a2 a3;have Vs:q<J.n:=dU;have yo:eT eU 82 #[π (μ ⟨z.g,q*71,ν⟩)] wr λe w'=>e=ρ (τ #[])/\iw w w' z (iT J q) n:=by
    refine X.call λV T hl=> ?_;rw[<-hl.g];refine(Po V.g (q*71) (V.B q) (V.v q) (J.P q) wr (T.pt q Vs) hT (by have:=a3.out q Vs;omega)).mono ?_;rintro e w1 ⟨rfl,hw⟩;have:=T.port Vs hw;rw[a1]at this;exact⟨rfl,this⟩
   have kK:=a2.iT q;have Vq:=a3.iT q;have G:(iT J q).n=n:=a1;obtain⟨r1,kQ⟩:=fW (iT J q);have HE:Hid (J.iL q=if(r1.P q).L.st≠9 then r1.meet q nobody else lZ (r1.meet q (iA (r1.P q).pe)) q):=by
    show _=_;rw[<-kQ];exact kP J q
   rw[kQ]at yo kK Vq G;have M:Hid _:=kK;have HF1:Hid _:=Vq;clear y a2 a3 X hT kQ kK Vq;go_wp2_with(fail);refine yo.mono ?_;rintro e W1 ⟨rfl,Q⟩;have uG:q<r1.n:=dU;obtain⟨v1,Z⟩:=Q.pt uG;have hop:=xO z.g (q*71) (z.B q) v1 (r1.P q) W1 Z;have e1:=Q.c1;have el:=Q.lt;have gl:=Q.FQ;rw[G]at e1;have g7:=Z.c67;have g8:=Z.Wo;have g9:=Z.c69;clear yo Z d1 dl;go_wp2_with(fail);refine hop.mono ?_;rintro e W2 ⟨rfl,rfl⟩;clear hop;cases q9:((r1.P q).L.st==9)with
   |false=>
    have jm:(r1.P q).L.st≠9:=by simpa using q9
    have hm:eT eU 74 #[π (μ ⟨z.R,0,ν⟩),ι κ (q:Int),.agg #[ι κ 0,.bool false,ι κ 0]] W1 λe w'=>e=ρ (τ #[])/\iw w w' z (r.iN (q+1)) n:=by
     rw[HS.out,HE.out,ag jm];refine Q.call λV T hl=> ?_;rw[<-hl.R,<-G];exact vJ V r1 q nobody W1 T M.out uG (nQ.nobody M.out.id.1)
    clear Q jm;go_wp2_with(fail);refine hm.mono ?_;rintro e W3 ⟨rfl,A⟩;have HW3:Hid _:=A;clear hm A
    go_wp2
    go_roundw
    case rel=>exact⟨q+1,dU,by go_num,HW3.out⟩
    case measure=>simp[eV];omega
   |true=>
    have h9:(r1.P q).L.st=9:=by simpa using q9
    have HE2:Hid (r.iN (q+1)=lZ (r1.meet q (iA (r1.P q).pe)) q):=by
     show _=_;rw[HS.out,HE.out,ae (by simp[h9])]
    have Y:=M.out.pe q uG;have U:=PR (r1.P q).pe W1 Y.left;have Tq:Hid (∀W,eh W1 W->eT eU 74 #[π (μ ⟨z.R,0,ν⟩),.int .i64 (q:Int),.agg #[.int .i64 (iA (r1.P q).pe).who,.bool (iA (r1.P q).pe).both,.int .i64 (iA (r1.P q).pe).left]] W λe w'=>e=ρ (τ #[])/\iw w w' z (r1.meet q (iA (r1.P q).pe)) n):=by
     intro W hW;refine(Q.below G hW).call λV T hl=> ?_;rw[<-hl.R,<-G];exact vJ V r1 q _ W T M.out uG (Y.tick M.out.id.1)
    have j:Hid (∀W,iw w W z (r1.meet q (iA (r1.P q).pe)) n->eT eU 85 #[π (μ ⟨z.R,0,ν⟩),ι κ (q:Int)] W λe w'=>e=ρ (τ #[])/\iw w w' z (r.iN (q+1)) n):=by
     intro W hW;rw[HE2.out];refine hW.call λV T hl=> ?_;have uU:(r1.meet q (iA (r1.P q).pe)).n=n:=(Ac _ _ _).trans G;rw[<-hl.R,<-uU];have TC:=M.out.meet q (Y.tick M.out.id.1);exact TE V _ q W T TC dU (by have:=(HF1.out.meet q (iA (r1.P q).pe)).out q dU;omega)
    generalize (r1.P q).pe.who=p1 at g7 U;generalize (r1.P q).pe.both=p2 at g8 U;generalize (r1.P q).pe.left=p3 at g9 U;generalize (iA (r1.P q).pe).who=t1 at U Tq;generalize (iA (r1.P q).pe).both=t2 at U Tq;generalize (iA (r1.P q).pe).left=t3 at U Tq;clear Q h9 Y HE2;go_wp2_with(fail);refine U.mono ?_;rintro e W2 ⟨rfl,b2⟩;have BL:=Tq.out _ b2;clear U Tq;go_wp2_with(fail);refine BL.mono ?_;rintro e W3 ⟨rfl,A⟩;have D:=j.out _ A;clear BL j A;go_wp2_with(fail);refine D.mono ?_;rintro e W4 ⟨rfl,um⟩;have JX:Hid _:=um;clear D um
    go_wp2
    go_roundw
    case rel=>exact⟨q+1,dU,by go_num,JX.out⟩
    case measure=>simp[eV];omega
  ·have yt:¬(q:Int)<(n:Int):=dU;have H:q=n:=dU;have HW:Hid (iw w wr z r.tick n):=by
    show iw _ _ _ _ _;rw[Hu.out,<-H];rw[<-H]at X;exact X
   clear X H
   go_wp2
   first|go_end0|refine iC rfl rfl ?_
   exact⟨rfl,HW.out⟩
