import Derived.Test.YtieklnlbljejdaaGreatDoorS04
open Go.Value renaming int → ι, slice → σ, pointer → π, tuple → τ, nilIface → η, ownBlock → eD
open Go.IntKind renaming i64 → κ, u8 → gg
open Go.Ending renaming returned → ρ
open Go.Obj renaming cells → γ
open Option renaming none → ν, some → μ
open Go renaming World → ew, Calls → fc, Value → eA
open Go.Proofs.Tryz renaming prog → fe
open And renaming intro → fj
open Go.IntWalk renaming u8_in → gY
open Go.Act renaming put → gQ
open List renaming setIfInBounds_toArray → gS, set_cons_zero → gT, set_cons_succ → gU
open Go.RowKit renaming intOf → fh
open ByteArray renaming ext → gZ
open Array renaming size_setIfInBounds → ia, length_toList → ic
open Go.Instr renaming loadAt → fR, index → ig
open Go.Builtin renaming append_ → gA
open Go.Region renaming wanted → eT
set_option maxRecDepth 100000
set_option maxHeartbeats 8000000
open Go.Proofs.Tryz
namespace Go.Proofs.YtieklnlbljejdaaGreatDoor
open Go.RowKit St
namespace Rt
variable {B:Nat->Nat} {Bb D RR c d g i j k k' l n:Nat} {id:Int} {m:FM} {ms:Nat->Int} {o:Obj} {p:jI} {r r':iW} {v:Value} {w w' wb:World} {y:Yt}
theorem OH(z:Zt)(r:iW)(t Y:Int)(tx:ByteArray)(w:ew)(h:mM w z r)(hK:Yf r.K):
 fc fe 153 #[π (μ ⟨z.R,0,ν⟩),.agg #[ι κ t,ι κ Y,.string tx]] w λe w'=>e=ρ (τ #[ι κ (Ij (Zx r t Y)),.bool (Zx r t Y).isSome])/\eH w w':=by
 obtain⟨hop,G⟩:=fq ((Bl (lv r) t).getD HP.zero);obtain⟨ok,jb⟩:=fq ((Bl (lv r) t).isSome);have T:∀W,eH w W->fc fe 64 #[π (μ ⟨z.R,0,ν⟩)] W λe w'=>∃b n c,e=ρ (σ b n c)/\eH W w'/\(∀W',eH w' W'->fc fe 199 #[σ b n c,ι κ t] W' λe w2=>e=ρ (τ #[.agg #[ι κ hop.dst,ι κ hop.far,ι κ hop.sj],.bool ok])/\eH W' w2):=by
  intro W hW;refine(BG z r W (h.below hW) hK).mono ?_;rintro e w1 ⟨b,c,rfl,hH,b1⟩;refine⟨b,_,c,rfl,b1,λW' hW'=> ?_⟩;have:=acN b (lv r).length c (lv r) t W' (hH.r.below hW') (by have:=JL (kE (qu r.K)) r.id.toNat;show(qq _ _).length<=_;omega);rw[G,jb]at this;exact this
 have V:Hid (∀W,eH w W->fc fe 200 #[π (μ ⟨z.R,0,ν⟩),ι κ hop.sj] W λe w'=>e=ρ (τ #[ι κ (Ij (j1 r.P hop.sj r.n)),.bool (j1 r.P hop.sj r.n).isSome])/\eH W w'):=λW hW=>EX z r hop.sj W (h.below hW);have J:Hid (Zx r t Y=if 1<=Y/\ok=true then j1 r.P hop.sj r.n else ν):=by
  show _=_;unfold Zx;rw[<-jb,<-G];by_cases u:1<=Y;{rw[ai u];cases Bl (lv r) t<;>simp[u]};{rw[af u,af (by simp[u])]}
 generalize j1 r.P hop.sj r.n=bp at V J;generalize Zx r t Y=op at J⊢;obtain⟨d,f,x⟩:=hop;simp only at T V;have hRl:=h.lt;generalize z.R=RR at T V hRl⊢;clear h G jb;obtain⟨C,hC⟩:∃C:Array eA,#[ι .i64 t,ι κ Y,.string tx] =C:=⟨_,rfl⟩
 have bm:=gK w (γ #[ι κ t,ι κ Y,.string tx] 106);have LO:ji (w.alloc (γ #[ι κ t,ι κ Y,.string tx] 106)) w.heap.size #[ι κ t,ι κ Y,.string tx] 106:=ji.new w _ _;obtain⟨X,nL⟩:=fq (w.alloc (γ #[ι κ t,ι κ Y,.string tx] 106));obtain⟨N,hN⟩:=fq (w.heap.size);have E:eH w X.drew:=by rw[<-nL];exact jK bm
 have S:ji X.drew N #[ι κ t,ι κ Y,.string tx] 106:=by rw[<-nL,<-hN];exact LO.drew
 have DN:Hid _:=nL;have HN:Hid _:=hN;clear LO bm nL hN hC C
 go_in
 go_wp2_with(fail);rw[DN.out,HN.out]
 go_cut [6,7] (λv6 v7 wx=>∃Z:Nat,v6=π (μ ⟨Z,0,ν⟩)/\v7=.bool ok/\wx.cell? ⟨Z,2,ν⟩=μ (ι κ x)/\eH w wx/\wx.cell? ⟨N,1,ν⟩=μ (ι κ Y))
 case first=>
  have F0:X.drew.cell? ⟨N,0,ν⟩=μ (ι κ t)/\X.drew.cell? ⟨N,1,ν⟩=μ (ι κ Y):=⟨S.cell 0,S.cell 1⟩
  have Nl:N<X.drew.heap.size:=S.lt;have ba:Below X.drew.heap.size X.drew (X.alloc (γ #[ι κ 0,ι κ 0,ι κ 0] 98)).drew:=by
   have b':=jK (gK X (γ #[ι κ 0,ι κ 0,ι κ 0] 98));exact⟨b'.os,b'.tape,b'.output,b'.size,b'.block⟩
  have wj:ji (X.alloc (γ #[ι κ 0,ι κ 0,ι κ 0] 98)).drew X.heap.size #[ι κ 0,ι κ 0,ι κ 0] 98:=(ji.new X _ _).drew;have jx:N≠X.heap.size:=by have h2:N<X.heap.size:=Nl;omega
  have hwW:w.heap.size<=X.heap.size:=E.size
  go_region_held3(λx=>x.cell? ⟨N,0,ν⟩=μ (ι κ t)/\x.cell? ⟨N,1,ν⟩=μ (ι κ Y))
   (first|assumption|exact F0|exact F1|exact Q|exact oS F0|exact oS F1|exact oS Q|exact vC Q jx jx|exact vC Q G7 G7)
   (first
    |(go_at_call 64;refine(T _ (by first|exact E|exact fP E ba)).mono ?_;rintro e w1 ⟨b,n,c,rfl,b1,al3⟩;first|(have mP:=wj.below b1;have M:=(S.below ba).below b1;have F1:=fj (M.cell 0) (M.cell 1))|(have M:=S.below b1;have F1:=fj (M.cell 0) (M.cell 1)))
    |(go_at_call 199;refine(al3 _ (by first|exact au _ _|exact gK _ _)).mono ?_;rintro e w2 ⟨rfl,b2⟩;first|(have U:=mP.below b2;have H:=M.below b2;have Q:=fj (H.cell 0) (H.cell 1);have y0:=U.cell 0;have y1:=U.cell 1;have y2:=U.cell 2;have z0:=U.frozen 0;have z1:=U.frozen 1;have z2:=U.frozen 2)|(have H:=M.below b2;have Q:=fj (H.cell 0) (H.cell 1))|(have U:=(ji.new w1 #[.int .i64 0,.int .i64 0,.int .i64 0] 98).below b2;have H:=(M.below (gK w1 _)).below b2;have Q:=fj (H.cell 0) (H.cell 1);have G7:N≠w1.heap.size:=(by have h2:=M.lt;omega);have y0:=U.cell 0;have y1:=U.cell 1;have y2:=U.cell 2;have z0:=U.frozen 0;have z1:=U.frozen 1;have z2:=U.frozen 2)))
  all_goals
   go_wp2_with(fail)
   go_meet
   first
    |exact⟨_,rfl,rfl,ak w2 _ _ (0,0) 2,fP (fP (fP E b1) b2) (gK _ _),kV Q.2⟩
    |(have h5:=vD (a:=.int .i64 d) (b:=.int .i64 f) (c:=.int .i64 x) U rfl hwW (fP (fP (fP E ba) b1) b2)
      exact⟨_,rfl,rfl,h5.2.1,h5.2.2.1,qw Q.2 jx⟩)
    |(have h5:=vD (a:=.int .i64 d) (b:=.int .i64 f) (c:=.int .i64 x) U rfl (Nat.le_trans hwW b1.size) (fP (fP (fP E b1) (gK w1 _)) b2)
      exact⟨_,rfl,rfl,h5.2.1,h5.2.2.1,qw Q.2 G7⟩)
 case rest=>
  obtain⟨Z,rfl,rfl,dz,qO,dn⟩:=hcut;have zl:=ag _ _ dz;have nl:=ag _ _ dn;cases ok with
  |false=>
   have A:Hid (op=ν):=by show _=_;rw[J.out,af ik]
   clear T V J
   go_wp2
   go_ret2
   exact⟨by rw[A.out];rfl,qO⟩
  |true=>
   by_cases u:Y<1
   ·have A:Hid (op=ν):=by show _=_;rw[J.out,af eB]
    clear T V J
    go_wp2
    go_ret2
    exact⟨by rw[A.out];rfl,qO⟩
   ·have A:Hid (op=bp):=by show _=_;rw[J.out,ai ⟨eB,rfl⟩]
    have CC:=V.out _ qO;clear T V J;go_wp2_with(fail);refine CC.mono ?_;rintro e w5 ⟨rfl,b5⟩;have HB:Hid _:=fP qO b5;clear CC
    go_wp2
    go_ret2
    exact⟨by rw[A.out];rfl,HB.out⟩
theorem Qe:(fe.info? 106).map (λi=>(i.zero,i.size,i.bytes))=μ (μ (.agg #[ι κ 0,ι κ 0,.string ⟨#[]⟩]),3,32):=ga
theorem Sh(l:List zD)(t:zD):sA (l++ [t])=sA l++ [ι κ t.1,ι κ t.2.1,.string ⟨t.2.2.toArray⟩] :=by simp[sA]
theorem Qf(a b:Int)(s:ByteArray):∀u∈ [ι .i64 a,ι κ b,.string s],u.oneCell'=true:=by
 intro u Z;simp at Z;rcases Z with rfl|rfl|rfl<;>rfl
theorem Si(z:Zt)(r:iW)(Y:Int)(tx:ByteArray)(w:ew)(h:mM w z r)(hn:r.kx.length<=1000000):
 fc fe 91 #[π (μ ⟨z.R,0,ν⟩),.agg #[ι κ r.id,ι κ Y,.string tx]] w λe w'=>e=ρ (τ #[])/\iP w w' z {r with kx:=r.kx++ [(r.id,Y,tx.data.toList)] } r.n:=by
 obtain⟨i0,hi,oN,nG,mS⟩:=aX Qe;have ba:=gK w (γ #[ι κ r.id,ι κ Y,.string tx] 106);have U:ji (w.alloc (γ #[ι κ r.id,ι κ Y,.string tx] 106)) w.heap.size #[ι κ r.id,ι κ Y,.string tx] 106:=ji.new w _ _;obtain⟨W0,nL⟩:=fq (w.alloc (γ #[ι κ r.id,ι κ Y,.string tx] 106));obtain⟨N,hN⟩:=fq (w.heap.size);rw[nL]at ba U;rw[hN]at U;have M:=h.below ba;have c0:=M.c0;have cl:=M.lt;have m0:W0.cell? ⟨N,0,ν⟩=μ (ι κ r.id):=U.cell 0;have ml:=U.lt;have heq:(r.id==r.id)=true:=ik;have HR:Hid _:=h;have A:Hid _:=M;have HM:Hid _:=U;have S:Hid _:=ba;have DN:Hid _:=nL;have HN:Hid _:=hN;clear h M U ba nL hN
 go_in
 go_wp2_with(fail);rw[DN.out,HN.out]
 go_quiet(fail)
 obtain⟨Z,J⟩:=fq (W0.drewN nq);have b1:eH w Z:=by rw[<-J];exact below_drewN S.out nq
 have H:ji Z N #[ι κ r.id,ι κ Y,.string tx] 106:=by rw[<-J];exact ji.drewN HM.out nq
 rw[J];have X:=HR.out.below b1;have oL:=X.oE;have jf:=X.ib;have e3:=X.c3;have el:=X.lt;have d0:Z.cell? ⟨N,0,ν⟩=μ (ι κ r.id):=H.cell 0;have d1:Z.cell? ⟨N,1,ν⟩=μ (ι κ Y):=H.cell 1;have d2:Z.cell? ⟨N,2,ν⟩=μ (.string tx):=H.cell 2;have dl:=H.lt;have HO:Hid (z.iv.ownBlock≠μ z.R):=λe=>(X.sI _ e).1 rfl;have EN:Hid _:=b1;have HR1:Hid _:=X;obtain⟨nn,G⟩:=fq (r.kx.length);have E:Hid _:=G;rw[G]at jf hn;clear J b1 X c0 cl m0 ml A HM S DN G
 go_wp2
 go_region_law ((refine mE (by rfl) (.tmp 17) (.tmp 19) 53 (by rfl) 106 i0 (.agg #[ι κ 0,ι κ 0,.string ⟨#[]⟩]) 3 32 underlying53 hi oN nG mS (by rfl) eF z.iv nn (sA r.kx) (by rfl) ((jf.alloc _).drew) _ 1 1 [ι κ r.id,ι κ Y,.string tx] (by rfl) (by rfl) eF (zI _ _ _ _ _ _ rfl) (Qf _ _ _) (by unfold maxLen;omega) eB ?_;intro V jH x1 lE T jR;have u:=uP oL T HO.out;have f3:=u.frozen 3;have g3:x1.cell? ⟨z.R,3,ν⟩=μ z.iv:=u.cell 3))
 all_goals
  go_wp2
  first|go_end0|refine iX rfl rfl ?_
  refine⟨rfl,iP.first HR.out rfl EN.out (λR=> ?_)⟩;have sG:Z.heap.size<=x1.heap.size:=Nat.le_trans (by show Z.heap.size<=(Z.alloc _).heap.size;simp) T.size;have lp:∀k,eD (σ (μ ⟨V,0,ν⟩) (nn+1) jH)=μ k->z.iv.ownBlock=μ k \/Z.heap.size<=k:=by
   intro k Q;have zH:V=k:=by simpa[eD]using Q
   subst zH;rcases jR with hh|hh
   {exact .inl hh};{exact .inr (Nat.le_trans (by show Z.heap.size<=(Z.alloc _).heap.size;simp) hh)}
  have ZD:V≠z.R:=by
   intro e;rcases lp V rfl with hh|hh
   {exact HO.out (by rw[hh,e])};{omega}
  refine R.own (σ (μ ⟨V,0,ν⟩) (nn+1) jH) (r.kx++ [(r.id,Y,tx.data.toList)]) r.drop (by simpa using sG) T.os T.tape T.output (λk Q h1 h2=> ?_) ?_ ?_ lp;{rw[aq _ _ _ k h1,T.block k (by show k<(Z.alloc _).heap.size;simp;omega) (λe=>h2 e.symm)];exact aV Z _ k Q};{exact u.set 3 _}
  ·rw[Sh,aA,E.out];have e4:(⟨tx.data.toList.toArray⟩:ByteArray)=tx:=ik;rw[e4];refine lE.keep ik (λk Q=> ?_);have zH:V=k:=by simpa[eD]using Q
   exact aq _ _ _ k (by show k≠z.R;omega)
theorem xb {p q s t:Addr} {a b c d:eA} (h:w.cell? p=μ a/\w.cell? q=μ b/\w.cell? s=μ c/\w.cell? t=μ d):(w.alloc o).cell? p=μ a/\(w.alloc o).cell? q=μ b/\(w.alloc o).cell? s=μ c/\(w.alloc o).cell? t=μ d:=⟨kV h.1,kV h.2.1,kV h.2.2.1,kV h.2.2.2⟩
theorem adG {t hp:Int} (h:Zx r t hp=μ j):j<r.n/\1<=hp:=by
 unfold Zx at h;split at h
 ·rename_i Y
  cases Z:Bl (lv r) t with
  |none=>rw[Z]at h;cases h
  |some x=>rw[Z]at h;exact⟨(oR h).1,Y⟩
 ·cases h
theorem Sj(z:Zt)(r:iW)(t Z:Int)(tx:ByteArray)(w:ew)(h:mM w z r)(H:Yf r.K)(jx:t≠r.id)(ht:0<=t/\t<=255)(hh:0<=Z/\Z<=255)(htx:tx.size<=900)(hd:0<=r.drop/\r.drop<=4000000000000000000)(vW:∀j,j<r.n->(r.P j).out.length<=800000000):
 fc fe 91 #[π (μ ⟨z.R,0,ν⟩),.agg #[ι κ t,ι κ Z,.string tx]] w λe w'=>e=ρ (τ #[])/\iP w w' z (r.send (t,Z,tx.data.toList)) r.n:=by
 have hS:Hid (r.send (t,Z,tx.data.toList)=match Zx r t Z with|none=>{r with drop:=r.drop+1} |some i=>r.jh i ((r.P i).put 77 (kc t::kc (Z-1)::tx.data.toList))):=by
  show _=_;unfold iW.send;rw[af jx];rfl
 have ba:=gK w (γ #[ι κ t,ι κ Z,.string tx] 106);have hM:ji (w.alloc (γ #[ι κ t,ι κ Z,.string tx] 106)) w.heap.size #[ι κ t,ι κ Z,.string tx] 106:=ji.new w _ _;obtain⟨W0,nL⟩:=fq (w.alloc (γ #[ι κ t,ι κ Z,.string tx] 106));obtain⟨N,hN⟩:=fq (w.heap.size);rw[nL]at ba hM;rw[hN]at hM;have R0:=h.below ba;have c0:=R0.c0;have cl:=R0.lt;have m0:W0.cell? ⟨N,0,ν⟩=μ (ι κ t):=hM.cell 0;have ml:=hM.lt;have heq:(t==r.id)=false:=by simp[jx]
 have A:Hid _:=h;have HM:Hid _:=hM;have HBa:Hid _:=ba;have DN:Hid _:=nL;have HN:Hid _:=hN;clear h R0 hM ba nL hN jx
 go_in
 go_wp2_with(fail);rw[DN.out,HN.out]
 go_quiet(fail)
 obtain⟨J,kt⟩:=fq (W0.drewN nq);have b1:eH w J:=by rw[<-kt];exact below_drewN HBa.out nq
 have rG:ji J N #[ι κ t,ι κ Z,.string tx] 106:=by rw[<-kt];exact ji.drewN HM.out nq
 rw[kt];have d0:J.cell? ⟨N,0,ν⟩=μ (ι κ t):=rG.cell 0;have d1:J.cell? ⟨N,1,ν⟩=μ (ι κ Z):=rG.cell 1;have d2:J.cell? ⟨N,2,ν⟩=μ (.string tx):=rG.cell 2;have dl:=rG.lt;have M:=OH z r t Z tx J (A.out.below b1) H;have Y8:Hid _:=rG;have EN:Hid _:=b1;clear kt c0 cl m0 ml HM HBa DN rG b1;cases ho:Zx r t Z with
 |none=>
  have M:fc fe 153 #[π (μ ⟨z.R,0,ν⟩),.agg #[ι κ t,ι κ Z,.string tx]] J λe w'=>e=ρ (τ #[ι κ 0,.bool false])/\eH J w':=by
   rw[ho]at M;exact M
  rw[ho]at hS;go_wp2_with(fail);refine M.mono ?_;rintro e X ⟨rfl,b2⟩;have bb:=fP EN.out b2;have U:=A.out.below bb;have oL:=U.oE;have e4:=U.c4;have f4:=oL.frozen 4;have el:=U.lt;have hsI:Hid (z.iv.ownBlock≠μ z.R):=λe=>(U.sI _ e).1 rfl;have Oh:=U.ib;have Vs:Hid _:=bb;have hd0:=hd.1;have hd1:=hd.2;have X8:κ.wrap (r.drop+1)=r.drop+1:=aS _ ⟨eB,eB⟩;clear M U b2 bb hd
  go_wp2
  first|go_end0|refine iX rfl rfl ?_
  refine⟨rfl,?_⟩;rw[hS.out];refine iP.first A.out rfl Vs.out (λR=> ?_);refine R.own z.iv r.kx (r.drop+1) ik rfl rfl rfl (λk _ h1 _=>aq _ _ _ k h1) (oL.set 4 _) ?_ (λk hk=>.inl hk);exact Oh.keep ik (λk hk=>aq _ _ _ k (by show k≠z.R;intro e;exact hsI.out (by rw[hk,e])))
 |some j=>
  have M:fc fe 153 #[π (μ ⟨z.R,0,ν⟩),.agg #[ι κ t,ι κ Z,.string tx]] J λe w'=>e=ρ (τ #[ι κ (j:Int),.bool true])/\eH J w':=by
   rw[ho]at M;exact M
  rw[ho]at hS;obtain⟨Pm,Db⟩:=adG ho;have KA:(j:Int)<(r.n:Int):=eB;have zc:(0:Int)<=(j:Int):=eB;go_wp2_with(fail);refine M.mono ?_;rintro e X ⟨rfl,b2⟩;have bb:=fP EN.out b2;have uH:=ji.below Y8.out b2;have U:=A.out.below (fP bb (jl X));have F0:X.drew.cell? ⟨z.R,1,ν⟩=μ (σ (μ ⟨z.g,0,ν⟩) r.n z.cap)/\X.drew.cell? ⟨N,0,ν⟩=μ (ι κ t)/\X.drew.cell? ⟨N,1,ν⟩=μ (ι κ Z)/\X.drew.cell? ⟨N,2,ν⟩=μ (.string tx):=⟨U.c1,uH.cell 0,uH.cell 1,uH.cell 2⟩
  have hlen:¬(9223372036854775807<2+tx.size):=eB;have hw8:gg.wrap t=t:=gY _ ⟨eB,eB⟩;have hwm:κ.wrap (Z-1)=Z-1:=aS _ ⟨eB,eB⟩;have hw9:gg.wrap (Z-1)=Z-1:=gY _ ⟨eB,eB⟩;have wM:(convert 140 9 (σ (μ ⟨X.heap.size,0,ν⟩) 2 2)).run fe (X.alloc (γ #[.int .u8 t,.int .u8 (Z-1)] 5)).drew=.ok (.string ⟨#[u8 t,u8 (Z-1)]⟩) (X.alloc (γ #[.int .u8 t,.int .u8 (Z-1)] 5)).drew:=abh X.drew t (Z-1) ht.1 ht.2 eB eB;have b3:eH w (X.alloc (γ #[.int .u8 t,.int .u8 (Z-1)] 5)).drew:=jK (fP bb (gK _ _));obtain⟨E,Up⟩:∃E:ByteArray,(⟨#[u8 t,u8 (Z-1)]⟩++tx)=E:=⟨_,rfl⟩
  have u:E.data.toList=u8 t::u8 (Z-1)::tx.data.toList:=by
   rw[<-Up];simp
  have ag4:E.size<=1000:=by
   have e:E.size=E.data.toList.length:=ik;have e2:tx.data.toList.length=tx.size:=ik;rw[e,u];simp only[List.length_cons,e2];omega
  have oH:fc fe 150 #[π (μ ⟨z.g,j*71,ν⟩),.string ⟨#[77]⟩,.string E] (X.alloc (γ #[.int .u8 t,.int .u8 (Z-1)] 5)).drew λe w'=>e=ρ (τ #[])/\iP w w' z (r.send (t,Z,tx.data.toList)) r.n/\(w'.cell? ⟨z.R,1,ν⟩=μ (σ (μ ⟨z.g,0,ν⟩) r.n z.cap)/\w'.cell? ⟨N,0,ν⟩=μ (ι κ t)/\w'.cell? ⟨N,1,ν⟩=μ (ι κ Z)/\w'.cell? ⟨N,2,ν⟩=μ (.string tx)):=by
   have R3:=A.out.below b3;have G:(X.alloc (γ #[.int .u8 t,.int .u8 (Z-1)] 5)).drew.cell? ⟨z.R,1,ν⟩=μ (σ (μ ⟨z.g,0,ν⟩) r.n z.cap)/\(X.alloc (γ #[.int .u8 t,.int .u8 (Z-1)] 5)).drew.cell? ⟨N,0,ν⟩=μ (ι κ t)/\(X.alloc (γ #[.int .u8 t,.int .u8 (Z-1)] 5)).drew.cell? ⟨N,1,ν⟩=μ (ι κ Z)/\(X.alloc (γ #[.int .u8 t,.int .u8 (Z-1)] 5)).drew.cell? ⟨N,2,ν⟩=μ (.string tx):=xb (o:=.cells #[.int .u8 t,.int .u8 (Z-1)] 5) F0;generalize (X.alloc (γ #[.int .u8 t,.int .u8 (Z-1)] 5)).drew=W3 at b3 R3 G⊢;have hpj:=vW j Pm;refine(DJ z.g (j*71) (z.B j) (z.v j) (r.P j) ⟨#[77]⟩ E 77 W3 (R3.pt j Pm) rfl ag4 eB).mono ?_;rintro e w6 ⟨rfl,M6⟩;have hE:r.send (t,Z,tx.data.toList)=r.jh j ((r.P j).put 77 E.data.toList):=by
    rw[hS.out,u];rfl
   have Q:=R3.port Pm M6;rw[hE];have Pt:¬z.mine r.n N:=by rw[<-HN.out];exact A.out.uR (Nat.le_refl _)
   exact⟨rfl,iP.first A.out rfl b3 (λ_=>Q),Q.c1,Q.cell R3 (p:=⟨N,0,ν⟩) Pt G.2.1,Q.cell R3 (p:=⟨N,1,ν⟩) Pt G.2.2.1,Q.cell R3 (p:=⟨N,2,ν⟩) Pt G.2.2.2⟩
  have el:=U.lt;have eg:=U.Kt;obtain⟨T,hT⟩:∃T:ew->Prop,(λx=>iP w x z (r.send (t,Z,tx.data.toList)) r.n)=T:=⟨_,rfl⟩
  have LL:∀x,iP w x z (r.send (t,Z,tx.data.toList)) r.n=T x:=λx=>cy hT x;simp only[LL]at oH;have HT:Hid _:=LL;clear M uH b2 hT LL U b3 u ag4 bb;go_wp2_with(fail);refine cC (S:=λx=>x.cell? ⟨z.R,1,ν⟩=μ (σ (μ ⟨z.g,0,ν⟩) r.n z.cap)/\x.cell? ⟨N,0,ν⟩=μ (ι κ t)/\x.cell? ⟨N,1,ν⟩=μ (ι κ Z)/\x.cell? ⟨N,2,ν⟩=μ (.string tx)) ga F0 (λlW=> ?_);refine jD 0 (μ 38) rfl rfl ga ga ga (λ_ _ _ h=>h) (by rfl) (v:= ?_) ?_ jr ?_
  rotate_left
  ·intro V Y
   (try dsimp only at Y)
   go_simp
   try with_reducible rfl
  simp only[gQ,gS,gT,gU];refine jD 1 (μ 39) rfl rfl ga ga ga (λ_ _ _ h=>h) (by rfl) (v:= ?_) ?_ jr ?_
  rotate_left
  ·intro V Y
   (try dsimp only at Y)
   go_simp
   try with_reducible rfl
  simp only[gQ,gS,gT,gU];refine jD 2 (μ 40) rfl rfl ga ga ga (λ_ _ _ h=>h) (by rfl) (v:= ?_) ?_ jr ?_
  rotate_left
  ·intro V Y
   (try dsimp only at Y)
   go_simp
   try with_reducible rfl
  simp only[gQ,gS,gT,gU];refine jD 3 (μ 41) rfl rfl ga ga ga (λ_ _ _ h=>h) (by rfl) (v:= ?_) ?_ jr ?_
  rotate_left
  ·intro V Y
   (try dsimp only at Y)
   go_simp
   try with_reducible rfl
  simp only[gQ,gS,gT,gU];refine jD 4 (μ 42) rfl rfl ga ga ga (λ_ _ _ h=>h) (by rfl) (v:= ?_) ?_ jr ?_
  rotate_left
  ·intro V Y
   (try dsimp only at Y)
   go_simp
   try with_reducible rfl
  simp only[gQ,gS,gT,gU];refine jD 5 (μ 43) rfl rfl ga ga ga (λ_ _ _ h=>h) (by rfl) (v:= ?_) ?_ jr ?_
  rotate_left
  ·intro V Y
   (try dsimp only at Y)
   go_simp
   try with_reducible rfl
  simp only[gQ,gS,gT,gU];refine jD 6 (μ 44) rfl rfl ga ga ga (λ_ _ _ h=>h) (by rfl) (v:= ?_) ?_ jr ?_
  rotate_left
  ·intro V Y
   (try dsimp only at Y)
   go_simp
   try with_reducible rfl
  simp only[gQ,gS,gT,gU];refine jD 7 (μ 45) rfl rfl ga ga ga (λ_ _ _ h=>h) (by rfl) (v:= ?_) ?_ jr ?_
  rotate_left
  ·intro V Y
   (try dsimp only at Y)
   go_simp
   try with_reducible rfl
  simp only[gQ,gS,gT,gU];refine jD 8 (μ 46) rfl rfl ga ga ga (λ_ _ _ h=>h) (by rfl) (v:= ?_) ?_ jr ?_
  rotate_left
  ·intro V Y
   (try dsimp only at Y)
   go_simp
   try with_reducible rfl
  simp only[gQ,gS,gT,gU];refine jD 9 (μ 47) rfl rfl ga ga ga (λ_ _ _ h=>h) (by rfl) (v:= ?_) ?_ jr ?_
  rotate_left
  ·intro V Y
   (try dsimp only at Y)
   go_simp
   try with_reducible rfl
  simp only[gQ,gS,gT,gU];refine jD 10 (μ 48) rfl rfl ga ga ga (λ_ _ _ h=>h) (by rfl) (v:= ?_) ?_ jr ?_
  rotate_left
  ·intro V Y
   (try dsimp only at Y)
   go_simp
   try with_reducible rfl
  simp only[gQ,gS,gT,gU];refine jD 11 (μ 49) rfl rfl ga ga ga (λ_ _ _ h=>h) (by rfl) (v:= ?_) ?_ jr ?_
  rotate_left
  ·intro V Y
   (try dsimp only at Y)
   go_simp
   try with_reducible rfl
  simp only[gQ,gS,gT,gU];refine jD 12 (μ 50) rfl rfl ga ga ga (λ_ _ _ h=>h) (by rfl) (v:= ?_) ?_ jr ?_
  rotate_left
  ·intro V Y
   (try dsimp only at Y)
   go_simp
   try with_reducible rfl
  simp only[gQ,gS,gT,gU];refine jD 15 (μ 53) rfl rfl ga ga ga (λ_ _ _ h=>h) (by rfl) (v:= ?_) ?_ jr ?_
  rotate_left
  ·intro V Y
   (try dsimp only at Y)
   go_simp
   try with_reducible rfl
  simp only[gQ,gS,gT,gU];refine jD 16 (μ 54) rfl rfl ga ga ga (λ_ _ _ h=>h) (by rfl) (v:= ?_) ?_ jr ?_
  rotate_left
  ·intro V Y
   (try dsimp only at Y)
   go_simp
   try with_reducible rfl
  simp only[gQ,gS,gT,gU];refine aQ (rs:=[13]) ga ik ?_;refine aI (o:=_) rfl (λK H=> ?_) aO
  go_simp
  refine H.out _ _ ?_ (λlW=> ?_);{exact xb F0};clear H K;refine aQ (rs:=[14]) ga ik ?_;refine aI (o:=_) rfl (λK H=> ?_) aO
  go_simp
  refine H.out _ _ ?_ (λlW=> ?_);{exact xb F0};clear H K;refine jD 17 (μ 55) rfl rfl ga ga ga (λ_ _ _ h=>h) (by rfl) (v:= ?_) ?_ jr ?_
  rotate_left
  ·intro V Y
   (try dsimp only at Y)
   go_simp
   try with_reducible rfl
  simp only[gQ,gS,gT,gU];refine aQ (rs:=[18]) ga ik ?_;refine aI (o:=_) rfl (λK H=> ?_) aO
  go_simp
  refine oH.mono ?_;rintro e w5 ⟨rfl,M3,F5⟩
  (try go_wp2_with(fail))
  refine H.out _ _ ?_ (λlW=> ?_);{exact F5};clear H K;refine cV ga ?_ _
  all_goals
   clear oH F0 F5
   go_wp2
   first|go_end0|refine iX rfl rfl ?_
   exact⟨rfl,by rw[HT.out];exact M3⟩
theorem Iv(p:jI)(c:UInt8)(s:List UInt8):(p.put c s).m=p.m:=by
 unfold jI.put;split;{rfl};{split<;>rfl}
theorem adJ(p:jI)(q:kZ):(wR p q).m=p.m/\(wR p q).pe=p.pe:=by
 unfold wR;split;{exact⟨Iv _ _ _,sC _ _ _⟩};{exact⟨rfl,rfl⟩}
theorem xd:∀(l:List kZ) (p:jI),(p.say l).m=p.m/\(p.say l).pe=p.pe
 |[],_=>⟨rfl,rfl⟩
 |x::l,p=>by
  have h:=xd l (wR p x);have Z:=adJ p x;exact⟨h.1.trans Z.1,h.2.trans Z.2⟩
theorem uS(p:jI)(s:List UInt8):(p.packet s).m=p.m/\(p.packet s).pe=p.pe:=by
 unfold jI.packet;simp only;split;{exact xd _ _};{exact⟨rfl,rfl⟩}
theorem Fc(p:jI)(s:List UInt8):(p.packet s).out.length<=p.out.length+5040:=by
 unfold jI.packet;simp only;split;{have h1:=Ih p.L ((jk s).1,(jk s).2.1,(jk s).2.2.1);have h2:=Ac (jW p.L ((jk s).1,(jk s).2.1,(jk s).2.2.1)).2.1 {p with L:=(jW p.L ((jk s).1,(jk s).2.1,(jk s).2.2.1)).1};have h3:({p with L:=(jW p.L ((jk s).1,(jk s).2.1,(jk s).2.2.1)).1}:jI).out.length=p.out.length:=rfl;omega};{omega}
structure Fit(r:iW)(k:Nat):Prop where
 kx:r.kx.length<=k
 drop:0<=r.drop/\r.drop<=k+1000000000000000
 out:∀j,j<r.n->(r.P j).out.length<=6000*k
theorem Fit.mono(h:Fit r k)(hl:k<=l):Fit r l:=⟨by have:=h.kx;omega,by have:=h.drop;omega,λj Z=>by have:=h.out j Z;omega⟩
theorem Fit.jh {r:iW} {k:Nat} (h:Fit r k)(i:Nat)(p:jI)(Y:i<r.n->p.out.length<=6000*k):Fit (r.jh i p) k:=⟨h.kx,h.drop,λj Z=>by
 show(lF r.P i p j).out.length<=_;by_cases e:j=i;{subst e;rw[jL];exact Y Z}
 ·rw[jG _ _ e];exact h.out j Z⟩
theorem Fit.grow(h:Fit r k)(i:Nat)(p:jI)(hp:p.out.length<=(r.P i).out.length+6000):Fit (r.jh i p) (k+1):=(h.mono (Nat.le_succ k)).jh i p (λhi=>by have:=h.out i hi;omega)
theorem Fit.congr(h:Fit r k)(Z:r'.kx=r.kx)(Y:r'.drop=r.drop)(X:r'.n=r.n)(V:r'.P=r.P):Fit r' k:=⟨by rw[Z];exact h.kx,by rw[Y];exact h.drop,λj U=>by rw[V];exact h.out j (by rw[<-X];exact U)⟩
theorem oV(r:iW)(s:Int):(r.behind s).kx=r.kx/\(r.behind s).drop=r.drop/\(r.behind s).n=r.n/\(r.behind s).P=r.P:=by
 unfold iW.behind;split<;>exact⟨rfl,rfl,rfl,rfl⟩
theorem xe(r:iW):r.change.kx=r.kx/\r.change.drop=r.drop/\r.change.n=r.n/\r.change.P=r.P:=by
 unfold iW.change;split;{exact⟨rfl,rfl,rfl,rfl⟩};{exact oV _ _}
theorem nr(r:iW)(i:Nat)(q:lK):(r.meet i q).kx=r.kx/\(r.meet i q).drop=r.drop/\(r.meet i q).n=r.n/\(r.meet i q).P=lF r.P i {r.P i with pe:=q}:=by
 unfold iW.meet;simp only;split;{exact⟨rfl,rfl,rfl,rfl⟩};{split;{obtain⟨Z,Y,X,V⟩:=xe ({r.jh i {r.P i with pe:=q}with O:=λx=>if x=i then λ_=>ν else(r.jh i {r.P i with pe:=q}).O x}:iW);exact⟨Z,Y,X,V⟩};{obtain⟨Z,Y,X,V⟩:=xe ({r.jh i {r.P i with pe:=q}with O:=λx=>if x=i then λ_=>ν else(r.jh i {r.P i with pe:=q}).O x}:iW);exact⟨Z,Y,X,V⟩}}
theorem Fit.meet {r:iW} {k:Nat} (h:Fit r k)(i:Nat)(q:lK):Fit (r.meet i q) k:=by
 obtain⟨Z,Y,X,V⟩:=nr r i q;exact Fit.congr (h.jh i {r.P i with pe:=q} (λhi=>h.out i hi)) Z Y X V
theorem Fit.behind {r:iW} {k:Nat} (h:Fit r k)(s:Int):Fit (r.behind s) k:=by
 obtain⟨Z,Y,X,V⟩:=oV r s;exact h.congr Z Y X V
theorem adK(r:iW)(t:zD):(r.send t).n=r.n/\(r.send t).id=r.id:=by
 unfold iW.send;split;{exact⟨rfl,rfl⟩};{split<;>exact⟨rfl,rfl⟩}
theorem Fit.send {r:iW} {k:Nat} (h:Fit r k)(t:zD):Fit (r.send t) (k+1):=by
 unfold iW.send;split;{exact⟨by have:=h.kx;simp;omega,by have:=h.drop;simp;omega,λj Z=>by have:=h.out j Z;simp;omega⟩}
 ·split;{exact⟨by have:=h.kx;simp;omega,by have:=h.drop;simp;omega,λj Z=>by have:=h.out j Z;simp;omega⟩}
  ·rename_i b _
   exact h.grow b _ (Nat.le_trans (xS (r.P b) 77 (kc t.1::kc (t.2.1-1)::t.2.2)) eB)
theorem Fit.state(h:Fit r k)(i:Nat)(l:List UInt8):Fit (jw r i l) (k+1):=by
 unfold jw;simp only;split;{exact h.mono (Nat.le_succ k)};{split;{exact(h.behind _).mono (Nat.le_succ k)};{have Z:Fit ({r with K:=lQ r.K (St.iB l).1 (St.iB l).2.1 (St.iB l).2.2.1,O:=pw r.K r.O i (St.iB l).1 (St.iB l).2.1 (St.iB l).2.2.1}:iW) k:=h.congr rfl rfl rfl rfl;split;{exact Z.grow i _ (Nat.le_trans (xS (r.P i) 65 (rN (St.iB l).1 (St.iB l).2.1 (St.iB l).2.2.1)) (by show(r.P i).out.length+126<=(r.P i).out.length+6000;omega))};{exact Z.mono (Nat.le_succ k)}}}
theorem ZE(r:iW)(i:Nat)(l:List UInt8):(jw r i l).n=r.n/\(jw r i l).id=r.id:=by
 unfold jw;simp only;split;{exact⟨rfl,rfl⟩};{split;{exact⟨VX _ _,BD _ _⟩};{split<;>exact⟨rfl,rfl⟩}}
theorem lM.send {r:iW} (h:lM r)(t:zD):lM (r.send t):=by
 unfold iW.send;split;{exact⟨h.id,h.m,h.pe,h.own,h.P5⟩};{split;{exact⟨h.id,h.m,h.pe,h.own,h.P5⟩};{exact h.jh _ _ (Iv _ _ _) (λhi=>by rw[sC];exact h.pe _ hi)}}
theorem lM.state(h:lM r)(i:Nat)(l:List UInt8):lM (jw r i l):=by
 unfold jw;simp only;split;{exact h}
 ·rename_i hc
  have hf:(St.iB l).2.2.2=0:=by
   by_cases e:(St.iB l).2.2.2=0;{exact e};{exact absurd (.inl e) hc}
  have Y:oK (St.iB l).1 (St.iB l).2.1 (St.iB l).2.2.1=0:=qy (l:=l) (by rw[<-hf]);split;{exact h.behind (by have:=(jC Y).2.1;omega)}
  ·rename_i X
   have Z:lM {r with K:=lQ r.K (St.iB l).1 (St.iB l).2.1 (St.iB l).2.2.1,O:=pw r.K r.O i (St.iB l).1 (St.iB l).2.1 (St.iB l).2.2.1}:=by
    refine⟨h.id,h.m,h.pe,?_,?_⟩
    ·show∃q,lQ r.K _ _ _ r.id=μ q/\_;unfold lQ;split
     ·rename_i V
      have U:r.id≠(St.iB l).1:=λe=>X ⟨e.symm,V⟩;unfold wF;rw[af U];exact h.own
     ·exact h.own
    ·show Yf (lQ r.K _ _ _);unfold lQ;split;{exact h.P5.uu (jC Y).1 _};{exact h.P5}
   split;{exact Z.jh _ _ (Iv _ _ _) (λhi=>by rw[sC];exact h.pe _ hi)};{exact Z}
theorem Fe(z:Zt)(r:iW)(k:Nat)(t Z:Int)(tx:ByteArray)(w:ew)(h:mM w z r)(T:lM r)(hf:Fit r k)(hk:k<=100000)(V:0<=t/\t<=255)(hh:0<=Z/\Z<=255)(Y:tx.size<=900):
 fc fe 91 #[π (μ ⟨z.R,0,ν⟩),.agg #[ι κ t,ι κ Z,.string tx]] w λe w'=>e=ρ (τ #[])/\iP w w' z (r.send (t,Z,tx.data.toList)) r.n:=by
 by_cases e:t=r.id;{subst e;refine(Si z r Z tx w h (by have:=hf.kx;omega)).mono ?_;rintro e w1 ⟨rfl,U⟩;refine⟨rfl,?_⟩;unfold iW.send;rw[ai rfl];exact U};{exact Sj z r t Z tx w h T.P5 e V hh Y (by have:=hf.drop;omega) (λj X=>by have:=hf.out j X;omega)}
def rS(r:iW)(l:List UInt8):iW:=if 2<=l.length/\l.length<=22 then r.send (((l.getD 0 0).toNat:Int),((l.getD 1 0).toNat:Int),l.drop 2)else r
theorem Dr(s:ByteArray)(z:Zt)(r:iW)(k:Nat)(w:ew)(h:mM w z r)(Y:lM r)(hf:Fit r k)(G:k<=100000)(hs:s.size<=1000):
 fc fe 137 #[π (μ ⟨z.R,0,ν⟩),.string s] w λe w'=>e=ρ (τ #[])/\iP w w' z (rS r s.data.toList) r.n:=by
 have hl:s.data.toList.length=s.size:=ik;by_cases h2:2<=s.size
 ·by_cases h22:s.size<=22
  ·have b0:0<s.size:=eB;have b1:1<s.size:=eB;have g1:(2:Int)<=(s.size:Int):=eB;have J:(s.size:Int)<=22:=eB;have Z:∀W,eH w W->fc fe 91 #[π (μ ⟨z.R,0,ν⟩),.agg #[ι κ (s[0].toNat:Int),ι κ (s[1].toNat:Int),.string (s.extract 2 s.size)]] W λe w'=>e=ρ (τ #[])/\iP w w' z (rS r s.data.toList) r.n:=by
    intro W M;have l0:=s[0].toNat_lt;have l1:=s[1].toNat_lt;refine(Fe z r k (s[0].toNat:Int) (s[1].toNat:Int) (s.extract 2 s.size) W (h.below M) Y hf G eB eB (by simp;omega)).mono ?_;rintro e w1 ⟨rfl,U⟩;refine⟨rfl,iP.first h rfl M (λ_=> ?_)⟩;have H:rS r s.data.toList=r.send ((s[0].toNat:Int),(s[1].toNat:Int),(s.extract 2 s.size).data.toList):=by
     unfold rS;rw[ai ⟨eB,eB⟩,oq s 0 b0,oq s 1 b1];rw[wN,aH eB]
    rw[H];exact U
   have X:=Z _ (jl w);have pG:κ.wrap (s[0].toNat:Int)=(s[0].toNat:Int):=aS _ ⟨by have:=s[0].toNat_lt;omega,by have:=s[0].toNat_lt;omega⟩;have ng:κ.wrap (s[1].toNat:Int)=(s[1].toNat:Int):=aS _ ⟨by have:=s[1].toNat_lt;omega,by have:=s[1].toNat_lt;omega⟩;clear Z hf Y h;obtain⟨T,Q⟩:∃T:ew->Prop,(λx=>iP w x z (rS r s.data.toList) r.n)=T:=⟨_,rfl⟩
   have S:∀x,iP w x z (rS r s.data.toList) r.n=T x:=λx=>cy Q x;simp only[S]at X⊢;clear Q S
   go_in
   go_wp2
   go_region_held3(λ_=>True)
    (first|trivial)
    (first
     |(go_at_call 91;refine X.mono ?_;rintro e w1 ⟨rfl,U⟩))
   all_goals
    clear X
    go_wp2
    first|go_end0|refine iX rfl rfl ?_
    exact⟨rfl,U⟩
  ·have g1:(2:Int)<=(s.size:Int):=eB;have J:¬(s.size:Int)<=22:=eB;have V:Hid (iP w w z (rS r s.data.toList) r.n):=by
    show iP _ _ _ _ _;unfold rS;rw[af eB];exact iP.refl h
   clear h Y hf
   go_in
   go_wp2
   first|go_end0|refine iX rfl rfl ?_
   exact⟨rfl,V.out⟩
 ·have g1:¬(2:Int)<=(s.size:Int):=eB;have V:Hid (iP w w z (rS r s.data.toList) r.n):=by
   show iP _ _ _ _ _;unfold rS;rw[af eB];exact iP.refl h
  clear h Y hf
  go_in
  go_wp2
  first|go_end0|refine iX rfl rfl ?_
  exact⟨rfl,V.out⟩
def kg(r:iW)(i:Nat)(c:UInt8)(s:List UInt8):iW:=if c=76 then r.jh i ((r.P i).packet s)else r
def mO(r1:iW)(i:Nat)(c:UInt8)(s:List UInt8):iW:=
 if c=72 then(if(kT s).2.2=0 then r1.meet i (ju r1.id (kT s).1 (kT s).2.1)else r1)
 else if c=83 then jw r1 i s
 else if c=65 then kQ r1 i s
 else if c=77 then rS r1 s
 else r1
theorem l7(r:iW)(i:Nat)(c:UInt8)(s:List UInt8):r.take i c s=if((kg r i c s).P i).L.st≠9 then(kg r i c s).meet i nobody else mO (kg r i c s) i c s:=rfl
theorem Wg(T s:ByteArray)(c:UInt8)(z:Zt)(r:iW)(i k:Nat)(w:ew)(h:mM w z r)(hT:T=⟨#[c]⟩)(Ff:jt w)(jb:lM r)(hf:Fit r k)(hk:k<=99999)(hi:i<r.n)(hs:s.size<=1000):
 fc fe 79 #[π (μ ⟨z.R,0,ν⟩),ι κ (i:Int),.string T,.string s] w λe w'=>e=ρ (τ #[])/\iP w w' z (r.take i c s.data.toList) r.n:=by
 have ll:(i:Int)<(r.n:Int):=eB;have PH:(0:Int)<=(i:Int):=eB;have c1:=h.c1;have cl:=h.lt;have gl:=h.Kt;have HEq:=l7 r i c s.data.toList;obtain⟨r1,lE⟩:=fq (kg r i c s.data.toList);rw[lE]at HEq;have mP:r1.n=r.n:=by rw[<-lE];unfold kg;split<;>rfl
 have lq:lM r1:=by
  rw[<-lE];unfold kg;split;{exact jb.jh i _ (uS _ _).1 (λhi=>by rw[(uS _ _).2];exact jb.pe i hi)};{exact jb}
 have Vr:Fit r1 (k+1):=by
  rw[<-lE];unfold kg;split;{exact hf.grow i _ (Nat.le_trans (Fc _ _) eB)};{exact hf.mono (Nat.le_succ k)}
 have vP:i<r1.n:=by rw[mP];exact hi
 have hop:Hid (∀W,iP w W z r1 r.n->fc fe 83 #[π (μ ⟨z.g,i*71,ν⟩)] W λe w'=>e=ρ (.bool ((r1.P i).L.st==9))/\W=w'):=by
  intro W S;obtain⟨v,hv⟩:=S.pt vP;exact za z.g (i*71) (z.B i) v (r1.P i) W hv
 have pV:Hid (c=76->fc fe 133 #[π (μ ⟨z.g,i*71,ν⟩),.string s] w λe w'=>e=ρ (τ #[])/\iP w w' z r1 r.n):=by
  intro e;refine(Lz s z.g (i*71) (z.B i) (z.v i) (r.P i) w (h.pt i hi) Ff hs (by have:=hf.out i hi;omega)).mono ?_;rintro e1 w1 ⟨rfl,hw⟩;refine⟨rfl,?_⟩;rw[<-lE];unfold kg;rw[ai e];exact h.port hi hw
 have Sk:Hid (c≠76->iP w w z r1 r.n):=by
  intro e;rw[<-lE];unfold kg;rw[af e];exact iP.refl h
 have V:Hid ((r1.P i).L.st≠9->∀W,iP w W z r1 r.n->fc fe 74 #[π (μ ⟨z.R,0,ν⟩),ι κ (i:Int),.agg #[ι κ 0,.bool false,ι κ 0]] W λe w'=>e=ρ (τ #[])/\iP w w' z (r.take i c s.data.toList) r.n):=by
  intro e W S;rw[HEq,ai e];refine S.call λz1 R1 hl=> ?_;rw[<-hl.R,<-mP];exact wX z1 r1 i nobody W R1 lq vP (oI.nobody lq.id.1)
 have G:Hid ((r1.P i).L.st=9->c=72->∀W,iP w W z r1 r.n->fc fe 134 #[π (μ ⟨z.R,0,ν⟩),ι κ (i:Int),.string s] W λe w'=>e=ρ (τ #[])/\iP w w' z (r.take i c s.data.toList) r.n):=by
  intro e X W S;rw[HEq,af (by simp[e])];unfold mO;rw[ai X];refine S.call λz1 R1 hl=> ?_;rw[<-hl.R,<-mP];exact G6 s z1 r1 i W R1 lq vP
 have A:Hid ((r1.P i).L.st=9->c=83->∀W,iP w W z r1 r.n->fc fe 135 #[π (μ ⟨z.R,0,ν⟩),ι κ (i:Int),.string s] W λe w'=>e=ρ (τ #[])/\iP w w' z (r.take i c s.data.toList) r.n):=by
  intro e X W S;rw[HEq,af (by simp[e])];unfold mO;rw[af (by rw[X];decide),ai X];refine S.call λz1 R1 hl=> ?_;rw[<-hl.R,<-mP];exact G5 s z1 r1 i W R1 lq vP hs (by have:=Vr.out i vP;omega)
 have E:Hid ((r1.P i).L.st=9->c=65->∀W,iP w W z r1 r.n->fc fe 136 #[π (μ ⟨z.R,0,ν⟩),ι κ (i:Int),.string s] W λe w'=>e=ρ (τ #[])/\iP w w' z (r.take i c s.data.toList) r.n):=by
  intro e X W S;rw[HEq,af (by simp[e])];unfold mO;rw[af (by rw[X];decide),af (by rw[X];decide),ai X];refine S.call λz1 R1 hl=> ?_;rw[<-hl.R,<-mP];exact G4 s z1 r1 i W R1 vP hs
 have H:Hid ((r1.P i).L.st=9->c=77->∀W,iP w W z r1 r.n->fc fe 137 #[π (μ ⟨z.R,0,ν⟩),.string s] W λe w'=>e=ρ (τ #[])/\iP w w' z (r.take i c s.data.toList) r.n):=by
  intro e X W S;rw[HEq,af (by simp[e])];unfold mO;rw[af (by rw[X];decide),af (by rw[X];decide),af (by rw[X];decide),ai X];refine S.call λz1 R1 hl=> ?_;rw[<-hl.R,<-mP];exact Dr s z1 r1 (k+1) W R1 lq Vr eB hs
 have M:Hid ((r1.P i).L.st=9->c≠72->c≠83->c≠65->c≠77->∀W,iP w W z r1 r.n->iP w W z (r.take i c s.data.toList) r.n):=by
  intro e e1 X e3 e4 W S;rw[HEq,af (by simp[e])];unfold mO;rw[af e1,af X,af e3,af e4];exact S
 have HT:Hid _:=hT;generalize (r1.P i).L.st=st at hop V G A E H M;obtain⟨Q,hQ⟩:∃Q:ew->Prop,(λx=>iP w x z (r.take i c s.data.toList) r.n)=Q:=⟨_,rfl⟩
 have hQ':∀x,iP w x z (r.take i c s.data.toList) r.n=Q x:=λx=>cy hQ x;simp only[hQ']at V G A E H M⊢;obtain⟨Q1,hQ1⟩:∃Q:ew->Prop,(λx=>iP w x z r1 r.n)=Q:=⟨_,rfl⟩
 have ag7:∀x,iP w x z r1 r.n=Q1 x:=λx=>cy hQ1 x;simp only[ag7]at hop pV Sk V G A E H M;clear h jb hf lq Vr vP mP lE HEq hQ hQ' hQ1 ag7 Ff
 go_in
 cases J:(c==76)with
 |true=>
  have wA:=pV.out (by simpa using J);go_wp2_with(fail);refine wA.mono ?_;rintro e W3 ⟨rfl,u⟩;clear wA;have zM:=hop.out _ u;go_wp2_with(fail);refine zM.mono ?_;rintro e W4 ⟨rfl,rfl⟩;clear zM;cases q9:(st==9)with
  |false=>
   have Z:=V.out (by simpa using q9) _ u;clear V G A E H M pV Sk hop;go_wp2_with(fail);refine Z.mono ?_;rintro e W5 ⟨rfl,Y⟩;clear Z
   go_wp2
   first|go_end0|refine iX rfl rfl ?_
   exact⟨rfl,Y⟩
  |true=>
   have U:st=9:=by simpa using q9
   have q72:(c==72)=false:=by rw[show c=76 by simpa using J];rfl
   have q83:(c==83)=false:=by rw[show c=76 by simpa using J];rfl
   have q65:(c==65)=false:=by rw[show c=76 by simpa using J];rfl
   have q77:(c==77)=false:=by rw[show c=76 by simpa using J];rfl
   have Y:=M.out U (by simpa using q72) (by simpa using q83) (by simpa using q65) (by simpa using q77) _ u;clear V G A E H M pV Sk hop U
   go_wp2
   first|go_end0|refine iX rfl rfl ?_
   exact⟨rfl,Y⟩
 |false=>
  have u:=Sk.out (by simpa using J);have zM:=hop.out _ u;go_wp2_with(fail);refine zM.mono ?_;rintro e W4 ⟨rfl,rfl⟩;clear zM;cases q9:(st==9)with
  |false=>
   have Z:=V.out (by simpa using q9) _ u;clear V G A E H M pV Sk hop;go_wp2_with(fail);refine Z.mono ?_;rintro e W5 ⟨rfl,Y⟩;clear Z
   go_wp2
   first|go_end0|refine iX rfl rfl ?_
   exact⟨rfl,Y⟩
  |true=>
   have U:st=9:=by simpa using q9
   cases q72:(c==72)with
   |true=>
    have Z:=G.out U (by simpa using q72) _ u;clear V G A E H M pV Sk hop U;go_wp2_with(fail);refine Z.mono ?_;rintro e W5 ⟨rfl,Y⟩;clear Z
    go_wp2
    first|go_end0|refine iX rfl rfl ?_
    exact⟨rfl,Y⟩
   |false=>
    cases q83:(c==83)with
    |true=>
     have Z:=A.out U (by simpa using q83) _ u;clear V G A E H M pV Sk hop U;go_wp2_with(fail);refine Z.mono ?_;rintro e W5 ⟨rfl,Y⟩;clear Z
     go_wp2
     first|go_end0|refine iX rfl rfl ?_
     exact⟨rfl,Y⟩
    |false=>
     cases q65:(c==65)with
     |true=>
      have Z:=E.out U (by simpa using q65) _ u;clear V G A E H M pV Sk hop U;go_wp2_with(fail);refine Z.mono ?_;rintro e W5 ⟨rfl,Y⟩;clear Z
      go_wp2
      first|go_end0|refine iX rfl rfl ?_
      exact⟨rfl,Y⟩
     |false=>
      cases q77:(c==77)with
      |true=>
       have Z:=H.out U (by simpa using q77) _ u;clear V G A E H M pV Sk hop U;go_wp2_with(fail);refine Z.mono ?_;rintro e W5 ⟨rfl,Y⟩;clear Z
       go_wp2
       first|go_end0|refine iX rfl rfl ?_
       exact⟨rfl,Y⟩
      |false=>
       have Y:=M.out U (by simpa using q72) (by simpa using q83) (by simpa using q65) (by simpa using q77) _ u;clear V G A E H M pV Sk hop U
       go_wp2
       first|go_end0|refine iX rfl rfl ?_
       exact⟨rfl,Y⟩
theorem Wi(l:List UInt8)(e d:Bool)(h:l.length<=62):(nT l e d).1.length<=62:=by
 unfold nT;split;{simp};{split;{simp};{split;{simp};{split;{simp;omega};{simp}}}}
theorem Wj(s:kP)(c:UInt8)(h:s.1.length<=62):(sL s c).1.length<=62:=by
 obtain⟨l,e,d⟩:=s;unfold sL;simp only at h⊢;split;{exact h};{split;{exact h};{split;{exact h};{simp;omega}}}
theorem Sl(a:List (List UInt8)×Nat×kP)(c:UInt8)(h:a.2.2.1.length<=62)(Z:∀t∈a.1,t.length<=62):(mU a c).2.2.1.length<=62/\∀t∈(mU a c).1,t.length<=62:=by
 have X:(qH a.2.2.1 a.2.2.2.1 a.2.2.2.2 c).1.length<=62:=by
  unfold qH;split;{simp};{exact Wj _ c h}
 have U:(qI a.2.2.1 a.2.2.2.1 a.2.2.2.2 c).1.length<=62:=by
  unfold qI;split;{exact Wi _ _ _ h};{simp}
 unfold mU;simp only;split;{exact⟨X,Z⟩}
 ·split
  ·refine⟨X,λt V=> ?_⟩;rcases av.1 V with Y|Y
   {exact Z t Y};{rw[ar.1 Y];exact U}
  ·exact⟨X,Z⟩
theorem Iw:∀(l:List UInt8) (a:List (List UInt8)×Nat×kP),a.2.2.1.length<=62->(∀t∈a.1,t.length<=62)->∀t∈(l.foldl mU a).1,t.length<=62
 |[],_,_,h2=>h2
 |c::l,a,h1,h2=>by
  have:=Sl a c h1 h2;exact Iw l (mU a c) this.1 this.2
theorem Wk(st:kP)(l:List UInt8)(h:st.1.length<=62):∀t∈(kN st l).1,t.length<=62:=Iw l ([],0,st) h (λt Z=>by simp at Z)
theorem ZF(r:iW)(i:Nat)(c:UInt8)(s:List UInt8):(kg r i c s).n=r.n/\(kg r i c s).id=r.id:=by
 unfold kg;split<;>exact⟨rfl,rfl⟩
theorem ZG(r:iW)(i:Nat)(c:UInt8)(s:List UInt8):(mO r i c s).n=r.n/\(mO r i c s).id=r.id:=by
 unfold mO;split;{split;{exact⟨BF _ _ _,DM _ _ _⟩};{exact⟨rfl,rfl⟩}};{split;{exact ZE _ _ _};{split;{unfold kQ;simp only;split<;>exact⟨rfl,rfl⟩};{split;{unfold rS;split;{exact adK _ _};{exact⟨rfl,rfl⟩}};{exact⟨rfl,rfl⟩}}}}
theorem OI(r:iW)(i:Nat)(c:UInt8)(s:List UInt8):(r.take i c s).n=r.n/\(r.take i c s).id=r.id:=by
 rw[l7];have Z:=ZF r i c s;split;{exact⟨(BF _ _ _).trans Z.1,(DM _ _ _).trans Z.2⟩};{have Y:=ZG (kg r i c s) i c s;exact⟨Y.1.trans Z.1,Y.2.trans Z.2⟩}
theorem lM.link(h:lM r)(i:Nat)(c:UInt8)(s:List UInt8):lM (kg r i c s):=by
 unfold kg;split;{exact h.jh i _ (uS _ _).1 (λhi=>by rw[(uS _ _).2];exact h.pe i hi)};{exact h}
theorem Fit.link(h:Fit r k)(i:Nat)(c:UInt8)(s:List UInt8):Fit (kg r i c s) (k+1):=by
 unfold kg;split;{exact h.grow i _ (Nat.le_trans (Fc _ _) eB)};{exact h.mono (Nat.le_succ k)}
theorem Fg {s:List UInt8} (Z:(kT s).2.2=0):1<=(kT s).1/\(kT s).1<=6:=by
 unfold kT at Z⊢;split at Z
 ·rename_i hc
  rw[ai hc];have:=hc.2;simp only[uQ,Bool.and_eq_true,decide_eq_true_eq]at this;simp only;omega
 ·simp at Z
theorem lM.rest(h:lM r)(i:Nat)(c:UInt8)(s:List UInt8):lM (mO r i c s):=by
 unfold mO;split
 ·split
  ·rename_i Z
   exact h.meet i (oI.Zr h.id.1 (Fg Z))
  ·exact h
 ·split;{exact h.state i s};{split;{unfold kQ;simp only;split;{exact h.zd _};{exact h}};{split;{unfold rS;split;{exact h.send _};{exact h}};{exact h}}}
theorem Fit.rest(h:Fit r k)(i:Nat)(c:UInt8)(s:List UInt8):Fit (mO r i c s) (k+1):=by
 unfold mO;split;{split;{exact(h.meet i _).mono (Nat.le_succ k)};{exact h.mono (Nat.le_succ k)}};{split;{exact h.state i s};{split;{unfold kQ;simp only;split;{exact Fit.mono (h.congr rfl rfl rfl rfl) (Nat.le_succ k)};{exact h.mono (Nat.le_succ k)}};{split;{unfold rS;split;{exact h.send _};{exact h.mono (Nat.le_succ k)}};{exact h.mono (Nat.le_succ k)}}}}
theorem lM.take {r:iW} (h:lM r)(i:Nat)(c:UInt8)(s:List UInt8):lM (r.take i c s):=by
 rw[l7];split;{exact(h.link i c s).meet i (oI.nobody (h.link i c s).id.1)};{exact(h.link i c s).rest i c s}
theorem Fit.take {r:iW} {k:Nat} (h:Fit r k)(i:Nat)(c:UInt8)(s:List UInt8):Fit (r.take i c s) (k+2):=by
 rw[l7];split;{exact((h.link i c s).meet i _).mono eB};{exact(h.link i c s).rest i c s}
def jY(r:iW)(i:Nat):List UInt8->iW
 |[] =>r
 |c::s=>r.take i c s
theorem Fh:∀(l:List (List UInt8)) (r:iW) (i:Nat) (t:List UInt8),r.takes i (l++ [t])=jY (r.takes i l) i t
 |[],r,i,t=>by cases t<;>rfl
 |x::l,r,i,t=>by
  show(match x with|[] =>r|c::s=>r.take i c s).takes i (l++ [t])=jY ((match x with|[] =>r|c::s=>r.take i c s).takes i l) i t;exact Fh l _ i t
theorem Sm(h:lM r)(hf:Fit r k)(i:Nat)(t:List UInt8):(jY r i t).n=r.n/\lM (jY r i t)/\Fit (jY r i t) (k+2):=by
 cases t with
 |nil=>exact⟨rfl,h,hf.mono eB⟩
 |cons c s=>exact⟨(OI r i c s).1,h.take i c s,hf.take i c s⟩
theorem BI:∀(l:List (List UInt8)) {r:iW} {k:Nat} (_:lM r) (_:Fit r k) (i:Nat),(r.takes i l).n=r.n/\lM (r.takes i l)/\Fit (r.takes i l) (k+2*l.length)
 |[],r,k,h,hf,i=>⟨rfl,h,hf⟩
 |x::l,r,k,h,hf,i=>by
  have Z:=Sm h hf i x;have e:r.takes i (x::l)=(jY r i x).takes i l:=by cases x<;>rfl
  have Y:=BI l Z.2.1 Z.2.2 i;rw[e];refine⟨Y.1.trans Z.1,Y.2.1,Y.2.2.mono (by simp;omega)⟩
theorem qW.rdC {o B:Nat} (h:qW w g o B v p):Rd w g (o+2) p.rd.1 p.rd.2.1 p.rd.2.2:=by
 obtain⟨F,hC,hF⟩:=h.xR;refine⟨F,(hC.sub 2 65 eF).congr (λj hj=> ?_),hF⟩;unfold xQ;rw[af eB,af eB,ai eB,show 2+j-2=j by omega]
theorem qW.read {o B:Nat} (h:qW w g o B v p)(r:kP)(T:Rd w' g (o+2) r.1 r.2.1 r.2.2)(Z:lJ w w' g (o+2) 65):qW w' g o B v {p with rd:=r} /\oe w w' g o B v:=by
 obtain⟨F,hC,hF⟩:=h.xR;obtain⟨G,U,X⟩:=T;have Y:=qR.join (a:=2) (k:=65) hC Z U;refine⟨⟨⟨G,Y.congr (λj Y=>VK p B v F G r j Y),X⟩,h.lk.keep (Z.block B h.lk.lt (λe=>h.gB e.symm)),h.ou.keep Z.size (λx hx=>Z.block x (h.ou.lt x hx) (λe=>h.vg (by rw[hx,e]))),h.few,h.ok,h.gB,h.vg,h.vB,h.nz⟩,⟨Z.os,Z.tape,Z.output,Z.size,λi hi V _ _=>Z.block i hi V,λj Y=>Z.cell j eB,Z.fz⟩⟩
theorem mM.ag8 {z:Zt} (h:mM w z r)(hi:i<r.n)(J:qW w' z.g (i*71) (z.B i) (z.v i) p)(Z:oe w w' z.g (i*71) (z.B i) (z.v i)):mM w' z (r.jh i p)/\Ae w w' z r.n:=by
 have U:z.mine r.n z.g/\z.mine r.n (z.B i)/\∀k,(z.v i).ownBlock=μ k->z.mine r.n k:=⟨.inr (.inl rfl),.inr (.inr (.inl ⟨i,hi,.inl rfl⟩)),λk Y=>.inr (.inr (.inl ⟨i,hi,.inr Y⟩))⟩
 have S:∀k,k<w.heap.size->¬z.mine r.n k->w'.heap[k]? =w.heap[k]? :=λk Y T=>Z.block k Y (λe=>T (by rw[e];exact U.1)) (λe=>T (by rw[e];exact U.2.1)) (λe=>T (U.2.2 k e));have Q:=h.bs.still Z.size (λj V H=>S j V (λe=>H (h.no j e))) h.nb.1 h.nb.2.1 h.nb.2.2 z.fm.no (λj V=>.inl V) (λj V=>Nat.lt_of_lt_of_le (h.bs.Rl j V) Z.size);refine⟨⟨h.n1,h.n3,h.Og,h.id,?_,?_,?_,Q,h.bl,h.no,h.nb,h.sR,h.sB,h.sV,h.sI,h.RT⟩,⟨Z.os,Z.tape,Z.output,Z.size,λk Y T _ _=>S k Y T⟩⟩;{exact h.oE.keep (Z.block z.R h.oE.lt h.sR.1 (λe=>(h.sR.2.2 i hi).1 e.symm) (h.sR.2.2 i hi).2)}
 ·intro j V;by_cases e:j=i;{subst e;show qW w' z.g (j*71) (z.B j) (z.v j) (lF r.P j p j);rw[jL];exact J}
  ·show qW w' z.g (j*71) (z.B j) (z.v j) (lF r.P i p j);rw[jG _ _ e];have X:=h.pt j V;obtain⟨F,hC,hF⟩:=X.xR;have hs:=h.sB j i V hi e;refine⟨⟨F,λx hx=>⟨(Z.cell (j*71+x) ?_).trans (hC.cell x hx),(Z.fz _).trans (hC.fz x hx)⟩,hF⟩,X.lk.keep (Z.block (z.B j) X.lk.lt (λe=>X.gB e.symm) hs.1 (h.sV i j hi V)),X.ou.keep Z.size (λk Y=>Z.block k (X.ou.lt k Y) (λe=>X.vg (by rw[Y,e])) (λe=>h.sV j i V hi (by rw[Y,e])) (hs.2 k Y)),X.few,X.ok,X.gB,X.vg,X.vB,X.nz⟩;rcases Nat.lt_or_gt_of_ne e with M|M
   {exact .inl eB};{exact .inr eB}
 ·exact h.ib.keep Z.size (λk Y=>Z.block k (h.ib.lt k Y) (h.sI k Y).2.1 ((h.sI k Y).2.2 i hi).1 ((h.sI k Y).2.2 i hi).2)
theorem ZH(l:List (List UInt8))(j:Nat)(h:j<l.length):(strs l)[j]? =μ (.string ⟨l[j].toArray⟩):=by simp[strs,h]
theorem Wl(s:ByteArray)(z:Zt)(r:iW)(i k:Nat)(w:ew)(h:mM w z r)(Ff:jt w)(jb:lM r)(hf:Fit r k)(hk:k+2*s.size<=99999)(hi:i<r.n):
 fc fe 23 #[π (μ ⟨z.R,0,ν⟩),ι κ (i:Int),.string s] w λe w'=>e=ρ η/\iP w w' z (r.recv i s.data.toList) r.n:=by
 have hh:=EV z r i w h;rw[Ag hi]at hh;have ll:(i:Int)<(r.n:Int):=eB;have PH:(0:Int)<=(i:Int):=eB;have c1:=h.c1;have cl:=h.lt;have gl:=h.Kt;have hp:=h.pt i hi;obtain⟨A,hA⟩:=fq (kN (r.P i).rd s.data.toList);have S:=Vz z.g (i*71+2) (r.P i).rd s w hp.rdC eB;rw[hA]at S;have hAl:A.1.length<=s.size:=by
  have:=DI (r.P i).rd s.data.toList;rw[hA]at this;have e:s.data.toList.length=s.size:=ik;omega
 have hAt:Hid (∀t∈A.1,t.length<=62):=by
  show∀t∈A.1,_;rw[<-hA];obtain⟨F,_,hF⟩:=hp.xR;exact Wk _ _ hF.len
 obtain⟨r1,H⟩:=fq (r.jh i {r.P i with rd:=A.2.2});have mP:r1.n=r.n:=by rw[<-H];rfl
 have lq:lM r1:=by rw[<-H];exact jb.jh i _ rfl (λhi=>jb.pe i hi)
 have Vr:Fit r1 k:=by rw[<-H];exact hf.jh i _ (λhi=>hf.out i hi)
 have hE:Hid (r.recv i s.data.toList=r1.takes i A.1):=by
  show _=_;unfold iW.recv;simp only[hA];rw[H]
 have G:fc fe 78 #[π (μ ⟨z.g,i*71+2,ν⟩),.string s] w λe w'=>∃v,e=ρ (τ #[v,ι κ (A.2.1:Int)])/\Row w' 1 v A.1.length (strs A.1)/\(∀k,v.ownBlock=μ k->w.heap.size<=k)/\mM w' z r1/\Ae w w' z r.n:=by
  refine S.mono ?_;rintro e w1 ⟨v,rfl,h1,h2,_,h4,h5⟩;refine⟨v,rfl,h1,h2,?_⟩;rw[<-H];have h6:=qW.read hp A.2.2 h4 h5;exact h.ag8 hi h6.1 h6.2
 have HR:Hid _:=h;have Sn:Hid _:=Ff;clear h jb hf hp S Ff
 go_in
 go_wp2_with(fail);refine hh.mono ?_;rintro e w0 ⟨rfl,rfl⟩;clear hh;go_wp2_with(fail);refine G.mono ?_;rintro e V ⟨v,rfl,jf,jy,T,XY⟩;clear G c1 cl gl;obtain⟨n,hn⟩:=fq (A.1.length);have Zk:∃a cp,v=σ a n cp:=by
  rcases jf.2 with⟨e,h0⟩|⟨g,c,e,_⟩
  {exact⟨ν,0,by rw[e,<-hn,h0]⟩};{exact⟨_,c,by rw[e,hn]⟩}
 obtain⟨a,cp,rfl⟩:=Zk;have Pt:∀j,eD (σ a n cp)=μ j->¬z.mine r.n j:=λj hj=>HR.out.uR (jy j hj);have ahb:Hid (∀wr rr,iP V wr z rr r.n->jt wr):=by
  have h1:jt V:=iP.tab (z:=z) (r:=r1) ⟨⟨z,T,z.sU,λ_ e=>.inl e,λ_ e=>e⟩,XY⟩ HR.out rfl Sn.out;intro wr rr u;exact u.tab T mP h1
 have Wm:Hid (∀wr rr,iP V wr z rr r.n->∀j,(hj:j<A.1.length)->∃g,a=μ ⟨g,0,ν⟩/\wr.cell? ⟨g,j,ν⟩=μ (.string ⟨(A.1[j]).toArray⟩)):=by
  intro wr rr u j hj;rcases jf.2 with⟨e,h0⟩|⟨g,c,e,_,_,_,hc,_⟩
  {omega};{have ea:a=μ ⟨g,0,ν⟩:=(bQ e).1;refine⟨g,ea,u.cell T (p:=⟨g,j,ν⟩) (Pt g (by rw[ea];rfl)) (hc j _ (ZH A.1 j hj))⟩}
 have adL:Hid (∀wr,iP V wr z (r1.takes i A.1) r.n->iP w wr z (r.recv i s.data.toList) r.n):=by
  intro wr u;rw[hE.out];exact iP.ry (r:=r1) ⟨⟨z,T,z.sU,λ_ e=>.inl e,λ_ e=>e⟩,XY⟩ T z.sU (λ_ e=>.inl e) (λ_ e=>e) u
 have H0:Hid (iP V V z (r1.takes i (A.1.take 0)) r.n):=by
  show iP _ _ _ _ _;rw[<-mP];exact iP.refl T
 have HN:Hid _:=hn;have Dn:Hid _:=lq;have HF1:Hid _:=Vr;clear jf jy T XY Pt hE lq Vr H hA;have hns:n<=s.size:=eB
 go_wp2
 go_loopw [30] (λx wr=>∃q:Nat,q<=n/\x=ι κ q/\iP V wr z (r1.takes i (A.1.take q)) r.n) (λx _=>n-(fh x).toNat)
 case atStart=>exact⟨0,Nat.zero_le _,rfl,H0.out⟩
 case round=>
  obtain⟨q,hq,rfl,X⟩:=hrel;by_cases kL:q<n
  ·have n9:(q:Int)<(n:Int):=eB;have hq0:(0:Int)<=(q:Int):=eB;have Q:q<A.1.length:=by have:=HN.out;omega
   obtain⟨g,rfl,hcell⟩:=Wm.out _ _ X q Q;have Zo:=ahb.out _ _ X;have E:=hAt.out _ (aF Q);have J:Hid (r1.takes i (A.1.take (q+1))=jY (r1.takes i (A.1.take q)) i A.1[q]):=by
    show _=_;rw[az Q,Fh]
   have U:=BI (A.1.take q) Dn.out HF1.out i;have hlq:(A.1.take q).length<=q:=cB _ _;have gl:=ag _ _ hcell;generalize A.1[q] =tt at hcell E J;obtain⟨rq,M⟩:=fq (r1.takes i (A.1.take q));rw[M]at X J U;cases tt with
   |nil=>
    have HW:Hid (iP V wr z (r1.takes i (A.1.take (q+1))) r.n):=by
     show iP _ _ _ _ _;rw[J.out];exact X
    clear X J U M;obtain⟨Z,Y⟩:∃Z:ByteArray,(⟨([] :List UInt8).toArray⟩:ByteArray)=Z:=⟨_,rfl⟩
    rw[Y]at hcell;have jx:Z.toList.isEmpty=true:=by rw[<-Y,dm];rfl
    clear Y
    go_wp2
    go_roundw
    case rel=>exact⟨q+1,eB,by go_num,HW.out⟩
    case measure=>simp[fh];omega
   |cons c tl=>
    obtain⟨Z,Y⟩:∃Z:ByteArray,(⟨(c::tl).toArray⟩:ByteArray)=Z:=⟨_,rfl⟩
    have sG:Z.size=tl.length+1:=by rw[<-Y];simp[ByteArray.size]
    have hx0:Z.extract 0 1=⟨#[c]⟩:=by
     rw[<-Y];apply gZ;apply dG.1;rw[wN];simp
    have hx1:Z.extract 1 Z.size=⟨tl.toArray⟩:=by
     apply gZ;apply dG.1;rw[wN,sG,<-Y];simp
    have YO:Z.toList=c::tl:=by rw[dm,<-Y]
    have jx:Z.toList.isEmpty=false:=by rw[YO];rfl
    rw[Y]at hcell;have g1:(1:Int)<=(Z.size:Int):=eB;have g0:(0:Int)<=(Z.size:Int):=eB;have Yj:i<rq.n:=by rw[U.1,mP];exact hi
    have zE:fc fe 79 #[π (μ ⟨z.R,0,ν⟩),ι κ (i:Int),.string ⟨#[c]⟩,.string ⟨tl.toArray⟩] wr.drew λe w'=>e=ρ (τ #[])/\iP V w' z (r1.takes i (A.1.take (q+1))) r.n:=by
     rw[J.out];have DP:=X.below (by rw[U.1];exact mP) (jl wr);refine DP.call λz1 Rz hl=> ?_;have hlen:(⟨tl.toArray⟩:ByteArray).size<=1000:=by
      show tl.toArray.size<=1000;simp at E⊢;omega
     have:=Wg ⟨#[c]⟩ ⟨tl.toArray⟩ c z1 rq i (k+2*(A.1.take q).length) wr.drew Rz rfl Zo U.2.1 U.2.2 eB Yj hlen;rw[hl.R,U.1,mP]at this;have e1:(⟨tl.toArray⟩:ByteArray).data.toList=tl:=ik;rw[e1]at this;exact this
    have g1n:1<=Z.size:=eB;clear X J U M Y Zo YO sG
    go_wp2
    go_region_held3(λ_=>True)
     (first|trivial)
     (first
      |(go_at_call 79;refine zE.mono ?_;rintro e w6 ⟨rfl,M6⟩))
    all_goals
     have HW6:Hid _:=M6;clear zE M6
     go_wp2
     go_roundw
     case rel=>exact⟨q+1,eB,by go_num,HW6.out⟩
     case measure=>simp[fh];omega
  ·have yc:¬(q:Int)<(n:Int):=eB;have HW:Hid (iP w wr z (r.recv i s.data.toList) r.n):=by
    show iP _ _ _ _ _;refine adL.out _ ?_;have e1:A.1.take q=A.1:=aH (by have:=HN.out;omega);rw[e1]at X;exact X
   clear X
   go_wp2
   go_ret;exact⟨rfl,HW.out⟩
theorem Sr(q:lK)(w:ew)(h:0<=q.left/\q.left<=4):fc fe 84 #[.agg #[.int .i64 q.who,.bool q.both,.int .i64 q.left]] w λe w'=>
 e=ρ (.agg #[.int .i64 (iV q).who,.bool (iV q).both,.int .i64 (iV q).left])/\eH w w':=by
 have Z:=Go.Proofs.YtieklnlbljejdaaGreatDoor.VF q.who q.left q.both w h.1 eB;have e:Go.Proofs.YtieklnlbljejdaaGreatDoor.jj (q.who,q.both,q.left)=((iV q).who,(iV q).both,(iV q).left):=by
  unfold Go.Proofs.YtieklnlbljejdaaGreatDoor.jj iV;by_cases hl:q.left<=1;{simp[hl,nobody]};{simp[hl]}
 rw[e]at Z;exact Z
theorem tH(p:jI):p.tick.m=p.m/\p.tick.pe=p.pe/\p.tick.out.length<=p.out.length+1512:=by
 unfold jI.tick;have Z:=xd (jq p.L).2 {p with L:=(jq p.L).1};have h2:=Ac (jq p.L).2 {p with L:=(jq p.L).1};have h3:=Ii p.L;refine⟨Z.1,Z.2,?_⟩;have h4:({p with L:=(jq p.L).1}:jI).out.length=p.out.length:=rfl;omega
theorem Fj:∀(l:List (Int×PS)) (p:jI),(p.kU l).m=p.m/\(p.kU l).pe=p.pe
 |[],_=>⟨rfl,rfl⟩
 |x::l,p=>by
  have h:=Fj l (p.put 83 (rN x.1 x.2.1 x.2.2));exact⟨h.1.trans (Iv _ _ _),h.2.trans (sC _ _ _)⟩
theorem BJ(F:Int->Option PS):(lV F).length<=6:=by
 unfold lV;have:=dJ (λ(j:Nat)=>(F ((j:Int)+1)).map λq=>((j:Int)+1,q)) (List.range 6);simpa using this
theorem lM.tell(h:lM r)(i:Nat):lM (mX r i):=by
 unfold mX;simp only;refine h.jh i _ ?_ (λhi=> ?_);{split;{exact(Fj _ _).1.trans (Iv _ _ _)};{exact Iv _ _ _}};{have Z:=h.pe i hi;split;{rw[(Fj _ _).2,sC];exact Z};{rw[sC];exact Z}}
theorem Fit.tell(h:Fit r k)(i:Nat):Fit (mX r i) (k+1):=by
 unfold mX;simp only;have h1:=xS (r.P i) 72 [kc r.id,kc (r.P i).pe.who];refine h.grow i _ ?_;split;{have h2:=zi (lV (r.O i)) ((r.P i).put 72 [kc r.id,kc (r.P i).pe.who]);have h3:=BJ (r.O i);omega};{omega}
def jo(r:iW)(i:Nat):iW:=r.jh i (r.P i).tick
theorem lA(r:iW)(i:Nat):r.jj i=if((jo r i).P i).L.st≠9 then(jo r i).meet i nobody else mX ((jo r i).meet i (iV ((jo r i).P i).pe)) i:=rfl
theorem lM.jo {r:iW} (h:lM r)(i:Nat):lM (Rt.jo r i):=h.jh i _ (tH _).1 (λhi=>by rw[(tH _).2.1];exact h.pe i hi)
theorem Fit.jo {r:iW} {k:Nat} (h:Fit r k)(i:Nat):Fit (Rt.jo r i) (k+1):=h.grow i _ (Nat.le_trans (tH _).2.2 eB)
theorem Ss(h:lM r)(hf:Fit r k)(hi:i<r.n):(r.jj i).n=r.n/\lM (r.jj i)/\Fit (r.jj i) (k+2):=by
 rw[lA];have Z:=h.jo i;have f1:=hf.jo i;split;{exact⟨BF _ _ _,Z.meet i (oI.nobody Z.id.1),(f1.meet i _).mono eB⟩};{have Y:=(Z.pe i hi).tick Z.id.1;exact⟨BF _ _ _,(Z.meet i Y).tell i,(f1.meet i _).tell i⟩}
theorem BK {r:iW} {k:Nat} (h:lM r)(hf:Fit r k):∀q,q<=r.n->(r.jn q).n=r.n/\lM (r.jn q)/\Fit (r.jn q) (k+2*q)
 |0,_=>⟨rfl,h,hf⟩
 |q+1,hq=>by
  have ih:=BK h hf q eB;have:=Ss (i:=q) ih.2.1 ih.2.2 (by rw[ih.1];omega);exact⟨this.1.trans ih.1,this.2.1,this.2.2.mono eB⟩
theorem Sv(z:Zt)(r:iW)(k:Nat)(w:ew)(h:mM w z r)(Ff:jt w)(jb:lM r)(hf:Fit r k)(hk:k<=90000):
 fc fe 25 #[π (μ ⟨z.R,0,ν⟩)] w λe w'=>e=ρ (τ #[])/\iP w w' z r.tick r.n:=by
 have c1:=h.c1;have cl:=h.lt;have wj:=h.n3;obtain⟨n,hn⟩:=fq (r.n);have H0:Hid (iP w w z (r.jn 0) r.n):=iP.refl h;have Sn:Hid (∀wr rr,iP w wr z rr r.n->jt wr):=λwr rr hw=>hw.tab h rfl Ff;have RD:Hid (∀q,q<=r.n->(r.jn q).n=r.n/\lM (r.jn q)/\Fit (r.jn q) (k+2*q)):=BK jb hf;have JQ:Hid (r.tick=r.jn r.n):=rfl;rw[hn]at c1 wj H0 Sn RD JQ⊢;clear h jb hf Ff
 go_in
 go_wp2
 go_loopw [8] (λx wr=>∃q:Nat,q<=n/\x=ι κ q/\iP w wr z (r.jn q) n) (λx _=>n-(fh x).toNat)
 case atStart=>exact⟨0,Nat.zero_le _,rfl,H0.out⟩
 case round=>
  obtain⟨q,hq,rfl,X⟩:=hrel;by_cases kL:q<n
  ·have n9:(q:Int)<(n:Int):=eB;have hq0:(0:Int)<=(q:Int):=eB;obtain⟨a1,a2,a3⟩:=RD.out q eB;have hT:=Sn.out _ _ X;have d1:=X.c1;have dl:=X.lt;rw[a1]at d1;have HS:Hid (r.jn (q+1)=(r.jn q).jj q):=rfl;obtain⟨J,u⟩:=fq (r.jn q);rw[u]at X HS a1 a2 a3;have Yj:q<J.n:=eB;have zE:fc fe 82 #[π (μ ⟨z.g,q*71,ν⟩)] wr λe w'=>e=ρ (τ #[])/\iP w w' z (jo J q) n:=by
    refine X.call λV T hl=> ?_;rw[<-hl.g];refine(RP V.g (q*71) (V.B q) (V.v q) (J.P q) wr (T.pt q Yj) hT (by have:=a3.out q Yj;omega)).mono ?_;rintro e w1 ⟨rfl,hw⟩;have:=T.port Yj hw;rw[a1]at this;exact⟨rfl,this⟩
   have lq:=a2.jo q;have Vr:=a3.jo q;have H:(jo J q).n=n:=a1;obtain⟨r1,lE⟩:=fq (jo J q);have HE:Hid (J.jj q=if(r1.P q).L.st≠9 then r1.meet q nobody else mX (r1.meet q (iV (r1.P q).pe)) q):=by
    show _=_;rw[<-lE];exact lA J q
   rw[lE]at zE lq Vr H;have Q:Hid _:=lq;have HF1:Hid _:=Vr;clear u a2 a3 X hT lE lq Vr;go_wp2_with(fail);refine zE.mono ?_;rintro e A ⟨rfl,S⟩;have vP:q<r1.n:=eB;obtain⟨v1,Z⟩:=S.pt vP;have hop:=za z.g (q*71) (z.B q) v1 (r1.P q) A Z;have e1:=S.c1;have el:=S.lt;have gl:=S.Kt;rw[H]at e1;have g7:=Z.c67;have g8:=Z.c68;have g9:=Z.c69;clear zE Z d1 dl;go_wp2_with(fail);refine hop.mono ?_;rintro e W2 ⟨rfl,rfl⟩;clear hop;cases q9:((r1.P q).L.st==9)with
   |false=>
    have jx:(r1.P q).L.st≠9:=by simpa using q9
    have hm:fc fe 74 #[π (μ ⟨z.R,0,ν⟩),ι κ (q:Int),.agg #[ι κ 0,.bool false,ι κ 0]] A λe w'=>e=ρ (τ #[])/\iP w w' z (r.jn (q+1)) n:=by
     rw[HS.out,HE.out,ai jx];refine S.call λV T hl=> ?_;rw[<-hl.R,<-H];exact wX V r1 q nobody A T Q.out vP (oI.nobody Q.out.id.1)
    clear S jx;go_wp2_with(fail);refine hm.mono ?_;rintro e W3 ⟨rfl,yh⟩;have HW3:Hid _:=yh;clear hm yh
    go_wp2
    go_roundw
    case rel=>exact⟨q+1,eB,by go_num,HW3.out⟩
    case measure=>simp[fh];omega
   |true=>
    have h9:(r1.P q).L.st=9:=by simpa using q9
    have G:Hid (r.jn (q+1)=mX (r1.meet q (iV (r1.P q).pe)) q):=by
     show _=_;rw[HS.out,HE.out,af (by simp[h9])]
    have Y:=Q.out.pe q vP;have U:=Sr (r1.P q).pe A Y.left;have E:Hid (∀W,eH A W->fc fe 74 #[π (μ ⟨z.R,0,ν⟩),.int .i64 (q:Int),.agg #[.int .i64 (iV (r1.P q).pe).who,.bool (iV (r1.P q).pe).both,.int .i64 (iV (r1.P q).pe).left]] W λe w'=>e=ρ (τ #[])/\iP w w' z (r1.meet q (iV (r1.P q).pe)) n):=by
     intro W hW;refine(S.below H hW).call λV T hl=> ?_;rw[<-hl.R,<-H];exact wX V r1 q _ W T Q.out vP (Y.tick Q.out.id.1)
    have hte:Hid (∀W,iP w W z (r1.meet q (iV (r1.P q).pe)) n->fc fe 85 #[π (μ ⟨z.R,0,ν⟩),ι κ (q:Int)] W λe w'=>e=ρ (τ #[])/\iP w w' z (r.jn (q+1)) n):=by
     intro W hW;rw[G.out];refine hW.call λV T hl=> ?_;have pQ:(r1.meet q (iV (r1.P q).pe)).n=n:=(BF _ _ _).trans H;rw[<-hl.R,<-pQ];have adt:=Q.out.meet q (Y.tick Q.out.id.1);exact V7 V _ q W T adt eB (by have:=(HF1.out.meet q (iV (r1.P q).pe)).out q eB;omega)
    generalize (r1.P q).pe.who=p1 at g7 U;generalize (r1.P q).pe.both=p2 at g8 U;generalize (r1.P q).pe.left=p3 at g9 U;generalize (iV (r1.P q).pe).who=t1 at U E;generalize (iV (r1.P q).pe).both=t2 at U E;generalize (iV (r1.P q).pe).left=t3 at U E;clear S h9 Y G;go_wp2_with(fail);refine U.mono ?_;rintro e W2 ⟨rfl,b2⟩;have Dh:=E.out _ b2;clear U E;go_wp2_with(fail);refine Dh.mono ?_;rintro e W3 ⟨rfl,yh⟩;have ht3:=hte.out _ yh;clear Dh hte yh;go_wp2_with(fail);refine ht3.mono ?_;rintro e W4 ⟨rfl,vz⟩;have LP:Hid _:=vz;clear ht3 vz
    go_wp2
    go_roundw
    case rel=>exact⟨q+1,eB,by go_num,LP.out⟩
    case measure=>simp[fh];omega
  ·have yc:¬(q:Int)<(n:Int):=eB;have M:q=n:=eB;have HW:Hid (iP w wr z r.tick n):=by
    show iP _ _ _ _ _;rw[JQ.out,<-M];rw[<-M]at X;exact X
   clear X M
   go_wp2
   first|go_end0|refine iX rfl rfl ?_
   exact⟨rfl,HW.out⟩
theorem zm(p:jI)(up:Bool):((p.iZ up).1.m=p.m/\(p.iZ up).1.pe=p.pe)/\((p.iZ up).2≠0->(p.iZ up).1=p):=by
 unfold jI.iZ;generalize lr p.L (if up=true then 0 else 1)=e;simp only;by_cases h:e.2.2=0;{rw[af (by simp[h])];exact⟨xd _ _,λe=>absurd rfl e⟩};{rw[ai h];exact⟨⟨rfl,rfl⟩,λ_=>rfl⟩}
theorem Sw(z:Zt)(r:iW)(k:Nat)(t:Int)(tx:ByteArray)(w:ew)(h:mM w z r)(X:lM r)(hf:Fit r k)(T:k<=100000):
 fc fe 27 #[π (μ ⟨z.R,0,ν⟩),ι κ t,.string tx] w λe w'=>e=ρ (jB (kD r t tx.data.toList).2)/\iP w w' z (kD r t tx.data.toList).1 r.n:=by
 have hl:tx.data.toList.length=tx.size:=ik;by_cases V:t<1
 ·have Z:kD r t tx.data.toList=(r,1):=by unfold kD;rw[ai (.inl V)]
  rw[Z];have Y:Hid _:=iP.refl h;clear h X hf
  go_in
  go_wp2
  go_ret;exact⟨rfl,Y.out⟩
 ·by_cases U:6<t
  ·have Z:kD r t tx.data.toList=(r,1):=by unfold kD;rw[ai (.inr (.inl U))]
   rw[Z];have Y:Hid _:=iP.refl h;clear h X hf
   go_in
   go_wp2
   go_ret;exact⟨rfl,Y.out⟩
  ·by_cases h3:(20:Int)<(tx.size:Int)
   ·have Z:kD r t tx.data.toList=(r,1):=by unfold kD;rw[ai (.inr (.inr eB))]
    rw[Z];have Y:Hid _:=iP.refl h;clear h X hf
    go_in
    go_wp2
    go_ret;exact⟨rfl,Y.out⟩
   ·have Z:kD r t tx.data.toList=(r.send (t,8,tx.data.toList),0):=by unfold kD;rw[af eB]
    rw[Z];have hs:=Fe z r k t 8 tx w h X hf T eB eB eB;clear h X hf
    go_in
    go_wp2_with(fail);refine hs.mono ?_;rintro e w1 ⟨rfl,S⟩;clear hs
    go_wp2
    go_ret;exact⟨rfl,S⟩
theorem Sx(up:Bool)(z:Zt)(r:iW)(i k:Nat)(w:ew)(h:mM w z r)(H:jt w)(Q:lM r)(hf:Fit r k)(hk:k<=100000)(hi:i<r.n):
 fc fe 20 #[π (μ ⟨z.R,0,ν⟩),ι κ (i:Int),.bool up] w λe w'=>e=ρ (jB (r.iZ i up).2)/\iP w w' z (r.iZ i up).1 r.n:=by
 have hh:=EV z r i w h;rw[Ag hi]at hh;have ll:(i:Int)<(r.n:Int):=eB;have PH:(0:Int)<=(i:Int):=eB;have c1:=h.c1;have cl:=h.lt;have gl:=h.Kt;have Z:=RQ up z.g (i*71) (z.B i) (z.v i) (r.P i) w (h.pt i hi) H (by have:=hf.out i hi;omega);have X:r.iZ i up=if((r.P i).iZ up).2≠0 then(r,((r.P i).iZ up).2)else((r.jh i ((r.P i).iZ up).1).meet i nobody,0):=rfl
 have Y:=(zm (r.P i) up).1;have M:=(zm (r.P i) up).2;have vN:r.jh i (r.P i)=r:=by
  have:lF r.P i (r.P i)=r.P:=by
   funext x
   unfold lF;by_cases e:x=i;{simp[e]};{simp[e]}
  show({r with P:=lF r.P i (r.P i)}:iW)=r;rw[this]
 obtain⟨u,J⟩:=fq (((r.P i).iZ up).1);obtain⟨f,V⟩:=fq (((r.P i).iZ up).2);rw[J,V]at Z X;rw[J]at Y M;rw[V]at M;have G:Hid _:=h;have A:Hid (lM (r.jh i u)):=Q.jh i _ Y.1 (λhi=>by rw[Y.2];exact Q.pe i hi);clear h Q hf H;by_cases S:f=0
 ·subst S;rw[af ik]at X;rw[X];have e0:jB 0=η:=rfl;rw[e0]at Z⊢
  go_in
  go_wp2_with(fail);refine hh.mono ?_;rintro e w0 ⟨rfl,rfl⟩;clear hh;go_wp2_with(fail);refine Z.mono ?_;rintro e w1 ⟨rfl,T⟩;have U:=G.out.port hi T;have E:fc fe 74 #[π (μ ⟨z.R,0,ν⟩),ι κ (i:Int),.agg #[ι κ 0,.bool false,ι κ 0]] w1 λe w'=>e=ρ (τ #[])/\iP w w' z ((r.jh i u).meet i nobody) r.n:=by
   refine U.call λz1 R1 hl=> ?_;rw[<-hl.R];exact wX z1 _ i nobody w1 R1 A.out hi (oI.nobody A.out.id.1)
  clear Z T U;go_wp2_with(fail);refine E.mono ?_;rintro e w2 ⟨rfl,wi⟩;clear E
  go_wp2
  go_ret;exact⟨rfl,wi⟩
 ·rw[ai S]at X;rw[X];have hb:=M S;have ee:jB f=.iface 128 (ι κ (f:Int)):=by simp only[jB];rw[af S]
  rw[ee]at Z⊢
  go_in
  go_wp2_with(fail);refine hh.mono ?_;rintro e w0 ⟨rfl,rfl⟩;clear hh;go_wp2_with(fail);refine Z.mono ?_;rintro e w1 ⟨rfl,T⟩;have U:=G.out.port hi T;rw[hb,vN]at U;clear Z T
  go_wp2
  go_ret;exact⟨rfl,U⟩
theorem Sy(z:Zt)(r:iW)(w:ew)(h:mM w z r):
 fc fe 32 #[π (μ ⟨z.R,0,ν⟩)] w λe w'=>e=ρ z.iv/\Row w' 3 z.iv r.kx.length (sA r.kx)/\iP w w' z {r with kx:=[] } r.n:=by
 have c3:=h.c3;have cl:=h.lt;have f3:=h.oE.frozen 3;have Z:Hid _:=h;clear h
 go_in
 go_wp2
 go_ret;refine⟨rfl,Z.out.ib.keep ik (λk Y=>aq _ _ _ k (by show k≠z.R;exact(Z.out.sI k Y).1)),?_⟩;exact Z.out.own (σ ν 0 0) [] r.drop ik rfl rfl rfl (λk _ X _=>aq _ _ _ k X) (Z.out.oE.set 3 _) (Row.nil _ 3) (λk Y=>by simp[eD]at Y)
theorem Wn(z:Zt)(r:iW)(i:Nat)(w:ew)(h:mM w z r)(hi:i<r.n):
 fc fe 29 #[π (μ ⟨z.R,0,ν⟩),ι κ (i:Int)] w λe w'=>e=ρ (τ #[.string ⟨(r.P i).out.toArray⟩,η])/\iP w w' z (r.out i) r.n:=by
 have hh:=EV z r i w h;rw[Ag hi]at hh;have ll:(i:Int)<(r.n:Int):=eB;have PH:(0:Int)<=(i:Int):=eB;have c1:=h.c1;have cl:=h.lt;have gl:=h.Kt;have Z:=h.pt i hi;have X:=Z.c70;have f70:=Z.fz 70 eF;have U:=Row.back Z.ou 140 9 5 underlying140 underlying5 underlying9;have V:mc w (w.setCell ⟨z.g,i*71+70,ν⟩ (σ ν 0 0)) z.g (i*71) (z.B i) (z.v i) {r.P i with out:=[] }:=by
  obtain⟨F,hC,hF⟩:=Z.xR;have Y:=(lJ.refl w z.g (i*71) 71).set (i*71+70) eB eB (σ ν 0 0);refine⟨⟨σ ν 0 0,⟨⟨F,(hC.set 70 eF (σ ν 0 0)).congr (PZ (r.P i) (z.B i) (z.v i) (σ ν 0 0) F []),hF⟩,Z.lk.keep (Y.block _ Z.lk.lt (λe=>Z.gB e.symm)),Row.nil _ 1,ik,Z.ok,Z.gB,by simp[eD],by simp[eD],⟨Z.nz.1,Z.nz.2.1,by simp[eD]⟩⟩,λk Y=>by simp[eD]at Y⟩,⟨Y.os,Y.tape,Y.output,Y.size,λj Q S _ _=>Y.block j Q S,Y.cell,Y.fz⟩⟩
 have T:Hid (iP w (w.setCell ⟨z.g,i*71+70,ν⟩ (σ ν 0 0)) z (r.out i) r.n):=h.port hi V;generalize (r.P i).out=L at U⊢;generalize z.v i=v at X U;clear h Z V
 go_in
 go_wp2_with(fail);refine hh.mono ?_;rintro e w0 ⟨rfl,rfl⟩;clear hh
 go_wp2
 go_ret2
 exact⟨rfl,T.out⟩
def BL(m mg:Int):jI:=⟨m,⟨255,mg,255,mg,0,0,1,255,0,0,0⟩,([],false,false),nobody,[]⟩
theorem LQ(m mg:Int)(w:ew)(hT:jt w)(hm:1<=m/\m<=20)(hg:1<=mg/\mg<=255):
 fc fe 68 #[ι κ m,ι κ mg] w λe w'=>∃B,e=ρ (τ #[.agg (rowOf 71 (xQ (BL m mg) B (σ ν 0 0) N5)),η])/\Lk w' B ((BL m mg).L.c (σ ν 0 0))/\w.heap.size<B/\eH w w':=by
 have hz:=Oj;have sG:=Ok;obtain⟨Z,u⟩:=fq (rowOf 71 zPt);have Q:Z.size=71:=by rw[<-u];exact mW _ _
 rw[u]at hz;have al9:¬Z= #[] :=λe=>by rw[e]at Q;simp at Q
 have ba:=gK w (γ Z 142);have xJ:ji (w.alloc (γ Z 142)) w.heap.size Z 142:=ji.new w _ _;have TN:=hT.below ba;have U:=YY 255 mg (w.alloc (γ Z 142)) eB eB eB eB;obtain⟨W0,nL⟩:=fq (w.alloc (γ Z 142));obtain⟨N,h⟩:=fq (w.heap.size);have hNs:N<W0.heap.size:=by rw[<-nL,<-h];simp
 rw[nL]at ba xJ U TN;rw[h]at xJ;have g1:¬m<1:=eB;have g2:¬20<m:=eB;have DN:Hid _:=nL;have A:Hid _:=h;have HB0:Hid _:=xJ;have HZ:Hid _:=u;clear nL h xJ u
 go_in
 go_wp2_with(fail);rw[DN.out,A.out];refine U.mono ?_;rintro e w1 ⟨B,rfl,hL,hBg,b1⟩;have G:=VQ B 255 mg 255 mg 0 0 255 0 0 0 (σ ν 0 0) w1 (TN.below b1) hL;clear U hL;go_wp2_with(fail);refine G.mono ?_;rintro e T ⟨rfl,J,X⟩;obtain⟨D,hD⟩:=fq ((Z.setIfInBounds 0 (ι .i64 m)).setIfInBounds 1 (Value.pointer (μ ⟨B,0,ν⟩)));have S:D.size=71:=by rw[<-hD];simp[Q]
 have M:Hid (D=rowOf 71 (xQ (BL m mg) B (σ ν 0 0) N5)):=by
  show _=_;rw[<-hD,<-HZ.out];apply bS;intro j;by_cases E:j<71;{rw[tF 71 _ j E,bu,bu,tF 71 _ j E];simp only[ia,mW];by_cases e1:j=1;{subst e1;simp[xQ]};{by_cases e0:j=0;{subst e0;simp[xQ,BL]};{rw[af (λe=>e1 e.symm),af (λe=>e0 e.symm)];congr 1;unfold zPt xQ;simp only[e0,e1,if_false];rfl}}};{rw[bh (by simp[mW];omega),bh (by rw[mW];omega)]}
 have pK:D.all (·.oneCell')=true:=by rw[M.out];exact JI DH.zero rfl
 have H:N≠B:=eB;have V:ji T N Z 142:=by
  have Y:=ji.below HB0.out b1;exact Y.keep (X.block N Y.lt (λe=>H (Option.some.inj e)))
 have hR:ji (T.setRow N D) N D 142:=V.setRow;have Yk:Lk (T.setRow N D) B ((BL m mg).L.c (σ ν 0 0)):=J.keep (by simp only[World.setRow];rw[cO,af H]);have l6:=bV (P:=fe) (T.setRow N D) N 142 142 D (0,0) _ hR underlying142 rfl (by rw[S];exact sG);have iY:Hid (eH w (T.setRow N D)):=by
  have Y:=fP ba b1;have h2:eH w T:=⟨X.os.trans Y.os,X.tape.trans Y.tape,X.output.trans Y.output,Nat.le_trans Y.size X.size,λj E=>(X.block j (Nat.lt_of_lt_of_le E Y.size) (λe=>by have e2:j=B:=Option.some.inj e;have:=A.out;omega)).trans (Y.block j E)⟩
  exact Go.Proofs.YtieklnlbljejdaaGreatDoor.pg h2 (by have:=A.out;omega) D
 have HL3:Hid _:=Yk;clear G J X Yk hR;go_wp2_with(first
  |(rw[hD];refine oG _ rfl (.tmp 4) (.tmp 29) 142 rfl rfl N Z D rfl rfl V (by rw[Q,S]) (by rw[S];exact sG) pK ?_)
  |(refine oG _ rfl (.tmp 4) (.tmp 29) 142 rfl rfl N Z D rfl rfl V (by rw[Q,S]) (by rw[S];exact sG) pK ?_))
 refine aE (v:=τ #[.agg D,η]) (by simp[results,results68,asAddr,l6]) rfl ?_;exact⟨B,by rw[M.out],HL3.out,by have:=A.out;omega,iY.out⟩
theorem Am:∀(l:List eA) (k:Nat) (base:Array eA) (j:Nat),k+l.length<=base.size->((l.zipIdx k).foldl (λcs (x:eA×Nat)=>cs.setIfInBounds x.2 x.1) base)[j]? =if k<=j/\j<k+l.length then l[j-k]? else base[j]?
 |[],k,base,j,_=>by
  rw[af ik];rfl
 |x::l,k,base,j,h=>by
  have X:k+1+l.length<=base.size:=by simp at h;omega
  rw[List.zipIdx_cons,bI,Am l (k+1) (base.setIfInBounds k x) j (by rw[ia];exact X)];by_cases Z:k+1<=j/\j<k+1+l.length;{rw[ai Z,ai (by simp;omega),show j-k=(j-(k+1))+1 by omega,List.getElem?_cons_succ]};{rw[af Z,bu];by_cases Y:k=j;{subst Y;rw[ai rfl,ai eB,ai ik];simp};{rw[af Y,af (by simp;omega)]}}
theorem Fk(D base:Array eA)(h:base.size=D.size)(n:Nat)(Z:D.size=n):Array.foldl (λcs (x:eA×Nat)=>cs.setIfInBounds x.2 x.1) base D.zipIdx 0 n=D:=by
 have hs:D.zipIdx.size=n:=by rw[Array.size_zipIdx,Z]
 rw[<-hs,<-Array.foldl_toList,Array.toList_zipIdx];apply bS;intro j;rw[Am D.toList 0 base j (by simp;omega)];by_cases hj:j<D.size;{rw[ai (by simp;omega)];simp};{rw[af (by simp;omega),bh eB,bh eB]}
theorem Wo:(fe.info? 142).map (λi=>(i.zero,i.size,i.bytes))=μ (μ (.agg (rowOf 71 zPt)),71,144):=ga
def zn(id:Int)(ms:Nat->Int)(B:Nat->Nat):Nat->List eA
 |0=>[]
 |q+1=>zn id ms B q++(rowOf 71 (xQ (BL (ms q) (8*id+q+1)) (B q) (.slice none 0 0) N5)).toList
theorem xf(id:Int)(ms:Nat->Int)(B:Nat->Nat):∀q,(zn id ms B q).length=q*71
 |0=>rfl
 |q+1=>by
  unfold zn;rw[aA,xf id ms B q,ic,mW];omega
theorem Qg(id:Int)(ms:Nat->Int)(B:Nat->Nat):∀(q i j:Nat),i<q->j<71->(zn id ms B q)[i*71+j]? =μ (xQ (BL (ms i) (8*id+i+1)) (B i) (σ ν 0 0) N5 j)
 |0,i,j,h,_=>eB
 |q+1,i,j,h,hj=>by
  unfold zn;have hl:=xf id ms B q;by_cases e:i=q;{subst e;rw[bB eB,hl,show i*71+j-i*71=j by omega];simpa using tF 71 (xQ (BL (ms i) (8*id+i+1)) (B i) (σ ν 0 0) N5) j hj};{rw[bH eB];exact Qg id ms B q i j eB hj}
structure Making(wb W:ew)(id:Int)(ms:Nat->Int)(q R Bb:Nat)(B:Nat->Nat)(v:eA):Prop where
 oE:ji W R #[ι κ id,v,π (μ ⟨Bb,0,ν⟩),σ ν 0 0,ι κ 0] 135
 row:Row W 71 v q (zn id ms B q)
 lk:∀i,i<q->Lk W (B i) ((BL (ms i) (8*id+i+1)).L.c (σ ν 0 0))
 ox:eH wb W
 gR:wb.heap.size<=R
 gB:∀i,i<q->wb.heap.size<=B i/\B i≠R/\v.ownBlock≠μ (B i)
 gV:∀k,v.ownBlock=μ k->wb.heap.size<=k/\k≠R
 dis:∀i j,i<q->j<q->i≠j->B i≠B j
theorem Making.below {wb W W':ew} {id:Int} {ms:Nat->Int} {q R Bb:Nat} {B:Nat->Nat} {v:eA} (h:Making wb W id ms q R Bb B v)(hb:eH W W'):Making wb W' id ms q R Bb B v:=
 ⟨h.oE.below hb,h.row.below hb,λi hi=>(h.lk i hi).below hb,fP h.ox hb,h.gR,h.gB,h.gV,h.dis⟩
theorem Fm(id:Int)(ms:Nat->Int)(B B':Nat->Nat):∀q,(∀i,i<q->B i=B' i)->zn id ms B q=zn id ms B' q
 |0,_=>rfl
 |q+1,h=>by
  unfold zn;rw[Fm id ms B B' q (λi hi=>h i eB),h q eB]
theorem Fp(w:ew)(D:Array eA)(t:TypeId)(g:Nat)(Z:w.heap.size=g):∀(j:Nat) (u:eA),D.toList[j]? =μ u->(w.alloc (γ D t)).drew.cell? ((⟨g,0,ν⟩:Addr).add j)=μ u:=by
 subst Z;intro j u Y;rw[add_plain];show(w.alloc (γ D t)).cell? _=_;rw[ak];simpa using Y
theorem Making.add {W2 x1:ew} {q:Nat} {B' g' jH:Nat} {D:Array eA} (h:Making wb W2 id ms q RR Bb B v)(hD:rowOf 71 (xQ (BL (ms q) (8*id+q+1)) B' (σ ν 0 0) N5)=D)
 (M:Lk W2 B' ((BL (ms q) (8*id+q+1)).L.c (σ ν 0 0))) (su:wb.heap.size<=B') (E:B'≠RR) (A:v.ownBlock≠μ B') (u:∀i,i<q->B i≠B')
 (hr:Row x1 71 (σ (μ ⟨g',0,ν⟩) (q+1) jH) (q+1) (zn id ms B q++D.toList)) (X:(W2.alloc o).drew.grownBy x1 v.ownBlock) (jA:v.ownBlock=μ g' \/(W2.alloc o).drew.heap.size<=g'):
 Making wb (x1.setCell ⟨RR,1,ν⟩ (σ (μ ⟨g',0,ν⟩) (q+1) jH)) id ms (q+1) RR Bb (λi=>if i=q then B' else B i) (σ (μ ⟨g',0,ν⟩) (q+1) jH):=by
 have G:v.ownBlock=μ g' \/W2.heap.size<=g':=jA.imp_right (λe=>Nat.le_trans (by show W2.heap.size<=(W2.alloc o).heap.size;simp) e);have hO:v.ownBlock≠μ RR:=λe=>(h.gV _ e).2 rfl;have S:∀k,k<W2.heap.size->v.ownBlock≠μ k->k≠RR->(x1.setCell ⟨RR,1,ν⟩ (σ (μ ⟨g',0,ν⟩) (q+1) jH)).heap[k]? =W2.heap[k]? :=by
  intro k Y Q h2;rw[aq _ _ _ k h2,X.block k (by show k<(W2.alloc o).heap.size;simp;omega) (λe=>Q e.symm)];exact aV W2 o k Y
 have sG:W2.heap.size<=x1.heap.size:=Nat.le_trans (by show W2.heap.size<=(W2.alloc o).heap.size;simp) X.size;have hRl:=h.oE.lt;have ZD:g'≠RR:=by
  intro e;rcases G with Z|Z
  {exact hO (by rw[Z,e])};{omega}
 have H:=h.ox.size;refine⟨(uP h.oE X hO).set 1 _,?_,λi hi=> ?_,⟨X.os.trans h.ox.os,X.tape.trans h.ox.tape,X.output.trans h.ox.output,Nat.le_trans H (by simpa using sG),λk Y=> ?_⟩,h.gR,λi hi=> ?_,λk Y=> ?_,λi j hi hj J=> ?_⟩
 ·have Z:zn id ms (λi=>if i=q then B' else B i) (q+1)=zn id ms B q++D.toList:=by
   show zn id ms (λi=>if i=q then B' else B i) q++_=_;rw[Fm id ms _ B q (λi hi=>by simp[show i≠q by omega])];simp only[if_true];rw[hD]
  rw[Z];exact hr.keep ik (λk Y=>aq _ _ _ k (by
   have T:g'=k:=by simpa[eD]using Y
   show k≠RR;omega))
 {by_cases e:i=q;{subst e;simp only[if_true];exact M.keep (S B' M.lt A E)};{simp only[e,if_false];have hl:=h.lk i eB;exact hl.keep (S (B i) hl.lt (h.gB i eB).2.2 (h.gB i eB).2.1)}};{exact(S k eB (λe=>by have:=(h.gV k e).1;omega) (by have:=h.gR;omega)).trans (h.ox.block k Y)}
 ·have V:∀k,k<W2.heap.size->v.ownBlock≠μ k->eD (σ (μ ⟨g',0,ν⟩) (q+1) jH)≠μ k:=by
   intro k Y Q e;have T:g'=k:=by simpa[eD]using e
   rcases G with Z|Z
   {exact Q (by rw[Z,T])};{omega}
  by_cases e:i=q;{subst e;simp only[if_true];exact⟨su,E,V B' M.lt A⟩};{simp only[e,if_false];have hb:=h.gB i eB;exact⟨hb.1,hb.2.1,V (B i) (h.lk i eB).lt hb.2.2⟩}
 ·have T:g'=k:=by simpa[eD]using Y
  subst T;refine⟨?_,ZD⟩;rcases G with Z|Z
  {exact(h.gV _ Z).1};{omega}
 ·by_cases Z:i=q;{have U:j≠q:=eB;simp only[Z,U,if_true,if_false];exact λe=>u j eB e.symm};{by_cases U:j=q;{simp only[Z,U,if_true,if_false];exact u i eB};{simp only[Z,U,if_false];exact h.dis i j eB eB J}}
theorem ZI {m mg:Int} (hg:1<=mg/\mg<=255):AY (BL m mg).L:=⟨by show yg 1 0 0=true;decide,by show(0:Int)<=0;omega,by show(0:Int)<=255;omega,by show 0<=mg;omega,by show mg<=255;omega,by show 0<=mg;omega,by show mg<=255;omega⟩
def Ds(R g cap Bb:Nat)(B:Nat->Nat)(m:FM)(n:Nat):Zt:=⟨R,g,cap,B,λ_=>σ ν 0 0,Bb,{m with no:=λk=>m.no k \/k=R \/k=g \/ ∃i,i<n/\k=B i},σ ν 0 0⟩
theorem Ix {R cap:Nat} (h:(Ds R g cap Bb B m n).mine n k):k=R \/k=g \/ ∃i,i<n/\k=B i:=by
 rcases h with e|e|⟨i,hi,e|e⟩|e
 {exact .inl e};{exact .inr (.inl e)};{exact .inr (.inr ⟨i,hi,e⟩)};{simp[Ds,eD]at e};{simp[Ds,eD]at e}
theorem Making.done {W:ew} (h:Making wb W id ms n RR Bb B v)(G:1<=n/\n<=3)(pS:1<=id/\id<=6)(H:jt wb)
 (X:BR wb Bb m k (λx=>if x=id then μ (1,[])else ν) (λ_ x=>if x=id then μ (1,[])else ν)) (V:¬m.no Bb/\¬m.no m.g/\∀b,(b=m.bm \/b∈m.bs)->¬m.no b) (oP:m.bs.length=n):
 ∃g cap,v=σ (μ ⟨g,0,ν⟩) n cap/\mM W (Ds RR g cap Bb B m n) (jZ id n ms)/\wb.heap.size<=g:=by
 rcases h.row.2 with⟨_,h0⟩|⟨g,cap,rfl,E,u,arc,hc,hf⟩
 ·omega
 have Y:=h.gV g rfl;have h0:=H.lt;have adk:Bb<wb.heap.size:=by obtain⟨_,_,hF,_⟩:=X.ex;exact hF.lt
 have adl:m.g<wb.heap.size:=by obtain⟨_,_,hF,_⟩:=X.ex;exact hF.row.lt _ rfl
 have U:∀j,(j=RR \/j=g \/ ∃i,i<n/\j=B i)->wb.heap.size<=j/\j<W.heap.size:=by
  intro j Z;rcases Z with rfl|rfl|⟨i,hi,rfl⟩
  {exact⟨h.gR,h.oE.lt⟩};{exact⟨Y.1,E⟩};{exact⟨(h.gB i hi).1,(h.lk i hi).lt⟩}
 have A:=X.still h.ox.size (λj Z _=>h.ox.block j Z) V.1 V.2.1 V.2.2 (λj=>m.no j \/j=RR \/j=g \/ ∃i,i<n/\j=B i) (λj Z=>Z.imp_right (λe=>(U j e).1)) (λj Z=>Z.elim (λe=>Nat.lt_of_lt_of_le (X.Rl j e) h.ox.size) (λe=>(U j e).2));have hlen:=xf id ms B n;refine⟨g,cap,rfl,⟨G.1,G.2,u,pS,h.oE,λi hi=> ?_,Row.nil _ 3,A.six,oP,λj Z=>.inr (Ix Z),⟨λe=> ?_,λe=> ?_,λb hb e=> ?_⟩,⟨λe=>Y.2 e.symm,by have:=h.gR;show RR≠0;omega,λi hi=>⟨(h.gB i hi).2.1,by simp[Ds,eD]⟩⟩,λi j hi Z S=>⟨h.dis i j hi Z S,λk Q=>by simp[Ds,eD]at Q⟩,λi j _ _=>by simp[Ds,eD],λk Q=>by simp[Ds,eD]at Q,⟨by simp[Ds,eD],λb hb e=> ?_⟩⟩,Y.1⟩;{have M:i<n:=hi;have T:=h.gB i M;refine⟨⟨N5,λj Z=>⟨?_,?_⟩,DH.zero⟩,h.lk i M,Row.nil _ 1,by show(0:Nat)<=_;omega,ZI (m:=ms i) (mg:=8*id+i+1) eB,λe=>T.2.2 (by show μ g=μ (B i);rw[show g=B i from e]),by simp[Ds,eD],by simp[Ds,eD],⟨by show g≠0;omega,by show B i≠0;omega,by simp[Ds,eD]⟩⟩;{exact hc (i*71+j) _ (Qg id ms B n i j M Z)};{exact(hf (i*71+j) (by have:(i+1)*71<=cap*71:=Nat.mul_le_mul_right 71 eB;omega)).2}}
 ·rcases e with e|e
  {exact V.1 e};{have:=(U _ e).1;have J:wb.heap.size<=Bb:=this;omega}
 ·rcases e with e|e
  {exact V.2.1 e};{have:=(U _ e).1;have J:wb.heap.size<=m.g:=this;omega}
 ·rcases e with e|e
  {exact V.2.2 b hb e};{have h8:=(U b e).1;have J:=X.mlt b hb;omega}
 ·exact qD (H 0 0 eF eF) (X.maps b hb) e.symm
theorem Wr(id:Int)(b off n cap:Nat)(ms:Nat->Int)(w:ew)(hT:jt w)(pS:1<=id/\id<=6)(hn:1<=n/\n<=3)(hms:∀i,i<n->w.cell? ⟨b,off+i,ν⟩=μ (ι κ (ms i)))(hm:∀i,i<n->1<=ms i/\ms i<=20)(X:Nat->Prop)(hX:∀k,X k->k<w.heap.size):
 fc fe 17 #[ι κ id,σ (μ ⟨b,off,ν⟩) n cap] w λe w'=>∃z,e=ρ (τ #[π (μ ⟨z.R,0,ν⟩),η])/\mM w' z (jZ id n ms)/\eH w w'/\(∀k,z.mine n k->w.heap.size<=k)/\w.heap.size<=z.fm.bm/\(∀x∈z.fm.bs,w.heap.size<=x)/\∀k,X k->z.fm.no k:=by
 have hz:=Oj;have sG:=Ok;obtain⟨i0,hi,oN,nG,mS⟩:=aX Wo;obtain⟨Zp,TX⟩:=fq (rowOf 71 zPt);have RU:Zp.size=71:=by rw[<-TX];exact mW _ _
 rw[TX]at hz oN;have al9:¬Zp= #[] :=λe=>by rw[e]at RU;simp at RU
 have hnb:=U4 n w hn;have g1:¬id<1:=eB;have g2:¬6<id:=eB;clear TX
 go_in
 go_wp2_with(fail);refine hnb.mono ?_;rintro e w1 ⟨rfl,m,Da,su,b1,m1,m2,m3⟩;have su:=su.avoid X (λk e=>Nat.lt_of_lt_of_le (hX k e) b1.size);obtain⟨m',Vm⟩:∃m':FM,({m with no:=X}:FM)=m':=⟨_,rfl⟩
 have lL:m'.no=X:=by rw[<-Vm]
 have Da:m'.bs.length=n:=by rw[<-Vm];exact Da
 have m1:w.heap.size<=m'.bm:=by rw[<-Vm];exact m1
 have m3:∀x∈m'.bs,w.heap.size<=x:=by rw[<-Vm];exact m3
 have m2:w.heap.size<=m'.g:=by rw[<-Vm];exact m2
 rw[Vm]at su;have T9:=Lb (w.heap.size+1) m' 0 (λ_=>ν) (λ_ _=>ν) id 1 ν 0 0 [] w1 su (sW eB) ⟨rfl,.inl rfl⟩ (λ_=>rfl) eB (by unfold oK;rw[af eB];rfl);clear hnb;go_wp2_with(fail);refine T9.mono ?_;rintro e wb ⟨rfl,hBR,hKM⟩;clear T9;have bb:eH w wb:=jP.below b1 hKM m1 m3;have H0:Making wb (wb.alloc (γ #[ι κ id,σ ν 0 0,π (μ ⟨w.heap.size+1,0,ν⟩),σ ν 0 0,ι κ 0] 135)) id ms 0 wb.heap.size (w.heap.size+1) (λ_=>0) (σ ν 0 0):=⟨ji.new wb _ _,Row.nil _ _,λi hi=>eB,gK _ _,Nat.le_refl _,λi hi=>eB,λk hk=>by simp[eD]at hk,λi j hi=>eB⟩
 have Gw:∀W,eH wb W->∀i,i<n->W.cell? ⟨b,off+i,ν⟩=μ (ι κ (ms i)):=λW hW i hi=>by
  have hc:=(aj (a:=⟨b,off+i,ν⟩) (bb.block b (ag _ _ (hms i hi)))).trans (hms i hi);exact(aj (a:=⟨b,off+i,ν⟩) (hW.block b (ag _ _ hc))).trans hc
 have hTb:jt wb:=hT.below bb;have HBR:Hid _:=hBR;have Vs:Hid _:=bb;have HCM:Hid _:=Gw;have HH0:Hid _:=H0;have Q:Hid (w.heap.size<=m'.bm/\(∀x∈m'.bs,w.heap.size<=x)/\m'.bs.length=n/\(¬m'.no (w.heap.size+1)/\¬m'.no m'.g/\∀b,(b=m'.bm \/b∈m'.bs)->¬m'.no b)/\∀k,X k->m'.no k):=by
  refine⟨m1,m3,Da,⟨λe=> ?_,λe=> ?_,λb hb e=> ?_⟩,λk hk=>by rw[lL];exact hk⟩;{rw[lL]at e;have M:=hX _ e;omega};{rw[lL]at e;have M:=hX _ e;omega}
  ·rw[lL]at e;have M:=hX _ e;rcases hb with rfl|hb
   {omega};{have h2:=m3 b hb;omega}
 obtain⟨Bb,JR⟩:=fq (w.heap.size+1);rw[JR]at HH0 HBR Q;clear hBR bb Gw H0 b1 hKM su m1 m2 m3 Da hms lL Vm;go_wp2_with(fail)
 try rw[JR]
 obtain⟨RR,H⟩:=fq (wb.heap.size);rw[H]at HH0;rw[H];have HRR:Hid _:=H;have mP:=hn.1;have pQ:=hn.2;have ame:=pS.1;have adO:=pS.2;clear hn pS H
 go_loopw [39] (λx wr=>∃(q:Nat) (B:Nat->Nat) (v:eA),q<=n/\x=ι κ q/\Making wb wr id ms q RR Bb B v) (λx _=>n-(fh x).toNat)
 case atStart=>exact⟨0,_,_,Nat.zero_le _,rfl,HH0.out⟩
 case round=>
  obtain⟨q,B,v,hq,rfl,J⟩:=hrel;by_cases kL:q<n
  ·have n9:(q:Int)<(n:Int):=eB;have hq0:(0:Int)<=(q:Int):=eB;have hmc:=HCM.out _ J.ox q kL;have Da:=ag _ _ hmc;have hmq:=hm q kL;have hnp:=LQ (ms q) (8*id+q+1) wr (hTb.below J.ox) hmq eB;have HM:Hid _:=J;clear J;go_wp2_with(fail);refine hnp.mono ?_;rintro e w1 ⟨B',rfl,hLk,hBg,bN⟩;clear hnp;obtain⟨D,hD⟩:=fq (rowOf 71 (xQ (BL (ms q) (8*id+q+1)) B' (σ ν 0 0) N5));have E:D.size=71:=by rw[<-hD];exact mW _ _
   have pK:D.all (·.oneCell')=true:=by rw[<-hD];exact JI DH.zero rfl
   have hDl:D.toList.length=1*71:=by rw[ic,E]
   have abv:∀u∈D.toList,u.oneCell'=true:=λu hu=>(ct.1 pK) u (by simpa using hu);rw[hD];have jy:=dR w1 Zp D 142;have M1:=HM.out.below bN;have bA:=gK w1 (γ D 142);have A:=M1.below bA;have hV:ji (w1.alloc (γ D 142)) w1.heap.size D 142:=ji.new _ _ _;have adP:=hLk.below bA;go_wp2_with(refine oG _ rfl (.tmp 11) (.tmp 52) 142 rfl rfl w1.heap.size Zp D rfl rfl (ji.new _ _ _) (by rw[RU,E]) (by rw[E];exact sG) pK ?_;rw[jy]);obtain⟨W2,nK⟩:=fq (w1.alloc (γ D 142));obtain⟨Y,hY⟩:=fq (w1.heap.size);rw[nK]at A hV adP;rw[hY]at hV;rw[nK,hY];have hBf:B'<Y:=by rw[<-hY];exact hLk.lt
   have hMY:wb.heap.size<=B':=by have M:=HM.out.ox.size;omega
   have c1:W2.cell? ⟨RR,1,ν⟩=μ v:=A.oE.cell 1;have cl:=A.oE.lt;have oL:=A.oE;have jf:=A.row;have HO:Hid (v.ownBlock≠μ RR):=λe=>(A.gV _ e).2 rfl;have HJ:Hid _:=A;have ari:wr.heap.size<B':=hBg;have HOY:Hid (v.ownBlock≠μ Y):=λe=>by have M:=M1.row.lt Y e;omega
   have amg:RR<Y:=by have M:=M1.oE.lt;omega
   clear jy M1 bA A nK hLk bN;have hYR:Y≠RR:=by intro e;have M:=amg;omega
   have Sz:ji (W2.alloc (γ D 142)).drew Y D 142:=ji.below hV (jK (gK _ _));have c1b:(W2.alloc (γ D 142)).drew.cell? ⟨RR,1,ν⟩=μ v:=kV c1;have kC:∀T:ew,ji T Y D 142->(fR 142 (π (μ ⟨Y,0,ν⟩))).run fe T=.ok (.agg D) T:=λT hS=>by
    simp only[fR,Instr.sureAddr,Sem.run_bind,Sem.run_pure,Result.andThen];exact bV T Y 142 142 D (0,0) _ hS underlying142 rfl (by rw[E];exact sG)
   have m7:B'≠RR:=by have M:=HM.out.oE.lt;omega
   have r9:v.ownBlock≠μ B':=λe=>by have M:=HM.out.row.lt B' e;omega
   have OJ:∀i,i<q->B i≠B':=λi hi e=>by have M:=(HM.out.lk i hi).lt;omega
   have HD:Hid _:=hD;clear hD;refine cC (S:=λx=>ji x Y D 142) ga hV (λlW=> ?_);refine jD 0 (μ 57) rfl rfl ga ga ga (λ_ _ _ h=>h) (by rfl) (v:= ?_) ?_ jr ?_
   rotate_left
   ·intro T V
    (try dsimp only at V)
    go_simp
    try with_reducible rfl
   simp only[gQ,gS,gT,gU];refine jD 1 (μ 58) rfl rfl ga ga ga (λ_ _ _ h=>h) (by rfl) (v:= ?_) ?_ jr ?_
   rotate_left
   ·intro T V
    (try dsimp only at V)
    go_simp
    try with_reducible rfl
   simp only[gQ,gS,gT,gU];refine jD 2 (μ 59) rfl rfl ga ga ga (λ_ _ _ h=>h) (by rfl) (v:= ?_) ?_ jr ?_
   rotate_left
   ·intro T V
    (try dsimp only at V)
    go_simp
    try with_reducible rfl
   simp only[gQ,gS,gT,gU];refine jD 3 (μ 60) rfl rfl ga ga ga (λ_ _ _ h=>h) (by rfl) (v:= ?_) ?_ jr ?_
   rotate_left
   ·intro T V
    (try dsimp only at V)
    go_simp
    try with_reducible rfl
   simp only[gQ,gS,gT,gU];refine jD 5 (μ 62) rfl rfl ga ga ga (λ_ _ _ h=>h) (by rfl) (v:=.agg D) ?_ jr ?_;{intro T V;have h7:=kC T V;simp[execOp,Act.eval,h7]};simp only[gQ,gS,gT,gU];refine aQ (rs:=[4,6]) ga ik ?_;refine aI (o:=_) rfl (λK Z=> ?_) (aI (o:=_) rfl (λK Z=> ?_) aO)
   ·go_simp
    (try go_wp2_with(fail))
    refine Z.out _ _ (by exact hV) (λlW=> ?_);clear Z K;refine aQ (rs:=[6]) ga ik ?_;refine aI (o:=_) rfl (λK Z=> ?_) aO
    go_simp
    rw[Fk D _ (by rw[E];rfl) 71 E];refine Z.out _ _ (by exact Sz) (λlW=> ?_);clear Z K;refine aQ (rs:=[7]) ga ik ?_;refine aI (o:=_) rfl (λK Z=> ?_) aO;refine mE (by rfl) (.tmp 61) (.tmp 63) 133 (by rfl) 142 i0 (.agg Zp) 71 144 underlying133 hi oN nG mS RU eF v q (zn id ms B q) (by rfl) ((jf.alloc _).drew) _ 1 1 D.toList (by rfl) hDl eF (Fp _ _ _ _ rfl) abv (by unfold maxLen;omega) eB ?_;intro g' jH x1 lE G jR;have Nh:=uP oL G HO.out;have U:=uP hV G HOY.out;have f1:=Nh.frozen 1;have k1:x1.cell? ⟨RR,1,ν⟩=μ v:=Nh.cell 1;refine Z.out _ _ (by exact U) (λlW=> ?_);clear Z K;refine jD 8 (μ 65) rfl rfl ga ga ga (λ_ _ _ h=>h) (by rfl) (v:= ?_) ?_ jr ?_
    rotate_left
    ·intro T V
     (try dsimp only at V)
     go_simp
     try with_reducible rfl
    simp only[gQ,gS];refine jD 9 (μ 66) rfl rfl ga ga ga (λ_ _ _ h=>h) (by rfl) (v:= ?_) ?_ jr ?_
    rotate_left
    ·intro T V
     (try dsimp only at V)
     go_simp
     try with_reducible rfl
    simp only[gQ];refine aQ (rs:=[10]) ga ik ?_;refine aI (o:=_) rfl (λK Z=> ?_) aO
    go_simp
    (try go_wp2_with(fail))
    refine Z.out _ _ (by exact U.other hYR _) (λlW=> ?_);clear Z K;refine cV ga ?_ _;have HAdd:Hid _:=Making.add HJ.out HD.out adP hMY m7 r9 OJ lE G jR;clear lE G jR Nh U f1 k1
    go_wp2
    go_roundw
    case rel=>exact⟨q+1,_,_,eB,by go_num,HAdd.out⟩
    case measure=>simp[fh];omega
   ·go_simp
    rw[Fk D _ (by rw[E];rfl) 71 E];refine Z.out _ _ (by exact Sz) (λlW=> ?_);clear Z K;refine aQ (rs:=[4]) ga ik ?_;refine aI (o:=_) rfl (λK Z=> ?_) aO
    go_simp
    (try go_wp2_with(fail))
    refine Z.out _ _ (by exact Sz) (λlW=> ?_);clear Z K;refine aQ (rs:=[7]) ga ik ?_;refine aI (o:=_) rfl (λK Z=> ?_) aO;refine mE (by rfl) (.tmp 61) (.tmp 63) 133 (by rfl) 142 i0 (.agg Zp) 71 144 underlying133 hi oN nG mS RU eF v q (zn id ms B q) (by rfl) ((jf.alloc _).drew) _ 1 1 D.toList (by rfl) hDl eF (Fp _ _ _ _ rfl) abv (by unfold maxLen;omega) eB ?_;intro g' jH x1 lE G jR;have Nh:=uP oL G HO.out;have U:=uP hV G HOY.out;have f1:=Nh.frozen 1;have k1:x1.cell? ⟨RR,1,ν⟩=μ v:=Nh.cell 1;refine Z.out _ _ (by exact U) (λlW=> ?_);clear Z K;refine jD 8 (μ 65) rfl rfl ga ga ga (λ_ _ _ h=>h) (by rfl) (v:= ?_) ?_ jr ?_
    rotate_left
    ·intro T V
     (try dsimp only at V)
     go_simp
     try with_reducible rfl
    simp only[gQ,gS];refine jD 9 (μ 66) rfl rfl ga ga ga (λ_ _ _ h=>h) (by rfl) (v:= ?_) ?_ jr ?_
    rotate_left
    ·intro T V
     (try dsimp only at V)
     go_simp
     try with_reducible rfl
    simp only[gQ];refine aQ (rs:=[10]) ga ik ?_;refine aI (o:=_) rfl (λK Z=> ?_) aO
    go_simp
    (try go_wp2_with(fail))
    refine Z.out _ _ (by exact U.other hYR _) (λlW=> ?_);clear Z K;refine cV ga ?_ _;have HAdd:Hid _:=Making.add HJ.out HD.out adP hMY m7 r9 OJ lE G jR;clear lE G jR Nh U f1 k1
    go_wp2
    go_roundw
    case rel=>exact⟨q+1,_,_,eB,by go_num,HAdd.out⟩
    case measure=>simp[fh];omega
  ·have hqn:q=n:=eB;subst hqn;obtain⟨g,cp,hv,hR,QV⟩:=J.done ⟨mP,pQ⟩ ⟨ame,adO⟩ hTb HBR.out Q.out.2.2.2.1 Q.out.2.2.1;have HF:Hid (∃z:Zt,z.R=RR/\mM wr z (jZ id q ms)/\eH w wr/\(∀k,z.mine q k->w.heap.size<=k)/\w.heap.size<=z.fm.bm/\(∀x∈z.fm.bs,w.heap.size<=x)/\∀k,X k->z.fm.no k):=by
    refine⟨_,rfl,hR,fP Vs.out J.ox,λk hk=> ?_,Q.out.1,Q.out.2.1,λk hk=>.inl (Q.out.2.2.2.2 k hk)⟩;have hs:=Vs.out.size;rcases Ix hk with rfl|rfl|⟨i,hi,rfl⟩
    {have:=J.gR;omega};{omega};{have:=(J.gB i hi).1;omega}
   have yc:¬(q:Int)<(q:Int):=eB;clear J hR QV hv
   go_wp2
   go_ret2
   obtain⟨z,nG,mS⟩:=HF.out;exact⟨z,by rw[nG];rfl,mS⟩
theorem Qh:(fe.info? 3).map (λi=>(i.zero,i.size,i.bytes))=μ (μ (ι κ 0),1,8):=ga
def vR(ms:Nat->Int):Nat->List eA
 |0=>[]
 |q+1=>vR ms q++ [.int .i64 (ms q)]
theorem sQ(ms:Nat->Int):∀q,(vR ms q).length=q
 |0=>rfl
 |q+1=>by unfold vR;rw[aA,sQ ms q];rfl
theorem LR(ms:Nat->Int):∀(q i:Nat),i<q->(vR ms q)[i]? =μ (ι κ (ms i))
 |q+1,i,h=>by
  unfold vR;by_cases e:i<q;{rw[bH (by rw[sQ];exact e)];exact LR ms q i e};{have:i=q:=eB;subst this;rw[bB (by rw[sQ];exact Nat.le_refl _),sQ,Nat.sub_self];rfl}
theorem yB(N b i:Nat)(E:List (Int×Int×Int))(ms:Nat->Int)(w:ew)(hc:w.cell? ⟨N,2,ν⟩=μ (.map (μ b)))(hm:oU w b E)(hE:DL E)(hi6:i<6)(ht:∀p:Nat,p<3->(lg E ((i:Int)+1) (p:Int)).getD 1=ms p/\1<=ms p/\ms p<=20)(hT:jt w)(X:Nat->Prop)(hX:∀k,X k->k<w.heap.size):
 fc fe 96 #[π (μ ⟨N,0,ν⟩),ι κ ((i:Int)+1)] w λe w'=>∃z,e=ρ (τ #[π (μ ⟨z.R,0,ν⟩),η])/\mM w' z (jZ ((i:Int)+1) 3 ms)/\eH w w'/\(∀k,z.mine 3 k->w.heap.size<=k)/\w.heap.size<=z.fm.bm/\(∀x∈z.fm.bs,w.heap.size<=x)/\∀k,X k->z.fm.no k:=by
 obtain⟨i0,hi,oN,nG,mS⟩:=aX Qh;have Nl:=ag _ _ hc;have bl:b<w.heap.size:=by
  obtain⟨es,clock,h1,_⟩:=hm;exact(ay.1 h1).1
 have HL:Hid (∀W,eH w W->∀p:Nat,p<3->(Instr.lookup 184 (.map (μ b)) (.agg #[ι κ ((i:Int)+1),ι κ (p:Int)]) true).run fe W=.ok (τ #[ι κ ((lg E ((i:Int)+1) (p:Int)).getD 0),.bool (lg E ((i:Int)+1) (p:Int)).isSome]) W):=by
  intro W A p hp;exact oU.look (hm.keep (A.block b bl)) hE ⟨eB,eB,eB,eB⟩
 have HC:Hid (∀W,eH w W->W.cell? ⟨N,2,ν⟩=μ (.map (μ b))/\N<W.heap.size):=by
  intro W A;exact⟨(aj (a:=⟨N,2,ν⟩) (A.block N Nl)).trans hc,Nat.lt_of_lt_of_le Nl A.size⟩
 have HT:Hid _:=ht;have Sn:Hid _:=hT;clear hm hc ht hT
 go_in
 go_wp2
 go_loopw [6,10] (λv x wr=>∃q:Nat,q<=3/\x=ι κ q/\Row wr 1 v q (vR ms q)/\(∀k,v.ownBlock=μ k->w.heap.size<=k)/\eH w wr) (λ_ x _=>3-(fh x).toNat)
 case atStart=>exact⟨0,Nat.zero_le _,rfl,Row.nil _ _,λk Z=>by simp[eD]at Z,au _ _⟩
 case round=>
  obtain⟨q,hq,rfl,Y,jA,V⟩:=hrel;by_cases kL:q<3
  ·have n9:(q:Int)<3:=eB;have u:=HL.out wr V q kL;obtain⟨d2,dl⟩:=HC.out wr V;obtain⟨t1,t2,t3⟩:=HT.out q kL;have HR:Hid _:=Y;have G:Hid _:=jA;have U:Hid _:=V;clear jA V;cases h:lg E ((i:Int)+1) (q:Int)with
   |none=>
    rw[h]at u t1;have T1:Hid (ms q=1):=t1.symm;have e0:(Option.getD (ν:Option Int) 0)=0:=rfl;have e1:(Option.isSome (ν:Option Int))=false:=rfl;rw[e0,e1]at u;clear h t1;go_wp2_with(at_builtin;go_must(refine iU _ rfl (.tmp 26) (.tmp 28) 22 rfl 3 i0 (ι κ 0) 1 8 underlying22 hi oN nG mS rfl eF u6 q (vR ms q) rfl (Y.alloc _) _ 1 1 [ι κ 1] rfl rfl eF (rh _ _ _) (xI _ _) (by unfold maxLen;omega) eB ?_));intro T Q J S M H;have HN:Hid (Row J 1 (σ (μ ⟨T,0,ν⟩) (q+1) Q) (q+1) (vR ms (q+1))/\(∀k,eD (σ (μ ⟨T,0,ν⟩) (q+1) Q)=μ k->w.heap.size<=k)/\eH w J):=by
     have hs:=U.out.size;refine⟨by unfold vR;rw[T1.out];exact S,λk Z=> ?_,?_⟩
     ·have:T=k:=by simpa[eD]using Z
      subst this;rcases H with e|e
      {exact G.out _ e};{have:(wr.alloc (γ #[ι κ 1] 3)).heap.size=wr.heap.size+1:=ik;omega}
     ·exact(U.out.alloc hs _).grown M (by simp;omega) (λk Z=>G.out k (by rw[<-Z]))
    clear S M H Y
    go_wp2
    go_roundw
    case rel=>exact⟨q+1,eB,by go_num,HN.out⟩
    case measure=>simp[fh];omega
   |some m=>
    rw[h]at u t1;have T1:Hid (ms q=m):=t1.symm;have e0:(Option.getD (μ m) 0)=m:=rfl;have e1:(Option.isSome (μ m))=true:=rfl;rw[e0,e1]at u;clear h t1;go_wp2_with(at_builtin;go_must(refine iU _ rfl (.tmp 26) (.tmp 28) 22 rfl 3 i0 (ι κ 0) 1 8 underlying22 hi oN nG mS rfl eF u6 q (vR ms q) rfl (Y.alloc _) _ 1 1 [ι κ m] rfl rfl eF (rh _ _ _) (xI _ _) (by unfold maxLen;omega) eB ?_));intro T Q J S M H;have HN:Hid (Row J 1 (σ (μ ⟨T,0,ν⟩) (q+1) Q) (q+1) (vR ms (q+1))/\(∀k,eD (σ (μ ⟨T,0,ν⟩) (q+1) Q)=μ k->w.heap.size<=k)/\eH w J):=by
     have hs:=U.out.size;refine⟨by unfold vR;rw[T1.out];exact S,λk Z=> ?_,?_⟩
     ·have:T=k:=by simpa[eD]using Z
      subst this;rcases H with e|e
      {exact G.out _ e};{have:(wr.alloc (γ #[ι κ m] 3)).heap.size=wr.heap.size+1:=ik;omega}
     ·exact(U.out.alloc hs _).grown M (by simp;omega) (λk Z=>G.out k (by rw[<-Z]))
    clear S M H Y
    go_wp2
    go_roundw
    case rel=>exact⟨q+1,eB,by go_num,HN.out⟩
    case measure=>simp[fh];omega
  ·obtain rfl:q=3:=eB;have S:=Y;have Zk:∃g cap,u6=σ (μ ⟨g,0,ν⟩) 3 cap:=by
    rcases Y.2 with⟨_,e2⟩|⟨g,cap,e,_⟩
    {omega};{exact⟨g,cap,e⟩}
   obtain⟨g,cap,rfl⟩:=Zk;have jy:=Wr ((i:Int)+1) g 0 3 cap ms wr (jt.below (w:=w) Sn.out V) eB eB (λj hj=>by
    have:=Row.cell Y j _ (LR ms 3 j hj);rw[Nat.zero_add];exact this) (λj hj=>(HT.out j hj).2) X (λk Z=>Nat.lt_of_lt_of_le (hX k Z) V.size)
   have U:Hid _:=V;have h33:((3:Nat):Int)=3:=rfl;clear Y jA V S;go_wp2_with(fail);refine jy.mono ?_;rintro e w1 ⟨z,rfl,hz⟩;have HZ:Hid _:=hz;clear jy hz
   go_wp2
   go_ret2
   have hs:=U.out.size;obtain⟨z1,z2,z3,z4,z5,z6⟩:=HZ.out;exact⟨z,rfl,z1,fP U.out z2,λk Z=>Nat.le_trans hs (z3 k Z),Nat.le_trans hs z4,λx hx=>Nat.le_trans hs (z5 x hx),z6⟩
structure Idle(p:jI):Prop where
 st:p.L.st=1
 pe:p.pe=nobody
 out:p.out=[]
structure jT(r r':iW)(k:Nat):Prop where
 n:r'.n=r.n
 id:r'.id=r.id
 lo:r.drop<=r'.drop
 hi:r'.drop<=r.drop+k
theorem jT.refl(r:iW):jT r r 0:=⟨rfl,rfl,Int.le_refl _,eB⟩
theorem jT.mono(h:jT r r' k)(hl:k<=l):jT r r' l:=⟨h.n,h.id,h.lo,by have:=h.hi;omega⟩
theorem jT.trans {a b c:iW} {k l:Nat} (h:jT a b k)(g:jT b c l):jT a c (k+l):=⟨g.n.trans h.n,g.id.trans h.id,Int.le_trans h.lo g.lo,by have:=h.hi;have:=g.hi;omega⟩
theorem jT.xU(Z:r'.n=r.n)(hi:r'.id=r.id)(hd:r'.drop=r.drop):jT r r' 0:=⟨Z,hi,eB,eB⟩
theorem jT.jh(r:iW)(i:Nat)(p:jI):jT r (r.jh i p) 0:=jT.xU rfl rfl rfl
theorem jT.meet(r:iW)(i:Nat)(q:lK):jT r (r.meet i q) 0:=by
 obtain⟨_,Z,Y,_⟩:=nr r i q;exact jT.xU Y (DM _ _ _) Z
theorem jT.behind(r:iW)(s:Int):jT r (r.behind s) 0:=by
 obtain⟨_,Z,Y,_⟩:=oV r s;exact jT.xU Y (BD _ _) Z
theorem jT.send(r:iW)(t:zD):jT r (r.send t) 1:=by
 unfold iW.send;split;{exact jT.mono (k:=0) (jT.xU rfl rfl rfl) eB};{split;{exact⟨rfl,rfl,by simp;omega,ik⟩};{exact(jT.jh _ _ _).mono eB}}
theorem jT.state(r:iW)(i:Nat)(l:List UInt8):jT r (jw r i l) 0:=by
 unfold jw;simp only;split;{exact jT.refl r};{split;{exact jT.behind _ _};{split<;>exact jT.xU rfl rfl rfl}}
theorem jT.link(r:iW)(i:Nat)(c:UInt8)(s:List UInt8):jT r (kg r i c s) 0:=by
 unfold kg;split;{exact jT.jh _ _ _};{exact jT.refl r}
theorem jT.rest(r:iW)(i:Nat)(c:UInt8)(s:List UInt8):jT r (mO r i c s) 1:=by
 unfold mO;split;{split;{exact(jT.meet _ _ _).mono eB};{exact(jT.refl r).mono eB}};{split;{exact(jT.state _ _ _).mono eB};{split;{unfold kQ;simp only;split<;>exact jT.mono (k:=0) (jT.xU rfl rfl rfl) eB};{split;{unfold rS;split;{exact jT.send _ _};{exact(jT.refl r).mono eB}};{exact(jT.refl r).mono eB}}}}
theorem jT.take(r:iW)(i:Nat)(c:UInt8)(s:List UInt8):jT r (r.take i c s) 1:=by
 rw[l7];have Z:=jT.link r i c s;split;{exact(Z.trans (jT.meet _ _ _)).mono eB};{exact(Z.trans (jT.rest _ i c s)).mono eB}
theorem jT.takes:∀(l:List (List UInt8)) (r:iW) (i:Nat),jT r (r.takes i l) l.length
 |[],r,_=>jT.refl r
 |t::l,r,i=>by
  show jT r ((jY r i t).takes i l) (l.length+1);have Y:=jT.takes l (jY r i t) i;have Z:jT r (jY r i t) 1:=by
   cases t with
   |nil=>exact jT.mono (jT.refl r) eB
   |cons c s=>exact jT.take r i c s
  exact jT.mono (Z.trans Y) eB
theorem jT.recv(r:iW)(i:Nat)(l:List UInt8):jT r (r.recv i l) l.length:=by
 unfold iW.recv;simp only;have h:=(jT.jh r i {r.P i with rd:=(kN (r.P i).rd l).2.2}).trans (jT.takes (kN (r.P i).rd l).1 _ i);refine h.mono ?_;have:=DI (r.P i).rd l;omega
theorem jT.iZ(r:iW)(i:Nat)(up:Bool):jT r (r.iZ i up).1 0:=by
 unfold iW.iZ;simp only;split;{exact jT.refl r};{exact((jT.jh r i _).trans (jT.meet _ _ _)).mono eB}
theorem jT.jj(r:iW)(i:Nat):jT r (r.jj i) 0:=by
 rw[lA];have Z:jT r (jo r i) 0:=jT.jh _ _ _;split;{exact Z.trans (jT.meet _ _ _)};{exact(Z.trans (jT.meet _ i _)).trans (jT.jh _ _ _)}
theorem jT.jn(r:iW):∀q,jT r (r.jn q) 0
 |0=>jT.refl r
 |q+1=>(jT.jn r q).trans (jT.jj _ _)
theorem jT.kD(r:iW)(t:Int)(tx:List UInt8):jT r (kD r t tx).1 1:=by
 unfold Rt.kD;split;{exact jT.mono (k:=0) (jT.refl r) eB};{show jT r (r.send (t,8,tx)) 1;exact jT.send r (t,8,tx)}
theorem JT {m:Nat} (h:lM r)(hf:Fit r k)(i:Nat)(A:List (List UInt8))(rd:kP)(hA:A.length<=m):lM ((r.jh i {r.P i with rd:=rd}).takes i A)/\Fit ((r.jh i {r.P i with rd:=rd}).takes i A) (k+2*m):=by
 have Y:lM (r.jh i {r.P i with rd:=rd}):=h.jh i _ rfl (λhi=>h.pe i hi);have f1:Fit (r.jh i {r.P i with rd:=rd}) k:=hf.jh i _ (λhi=>hf.out i hi);have Z:=BI A Y f1 i;exact⟨Z.2.1,Z.2.2.mono eB⟩
theorem Ws(h:lM r)(hf:Fit r k)(i:Nat)(l:List UInt8):lM (r.recv i l)/\Fit (r.recv i l) (k+2*l.length):=
 JT h hf i (kN (r.P i).rd l).1 (kN (r.P i).rd l).2.2 (Nat.le_trans (Nat.le_add_right _ _) (DI (r.P i).rd l))
theorem Wt(h:lM r)(hf:Fit r k)(i:Nat)(up:Bool):lM (r.iZ i up).1/\Fit (r.iZ i up).1 (k+1):=by
 have Z:=(zm (r.P i) up).1;have hl:((r.P i).iZ up).1.out.length<=(r.P i).out.length+6000:=by
  unfold jI.iZ;have X:=Ad (r.P i).L (if up=true then 0 else 1);generalize lr (r.P i).L (if up=true then 0 else 1)=e at X⊢;simp only;by_cases Y:e.2.2=0;{rw[af (by simp[Y])];have h2:=Ac e.2.1 {r.P i with L:=e.1,rd:=([],false,false)};have h4:({r.P i with L:=e.1,rd:=([],false,false)}:jI).out.length=(r.P i).out.length:=rfl;show(({r.P i with L:=e.1,rd:=([],false,false)}:jI).say e.2.1).out.length<=_;omega};{rw[ai Y];show(r.P i).out.length<=_;omega}
 unfold iW.iZ;generalize (r.P i).iZ up=e at Z hl⊢;simp only;split;{exact⟨h,hf.mono (Nat.le_succ k)⟩};{exact⟨(h.jh i _ Z.1 (λhi=>by rw[Z.2];exact h.pe i hi)).meet i (oI.nobody h.id.1),(hf.grow i _ hl).meet i _⟩}
theorem OL(h:lM r)(hf:Fit r k)(t:Int)(tx:List UInt8):lM (kD r t tx).1/\Fit (kD r t tx).1 (k+1):=by
 unfold Rt.kD;split;{exact⟨h,hf.mono (Nat.le_succ k)⟩};{exact⟨h.send _,hf.send _⟩}
def kr(r r':iW)(i:Nat):Prop:=∀p,p≠i->Idle (r.P p)->Idle (r'.P p)
theorem kr.refl(r:iW)(i:Nat):kr r r i:=λ_ _ h=>h
theorem kr.trans {a b c:iW} (h:kr a b i)(g:kr b c i):kr a c i:=λp Z hi=>g p Z (h p Z hi)
theorem kr.jh(r:iW)(i:Nat)(q:jI):kr r (r.jh i q) i:=λp Z h=>by
 show Idle (lF r.P i q p);rw[jG _ _ Z];exact h
theorem kr.yk(h:r'.P=r.P)(i:Nat):kr r r' i:=λp _ hi=>by rw[h];exact hi
theorem kr.meet(r:iW)(i:Nat)(q:lK):kr r (r.meet i q) i:=λp Z h=>by
 rw[(nr r i q).2.2.2,jG _ _ Z];exact h
theorem Iy(t:zD) {p:Nat} (h:Idle (r.P p)):Idle ((r.send t).P p):=by
 unfold iW.send;split;{exact h}
 ·split;{exact h}
  ·rename_i b hb
   show Idle (lF r.P b _ p);by_cases e:p=b
   ·subst e;exfalso;split at hb
    ·cases Z:Bl (lv r) t.1 with
     |none=>rw[Z]at hb;simp at hb
     |some x=>
      rw[Z]at hb;have Y:j1 r.P x.sj r.n=μ p:=hb;have:=(oR Y).2.1;rw[h.pe]at this;exact absurd this eF
    ·simp at hb
   ·rw[jG _ _ e];exact h
theorem kr.send(r:iW)(t:zD)(i:Nat):kr r (r.send t) i:=λ_ _ h=>Iy t h
theorem kr.state(r:iW)(i:Nat)(l:List UInt8):kr r (jw r i l) i:=by
 unfold jw;simp only;split;{exact kr.refl r i};{split;{exact kr.yk (oV _ _).2.2.2 i};{split;{exact(kr.yk rfl i).trans (kr.jh _ _ _)};{exact kr.yk rfl i}}}
theorem kr.take(r:iW)(i:Nat)(c:UInt8)(s:List UInt8):kr r (r.take i c s) i:=by
 rw[l7];have Z:kr r (kg r i c s) i:=by
  unfold kg;split;{exact kr.jh _ _ _};{exact kr.refl _ _}
 split;{exact Z.trans (kr.meet _ _ _)};{refine Z.trans ?_;unfold mO;split;{split;{exact kr.meet _ _ _};{exact kr.refl _ _}};{split;{exact kr.state _ _ _};{split;{unfold kQ;simp only;split<;>exact kr.yk rfl i};{split;{unfold rS;split;{exact kr.send _ _ _};{exact kr.refl _ _}};{exact kr.refl _ _}}}}}
theorem kr.takes:∀(l:List (List UInt8)) (r:iW) (i:Nat),kr r (r.takes i l) i
 |[],r,i=>kr.refl r i
 |t::l,r,i=>by
  show kr r ((match t with|[] =>r|c::s=>r.take i c s).takes i l) i;refine kr.trans ?_ (kr.takes l _ i);cases t with
  |nil=>exact kr.refl _ _
  |cons c s=>exact kr.take r i c s
theorem kr.recv(r:iW)(i:Nat)(l:List UInt8):kr r (r.recv i l) i:=by
 unfold iW.recv;simp only;exact(kr.jh r i _).trans (kr.takes _ _ i)
theorem kr.iZ(r:iW)(i:Nat)(up:Bool):kr r (r.iZ i up).1 i:=by
 unfold iW.iZ;simp only;split;{exact kr.refl r i};{exact(kr.jh r i _).trans (kr.meet _ _ _)}
theorem LU(h:Idle p):p.tick=p:=by
 have X:jq p.L=(p.L,[]):=by
  have Z:kI p.L=p.L:=by unfold kI;simp[h.st]
  have Y:l9 p.L=[] :=by unfold l9;simp[h.st]
  unfold jq;rw[Z,Y];simp[h.st]
 unfold jI.tick;rw[X];rfl
theorem OM(i:Nat) {p:Nat} (h:Idle (r.P p)):Idle ((r.jj i).P p):=by
 rw[lA];by_cases e:p=i
 ·subst e;have Z:(jo r p).P p=r.P p:=by
   show lF r.P p (r.P p).tick p=_;rw[jL,LU h]
  rw[Z,ai (by rw[h.st];decide),(nr _ _ _).2.2.2,jL,Z];exact⟨h.st,rfl,h.out⟩
 ·have Z:Idle ((jo r i).P p):=by
   show Idle (lF r.P i _ p);rw[jG _ _ e];exact h
  split;{exact kr.meet _ _ _ p e Z};{exact kr.jh _ i _ p e (kr.meet _ _ _ p e Z)}
theorem Fq {r:iW} {p:Nat} (h:Idle (r.P p)):∀q,Idle ((r.jn q).P p)
 |0=>h
 |q+1=>OM q (Fq h q)
theorem LV(t:Int)(tx:List UInt8) {p:Nat} (h:Idle (r.P p)):Idle ((kD r t tx).1.P p):=by
 unfold Rt.kD;split;{exact h};{show Idle ((r.send (t,8,tx)).P p);exact Iy (t,8,tx) h}
structure ki(y:ja)(D k:Nat):Prop where
 n1:1<=y.n
 n6:y.n<=6
 c9:y.nc<=9
 en:∀c d,c<y.nc->d<2->((y.C c).e d).1<y.n/\((y.C c).e d).2<3
 ds:∀c d c' d',c<y.nc->d<2->c'<y.nc->d'<2->(y.C c).e d=(y.C c').e d'->c=c'/\d=d'
 ms:∀i p,i<y.n->p<3->1<=y.ms i p/\y.ms i p<=20
 rn:∀i,i<y.n->(y.R i).n=3/\(y.R i).id=(i:Int)+1
 ok:∀i,i<y.n->lM (y.R i)
 drop:∀i,i<y.n->0<=(y.R i).drop/\(y.R i).drop<=D
 ol:∀c d,c<y.nc->d<2->((y.C c).on d).length<=2000
 ib:∀i,i<y.n->(y.kx i).length<=D
 idle:∀i p,i<y.n->p<3->(∀c d,c<y.nc->d<2->(y.C c).e d≠(i,p))->Idle ((y.R i).P p)
 fit:∀i,i<y.n->(y.R i).kx.length<=k/\∀p,p<3->((y.R i).P p).out.length<=6000*k
theorem ki.mono {y:ja} {D':Nat} (h:ki y D k)(hD:D<=D')(hk:k<=k'):ki y D' k':=
 ⟨h.n1,h.n6,h.c9,h.en,h.ds,h.ms,h.rn,h.ok,λi hi=>by have:=h.drop i hi;omega,h.ol,λi hi=>by have:=h.ib i hi;omega,h.idle,λi hi=>⟨by have:=(h.fit i hi).1;omega,λp Z=>by have:=(h.fit i hi).2 p Z;omega⟩⟩
theorem ki.fits {y:ja} (h:ki y D k)(hD:D<=1000000000000000)(hi:i<y.n):Fit (y.R i) k:=
 ⟨(h.fit i hi).1,by have:=h.drop i hi;omega,λp Z=>(h.fit i hi).2 p (by rw[(h.rn i hi).1]at Z;exact Z)⟩
theorem ki.jO {y:ja} {D k:Nat} (h:ki y D k) {i:Nat} (hi:i<y.n) {r:iW} {D' k':Nat} (U:D<=D')(hk:k<=k')(V:r.n=3/\r.id=(i:Int)+1)(T:lM r)(hd:0<=r.drop/\r.drop<=D')(hf:Fit r k')
 (S:∀p,p<3->(∀c d,c<y.nc->d<2->(y.C c).e d≠(i,p))->Idle (r.P p)):ki (y.jO i r) D' k':=by
 have X:∀j,(y.jO i r).R j=if j=i then r else y.R j:=λj=>rfl
 refine⟨h.n1,h.n6,h.c9,h.en,h.ds,h.ms,λj Z=> ?_,λj Z=> ?_,λj Z=> ?_,h.ol,λj Z=>Nat.le_trans (h.ib j Z) U,λj p Z Y hc=> ?_,λj Z=> ?_⟩;{rw[X];by_cases e:j=i;{rw[ai e];subst e;exact V};{rw[af e];exact h.rn j Z}};{rw[X];by_cases e:j=i;{rw[ai e];exact T};{rw[af e];exact h.ok j Z}};{rw[X];by_cases e:j=i;{rw[ai e];exact hd};{rw[af e];have:=h.drop j Z;omega}};{rw[X];by_cases e:j=i;{rw[ai e];subst e;exact S p Y hc};{rw[af e];exact h.idle j p Z Y hc}};{rw[X];by_cases e:j=i;{rw[ai e];exact⟨hf.kx,λp Y=>hf.out p (by rw[V.1];exact Y)⟩};{rw[af e];exact⟨by have:=(h.fit j Z).1;omega,λp Y=>by have:=(h.fit j Z).2 p Y;omega⟩}}
theorem ki.call {y:ja} (h:ki y D k)(hi:i<y.n)(V:k<=k')(Z:jT (y.R i) r g)(U:lM r)(hf:Fit r k')
 (T:∀p,p<3->(∀c d,c<y.nc->d<2->(y.C c).e d≠(i,p))->Idle ((y.R i).P p)->Idle (r.P p)):ki (y.jO i r) (D+g) k':=by
 have Y:=h.rn i hi;have h2:=h.drop i hi;have h3:=Z.lo;have h4:=Z.hi;exact h.jO hi eB V ⟨Z.n.trans Y.1,Z.id.trans Y.2⟩ U eB hf (λp X hc=>T p X hc (h.idle i p hi X hc))
theorem ki.lP {y:ja} {D k:Nat} (h:ki y D k) {c:Nat} {cb:qX} (Y:c<y.nc->cb.e=(y.C c).e)(hl:c<y.nc->∀d,d<2->(cb.on d).length<=2000):ki (y.lP c cb) D k:=by
 have hC:∀x,x<y.nc->((y.lP c cb).C x).e=(y.C x).e:=λx hx=>by
  show(if x=c then cb else y.C x).e=_;by_cases e:x=c;{rw[ai e];subst e;exact Y hx};{rw[af e]}
 refine⟨h.n1,h.n6,h.c9,λx d hx hd=>by rw[hC x hx];exact h.en x d hx hd,λx d x' d' hx hd Z V e=>by rw[hC x hx,hC x' Z]at e;exact h.ds x d x' d' hx hd Z V e,h.ms,h.rn,h.ok,h.drop,λx d hx hd=> ?_,h.ib,λi p hi X hc=>h.idle i p hi X (λx d hx hd=>by have:=hc x d hx hd;rwa [hC x hx]at this),h.fit⟩;show((if x=c then cb else y.C x).on d).length<=_;by_cases e:x=c;{rw[ai e];subst e;exact hl hx d hd};{rw[af e];exact h.ol x d hx hd}
theorem ki.jo {y:ja} (h:ki y D k)(Y:D<=1000000000000000)(hi:i<y.n):ki (y.jO i (y.R i).tick) D (k+6):=by
 have Z:=BK (h.ok i hi) (h.fits Y hi) (y.R i).n (Nat.le_refl _);rw[(h.rn i hi).1]at Z;have e:(y.R i).tick=(y.R i).jn 3:=by unfold iW.tick;rw[(h.rn i hi).1]
 rw[e];exact h.call hi eB (jT.jn _ 3) Z.2.1 Z.2.2 (λp _ _ X=>Fq X 3)
theorem ki.ahf {y:ja} (h:ki y D k)(X:D<=1000000000000000)(hc:c<y.nc)(hd:d<2)(l:List UInt8)(hl:l.length<=2000):ki (y.jO ((y.C c).e d).1 ((y.R ((y.C c).e d).1).recv ((y.C c).e d).2 l)) (D+2000) (k+4000):=by
 obtain⟨hi,Y⟩:=h.en c d hc hd;have Z:=Ws (h.ok _ hi) (h.fits X hi) ((y.C c).e d).2 l;exact h.call hi eB ((jT.recv _ _ l).mono hl) Z.1 (Z.2.mono eB) (λp _ V Y=>kr.recv _ _ l p (λe=>V c d hc hd (by rw[e])) Y)
theorem ki.Wu {y:ja} (h:ki y D k)(X:D<=1000000000000000)(hc:c<y.nc)(hd:d<2)(up:Bool):ki (y.np c d up) D (k+1):=by
 obtain⟨hi,Y⟩:=h.en c d hc hd;have Z:=Wt (h.ok _ hi) (h.fits X hi) ((y.C c).e d).2 up;exact h.call hi eB (jT.iZ _ _ up) Z.1 Z.2 (λp _ V Y=>kr.iZ _ _ up p (λe=>V c d hc hd (by rw[e])) Y)
theorem ki.Wv {y:ja} (h:ki y D k)(Y:D<=1000000000000000)(hi:i<y.n)(t:Int)(tx:List UInt8):ki (y.jO i (kD (y.R i) t tx).1) (D+1) (k+1):=by
 have Z:=OL (h.ok i hi) (h.fits Y hi) t tx;exact h.call hi eB (jT.kD _ t tx) Z.1 Z.2 (λp _ _ X=>LV t tx X)
theorem Ao {m:Nat->Int} (Z:1<=id/\id<=6)(U:∀i,i<3->1<=m i/\m i<=20):lM (jZ id 3 m):=by
 refine⟨Z,U,λi _=>oI.nobody Z.1,⟨(1,[]),?_,?_⟩,λx hx=> ?_⟩;{show(if id=id then μ ((1,[]):PS)else ν)=_;rw[ai rfl]};{show oK id 1 [] =0;unfold oK;have X:¬id<1:=eB;have V:¬6<id:=eB;simp[X,V,qP]};{have Y:(if x=id then μ ((1,[]):PS)else ν).isSome=true:=hx;by_cases e:x=id;{omega};{rw[af e]at Y;simp at Y}}
theorem SA {m:Nat->Int} (k:Nat):Fit (jZ id 3 m) k:=⟨Nat.zero_le _,⟨Int.le_refl _,by show(0:Int)<=_;omega⟩,λ_ _=>Nat.zero_le _⟩
theorem rz(id:Int)(m:Nat->Int)(p:Nat):Idle ((jZ id 3 m).P p):=⟨rfl,rfl,rfl⟩
theorem ki.lz {y:ja} {D k:Nat} (h:ki y D k)(T:D<=1000000000000000) {c d:Nat} (hc:c<y.nc)(hd:d<2):ki (y.lz c d) D k:=by
 obtain⟨hi,X⟩:=h.en c d hc hd;unfold ja.lz;have hf:=h.fits T hi;have Y:=h.ok _ hi;have U:ki (y.jO ((y.C c).e d).1 ((y.R ((y.C c).e d).1).out ((y.C c).e d).2)) D k:=by
  refine h.jO hi (Nat.le_refl _) (Nat.le_refl _) (h.rn _ hi) (Y.jh _ _ rfl (λhi=>Y.pe _ hi)) (h.drop _ hi) (hf.jh _ _ (λ_=>Nat.zero_le _)) (λp X Z=> ?_);exact kr.jh _ _ _ p (λe=>Z c d hc hd (by rw[e])) (h.idle _ p hi X Z)
 refine U.lP (λ_=> ?_) (λ_ d' V=> ?_);{unfold qX.put;split<;>rfl}
 ·unfold qX.put;split
  ·rename_i hx
   show(j6 (y.C c).on d _ d').length<=2000;by_cases e:d'=d;{subst e;rw[iQ,aA];exact hx.2};{rw[iI _ _ e];exact h.ol c d' hc V}
  ·exact h.ol c d' hc V
theorem nt(y:ja)(c d:Nat):(y.lz c d).n=y.n/\(y.lz c d).nc=y.nc/\(y.lz c d).ms=y.ms/\(y.lz c d).kx=y.kx/\∀x,((y.lz c d).C x).e=(y.C x).e/\((y.lz c d).C x).jc=(y.C x).jc:=by
 refine⟨rfl,rfl,rfl,rfl,λx=> ?_⟩;show(if x=c then(y.C c).put d _ else y.C x).e=_/\(if x=c then(y.C c).put d _ else y.C x).jc=_;by_cases e:x=c;{rw[ai e];subst e;unfold qX.put;split<;>exact⟨rfl,rfl⟩};{rw[af e];exact⟨rfl,rfl⟩}
theorem kj(y:ja):∀k,(y.kh k).n=y.n/\(y.kh k).nc=y.nc/\(y.kh k).ms=y.ms/\(y.kh k).kx=y.kx/\∀x,((y.kh k).C x).e=(y.C x).e/\((y.kh k).C x).jc=(y.C x).jc
 |0=>⟨rfl,rfl,rfl,rfl,λ_=>⟨rfl,rfl⟩⟩
 |k+1=>by
  obtain⟨X,V,U,T,Z⟩:=kj y k;obtain⟨b1,b2,b3,b4,b5⟩:=nt (y.kh k) k 0;obtain⟨c1,c2,c3,c4,Y⟩:=nt ((y.kh k).lz k 0) k 1;exact⟨c1.trans (b1.trans X),c2.trans (b2.trans V),c3.trans (b3.trans U),c4.trans (b4.trans T),λx=>⟨(Y x).1.trans ((b5 x).1.trans (Z x).1),(Y x).2.trans ((b5 x).2.trans (Z x).2)⟩⟩
theorem ki.kh {y:ja} {D k:Nat} (h:ki y D k)(Z:D<=1000000000000000):∀q,q<=y.nc->ki (y.kh q) D k
 |0,_=>h
 |q+1,hq=>by
  have X:=ki.kh h Z q eB;have Y:(y.kh q).nc=y.nc:=(kj y q).2.1;have V:=X.lz Z (c:=q) (d:=0) (by rw[Y];omega) eB;exact V.lz Z (c:=q) (d:=1) (by show q<(y.kh q).nc;rw[Y];omega) eB
theorem BM(y:ja)(c d i p:Nat):((y.lz c d).R i).P p=if(y.C c).e d=(i,p)then {(y.R i).P p with out:=[] }else(y.R i).P p:=by
 show((j6 y.R ((y.C c).e d).1 ((y.R ((y.C c).e d).1).out ((y.C c).e d).2)) i).P p=_;by_cases e:i=((y.C c).e d).1;{rw[e,iQ];show lF _ ((y.C c).e d).2 _ p=_;by_cases Z:p=((y.C c).e d).2;{rw[Z,jL,ai rfl]};{rw[jG _ _ Z,af (λh=>Z (by rw[h]))]}};{rw[iI _ _ e,af (λh=>e (by rw[h]))]}
theorem xh {y:ja} (c d i p:Nat)(h:(y.C c).e d=(i,p) \/((y.R i).P p).out=[]):(((y.lz c d).R i).P p).out=[] :=by
 rw[BM];rcases h with h|h
 {rw[ai h]};{split;{rfl};{exact h}}
theorem Ft {y:ja} (i p:Nat):∀q,((y.R i).P p).out=[] \/(∃c d,c<q/\d<2/\(y.C c).e d=(i,p))->(((y.kh q).R i).P p).out=[]
 |0,h=>by
  rcases h with h|⟨c,_,hc,_⟩
  ·exact h
  ·omega
 |q+1,h=>by
  have hs:=kj y q;have U:=nt (y.kh q) q 0;by_cases Z:((y.R i).P p).out=[] \/(∃c d,c<q/\d<2/\(y.C c).e d=(i,p));{have ih:=Ft i p q Z;exact xh _ _ _ _ (.inr (xh _ _ _ _ (.inr ih)))}
  ·rcases h with h|⟨c,d,hc,hd,X⟩
   ·exact absurd (.inl h) Z
   ·have Y:c=q:=by
     rcases Nat.lt_or_ge c q with V|V
     {exact absurd (.inr ⟨c,d,V,hd,X⟩) Z};{omega}
    subst Y;have T:d=0 \/d=1:=eB;rcases T with rfl|rfl
    {exact xh _ _ _ _ (.inr (xh _ _ _ _ (.inl ((hs.2.2.2.2 c).1▸X))))};{refine xh _ _ _ _ (.inl ?_);rw[(U.2.2.2.2 c).1,(hs.2.2.2.2 c).1];exact X}
theorem ki.outs {y:ja} (h:ki y D k) {p:Nat} (hi:i<y.n)(Z:p<3):(((y.kh y.nc).R i).P p).out=[] :=by
 by_cases hx:∃c d,c<y.nc/\d<2/\(y.C c).e d=(i,p)
 {exact Ft i p _ (.inr hx)};{exact Ft i p _ (.inl (h.idle i p hi Z (λc d hc hd e=>hx ⟨c,d,hc,hd,e⟩)).out)}
theorem oy(y:ja):∀k,(y.nA k).n=y.n/\(y.nA k).nc=y.nc/\(y.nA k).ms=y.ms/\(y.nA k).C=y.C
 |0=>⟨rfl,rfl,rfl,rfl⟩
 |k+1=>oy y k
theorem xj(y:ja)(i:Nat):∀k,(y.nA k).R i=(if i<k then {y.R i with kx:=[] }else y.R i)/\(y.nA k).kx i=if i<k then y.kx i++(y.R i).kx else y.kx i
 |0=>by simp[ja.nA]
 |k+1=>by
  obtain⟨X,V⟩:=xj y i k;show j6 (y.nA k).R k {(y.nA k).R k with kx:=[] } i=_/\j6 (y.nA k).kx k ((y.nA k).kx k++((y.nA k).R k).kx) i=_;by_cases e:i=k;{subst e;rw[iQ,iQ,X,V,af (Nat.lt_irrefl i),af (Nat.lt_irrefl i),ai (Nat.lt_succ_self i),ai (Nat.lt_succ_self i)];exact⟨rfl,rfl⟩};{rw[iI _ _ e,iI _ _ e,X,V];by_cases Y:i<k;{have Z:i<k+1:=eB;rw[ai Y,ai Z,ai Y,ai Z];exact⟨rfl,rfl⟩};{have Z:¬i<k+1:=eB;rw[af Y,af Z,af Y,af Z];exact⟨rfl,rfl⟩}}
theorem ki.nA {y:ja} {D k:Nat} (h:ki y D k)(q:Nat):ki (y.nA q) (D+k) k:=by
 obtain⟨Z,V,M,U⟩:=oy y q;have Y:∀i,((y.nA q).R i).n=(y.R i).n/\((y.nA q).R i).id=(y.R i).id/\((y.nA q).R i).P=(y.R i).P/\((y.nA q).R i).drop=(y.R i).drop/\((y.nA q).R i).K=(y.R i).K/\((y.nA q).R i).kx.length<=(y.R i).kx.length:=λi=>by
  rw[(xj y i q).1];split;{exact⟨rfl,rfl,rfl,rfl,rfl,Nat.zero_le _⟩};{exact⟨rfl,rfl,rfl,rfl,rfl,Nat.le_refl _⟩}
 refine⟨by rw[Z];exact h.n1,by rw[Z];exact h.n6,by rw[V];exact h.c9,λc d hc hd=> ?_,λc d c' d' hc hd Q H=> ?_,λi p hi S=> ?_,λi hi=> ?_,λi hi=> ?_,λi hi=> ?_,λc d hc hd=> ?_,λi hi=> ?_,λi p hi S J=> ?_,λi hi=> ?_⟩;{rw[U,Z];rw[V]at hc;exact h.en c d hc hd};{rw[U];rw[V]at hc Q;exact h.ds c d c' d' hc hd Q H};{rw[M];rw[Z]at hi;exact h.ms i p hi S};{rw[Z]at hi;rw[(Y i).1,(Y i).2.1];exact h.rn i hi};{rw[Z]at hi;have X:=h.ok i hi;rw[(xj y i q).1];split;{exact⟨X.id,X.m,X.pe,X.own,X.P5⟩};{exact X}}
 {rw[Z]at hi;rw[(Y i).2.2.2.1];have:=h.drop i hi;omega};{rw[U];rw[V]at hc;exact h.ol c d hc hd};{rw[Z]at hi;rw[(xj y i q).2];have T:=h.ib i hi;have h2:=(h.fit i hi).1;split;{rw[aA];omega};{omega}}
 {rw[Z]at hi;rw[(Y i).2.2.1];exact h.idle i p hi S (λc d hc hd=>by have:=J c d (by rw[V];exact hc) hd;rwa [U]at this)};{rw[Z]at hi;have T:=h.fit i hi;rw[(Y i).2.2.1];exact⟨Nat.le_trans (Y i).2.2.2.2.2 T.1,T.2⟩}
theorem ki.gather {y:ja} {D k:Nat} (h:ki y D k)(U:D<=1000000000000000):ki y.gather (D+k) 0:=by
 unfold ja.gather;obtain⟨s1,s2,s3,s4,s5⟩:=kj y y.nc;have V:=h.kh U y.nc (Nat.le_refl _);have Z:=V.nA y.n;obtain⟨X,e2,e3,e4⟩:=oy (y.kh y.nc) y.n;refine⟨Z.n1,Z.n6,Z.c9,Z.en,Z.ds,Z.ms,Z.rn,Z.ok,Z.drop,Z.ol,Z.ib,Z.idle,λi hi=> ?_⟩;have Y:i<y.n:=by rw[X,s1]at hi;exact hi
 rw[(xj (y.kh y.nc) i y.n).1,ai Y];refine⟨Nat.le_refl _,λp T=> ?_⟩;show(((y.kh y.nc).R i).P p).out.length<=_;rw[h.outs Y T];exact Nat.zero_le _
theorem mr(y:ja):y.gather.n=y.n/\y.gather.nc=y.nc/\y.gather.ms=y.ms/\∀x,(y.gather.C x).e=(y.C x).e/\(y.gather.C x).jc=(y.C x).jc:=by
 unfold ja.gather;obtain⟨s1,U,T,s4,S⟩:=kj y y.nc;obtain⟨Z,Y,X,V⟩:=oy (y.kh y.nc) y.n;exact⟨Z.trans s1,Y.trans U,X.trans T,λx=>by rw[V];exact S x⟩
theorem ki.kd {y:ja} {D k:Nat} (h:ki y D k)(Z:D<=1000000000000000) {c:Nat} (hc:c<y.nc)(up:Bool):ki (y.kd c up) D (k+2):=by
 unfold ja.kd;have Y:ki (y.lP c {y.C c with jc:=up,on:=λ_=>[] }) D k:=h.lP (λ_=>rfl) (λ_ _ _=>Nat.zero_le _);exact(Y.Wu Z (c:=c) (d:=0) hc eB up).Wu Z (c:=c) (d:=1) hc eB up
theorem pY(y:ja)(c:Nat)(up:Bool):(y.kd c up).n=y.n/\(y.kd c up).nc=y.nc/\(y.kd c up).ms=y.ms/\(y.kd c up).kx=y.kx/\∀x,((y.kd c up).C x).e=(y.C x).e/\((y.kd c up).C x).jc=if x=c then up else(y.C x).jc:=by
 refine⟨rfl,rfl,rfl,rfl,λx=> ?_⟩;show(if x=c then({y.C c with jc:=up,on:=λ_=>[] }:qX)else y.C x).e=_/\(if x=c then({y.C c with jc:=up,on:=λ_=>[] }:qX)else y.C x).jc=_;by_cases e:x=c;{rw[ai e,ai e];subst e;exact⟨rfl,rfl⟩};{rw[af e,af e];exact⟨rfl,rfl⟩}
theorem ki.jX {D:Nat} (Z:D<=1000000000000000)(up:Bool):∀(l:List Nat) {y:ja} {k:Nat},ki y D k->(∀c∈l,c<y.nc)->ki (y.jX up l) D (k+2*l.length)
 |[],_,_,h,_=>h
 |c::l,y,k,h,hl=>by
  have Y:=h.kd Z (hl c ik) up;have:=ki.jX Z up l Y (λx hx=>hl x (by simp[hx]));exact this.mono (Nat.le_refl _) (by simp;omega)
theorem nI(up:Bool):∀(l:List Nat) (y:ja),(y.jX up l).n=y.n/\(y.jX up l).nc=y.nc/\(y.jX up l).ms=y.ms/\(y.jX up l).kx=y.kx/\∀x,((y.jX up l).C x).e=(y.C x).e
 |[],y=>⟨rfl,rfl,rfl,rfl,λ_=>rfl⟩
 |c::l,y=>by
  obtain⟨U,T,S,Q,M⟩:=nI up l (y.kd c up);obtain⟨g1,Z,Y,X,V⟩:=pY y c up;exact⟨U.trans g1,T.trans Z,S.trans Y,Q.trans X,λx=>(M x).trans (V x).1⟩
theorem ki.iZ {y:ja} {D:Nat} (h:ki y D 0)(Z:D<=1000000000000000)(i:Int)(up:Bool):ki (y.iZ i up).1 (D+2) 0:=by
 unfold ja.iZ;split;{exact h.mono eB (Nat.le_refl _)};{split;{exact h.mono eB (Nat.le_refl _)};{exact(h.kd Z eB up).gather Z}}
theorem ki.tick {y:ja} {D:Nat} (h:ki y D 0)(Z:D<=1000000000000000)(i:Int):ki (y.tick i).1 (D+6) 0:=by
 unfold ja.tick;split;{exact h.mono eB (Nat.le_refl _)};{exact(h.jo Z eB).gather Z}
theorem ki.jE {y:ja} {D k:Nat} (h:ki y D k)(X:D<=1000000000000000) {c d q:Nat} (hc:c<y.nc)(hd:d<2):ki (y.jE c d q) (D+2000) (k+4000):=by
 have hl:((y.C c).on d).length<=2000:=h.ol c d hc hd;unfold ja.jE;have Y:ki (y.lP c {y.C c with on:=j6 (y.C c).on d (((y.C c).on d).drop q)}) D k:=h.lP (λ_=>rfl) (λ_ d' V=>by
  show(j6 (y.C c).on d _ d').length<=_;by_cases e:d'=d;{subst e;rw[iQ,dI];omega}
  ·rw[iI _ _ e];exact h.ol c d' hc V)
 have Z:=Y.ahf X (c:=c) (d:=1-d) hc eB (((y.C c).on d).take q) (by rw[List.length_take];omega);have e:((y.lP c {y.C c with on:=j6 (y.C c).on d (((y.C c).on d).drop q)}).C c).e=(y.C c).e:=by
  show(if c=c then _ else y.C c).e=_;rw[ai rfl]
 rw[e]at Z;exact Z
theorem ki.deliver {y:ja} {D:Nat} (h:ki y D 0)(hD:D<=100000000000000)(i d many:Int):ki (y.deliver i d many).1 (D+6000) 0:=by
 unfold ja.deliver;split;{exact h.mono eB (Nat.le_refl _)};{exact((h.jE eB eB eB).gather eB).mono eB (Nat.le_refl _)}
theorem BN {y:ja}:∀c∈y.lT k,c<y.nc:=λc hc=>by
 unfold ja.lT at hc;exact aN.1 (List.mem_filter.1 hc).1
theorem zo(y:ja)(k:Nat):(y.lT k).length<=y.nc:=by
 unfold ja.lT;have:=cK (λc=>(y.C c).jc&& (((y.C c).e 0).1==k||((y.C c).e 1).1==k)) (List.range y.nc);simpa using this
theorem ki.anew {y:ja} (h:ki y D k)(i:Nat)(hi:i<y.n):ki (y.jO i (jZ ((i:Int)+1) 3 (y.ms i))) D k:=
 h.jO hi (Nat.le_refl _) (Nat.le_refl _) ⟨rfl,rfl⟩ (Ao (by have:=h.n6;omega) (λp Z=>h.ms i p hi Z)) ⟨Int.le_refl _,by show(0:Int)<=_;omega⟩ (SA k) (λp _ _=>rz _ _ p)
theorem ki.restart {y:ja} {D:Nat} (h:ki y D 0)(Z:D<=1000000000000000)(i:Int):ki (y.restart i).1 (D+36) 0:=by
 unfold ja.restart;split;{exact h.mono eB (Nat.le_refl _)}
 ·have hl:=zo y (i-1).toNat;have h9:=h.c9;have X:=ki.jX Z false (y.lT (i-1).toNat) h BN;obtain⟨s1,U,T,s4,s5⟩:=nI false (y.lT (i-1).toNat) y;have Y:=X.anew (i-1).toNat (by rw[s1];omega);have e:(((i-1).toNat:Nat):Int)+1=i:=eB;rw[e,T]at Y;have V:=ki.jX Z true (y.lT (i-1).toNat) Y (λc hc=>by
   show c<(y.jX false (y.lT (i-1).toNat)).nc;rw[U];exact BN c hc)
  exact(V.gather Z).mono eB (Nat.le_refl _)
theorem ki.send {y:ja} {D:Nat} (h:ki y D 0)(hD:D<=100000000000000)(f t:Int)(tx:List UInt8):ki (y.send f t tx).1 (D+2) 0:=by
 unfold ja.send;split;{exact h.mono eB (Nat.le_refl _)};{split;{exact h.mono eB (Nat.le_refl _)};{exact(h.Wv eB eB t tx).gather eB}}
theorem jS.CI {n:ja} (h:jS w y n)(Y:y.all n.n k):k<w.heap.size:=by
 rcases Y with e|⟨j,Z,e⟩
 {exact h.lt (.inl e)};{exact h.zh Z e}
theorem jS.cbW {n:ja} {cb:qX} {v':eA} (h:jS w y n)(hc:c<n.nc)(hd:d<2)(T:y.gC=μ g)(Z:T6 w w' g (c*7) d cb (y.ov c) v')(H:cb.e=(n.C c).e)(S:∀x,x≠d->cb.on x=(n.C c).on x)(hl:(cb.on d).length<=2000):iR w w' y (n.lP c cb) n.n:=by
 have Q:∀x,x<2->x≠d->∀k,(y.ov c x).ownBlock=μ k->v'.ownBlock≠μ k:=by
  intro x hx U k e e';rcases Z.own k e' with Y|Y
  ·have:=h.inj (.on c x) (.on c d) k e Y;injection this with _ X
   exact U X
  ·have:=h.vQ (l:=.on c x) e;omega
 refine h.Qc hc T cb (j6 (y.ov c) d v') Z.size Z.os Z.tape Z.output (λk V J X=>Z.block k V J (X d hd)) Z.cell Z.fz Z.xR (λx hx=> ?_) (λx hx=> ?_) H (λx k hx e=> ?_) (λk e=> ?_)
 ·by_cases e:x=d;{subst e;rw[iQ];exact Z.row}
  ·rw[iI _ _ e,S x e];refine(h.ob c x hc hx).keep Z.size (λk V=>Z.block k ((h.ob c x hc hx).lt k V) (λY=> ?_) (λY=> ?_));{exact h.wZ (l:=.on c x) (l':=.C) V T (by intro e;cases e) Y}
   ·have:=h.inj (.on c x) (.on c d) k V Y;injection this with _ X
    exact e X
 {by_cases e:x=d;{subst e;exact hl};{rw[S x e];exact h.ol c x hc hx}};{by_cases ex:x=d;{subst ex;rw[iQ]at e;exact Z.own k e};{rw[iI _ _ ex]at e;exact .inl e}}
 ·have M:d=0 \/d=1:=eB;rcases M with rfl|rfl
  {rw[iQ]at e;rw[iI _ _ eF];exact λY=>Q 1 eB eF k Y e};{rw[iI _ _ eF]at e;rw[iQ];exact Q 0 eB eF k e}
theorem jS.ahg {n:ja} (h:jS w y n)(Z:y.gC=μ g):(y.ov c d).ownBlock≠μ g:=λe=>h.wZ (l:=.on c d) (l':=.C) e Z (by intro e;cases e) rfl
theorem Ww(y:Yt)(n:ja)(c d g:Nat)(s:ByteArray)(w:ew)(h:jS w y n)(hc:c<n.nc)(hd:d<2)(Z:y.gC=μ g)(hs:s.size<=1000000000):
 fc fe 161 #[π (μ ⟨g,c*7,ν⟩),ι κ (d:Int),.string s] w λe w'=>e=ρ (τ #[])/\iR w w' y (n.lP c ((n.C c).put d s.data.toList)) n.n:=by
 refine(Wd g (c*7) d (n.C c) (y.ov c) s w hd (h.rc g Z c hc) (h.ob c d hc hd) (h.ahg Z) (h.ol c d hc hd) hs).mono ?_;rintro e w1 ⟨rfl,v',Y⟩;refine⟨rfl,h.cbW hc hd Z Y ?_ (λx hx=> ?_) ?_⟩;{unfold qX.put;split<;>rfl};{unfold qX.put;split;{exact iI _ _ hx};{rfl}}
 ·unfold qX.put;split
  ·rename_i hx
   show(j6 (n.C c).on d _ d).length<=2000;rw[iQ,aA];exact hx.2
  ·exact h.ol c d hc hd
theorem Wx(y:Yt)(n:ja)(i p:Nat)(w:ew)(h:jS w y n)(hi:i<n.n)(hp:p<3):
 fc fe 29 #[π (μ ⟨(y.z i).R,0,ν⟩),ι κ (p:Int)] w λe w'=>e=ρ (τ #[.string ⟨((n.R i).P p).out.toArray⟩,η])/\iR w w' y (n.jO i ((n.R i).out p)) n.n:=by
 have Y:=(h.rn i hi).1;refine(Wn (y.z i) (n.R i) p w (h.rt i hi) eB).mono ?_;rintro e w1 ⟨rfl,Z⟩;rw[Y]at Z;exact⟨rfl,h.E9 hi Z (h.rn i hi)⟩
def ja.pE(y:ja)(q d:Nat):ja:=if d=0 then y.kh q else if d=1 then(y.kh q).lz q 0 else y.kh (q+1)
theorem CJ(c:qX)(o:Nat->eA):Dm c o 0=ι κ (((c.e 0).1:Int)+1)/\Dm c o 1=ι κ ((c.e 0).2:Int)/\Dm c o 2=ι κ (((c.e 1).1:Int)+1)/\Dm c o 3=ι κ ((c.e 1).2:Int)/\Dm c o 4=.bool c.jc:=⟨rfl,rfl,rfl,rfl,rfl⟩
theorem adR(y:ja)(q d x:Nat):((y.pE q d).C x).e=(y.C x).e:=by
 unfold ja.pE;split;{exact((kj y q).2.2.2.2 x).1};{split;{exact((nt _ q 0).2.2.2.2 x).1.trans ((kj y q).2.2.2.2 x).1};{exact((kj y (q+1)).2.2.2.2 x).1}}
theorem adS(y:ja)(q d:Nat):(y.pE q d).n=y.n/\(y.pE q d).nc=y.nc:=by
 unfold ja.pE;split;{exact⟨(kj y q).1,(kj y q).2.1⟩};{split;{exact⟨(kj y q).1,(kj y q).2.1⟩};{exact⟨(kj y (q+1)).1,(kj y (q+1)).2.1⟩}}
theorem SB(y:ja)(q d:Nat)(hd:d<2):y.pE q (d+1)=(y.pE q d).lz q d:=by
 have:d=0 \/d=1:=eB;rcases this with rfl|rfl<;>rfl
theorem ki.pE {y:ja} {D k:Nat} (h:ki y D k)(Z:D<=1000000000000000)(q d:Nat)(Y:q<y.nc):ki (y.pE q d) D k:=by
 unfold ja.pE;split;{exact h.kh Z q eB};{split;{exact(h.kh Z q eB).lz Z (by rw[(kj y q).2.1];exact Y) eB};{exact h.kh Z (q+1) eB}}
theorem OO(w:ew)(y:Yt)(n:ja)(D k q d g m:Nat)(h:ki n D k)(J:D<=1000000000000000)(hk:k<=100000)(U:q<n.nc)(hd:d<2)(hg:y.gC=μ g)(hm:n.n=m)(i p:Nat)(A1:(n.C q).e d=(i,p))(M Z:ew)(hW:iR w M y (n.pE q d) m)(hb:eH M Z)(E:Nat)(u v:eA)(hE:M.heap.size<=E)(hc:Z.cell? ⟨E,0,ν⟩=μ u/\Z.cell? ⟨E,1,ν⟩=μ v):
 fc fe 157 #[π (μ ⟨y.N,0,ν⟩),.agg #[ι κ ((i:Int)+1),ι κ (p:Int)]] Z λe w1=>∃R,e=ρ (π (μ ⟨R,0,ν⟩))/\(w1.cell? ⟨E,0,ν⟩=μ u/\w1.cell? ⟨E,1,ν⟩=μ v)/\
  fc fe 29 #[π (μ ⟨R,0,ν⟩),ι κ (p:Int)] w1 λe T=>∃s:ByteArray,e=ρ (τ #[.string s,η])/\(T.cell? ⟨E,0,ν⟩=μ u/\T.cell? ⟨E,1,ν⟩=μ v)/\
   ∀V,eH T V->fc fe 161 #[π (μ ⟨g,q*7,ν⟩),ι κ (d:Int),.string s] V λe S=>e=ρ (τ #[])/\iR w S y (n.pE q (d+1)) m:=by
 subst hm;obtain⟨hi,A⟩:=h.en q d U hd;rw[A1]at hi A;obtain⟨gn,gc⟩:=adS n q d;obtain⟨Q,R0,s1,wv,zF⟩:=hW.ex;have R1:=R0.below hb;have Y:E<Z.heap.size:=ag _ _ hc.1;have G:¬Q.all n.n E:=λe=>by
  have:=R0.CI (k:=E) (by rw[gn];exact e);omega
 rw[<-s1.N];refine(OE Q _ i p Z R1 (by rw[gn];exact hi)).mono ?_;rintro e w1 ⟨rfl,b1⟩;refine⟨_,rfl,⟨(aj (a:=⟨E,0,ν⟩) (b1.block E Y)).trans hc.1,(aj (a:=⟨E,1,ν⟩) (b1.block E Y)).trans hc.2⟩,?_⟩;have H:E<w1.heap.size:=Nat.lt_of_lt_of_le Y b1.size;have R2:=R1.below b1;refine(Wx Q _ i p w1 R2 (by rw[gn];exact hi) A).mono ?_;rintro e T ⟨rfl,wi⟩;have sv:=wi.kept.block E H (by rw[gn];exact G);refine⟨_,rfl,⟨(aj (a:=⟨E,0,ν⟩) (sv.trans (b1.block E Y))).trans hc.1,(aj (a:=⟨E,1,ν⟩) (sv.trans (b1.block E Y))).trans hc.2⟩,λV b3=> ?_⟩;have X:=wi.below rfl b3;rw[gn]at X;have hF:=(h.pE J q d U).fits J (i:=i) (by rw[gn];exact hi);have sG:((((n.pE q d).R i).P p).out).length<=6000*k:=hF.out p (by rw[((h.pE J q d U).rn i (by rw[gn];exact hi)).1];exact A);have h4:fc fe 161 #[π (μ ⟨g,q*7,ν⟩),ι κ (d:Int),.string ⟨(((n.pE q d).R i).P p).out.toArray⟩] V λe S=>e=ρ (τ #[])/\iR w1 S Q (n.pE q (d+1)) n.n:=by
  refine X.call λy2 R3 s2=> ?_;have Cg:y2.gC=μ g:=by rw[s2.gC,s1.gC];exact hg
  have hcc:q<(n.pE q d).nc:=by rw[gc];exact U
  have oH:=Ww y2 _ q d g ⟨(((n.pE q d).R i).P p).out.toArray⟩ V R3 hcc hd Cg (by show Array.size _<=_;simp;omega);have e1:n.pE q (d+1)=((n.pE q d).jO i (((n.pE q d).R i).out p)).lP q (((n.pE q d).C q).put d ((((n.pE q d).R i).P p).out)):=by
   rw[SB n q d hd];unfold ja.lz;rw[adR,A1]
  rw[e1];have e2:((n.pE q d).jO i (((n.pE q d).R i).out p)).n=n.n:=gn;rw[e2]at oH;have e3:(⟨(((n.pE q d).R i).P p).out.toArray⟩:ByteArray).data.toList=(((n.pE q d).R i).P p).out:=ik;rw[e3]at oH;exact oH
 refine h4.mono ?_;rintro e S ⟨rfl,Qi⟩;exact⟨rfl,iR.ry hW.kept s1 wv zF (iR.first (fP hb b1) Qi)⟩
theorem adT(a b c d:Int)(w:ew):(ig 193 (.agg #[ι κ a,ι κ b,ι κ c,ι κ d]) (ι κ 0)).run fe w=.ok (.agg #[ι κ a,ι κ b]) w:=ga
theorem adU(a b c d:Int)(w:ew):(ig 193 (.agg #[ι κ a,ι κ b,ι κ c,ι κ d]) (ι κ 1)).run fe w=.ok (.agg #[ι κ c,ι κ d]) w:=ga
section
variable {P:Program}
theorem pT(w:ew)(t ty e:TypeId)(i:TypeInfo)(Y:P.underlying t=μ (.slice e))(hi:P.info? e=μ i)(base ao:Option Addr)(n cap c:Nat)(Z:n<=cap):
 (gA #[t,t] ty #[σ base n cap,σ ao 0 c]).run P w=.ok (σ base n cap) w:=by
 cases base<;>cases ao<;>simp[gA,run_underlying Y,sizeOf,typeInfo,hi,Builtin.lenOf,Z,Builtin.firstCells,loadCells,loadCellsFrom,storeCells]
theorem uT {ops:Array Oper} {o:Oper} {a:Act} {K:Act->ew->Prop} {Q:Exit->Act->ew->Prop} {E:Prop}
 (H:o.guard=ν) (s x:Operand) (t:TypeId) (ho:o.op=.call {callee:=.builtin .append,args:= #[s,x],argTypes:= #[t,t] })
 (e:TypeId) (i:TypeInfo) (z:eA) (size bytes:Nat) (X:P.underlying t=μ (.slice e)) (hi:P.info? e=μ i) (hz:i.zero=μ z)
 (sE:i.size=size) (wq:i.bytes=bytes) (G:z.cells.size=size) (sG:0<size)
 (v:eA) (n:Nat) (xs:List eA) (hs:a.eval s=v) (Y:Row w size v n xs)
 (v2:eA) (m:Nat) (news:List eA) (hx:a.eval x=v2) (V:Row w size v2 m news) (A:∀u∈news,u.oneCell'=true)
 (U:n+m<=maxLen) (wu:(n+m)*bytes<=140737488355328)
 (h:∀v' w',Row w' size v' (n+m) (xs++news)->w.grownBy w' v.ownBlock->(v'.ownBlock=v.ownBlock \/ ∃k,v'.ownBlock=μ k/\w.heap.size<=k)->K (a.put o.dst v') w'):
 if eT o (yielded ops a.tmps)=true then Oper.wp P o a w K Q else E:=by
 have hw:eT o (yielded ops a.tmps)=true:=by simp[eT,H]
 rw[ai hw];have key:∃v' w',(gA #[t,t] o.type #[v,v2]).run P w=.ok v' w'/\Row w' size v' (n+m) (xs++news)/\w.grownBy w' v.ownBlock/\(v'.ownBlock=v.ownBlock \/ ∃k,v'.ownBlock=μ k/\w.heap.size<=k):=by
  by_cases hm:0<m
  ·rcases V.2 with⟨_,e2⟩|⟨g,cap,rfl,M,Z,S,hcell,_⟩
   {omega};{exact sY (P:=P) w t o.type e i z size bytes X hi hz sE wq G sG v n xs Y ⟨g,0,ν⟩ m cap news V.1 hm (λj u hu=>by rw[add_plain];exact hcell j u hu) A U wu}
  ·have T:m=0:=eB;subst T;have kH:news=[] :=aJ (by rw[V.1];simp);subst kH;have g0:w.grownBy w v.ownBlock:=⟨rfl,rfl,rfl,Nat.le_refl _,λ_ _ _=>rfl⟩
   rcases V.2 with⟨rfl,_⟩|⟨g2,cap2,rfl,_⟩
   ·rcases Y.2 with⟨rfl,rfl⟩|⟨g,cap,rfl,M,Z,S,hcell,J⟩
    {exact⟨_,w,pT w t o.type e i X hi ν ν 0 0 0 (Nat.le_refl _),by simpa using Y,g0,.inl rfl⟩};{exact⟨_,w,pT w t o.type e i X hi _ ν n cap 0 Z,by simpa using Y,g0,.inl rfl⟩}
   ·rcases Y.2 with⟨rfl,rfl⟩|⟨g,cap,rfl,M,Z,S,hcell,J⟩
    {exact⟨_,w,pT w t o.type e i X hi ν _ 0 0 cap2 (Nat.le_refl _),by simpa using Y,g0,.inl rfl⟩};{exact⟨_,w,pT w t o.type e i X hi _ _ n cap cap2 Z,by simpa using Y,g0,.inl rfl⟩}
 obtain⟨v',w',hr,h2,h3,h4⟩:=key;unfold Oper.wp execOp;simp only[ho,resolve,invoke,builtin,Sem.run_bind,Sem.run_pure,Result.andThen_ok,List.map_toArray,List.map_cons,List.map_nil,hs,hx,hr];exact h v' w' h2 h3 h4
end
theorem Wy(a b:List zD):sA (a++b)=sA a++sA b:=by simp[sA]
theorem LW(l:List zD):∀u∈sA l,u.oneCell'=true:=by
 intro u Z;unfold sA at Z;obtain⟨t,_,Y⟩:=aT.1 Z;exact Qf _ _ _ u Y
theorem SC(w:ew)(y:Yt)(M:ja)(m j:Nat)(W:ew)(hW:iR w W y M m)(hn:M.n=m)(U:j<m):∃R iv,W.cell? ⟨y.gR,j,ν⟩=μ (π (μ ⟨R,0,ν⟩))/\(∀V,eH W V->V.cell? ⟨y.gI,j,ν⟩=μ iv/\V.cell? ⟨y.N,1,ν⟩=μ (σ (μ ⟨y.gI,0,ν⟩) m y.zf)/\y.gI<V.heap.size)/\iv.ownBlock≠μ y.gI/\iv.ownBlock≠μ y.N/\y.N≠y.gI/\
 ∀V,eH W V->fc fe 32 #[π (μ ⟨R,0,ν⟩)] V λe w'=>∃v,e=ρ v/\Row w' 3 v (M.R j).kx.length (sA (M.R j).kx)/\Row w' 3 iv (M.kx j).length (sA (M.kx j))/\w'.cell? ⟨y.gI,j,ν⟩=μ iv/\w'.frozen? ⟨y.gI,j,ν⟩=false/\w'.cell? ⟨y.N,1,ν⟩=μ (σ (μ ⟨y.gI,0,ν⟩) m y.zf)/\
  ∀x1 v',Row x1 3 v' ((M.kx j).length+(M.R j).kx.length) (sA (M.kx j)++sA (M.R j).kx)->w'.grownBy x1 iv.ownBlock->(v'.ownBlock=iv.ownBlock \/ ∃k,v'.ownBlock=μ k/\w'.heap.size<=k)->iR w (x1.setCell ⟨y.gI,j,ν⟩ v') y (M.yy j) m:=by
 subst hn;obtain⟨Z,Q,s1,wv,zF⟩:=hW.ex;refine⟨(Z.z j).R,Z.iv j,?_,λV hb=> ?_,λe=> ?_,λe=> ?_,λe=> ?_,λV hb=> ?_⟩;{rw[<-s1.gR];exact Q.ptr U};{have X:=Q.below hb;rw[<-s1.gI,<-s1.N,<-s1.zf];exact⟨X.ZB U,X.k1,X.adB⟩};{rw[<-s1.gI]at e;exact Q.wZ (l:=.ib j) (l':=.I) e rfl (by intro e;cases e) rfl};{rw[<-s1.N]at e;exact Q.wZ (l:=.ib j) (l':=.N) e rfl (by intro e;cases e) rfl};{rw[<-s1.gI,<-s1.N]at e;exact Q.wZ (l:=.N) (l':=.I) rfl rfl (by intro e;cases e) e}
 have X:=Q.below hb;have u:=(X.rn j U).1;refine(Sy (Z.z j) (M.R j) V (X.rt j U)).mono ?_;rintro e w1 ⟨rfl,hr,pG⟩;have hw:iP V w1 (Z.z j) {M.R j with kx:=[] } 3:=(congrArg (λt=>iP V w1 (Z.z j) ({M.R j with kx:=[] }:iW) t) u).mp pG;have jA:∀k,Z.own k->w1.heap[k]? =V.heap[k]? :=λk T=>by
  have hf:=X.Qa U T;exact hw.kept.block k (X.lt (.inl T)) (λe=>hf (.inl e)) (λe=>hf (.inr (.inl e))) (λe=>hf (.inr (.inr e)))
 have hN:=X.E9 U hw (X.rn j U);have S:=jA Z.gI ⟨.I,rfl⟩;refine⟨_,rfl,hr,(X.ib j U).keep hw.kept.size (λk T=>jA k ⟨.ib j,T⟩),?_,?_,?_,λx1 v' jf H A=> ?_⟩;{rw[<-s1.gI];exact(aj (a:=⟨Z.gI,j,ν⟩) S).trans (X.ZB U)};{rw[<-s1.gI];have:=X.ri.fz j U;rw[Nat.zero_add]at this;exact(aL (a:=⟨Z.gI,j,ν⟩) S).trans this};{rw[<-s1.N,<-s1.gI,<-s1.zf];exact(aj (a:=⟨Z.N,1,ν⟩) (jA Z.N ⟨.N,rfl⟩)).trans X.k1}
 have um:iR V (x1.setCell ⟨Z.gI,j,ν⟩ v') Z (M.yy j) M.n:=by
  refine hN.step λy2 E G=> ?_;have TW:y2.iv j=Z.iv j:=by
   have Y:=E.ZB (i:=j) U;rw[G.gI,(aj (a:=⟨Z.gI,j,ν⟩) S).trans (X.ZB U)]at Y;exact(Option.some.inj Y).symm
  have jx:(Z.iv j).ownBlock≠μ Z.gI:=λe=>X.wZ (l:=.ib j) (l':=.I) e rfl (by intro e;cases e) rfl;have h:v'.ownBlock≠μ Z.gI:=λe=>by
   rcases A with Y|⟨k,Y,J⟩
   ·exact jx (by rw[<-Y];exact e)
   ·rw[e]at Y;have yX:=Option.some.inj Y;have h4:Z.gI<w1.heap.size:=by rw[<-G.gI];exact E.adB
    omega
  have hx:x1.heap[Z.gI]? =w1.heap[Z.gI]? :=H.block Z.gI (by rw[<-G.gI];exact E.adB) (λe=>jx e.symm);have qO:=E.box (i:=j) (w':=x1.setCell ⟨Z.gI,j,ν⟩ v') U v' (M.kx j++(M.R j).kx) (by simpa using H.size) H.os H.tape H.output (λk T Y J=> ?_) ?_ ?_ (λk T=> ?_);{exact qO};{rw[G.gI]at Y;rw[TW]at J;rw[aq _ _ _ k Y];exact H.block k T (λe=>J e.symm)};{rw[G.gI];have Y:=E.ri;rw[G.gI]at Y;have J:=Y.keep hx;have u:=J.set j U v';rw[Nat.zero_add]at u;refine u.congr λx hx=> ?_;by_cases e:x=j;{subst e;rw[iQ];unfold tR;simp};{rw[iI _ _ e];unfold tR;simp[e]}};{rw[Wy,aA];exact jf.keep ik (λk T=>aq _ _ _ k (λe=>h (by rw[T,e])))}
  ·rcases A with Y|⟨k',Y,J⟩
   {left;rw[TW,<-Y];exact T};{right;rw[T]at Y;have:=Option.some.inj Y;omega}
 rw[s1.gI]at um;exact iR.ry hW.kept s1 wv zF (iR.first hb um)
theorem oW {x:ew} {b:Nat} {u:eA} (h:x.cell? ⟨b,k,ν⟩=μ u)(Z:b≠g):(x.setCell ⟨g,j,ν⟩ v).cell? ⟨b,k,ν⟩=μ u:=by
 rw[aW _ _ _ _ (λe=>Z (congrArg Addr.block e).symm)];exact h
theorem tI(y:Yt)(n:ja)(D k:Nat)(w:ew)(h:jS w y n)(jb:ki n D k)(hD:D<=1000000000)(hk:k<=100000):
 fc fe 111 #[π (μ ⟨y.N,0,ν⟩)] w λe w'=>e=ρ (τ #[])/\iR w w' y n.gather n.n:=by
 have c3:=h.k3;obtain⟨a,cp,wM,LX⟩:=h.cvs;rw[wM]at c3;have cl:=h.yA;have c9:=h.c9;have n6:=h.n6;obtain⟨nc,uG⟩:=fq (n.nc);obtain⟨m,hm⟩:=fq (n.n);have H0:Hid (iR w w y (n.kh 0) m):=by
  show iR _ _ _ _ _;rw[<-hm];exact iR.refl h
 have HK3:Hid (∀q W,iR w W y (n.kh q) m->W.cell? ⟨y.N,3,ν⟩=μ (σ a nc cp)/\y.N<W.heap.size):=by
  intro q W hw;have h1:=hw.k3;rw[(kj n q).2.1,wM,uG]at h1;exact⟨h1,hw.lt⟩
 have HGC:Hid (∀c,c<nc->∃g,y.gC=μ g/\a=μ ⟨g,0,ν⟩):=by
  show∀c,_->_;rw[<-uG];exact LX
 have ahh:Hid (∀q W g,q<nc->y.gC=μ g->iR w W y (n.kh q) m->W.cell? ⟨g,q*7,ν⟩=μ (ι κ ((((n.C q).e 0).1:Int)+1))/\W.cell? ⟨g,q*7+1,ν⟩=μ (ι κ (((n.C q).e 0).2:Int))/\W.cell? ⟨g,q*7+2,ν⟩=μ (ι κ ((((n.C q).e 1).1:Int)+1))/\W.cell? ⟨g,q*7+2+1,ν⟩=μ (ι κ (((n.C q).e 1).2:Int))/\g<W.heap.size):=by
  intro q W g hq hg hw;obtain⟨ov,hC⟩:=hw.Qd (c:=q) (by rw[(kj n q).2.1,uG];exact hq) hg;have e1:=((kj n q).2.2.2.2 q).1;have h0:=hC.cell 0 eF;have h1:=hC.cell 1 eF;have h2:=hC.cell 2 eF;have h3:=hC.cell 3 eF;rw[(CJ _ _).1,e1]at h0;rw[(CJ _ _).2.1,e1]at h1;rw[(CJ _ _).2.2.1,e1]at h2;rw[(CJ _ _).2.2.2.1,e1]at h3;exact⟨h0,h1,h2,h3,hC.lt eF⟩
 have JQ:Hid (∀(q d g i p:Nat) (H:ew),q<nc->d<2->y.gC=μ g->(n.C q).e d=(i,p)->iR w H y (n.pE q d) m->
  fc fe 157 #[π (μ ⟨y.N,0,ν⟩),.agg #[ι κ ((i:Int)+1),ι κ (p:Int)]] (H.alloc (γ #[ι κ ((i:Int)+1),ι κ (p:Int)] 192)).drew λe w1=>∃R,e=ρ (π (μ ⟨R,0,ν⟩))/\(w1.cell? ⟨H.heap.size,0,ν⟩=μ (ι κ ((i:Int)+1))/\w1.cell? ⟨H.heap.size,1,ν⟩=μ (ι κ (p:Int)))/\
  fc fe 29 #[π (μ ⟨R,0,ν⟩),ι κ (p:Int)] w1 λe w2=>∃s:ByteArray,e=ρ (τ #[.string s,η])/\(w2.cell? ⟨H.heap.size,0,ν⟩=μ (ι κ ((i:Int)+1))/\w2.cell? ⟨H.heap.size,1,ν⟩=μ (ι κ (p:Int)))/\
   ∀w3,eH w2 w3->fc fe 161 #[π (μ ⟨g,q*7,ν⟩),ι κ (d:Int),.string s] w3 λe w4=>e=ρ (τ #[])/\iR w w4 y (n.pE q (d+1)) m):=by
  intro q d g i p H hq hd hg A1 hw;have hb:=jK (gK H (γ #[ι κ ((i:Int)+1),ι κ (p:Int)] 192));have u:ji (H.alloc (γ #[ι κ ((i:Int)+1),ι κ (p:Int)] 192)).drew H.heap.size #[ι κ ((i:Int)+1),ι κ (p:Int)] 192:=(ji.new H _ _).drew;exact OO w y n D k q d g m jb eB hk (by rw[uG];exact hq) hd hg hm i p A1 H _ hw hb H.heap.size _ _ (Nat.le_refl _) ⟨u.cell 0,u.cell 1⟩
 rw[uG]at c3 c9;rw[hm]at n6⊢;have Rq:Hid _:=jb;have HNC:Hid _:=uG;have HM:Hid _:=hm;clear h jb LX wM uG hm
 go_in
 go_wp2
 go_loopw [15] (λx wr=>∃q:Nat,q<=nc/\x=ι κ q/\iR w wr y (n.kh q) m) (λx _=>nc-(fh x).toNat)
 case atStart=>exact⟨0,Nat.zero_le _,rfl,H0.out⟩
 case round=>
  obtain⟨q,hq,rfl,sP⟩:=hrel;obtain⟨V,rfl⟩:∃V,V=wr:=⟨_,rfl⟩
  by_cases kL:q<nc
  ·have n9:(q:Int)<(nc:Int):=eB;have hq0:(0:Int)<=(q:Int):=eB;obtain⟨g,hg,rfl⟩:=HGC.out q kL;obtain⟨d3,dl⟩:=HK3.out q V sP;obtain⟨e0,e1,e2,e3,gl⟩:=ahh.out q V g kL hg sP;obtain⟨i0,p0,LY⟩:∃i0 p0,(n.C q).e 0=(i0,p0):=⟨_,_,rfl⟩
   obtain⟨i1,p1,LZ⟩:∃i1 p1,(n.C q).e 1=(i1,p1):=⟨_,_,rfl⟩
   rw[LY]at e0 e1;rw[LZ]at e2 e3;have HD0:Hid _:=sP;have amj:Hid _:=LY;have amk:Hid _:=LZ;have HG:Hid _:=hg;clear sP LY LZ hg
   go_wp2
   go_loopw [28] (λx wr=>(x=ι κ 0/\iR w wr y (n.pE q 0) m) \/(x=ι κ 1/\iR w wr y (n.pE q 1) m) \/(x=ι κ 2/\iR w wr y (n.pE q 2) m)) (λx _=>2-(fh x).toNat)
   case atStart=>exact .inl ⟨rfl,HD0.out⟩
   case round=>
    rcases hrel with⟨rfl,DP⟩|⟨rfl,DP⟩|⟨rfl,DP⟩
    ·have hix:=adT ((i0:Int)+1) (p0:Int) ((i1:Int)+1) (p1:Int);have hE:=JQ.out q 0 g i0 p0 wr kL eF HG.out amj.out DP;obtain⟨W1,kt⟩:=fq (wr.alloc (γ #[ι κ ((i0:Int)+1),ι κ (p0:Int)] 192));obtain⟨E,uN⟩:=fq (wr.heap.size);have Q:W1.drew.cell? ⟨E,0,ν⟩=μ (ι κ ((i0:Int)+1))/\W1.drew.cell? ⟨E,1,ν⟩=μ (ι κ (p0:Int)):=by
      have u:ji (wr.alloc (γ #[ι κ ((i0:Int)+1),ι κ (p0:Int)] 192)).drew wr.heap.size #[ι κ ((i0:Int)+1),ι κ (p0:Int)] 192:=(ji.new wr _ _).drew;rw[kt,uN]at u;exact⟨u.cell 0,u.cell 1⟩
     have El:E<W1.drew.heap.size:=ag _ _ Q.1;rw[kt,uN]at hE;have Ks:Hid _:=kt;have V9:Hid _:=uN;clear DP kt uN;go_wp2_with(fail)
     try rw[Ks.out]
     try rw[V9.out]
     go_region_held3(λx=>x.cell? ⟨E,0,ν⟩=μ (ι κ ((i0:Int)+1))/\x.cell? ⟨E,1,ν⟩=μ (ι κ (p0:Int)))
      (first|assumption|exact Q|exact X|exact J)
      (first
       |(go_at_call 157;refine hE.mono ?_;rintro e w1 ⟨R,rfl,X,hO⟩)
       |(go_at_call 29;refine hO.mono ?_;rintro e w2 ⟨sx,rfl,J,hP⟩))
     all_goals
      have hp:=hP _ (au _ _);clear hE hO hP Q X J El;go_wp2_with(fail);refine hp.mono ?_;rintro e w4 ⟨rfl,Qi⟩;have LP:Hid _:=Qi;clear hp Qi
      go_wp2
      go_roundw
      case rel=>exact .inr (.inl ⟨by go_num,LP.out⟩)
      case measure=>simp[fh]
    ·have hix:=adU ((i0:Int)+1) (p0:Int) ((i1:Int)+1) (p1:Int);have hE:=JQ.out q 1 g i1 p1 wr kL eF HG.out amk.out DP;obtain⟨W1,kt⟩:=fq (wr.alloc (γ #[ι κ ((i1:Int)+1),ι κ (p1:Int)] 192));obtain⟨E,uN⟩:=fq (wr.heap.size);have Q:W1.drew.cell? ⟨E,0,ν⟩=μ (ι κ ((i1:Int)+1))/\W1.drew.cell? ⟨E,1,ν⟩=μ (ι κ (p1:Int)):=by
      have u:ji (wr.alloc (γ #[ι κ ((i1:Int)+1),ι κ (p1:Int)] 192)).drew wr.heap.size #[ι κ ((i1:Int)+1),ι κ (p1:Int)] 192:=(ji.new wr _ _).drew;rw[kt,uN]at u;exact⟨u.cell 0,u.cell 1⟩
     have El:E<W1.drew.heap.size:=ag _ _ Q.1;rw[kt,uN]at hE;have Ks:Hid _:=kt;have V9:Hid _:=uN;clear DP kt uN;go_wp2_with(fail)
     try rw[Ks.out]
     try rw[V9.out]
     go_region_held3(λx=>x.cell? ⟨E,0,ν⟩=μ (ι κ ((i1:Int)+1))/\x.cell? ⟨E,1,ν⟩=μ (ι κ (p1:Int)))
      (first|assumption|exact Q|exact X|exact J)
      (first
       |(go_at_call 157;refine hE.mono ?_;rintro e w1 ⟨R,rfl,X,hO⟩)
       |(go_at_call 29;refine hO.mono ?_;rintro e w2 ⟨sx,rfl,J,hP⟩))
     all_goals
      have hp:=hP _ (au _ _);clear hE hO hP Q X J El;go_wp2_with(fail);refine hp.mono ?_;rintro e w4 ⟨rfl,Qi⟩;have LP:Hid _:=Qi;clear hp Qi
      go_wp2
      go_roundw
      case rel=>exact .inr (.inr ⟨by go_num,LP.out⟩)
      case measure=>simp[fh]
    ·have HQ:Hid _:=DP;clear DP
     go_wp2
     go_roundw
     case rel=>exact⟨q+1,eB,by go_num,HQ.out⟩
     case measure=>simp[fh];omega
  ·have yc:¬(q:Int)<(nc:Int):=eB;obtain rfl:q=nc:=eB;have HI0:Hid _:=sP;have k0:=sP.k0;have kl:=sP.lt;rw[(kj n q).1]at k0;have k0':V.cell? ⟨y.N,0,ν⟩=μ (σ (μ ⟨y.gR,0,ν⟩) m y.uz):=by rw[<-HM.out];exact k0
   obtain⟨i0,hi,oN,nG,mS⟩:=aX Qe;have HE:Hid (n.gather=(n.kh q).nA m):=by
    show _=_;unfold ja.gather;rw[HNC.out,HM.out]
   have Y3:Hid ((n.kh q).n=m):=by show _=_;rw[(kj n q).1,HM.out]
   have HK:Hid (∀j,j<m->(((n.kh q).nA j).kx j).length<=2000000000/\((((n.kh q).nA j).R j).kx).length<=2000000000):=by
    intro j hj;have h1:=(Rq.out.kh eB q (by rw[HNC.out];exact Nat.le_refl _)).nA j;have h2:=h1.ib j (by rw[(oy (n.kh q) j).1,Y3.out];exact hj);have h3:=(h1.fit j (by rw[(oy (n.kh q) j).1,Y3.out];exact hj)).1;omega
   clear sP k0 Rq HNC ahh JQ HK3 HGC
   go_wp2
   go_loopw [54] (λx wr=>∃j:Nat,j<=m/\x=ι κ j/\iR w wr y ((n.kh q).nA j) m) (λx _=>m-(fh x).toNat)
   case atStart=>exact⟨0,Nat.zero_le _,rfl,HI0.out⟩
   case round=>
    obtain⟨j,hj,rfl,hwj⟩:=hrel;by_cases hjl:j<m
    ·have amm:(j:Int)<(m:Int):=eB;have zc:(0:Int)<=(j:Int):=eB;have hnM:((n.kh q).nA j).n=m:=by rw[(oy (n.kh q) j).1,Y3.out]
     obtain⟨l1,l2⟩:=HK.out j hjl;have HS:Hid ((n.kh q).nA (j+1)=((n.kh q).nA j).yy j):=rfl;obtain⟨R,iv,r0,qO,ahk,ahl,hNI,ZJ⟩:=SC w y _ m j wr hwj hnM hjl;have zQ:Hid ((n.kh q).nA (j+1)=((n.kh q).nA j).yy j):=rfl;have HSS:∀x,iR w x y (((n.kh q).nA j).yy j) m=iR w x y ((n.kh q).nA (j+1)) m:=λx=>rfl;obtain⟨M,hM⟩:=fq ((n.kh q).nA j);rw[hM]at l1 l2 ZJ HSS;simp only[HSS]at ZJ;have hIn:=ZJ wr.drew (jl wr);obtain⟨c1,Q,gIl⟩:=qO wr.drew (jl wr);have rl:=ag _ _ r0;have ZK:Hid _:=ahk;have ahm:Hid _:=ahl;have HNI:Hid _:=hNI;have Nl:=ag _ _ Q;generalize y.N=YN at*;generalize y.gI=U at*;generalize y.zf=cI at*;clear hwj hM qO ZJ HSS HS zQ ahk ahl hNI;go_wp2_with(fail);refine cC (S:=λx=>x.cell? ⟨YN,1,ν⟩=μ (σ (μ ⟨U,0,ν⟩) m cI)) ga Q (λlW=> ?_);refine jD 0 (μ 59) rfl rfl ga ga ga (λ_ _ _ h=>h) (by rfl) (v:= ?_) ?_ jr ?_
     rotate_left
     ·intro G Z
      (try dsimp only at Z)
      go_simp
      try with_reducible rfl
     simp only[gQ,gS,gT,gU];refine jD 1 (μ 60) rfl rfl ga ga ga (λ_ _ _ h=>h) (by rfl) (v:= ?_) ?_ jr ?_
     rotate_left
     ·intro G Z
      (try dsimp only at Z)
      go_simp
      try with_reducible rfl
     simp only[gQ,gS,gT,gU];refine jD 2 (μ 61) rfl rfl ga ga ga (λ_ _ _ h=>h) (by rfl) (v:= ?_) ?_ jr ?_
     rotate_left
     ·intro G Z
      (try dsimp only at Z)
      go_simp
      try with_reducible rfl
     simp only[gQ,gS,gT,gU];refine jD 3 (μ 62) rfl rfl ga ga ga (λ_ _ _ h=>h) (by rfl) (v:= ?_) ?_ jr ?_
     rotate_left
     ·intro G Z
      (try dsimp only at Z)
      go_simp
      try with_reducible rfl
     simp only[gQ,gS,gT,gU];refine jD 4 (μ 63) rfl rfl ga ga ga (λ_ _ _ h=>h) (by rfl) (v:= ?_) ?_ jr ?_
     rotate_left
     ·intro G Z
      (try dsimp only at Z)
      go_simp
      try with_reducible rfl
     simp only[gQ,gS,gT,gU];refine jD 5 (μ 64) rfl rfl ga ga ga (λ_ _ _ h=>h) (by rfl) (v:= ?_) ?_ jr ?_
     rotate_left
     ·intro G Z
      (try dsimp only at Z)
      go_simp
      try with_reducible rfl
     simp only[gQ,gS,gT,gU];refine jD 6 (μ 65) rfl rfl ga ga ga (λ_ _ _ h=>h) (by rfl) (v:= ?_) ?_ jr ?_
     rotate_left
     ·intro G Z
      (try dsimp only at Z)
      go_simp
      try with_reducible rfl
     simp only[gQ,gS,gT,gU];refine jD 7 (μ 66) rfl rfl ga ga ga (λ_ _ _ h=>h) (by rfl) (v:= ?_) ?_ jr ?_
     rotate_left
     ·intro G Z
      (try dsimp only at Z)
      go_simp
      try with_reducible rfl
     simp only[gQ,gS,gT,gU];refine jD 8 (μ 67) rfl rfl ga ga ga (λ_ _ _ h=>h) (by rfl) (v:= ?_) ?_ jr ?_
     rotate_left
     ·intro G Z
      (try dsimp only at Z)
      go_simp
      try with_reducible rfl
     simp only[gQ,gS,gT,gU];refine jD 9 (μ 68) rfl rfl ga ga ga (λ_ _ _ h=>h) (by rfl) (v:= ?_) ?_ jr ?_
     rotate_left
     ·intro G Z
      (try dsimp only at Z)
      go_simp
      try with_reducible rfl
     simp only[gQ,gS,gT,gU];refine jD 10 (μ 69) rfl rfl ga ga ga (λ_ _ _ h=>h) (by rfl) (v:= ?_) ?_ jr ?_
     rotate_left
     ·intro G Z
      (try dsimp only at Z)
      go_simp
      try with_reducible rfl
     simp only[gQ,gS,gT,gU];refine jD 12 (μ 71) rfl rfl ga ga ga (λ_ _ _ h=>h) (by rfl) (v:= ?_) ?_ jr ?_
     rotate_left
     ·intro G Z
      (try dsimp only at Z)
      go_simp
      try with_reducible rfl
     simp only[gQ,gS,gT,gU];refine aQ (rs:=[11,13]) ga ik ?_;refine aI (o:=_) rfl (λK Y=> ?_) (aI (o:=_) rfl (λK Y=> ?_) aO)
     ·go_simp
      (try go_wp2_with(fail))
      refine Y.out _ _ (by exact Q) (λlW=> ?_);clear Y K;refine aQ (rs:=[13]) ga ik ?_;refine aI (o:=_) rfl (λK Y=> ?_) aO
      go_simp
      refine hIn.mono ?_;rintro e w1 ⟨v1,rfl,jf,TW,b1,z1,X,um⟩
      (try go_wp2_with(fail))
      refine Y.out _ _ (by exact X) (λlW=> ?_);clear Y K;have T:=ag _ _ b1;refine aQ (rs:=[14]) ga ik ?_;refine aI (o:=_) rfl (λK Y=> ?_) aO;refine uT (by rfl) (.tmp 70) (.tmp 72) 53 (by rfl) 106 i0 (.agg #[ι κ 0,ι κ 0,.string ⟨#[]⟩]) 3 32 underlying53 hi oN nG mS (by rfl) eF iv (M.kx j).length (sA (M.kx j)) (by rfl) TW v1 (M.R j).kx.length (sA (M.R j).kx) (by rfl) jf (LW _) (by unfold maxLen;omega) eB ?_;intro v2 x1 lE A jR;have J:x1.cell? ⟨YN,1,ν⟩=μ (σ (μ ⟨U,0,ν⟩) m cI):=(aj (a:=⟨YN,1,ν⟩) (A.block YN (ag _ _ X) (λe=>ahm.out e.symm))).trans X;have b2:x1.cell? ⟨U,j,ν⟩=μ iv:=(aj (a:=⟨U,j,ν⟩) (A.block U T (λe=>ZK.out e.symm))).trans b1;have z2:x1.frozen? ⟨U,j,ν⟩=false:=(aL (a:=⟨U,j,ν⟩) (A.block U T (λe=>ZK.out e.symm))).trans z1;have gl2:=ag _ _ b2;obtain⟨a2,cp2,rfl⟩:=Row.shape lE;refine Y.out _ _ (by exact J) (λlW=> ?_);clear Y K;refine jD 15 (μ 74) rfl rfl ga ga ga (λ_ _ _ h=>h) (by rfl) (v:= ?_) ?_ jr ?_
      rotate_left
      ·intro G Z
       (try dsimp only at Z)
       go_simp
       try with_reducible rfl
      simp only[gQ,gS];refine aQ (rs:=[16]) ga ik ?_;refine aI (o:=_) rfl (λK Y=> ?_) aO
      go_simp
      (try go_wp2_with(fail))
      refine Y.out _ _ (by exact oW J HNI.out) (λlW=> ?_);clear Y K;refine cV ga ?_ _;have HF:Hid _:=um x1 _ lE A jR;clear hIn jf TW b1 z1 Q X J b2 z2 um lE A jR T gl2
      go_wp2
      go_roundw
      case rel=>exact⟨j+1,eB,by go_num,HF.out⟩
      case measure=>simp[fh];omega
     ·go_simp
      refine hIn.mono ?_;rintro e w1 ⟨v1,rfl,jf,TW,b1,z1,X,um⟩
      (try go_wp2_with(fail))
      refine Y.out _ _ (by exact X) (λlW=> ?_);clear Y K;have T:=ag _ _ b1;refine aQ (rs:=[11]) ga ik ?_;refine aI (o:=_) rfl (λK Y=> ?_) aO
      go_simp
      (try go_wp2_with(fail))
      refine Y.out _ _ (by exact X) (λlW=> ?_);clear Y K;refine aQ (rs:=[14]) ga ik ?_;refine aI (o:=_) rfl (λK Y=> ?_) aO;refine uT (by rfl) (.tmp 70) (.tmp 72) 53 (by rfl) 106 i0 (.agg #[ι κ 0,ι κ 0,.string ⟨#[]⟩]) 3 32 underlying53 hi oN nG mS (by rfl) eF iv (M.kx j).length (sA (M.kx j)) (by rfl) TW v1 (M.R j).kx.length (sA (M.R j).kx) (by rfl) jf (LW _) (by unfold maxLen;omega) eB ?_;intro v2 x1 lE A jR;have J:x1.cell? ⟨YN,1,ν⟩=μ (σ (μ ⟨U,0,ν⟩) m cI):=(aj (a:=⟨YN,1,ν⟩) (A.block YN (ag _ _ X) (λe=>ahm.out e.symm))).trans X;have b2:x1.cell? ⟨U,j,ν⟩=μ iv:=(aj (a:=⟨U,j,ν⟩) (A.block U T (λe=>ZK.out e.symm))).trans b1;have z2:x1.frozen? ⟨U,j,ν⟩=false:=(aL (a:=⟨U,j,ν⟩) (A.block U T (λe=>ZK.out e.symm))).trans z1;have gl2:=ag _ _ b2;obtain⟨a2,cp2,rfl⟩:=Row.shape lE;refine Y.out _ _ (by exact J) (λlW=> ?_);clear Y K;refine jD 15 (μ 74) rfl rfl ga ga ga (λ_ _ _ h=>h) (by rfl) (v:= ?_) ?_ jr ?_
      rotate_left
      ·intro G Z
       (try dsimp only at Z)
       go_simp
       try with_reducible rfl
      simp only[gQ,gS];refine aQ (rs:=[16]) ga ik ?_;refine aI (o:=_) rfl (λK Y=> ?_) aO
      go_simp
      (try go_wp2_with(fail))
      refine Y.out _ _ (by exact oW J HNI.out) (λlW=> ?_);clear Y K;refine cV ga ?_ _;have HF:Hid _:=um x1 _ lE A jR;clear hIn jf TW b1 z1 Q X J b2 z2 um lE A jR T gl2
      go_wp2
      go_roundw
      case rel=>exact⟨j+1,eB,by go_num,HF.out⟩
      case measure=>simp[fh];omega
    ·have hjm:¬(j:Int)<(m:Int):=eB;obtain rfl:j=m:=eB;have HW:Hid (iR w wr y n.gather j):=by
      show iR _ _ _ _ _;rw[HE.out];exact hwj
     clear hwj
     go_wp2
     first|go_end0|refine iX rfl rfl ?_
     exact⟨rfl,HW.out⟩
