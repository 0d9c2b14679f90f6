import Derived.Test.YtieklnlbljejdaaGreatDoorW07
open Go.Value renaming int → ι, slice → σ, pointer → π, tuple → τ, nilIface → η
open Go.IntKind renaming i64 → κ
open Go.Ending renaming returned → ρ
open Go.Obj renaming cells → γ
open Option renaming none → ν, some → μ
open Go renaming World → dY, Calls → eZ, Value → dZ
open Go.Proofs.Tryz renaming prog → e7
open Go.Value renaming int → eB, ownBlock → eu
open And renaming intro → gb
open Go.IntKind renaming i64 → fJ, u8 → fD
open Go.IntWalk renaming u8_in → gM
open Go.Act renaming put → gG
open List renaming setIfInBounds_toArray → gH, set_cons_zero → gJ, set_cons_succ → gK
open Go.RowKit renaming intOf → fa
open ByteArray renaming ext → gN
open Array renaming size_setIfInBounds → gO
set_option maxRecDepth 100000
set_option maxHeartbeats 8000000
open Go.Proofs.Tryz
namespace Go.Proofs.YtieklnlbljejdaaGreatDoor
open Go.RowKit St
namespace Rt
variable {B:Nat->Nat} {Bb RR g i k l n:Nat} {id:Int} {m:FM} {ms:Nat->Int} {o:Obj} {p:jy} {r r':iO} {v:Value} {w w' wb:World}
theorem Oh(z:Zt)(r:iO)(t Y:Int)(tx:ByteArray)(w:dY)(h:mC w z r)(hK:XO r.K):
 eZ e7 153 #[π (μ ⟨z.R,0,ν⟩),.agg #[ι κ t,ι κ Y,.string tx]] w λe w'=>e=ρ (τ #[ι κ (H4 (YY r t Y)),.bool (YY r t Y).isSome])/\eE w w':=by
 obtain⟨hop,G⟩:=gq ((A3 (la r) t).getD HP.zero);obtain⟨ok,iQ⟩:=gq ((A3 (la r) t).isSome);have T:∀W,eE w W->eZ e7 64 #[π (μ ⟨z.R,0,ν⟩)] W λe w'=>∃b n c,e=ρ (σ b n c)/\eE W w'/\(∀W',eE w' W'->eZ e7 199 #[σ b n c,ι κ t] W' λe w2=>e=ρ (τ #[.agg #[ι κ hop.dst,ι κ hop.far,ι κ hop.rM],.bool ok])/\eE W' w2):=by
  intro W hW;refine(Bk z r W (h.below hW) hK).mono ?_;rintro e w1 ⟨b,c,rfl,hH,b1⟩;refine⟨b,_,c,rfl,b1,λW' hW'=> ?_⟩;have:=abZ b (la r).length c (la r) t W' (hH.r.below hW') (by have:=Jw (kL (uC r.K)) r.id.toNat;show(pw _ _).length<=_;omega);rw[G,iQ]at this;exact this
 have V:Hid (∀W,eE w W->eZ e7 200 #[π (μ ⟨z.R,0,ν⟩),ι κ hop.rM] W λe w'=>e=ρ (τ #[ι κ (H4 (jR r.P hop.rM r.n)),.bool (jR r.P hop.rM r.n).isSome])/\eE W w'):=λW hW=>EG z r hop.rM W (h.below hW);have J:Hid (YY r t Y=if 1<=Y/\ok=true then jR r.P hop.rM r.n else ν):=by
  show _=_;unfold YY;rw[<-iQ,<-G];by_cases A:1<=Y
  ·rw[ai A];cases A3 (la r) t<;>simp[A]
  ·rw[af A,af (by simp[A])]
 generalize jR r.P hop.rM r.n=bp at V J;generalize YY r t Y=op at J⊢;obtain⟨d,f,x⟩:=hop;simp only at T V;have hRl:=h.lt;generalize z.R=RR at T V hRl⊢;clear h G iQ;obtain⟨C,hC⟩:∃C:Array dZ,#[eB .i64 t,ι κ Y,.string tx] =C:=⟨_,rfl⟩
 have bm:=gY w (γ #[ι κ t,ι κ Y,.string tx] 106);have Lw:iZ (w.alloc (γ #[ι κ t,ι κ Y,.string tx] 106)) w.heap.size #[ι κ t,ι κ Y,.string tx] 106:=iZ.new w _ _;obtain⟨X,j⟩:=gq (w.alloc (γ #[ι κ t,ι κ Y,.string tx] 106));obtain⟨N,hN⟩:=gq (w.heap.size);have E:eE w X.drew:=by rw[<-j];exact jG bm
 have S:iZ X.drew N #[ι κ t,ι κ Y,.string tx] 106:=by rw[<-j,<-hN];exact Lw.drew
 have GK:Hid _:=j;have HN:Hid _:=hN;clear Lw bm j hN hC C
 go_in
 go_wp2_with(fail);rw[GK.out,HN.out]
 go_cut [6,7] (λv6 v7 wx=>∃Z:Nat,v6=π (μ ⟨Z,0,ν⟩)/\v7=.bool ok/\wx.cell? ⟨Z,2,ν⟩=μ (ι κ x)/\eE w wx/\wx.cell? ⟨N,1,ν⟩=μ (ι κ Y))
 case first=>
  have F0:X.drew.cell? ⟨N,0,ν⟩=μ (ι κ t)/\X.drew.cell? ⟨N,1,ν⟩=μ (ι κ Y):=⟨S.cell 0,S.cell 1⟩
  have Nl:N<X.drew.heap.size:=S.lt;have ba:Below X.drew.heap.size X.drew (X.alloc (γ #[ι κ 0,ι κ 0,ι κ 0] 98)).drew:=by
   have b':=jG (gY X (γ #[ι κ 0,ι κ 0,ι κ 0] 98));exact⟨b'.os,b'.tape,b'.output,b'.size,b'.block⟩
  have ye:iZ (X.alloc (γ #[ι κ 0,ι κ 0,ι κ 0] 98)).drew X.heap.size #[ι κ 0,ι κ 0,ι κ 0] 98:=(iZ.new X _ _).drew;have jx:N≠X.heap.size:=by have h2:N<X.heap.size:=Nl;omega
  have u:w.heap.size<=X.heap.size:=E.size
  go_region_held3(λx=>x.cell? ⟨N,0,ν⟩=μ (ι κ t)/\x.cell? ⟨N,1,ν⟩=μ (ι κ Y))
   (first|assumption|exact F0|exact F1|exact Q|exact oG F0|exact oG F1|exact oG Q|exact ve Q jx jx|exact ve Q GL GL)
   (first
    |(go_at_call 64;refine(T _ (by first|exact E|exact gu E ba)).mono ?_;rintro e w1 ⟨b,n,c,rfl,b1,ali⟩;first|(have mT:=ye.below b1;have M:=(S.below ba).below b1;have F1:=gb (M.cell 0) (M.cell 1))|(have M:=S.below b1;have F1:=gb (M.cell 0) (M.cell 1)))
    |(go_at_call 199;refine(ali _ (by first|exact au _ _|exact gY _ _)).mono ?_;rintro e w2 ⟨rfl,b2⟩;first|(have U:=mT.below b2;have H:=M.below b2;have Q:=gb (H.cell 0) (H.cell 1);have y0:=U.cell 0;have y1:=U.cell 1;have y2:=U.cell 2;have z0:=U.frozen 0;have z1:=U.frozen 1;have z2:=U.frozen 2)|(have H:=M.below b2;have Q:=gb (H.cell 0) (H.cell 1))|(have U:=(iZ.new w1 #[.int .i64 0,.int .i64 0,.int .i64 0] 98).below b2;have H:=(M.below (gY w1 _)).below b2;have Q:=gb (H.cell 0) (H.cell 1);have GL:N≠w1.heap.size:=(by have h2:=M.lt;omega);have y0:=U.cell 0;have y1:=U.cell 1;have y2:=U.cell 2;have z0:=U.frozen 0;have z1:=U.frozen 1;have z2:=U.frozen 2)))
  all_goals
   go_wp2_with(fail)
   go_meet
   first
    |exact⟨_,rfl,rfl,aq w2 _ _ (0,0) 2,gu (gu (gu E b1) b2) (gY _ _),mN Q.2⟩
    |(have y:=Jt (a:=.int .i64 d) (b:=.int .i64 f) (c:=.int .i64 x) U rfl u (gu (gu (gu E ba) b1) b2)
      exact⟨_,rfl,rfl,y.2.1,y.2.2.1,xF Q.2 jx⟩)
    |(have y:=Jt (a:=.int .i64 d) (b:=.int .i64 f) (c:=.int .i64 x) U rfl (Nat.le_trans u b1.size) (gu (gu (gu E b1) (gY w1 _)) b2)
      exact⟨_,rfl,rfl,y.2.1,y.2.2.1,xF Q.2 GL⟩)
 case rest=>
  obtain⟨Z,rfl,rfl,dz,qL,dn⟩:=hcut;have zl:=ag _ _ dz;have nl:=ag _ _ dn;cases ok with
  |false=>
   have D:Hid (op=ν):=by show _=_;rw[J.out,af gZ]
   clear T V J
   go_wp2
   go_ret2
   exact⟨by rw[D.out];rfl,qL⟩
  |true=>
   by_cases A:Y<1
   ·have D:Hid (op=ν):=by show _=_;rw[J.out,af eh]
    clear T V J
    go_wp2
    go_ret2
    exact⟨by rw[D.out];rfl,qL⟩
   ·have D:Hid (op=bp):=by show _=_;rw[J.out,ai ⟨eh,rfl⟩]
    have Cj:=V.out _ qL;clear T V J;go_wp2_with(fail);refine Cj.mono ?_;rintro e w5 ⟨rfl,b5⟩;have HB:Hid _:=gu qL b5;clear Cj
    go_wp2
    go_ret2
    exact⟨by rw[D.out];rfl,HB.out⟩
theorem PU:(e7.info? 106).map (λi=>(i.zero,i.size,i.bytes))=μ (μ (.agg #[ι κ 0,ι κ 0,.string ⟨#[]⟩]),3,32):=gX
theorem RL(l:List zi)(t:zi):rR (l++ [t])=rR l++ [ι κ t.1,ι κ t.2.1,.string ⟨t.2.2.toArray⟩] :=by simp[rR]
theorem PW(a b:Int)(s:ByteArray):∀u∈ [eB .i64 a,ι κ b,.string s],u.oneCell'=true:=by
 intro u Z;simp at Z;rcases Z with rfl|rfl|rfl<;>rfl
theorem RM(z:Zt)(r:iO)(Y:Int)(tx:ByteArray)(w:dY)(h:mC w z r)(hn:r.kd.length<=1000000):
 eZ e7 91 #[π (μ ⟨z.R,0,ν⟩),.agg #[ι κ r.id,ι κ Y,.string tx]] w λe w'=>e=ρ (τ #[])/\iG w w' z {r with kd:=r.kd++ [(r.id,Y,tx.data.toList)] } r.n:=by
 obtain⟨i0,hi,oB,np,mI⟩:=aX PU;have ba:=gY w (γ #[ι κ r.id,ι κ Y,.string tx] 106);have U:iZ (w.alloc (γ #[ι κ r.id,ι κ Y,.string tx] 106)) w.heap.size #[ι κ r.id,ι κ Y,.string tx] 106:=iZ.new w _ _;obtain⟨W0,u⟩:=gq (w.alloc (γ #[ι κ r.id,ι κ Y,.string tx] 106));obtain⟨N,y⟩:=gq (w.heap.size);rw[u]at ba U;rw[y]at U;have M:=h.below ba;have c0:=M.c0;have cl:=M.lt;have m0:W0.cell? ⟨N,0,ν⟩=μ (ι κ r.id):=U.cell 0;have ml:=U.lt;have heq:(r.id==r.id)=true:=gZ;have HR:Hid _:=h;have D:Hid _:=M;have HM:Hid _:=U;have S:Hid _:=ba;have j:Hid _:=u;have HN:Hid _:=y;clear h M U ba u y
 go_in
 go_wp2_with(fail);rw[j.out,HN.out]
 go_quiet(fail)
 obtain⟨Z,J⟩:=gq (W0.drewN nq);have b1:eE w Z:=by rw[<-J];exact below_drewN S.out nq
 have H:iZ Z N #[ι κ r.id,ι κ Y,.string tx] 106:=by rw[<-J];exact iZ.drewN HM.out nq
 rw[J];have X:=HR.out.below b1;have oz:=X.oh;have iX:=X.ib;have e3:=X.c3;have el:=X.lt;have d0:Z.cell? ⟨N,0,ν⟩=μ (ι κ r.id):=H.cell 0;have d1:Z.cell? ⟨N,1,ν⟩=μ (ι κ Y):=H.cell 1;have d2:Z.cell? ⟨N,2,ν⟩=μ (.string tx):=H.cell 2;have dl:=H.lt;have HO:Hid (z.iv.ownBlock≠μ z.R):=λe=>(X.sI _ e).1 rfl;have Ds:Hid _:=b1;have HR1:Hid _:=X;obtain⟨nn,G⟩:=gq (r.kd.length);have E:Hid _:=G;rw[G]at iX hn;clear J b1 X c0 cl m0 ml D HM S j G
 go_wp2
 go_region_law ((refine l8 (by rfl) (.tmp 17) (.tmp 19) 53 (by rfl) 106 i0 (.agg #[ι κ 0,ι κ 0,.string ⟨#[]⟩]) 3 32 underlying53 hi oB np mI (by rfl) eA z.iv nn (rR r.kd) (by rfl) ((iX.alloc _).drew) _ 1 1 [ι κ r.id,ι κ Y,.string tx] (by rfl) (by rfl) eA (zo _ _ _ _ _ _ rfl) (PW _ _ _) (by unfold maxLen;omega) eh ?_;intro V jv x1 lg T jI;have A:=uB oz T HO.out;have f3:=A.frozen 3;have g3:x1.cell? ⟨z.R,3,ν⟩=μ z.iv:=A.cell 3))
 all_goals
  go_wp2
  first|go_end0|refine iM rfl rfl ?_
  refine⟨rfl,iG.first HR.out rfl Ds.out (λR=> ?_)⟩;have rV:Z.heap.size<=x1.heap.size:=Nat.le_trans (by show Z.heap.size<=(Z.alloc _).heap.size;simp) T.size;have k7:∀k,eu (σ (μ ⟨V,0,ν⟩) (nn+1) jv)=μ k->z.iv.ownBlock=μ k \/Z.heap.size<=k:=by
   intro k Q;have zn:V=k:=by simpa[eu]using Q
   subst zn;rcases jI with hh|hh
   ·exact .inl hh
   ·exact .inr (Nat.le_trans (by show Z.heap.size<=(Z.alloc _).heap.size;simp) hh)
  have Y3:V≠z.R:=by
   intro e;rcases k7 V rfl with hh|hh
   ·exact HO.out (by rw[hh,e])
   ·omega
  refine R.own (σ (μ ⟨V,0,ν⟩) (nn+1) jv) (r.kd++ [(r.id,Y,tx.data.toList)]) r.drop (by simpa using rV) T.os T.tape T.output (λk Q h1 h2=> ?_) ?_ ?_ k7
  ·rw[ak _ _ _ k h1,T.block k (by show k<(Z.alloc _).heap.size;simp;omega) (λe=>h2 e.symm)];exact aU Z _ k Q
  ·exact A.set 3 _
  ·rw[RL,az,E.out];have e4:(⟨tx.data.toList.toArray⟩:ByteArray)=tx:=gZ;rw[e4];refine lg.keep gZ (λk Q=> ?_);have zn:V=k:=by simpa[eu]using Q
   exact ak _ _ _ k (by show k≠z.R;omega)
theorem wM {p q s t:Addr} {a b c d:dZ} (h:w.cell? p=μ a/\w.cell? q=μ b/\w.cell? s=μ c/\w.cell? t=μ d):(w.alloc o).cell? p=μ a/\(w.alloc o).cell? q=μ b/\(w.alloc o).cell? s=μ c/\(w.alloc o).cell? t=μ d:=⟨mN h.1,mN h.2.1,mN h.2.2.1,mN h.2.2.2⟩
theorem acQ {t hp:Int} {j:Nat} (h:YY r t hp=μ j):j<r.n/\1<=hp:=by
 unfold YY at h;split at h
 ·rename_i Y
  cases Z:A3 (la r) t with
  |none=>rw[Z]at h;cases h
  |some x=>rw[Z]at h;exact⟨(oE h).1,Y⟩
 ·cases h
theorem RN(z:Zt)(r:iO)(t Z:Int)(tx:ByteArray)(w:dY)(h:mC w z r)(H:XO r.K)(jx:t≠r.id)(ht:0<=t/\t<=255)(hh:0<=Z/\Z<=255)(htx:tx.size<=900)(hd:0<=r.drop/\r.drop<=4000000000000000000)(vL:∀j,j<r.n->(r.P j).out.length<=800000000):
 eZ e7 91 #[π (μ ⟨z.R,0,ν⟩),.agg #[ι κ t,ι κ Z,.string tx]] w λe w'=>e=ρ (τ #[])/\iG w w' z (r.send (t,Z,tx.data.toList)) r.n:=by
 have hS:Hid (r.send (t,Z,tx.data.toList)=match YY r t Z with|none=>{r with drop:=r.drop+1} |some i=>r.iU i ((r.P i).put 77 (j1 t::j1 (Z-1)::tx.data.toList))):=by
  show _=_;unfold iO.send;rw[af jx];rfl
 have ba:=gY w (γ #[ι κ t,ι κ Z,.string tx] 106);have u:iZ (w.alloc (γ #[ι κ t,ι κ Z,.string tx] 106)) w.heap.size #[ι κ t,ι κ Z,.string tx] 106:=iZ.new w _ _;obtain⟨W0,n8⟩:=gq (w.alloc (γ #[ι κ t,ι κ Z,.string tx] 106));obtain⟨N,hN⟩:=gq (w.heap.size);rw[n8]at ba u;rw[hN]at u;have R0:=h.below ba;have c0:=R0.c0;have cl:=R0.lt;have m0:W0.cell? ⟨N,0,ν⟩=μ (ι κ t):=u.cell 0;have ml:=u.lt;have heq:(t==r.id)=false:=by simp[jx]
 have D:Hid _:=h;have HM:Hid _:=u;have HBa:Hid _:=ba;have GK:Hid _:=n8;have HN:Hid _:=hN;clear h R0 u ba n8 hN jx
 go_in
 go_wp2_with(fail);rw[GK.out,HN.out]
 go_quiet(fail)
 obtain⟨J,j8⟩:=gq (W0.drewN nq);have b1:eE w J:=by rw[<-j8];exact below_drewN HBa.out nq
 have qZ:iZ J N #[ι κ t,ι κ Z,.string tx] 106:=by rw[<-j8];exact iZ.drewN HM.out nq
 rw[j8];have d0:J.cell? ⟨N,0,ν⟩=μ (ι κ t):=qZ.cell 0;have d1:J.cell? ⟨N,1,ν⟩=μ (ι κ Z):=qZ.cell 1;have d2:J.cell? ⟨N,2,ν⟩=μ (.string tx):=qZ.cell 2;have dl:=qZ.lt;have M:=Oh z r t Z tx J (D.out.below b1) H;have Y4:Hid _:=qZ;have Ds:Hid _:=b1;clear j8 c0 cl m0 ml HM HBa GK qZ b1;cases ho:YY r t Z with
 |none=>
  have M:eZ e7 153 #[π (μ ⟨z.R,0,ν⟩),.agg #[ι κ t,ι κ Z,.string tx]] J λe w'=>e=ρ (τ #[ι κ 0,.bool false])/\eE J w':=by
   rw[ho]at M;exact M
  rw[ho]at hS;go_wp2_with(fail);refine M.mono ?_;rintro e X ⟨rfl,b2⟩;have bb:=gu Ds.out b2;have U:=D.out.below bb;have oz:=U.oh;have e4:=U.c4;have f4:=oz.frozen 4;have el:=U.lt;have hsI:Hid (z.iv.ownBlock≠μ z.R):=λe=>(U.sI _ e).1 rfl;have NU:=U.ib;have YX:Hid _:=bb;have hd0:=hd.1;have hd1:=hd.2;have UW:fJ.wrap (r.drop+1)=r.drop+1:=aQ _ ⟨eh,eh⟩;clear M U b2 bb hd
  go_wp2
  first|go_end0|refine iM rfl rfl ?_
  refine⟨rfl,?_⟩;rw[hS.out];refine iG.first D.out rfl YX.out (λR=> ?_);refine R.own z.iv r.kd (r.drop+1) gZ rfl rfl rfl (λk _ h1 _=>ak _ _ _ k h1) (oz.set 4 _) ?_ (λk hk=>.inl hk);exact NU.keep gZ (λk hk=>ak _ _ _ k (by show k≠z.R;intro e;exact hsI.out (by rw[hk,e])))
 |some j=>
  have M:eZ e7 153 #[π (μ ⟨z.R,0,ν⟩),.agg #[ι κ t,ι κ Z,.string tx]] J λe w'=>e=ρ (τ #[ι κ (j:Int),.bool true])/\eE J w':=by
   rw[ho]at M;exact M
  rw[ho]at hS;obtain⟨O2,CS⟩:=acQ ho;have Kl:(j:Int)<(r.n:Int):=eh;have yM:(0:Int)<=(j:Int):=eh;go_wp2_with(fail);refine M.mono ?_;rintro e X ⟨rfl,b2⟩;have bb:=gu Ds.out b2;have uj:=iZ.below Y4.out b2;have U:=D.out.below (gu bb (jb X));have F0:X.drew.cell? ⟨z.R,1,ν⟩=μ (σ (μ ⟨z.g,0,ν⟩) r.n z.cap)/\X.drew.cell? ⟨N,0,ν⟩=μ (ι κ t)/\X.drew.cell? ⟨N,1,ν⟩=μ (ι κ Z)/\X.drew.cell? ⟨N,2,ν⟩=μ (.string tx):=⟨U.c1,uj.cell 0,uj.cell 1,uj.cell 2⟩
  have hlen:¬(9223372036854775807<2+tx.size):=eh;have hw8:fD.wrap t=t:=gM _ ⟨eh,eh⟩;have hwm:fJ.wrap (Z-1)=Z-1:=aQ _ ⟨eh,eh⟩;have hw9:fD.wrap (Z-1)=Z-1:=gM _ ⟨eh,eh⟩;have wj:(convert 140 9 (σ (μ ⟨X.heap.size,0,ν⟩) 2 2)).run e7 (X.alloc (γ #[.int .u8 t,.int .u8 (Z-1)] 5)).drew=.ok (.string ⟨#[u8 t,u8 (Z-1)]⟩) (X.alloc (γ #[.int .u8 t,.int .u8 (Z-1)] 5)).drew:=aaB X.drew t (Z-1) ht.1 ht.2 eh eh;have b3:eE w (X.alloc (γ #[.int .u8 t,.int .u8 (Z-1)] 5)).drew:=jG (gu bb (gY _ _));obtain⟨E,hs2⟩:∃E:ByteArray,(⟨#[u8 t,u8 (Z-1)]⟩++tx)=E:=⟨_,rfl⟩
  have A:E.data.toList=u8 t::u8 (Z-1)::tx.data.toList:=by
   rw[<-hs2];simp
  have agk:E.size<=1000:=by
   have e:E.size=E.data.toList.length:=gZ;have e2:tx.data.toList.length=tx.size:=gZ;rw[e,A];simp only[List.length_cons,e2];omega
  have oq:eZ e7 150 #[π (μ ⟨z.g,j*71,ν⟩),.string ⟨#[77]⟩,.string E] (X.alloc (γ #[.int .u8 t,.int .u8 (Z-1)] 5)).drew λe w'=>e=ρ (τ #[])/\iG w w' z (r.send (t,Z,tx.data.toList)) r.n/\(w'.cell? ⟨z.R,1,ν⟩=μ (σ (μ ⟨z.g,0,ν⟩) r.n z.cap)/\w'.cell? ⟨N,0,ν⟩=μ (ι κ t)/\w'.cell? ⟨N,1,ν⟩=μ (ι κ Z)/\w'.cell? ⟨N,2,ν⟩=μ (.string tx)):=by
   have y:=D.out.below b3;have G:(X.alloc (γ #[.int .u8 t,.int .u8 (Z-1)] 5)).drew.cell? ⟨z.R,1,ν⟩=μ (σ (μ ⟨z.g,0,ν⟩) r.n z.cap)/\(X.alloc (γ #[.int .u8 t,.int .u8 (Z-1)] 5)).drew.cell? ⟨N,0,ν⟩=μ (ι κ t)/\(X.alloc (γ #[.int .u8 t,.int .u8 (Z-1)] 5)).drew.cell? ⟨N,1,ν⟩=μ (ι κ Z)/\(X.alloc (γ #[.int .u8 t,.int .u8 (Z-1)] 5)).drew.cell? ⟨N,2,ν⟩=μ (.string tx):=wM (o:=.cells #[.int .u8 t,.int .u8 (Z-1)] 5) F0;generalize (X.alloc (γ #[.int .u8 t,.int .u8 (Z-1)] 5)).drew=W3 at b3 y G⊢;have hpj:=vL j O2;refine(Dv z.g (j*71) (z.B j) (z.v j) (r.P j) ⟨#[77]⟩ E 77 W3 (y.pt j O2) rfl agk eh).mono ?_;rintro e w6 ⟨rfl,ML⟩;have hE:r.send (t,Z,tx.data.toList)=r.iU j ((r.P j).put 77 E.data.toList):=by
    rw[hS.out,A];rfl
   have Q:=y.port O2 ML;rw[hE];have O9:¬z.mine r.n N:=by rw[<-HN.out];exact D.out.uD (Nat.le_refl _)
   exact⟨rfl,iG.first D.out rfl b3 (λ_=>Q),Q.c1,Q.cell y (p:=⟨N,0,ν⟩) O9 G.2.1,Q.cell y (p:=⟨N,1,ν⟩) O9 G.2.2.1,Q.cell y (p:=⟨N,2,ν⟩) O9 G.2.2.2⟩
  have el:=U.lt;have eg:=U.Kd;obtain⟨T,hT⟩:∃T:dY->Prop,(λx=>iG w x z (r.send (t,Z,tx.data.toList)) r.n)=T:=⟨_,rfl⟩
  have Lv:∀x,iG w x z (r.send (t,Z,tx.data.toList)) r.n=T x:=λx=>ch hT x;simp only[Lv]at oq;have HT:Hid _:=Lv;clear M uj b2 hT Lv U b3 A agk bb;go_wp2_with(fail);refine cu (S:=λx=>x.cell? ⟨z.R,1,ν⟩=μ (σ (μ ⟨z.g,0,ν⟩) r.n z.cap)/\x.cell? ⟨N,0,ν⟩=μ (ι κ t)/\x.cell? ⟨N,1,ν⟩=μ (ι κ Z)/\x.cell? ⟨N,2,ν⟩=μ (.string tx)) gX F0 (λlK=> ?_);refine jr 0 (μ 38) rfl rfl gX gX gX (λ_ _ _ h=>h) (by rfl) (v:= ?_) ?_ jf ?_
  rotate_left
  ·intro V Y
   (try dsimp only at Y)
   go_simp
   try with_reducible rfl
  simp only[gG,gH,gJ,gK];refine jr 1 (μ 39) rfl rfl gX gX gX (λ_ _ _ h=>h) (by rfl) (v:= ?_) ?_ jf ?_
  rotate_left
  ·intro V Y
   (try dsimp only at Y)
   go_simp
   try with_reducible rfl
  simp only[gG,gH,gJ,gK];refine jr 2 (μ 40) rfl rfl gX gX gX (λ_ _ _ h=>h) (by rfl) (v:= ?_) ?_ jf ?_
  rotate_left
  ·intro V Y
   (try dsimp only at Y)
   go_simp
   try with_reducible rfl
  simp only[gG,gH,gJ,gK];refine jr 3 (μ 41) rfl rfl gX gX gX (λ_ _ _ h=>h) (by rfl) (v:= ?_) ?_ jf ?_
  rotate_left
  ·intro V Y
   (try dsimp only at Y)
   go_simp
   try with_reducible rfl
  simp only[gG,gH,gJ,gK];refine jr 4 (μ 42) rfl rfl gX gX gX (λ_ _ _ h=>h) (by rfl) (v:= ?_) ?_ jf ?_
  rotate_left
  ·intro V Y
   (try dsimp only at Y)
   go_simp
   try with_reducible rfl
  simp only[gG,gH,gJ,gK];refine jr 5 (μ 43) rfl rfl gX gX gX (λ_ _ _ h=>h) (by rfl) (v:= ?_) ?_ jf ?_
  rotate_left
  ·intro V Y
   (try dsimp only at Y)
   go_simp
   try with_reducible rfl
  simp only[gG,gH,gJ,gK];refine jr 6 (μ 44) rfl rfl gX gX gX (λ_ _ _ h=>h) (by rfl) (v:= ?_) ?_ jf ?_
  rotate_left
  ·intro V Y
   (try dsimp only at Y)
   go_simp
   try with_reducible rfl
  simp only[gG,gH,gJ,gK];refine jr 7 (μ 45) rfl rfl gX gX gX (λ_ _ _ h=>h) (by rfl) (v:= ?_) ?_ jf ?_
  rotate_left
  ·intro V Y
   (try dsimp only at Y)
   go_simp
   try with_reducible rfl
  simp only[gG,gH,gJ,gK];refine jr 8 (μ 46) rfl rfl gX gX gX (λ_ _ _ h=>h) (by rfl) (v:= ?_) ?_ jf ?_
  rotate_left
  ·intro V Y
   (try dsimp only at Y)
   go_simp
   try with_reducible rfl
  simp only[gG,gH,gJ,gK];refine jr 9 (μ 47) rfl rfl gX gX gX (λ_ _ _ h=>h) (by rfl) (v:= ?_) ?_ jf ?_
  rotate_left
  ·intro V Y
   (try dsimp only at Y)
   go_simp
   try with_reducible rfl
  simp only[gG,gH,gJ,gK];refine jr 10 (μ 48) rfl rfl gX gX gX (λ_ _ _ h=>h) (by rfl) (v:= ?_) ?_ jf ?_
  rotate_left
  ·intro V Y
   (try dsimp only at Y)
   go_simp
   try with_reducible rfl
  simp only[gG,gH,gJ,gK];refine jr 11 (μ 49) rfl rfl gX gX gX (λ_ _ _ h=>h) (by rfl) (v:= ?_) ?_ jf ?_
  rotate_left
  ·intro V Y
   (try dsimp only at Y)
   go_simp
   try with_reducible rfl
  simp only[gG,gH,gJ,gK];refine jr 12 (μ 50) rfl rfl gX gX gX (λ_ _ _ h=>h) (by rfl) (v:= ?_) ?_ jf ?_
  rotate_left
  ·intro V Y
   (try dsimp only at Y)
   go_simp
   try with_reducible rfl
  simp only[gG,gH,gJ,gK];refine jr 15 (μ 53) rfl rfl gX gX gX (λ_ _ _ h=>h) (by rfl) (v:= ?_) ?_ jf ?_
  rotate_left
  ·intro V Y
   (try dsimp only at Y)
   go_simp
   try with_reducible rfl
  simp only[gG,gH,gJ,gK];refine jr 16 (μ 54) rfl rfl gX gX gX (λ_ _ _ h=>h) (by rfl) (v:= ?_) ?_ jf ?_
  rotate_left
  ·intro V Y
   (try dsimp only at Y)
   go_simp
   try with_reducible rfl
  simp only[gG,gH,gJ,gK];refine aR (rs:=[13]) gX gZ ?_;refine aG (o:=_) rfl (λK H=> ?_) aN
  go_simp
  refine H.out _ _ ?_ (λlK=> ?_)
  ·exact wM F0
  clear H K;refine aR (rs:=[14]) gX gZ ?_;refine aG (o:=_) rfl (λK H=> ?_) aN
  go_simp
  refine H.out _ _ ?_ (λlK=> ?_)
  ·exact wM F0
  clear H K;refine jr 17 (μ 55) rfl rfl gX gX gX (λ_ _ _ h=>h) (by rfl) (v:= ?_) ?_ jf ?_
  rotate_left
  ·intro V Y
   (try dsimp only at Y)
   go_simp
   try with_reducible rfl
  simp only[gG,gH,gJ,gK];refine aR (rs:=[18]) gX gZ ?_;refine aG (o:=_) rfl (λK H=> ?_) aN
  go_simp
  refine oq.mono ?_;rintro e w5 ⟨rfl,MJ,F5⟩
  (try go_wp2_with(fail))
  refine H.out _ _ ?_ (λlK=> ?_)
  ·exact F5
  clear H K;refine cQ gX ?_ _
  all_goals
   clear oq F0 F5
   go_wp2
   first|go_end0|refine iM rfl rfl ?_
   exact⟨rfl,by rw[HT.out];exact MJ⟩
theorem Ib(p:jy)(c:UInt8)(s:List UInt8):(p.put c s).m=p.m:=by
 unfold jy.put;split
 ·rfl
 ·split<;>rfl
theorem acT(p:jy)(q:kP):(wE p q).m=p.m/\(wE p q).pe=p.pe:=by
 unfold wE;split
 ·exact⟨Ib _ _ _,rS _ _ _⟩
 ·exact⟨rfl,rfl⟩
theorem vF:∀(l:List kP) (p:jy),(p.say l).m=p.m/\(p.say l).pe=p.pe
 |[],_=>⟨rfl,rfl⟩
 |x::l,p=>by
  have h:=vF l (wE p x);have Z:=acT p x;exact⟨h.1.trans Z.1,h.2.trans Z.2⟩
theorem uE(p:jy)(s:List UInt8):(p.packet s).m=p.m/\(p.packet s).pe=p.pe:=by
 unfold jy.packet;simp only;split
 ·exact vF _ _
 ·exact⟨rfl,rfl⟩
theorem ET(p:jy)(s:List UInt8):(p.packet s).out.length<=p.out.length+5040:=by
 unfold jy.packet;simp only;split
 ·have h1:=Hy p.L ((ja s).1,(ja s).2.1,(ja s).2.2.1);have h2:=zM (jN p.L ((ja s).1,(ja s).2.1,(ja s).2.2.1)).2.1 {p with L:=(jN p.L ((ja s).1,(ja s).2.1,(ja s).2.2.1)).1};have h3:({p with L:=(jN p.L ((ja s).1,(ja s).2.1,(ja s).2.2.1)).1}:jy).out.length=p.out.length:=rfl;omega
 ·omega
structure Fit(r:iO)(k:Nat):Prop where
 kd:r.kd.length<=k
 drop:0<=r.drop/\r.drop<=k+1000000000000000
 out:∀j,j<r.n->(r.P j).out.length<=6000*k
theorem Fit.mono(h:Fit r k)(hl:k<=l):Fit r l:=⟨by have:=h.kd;omega,by have:=h.drop;omega,λj Z=>by have:=h.out j Z;omega⟩
theorem Fit.iU {r:iO} {k:Nat} (h:Fit r k)(i:Nat)(p:jy)(Y:i<r.n->p.out.length<=6000*k):Fit (r.iU i p) k:=⟨h.kd,h.drop,λj Z=>by
 show(ll r.P i p j).out.length<=_;by_cases e:j=i
 ·subst e;rw[jB];exact Y Z
 ·rw[ju _ _ e];exact h.out j Z⟩
theorem Fit.grow(h:Fit r k)(i:Nat)(p:jy)(hp:p.out.length<=(r.P i).out.length+6000):Fit (r.iU i p) (k+1):=(h.mono (Nat.le_succ k)).iU i p (λhi=>by have:=h.out i hi;omega)
theorem Fit.congr(h:Fit r k)(Z:r'.kd=r.kd)(Y:r'.drop=r.drop)(X:r'.n=r.n)(V:r'.P=r.P):Fit r' k:=⟨by rw[Z];exact h.kd,by rw[Y];exact h.drop,λj U=>by rw[V];exact h.out j (by rw[<-X];exact U)⟩
theorem oJ(r:iO)(s:Int):(r.behind s).kd=r.kd/\(r.behind s).drop=r.drop/\(r.behind s).n=r.n/\(r.behind s).P=r.P:=by
 unfold iO.behind;split<;>exact⟨rfl,rfl,rfl,rfl⟩
theorem wN(r:iO):r.change.kd=r.kd/\r.change.drop=r.drop/\r.change.n=r.n/\r.change.P=r.P:=by
 unfold iO.change;split
 ·exact⟨rfl,rfl,rfl,rfl⟩
 ·exact oJ _ _
theorem mZ(r:iO)(i:Nat)(q:lr):(r.meet i q).kd=r.kd/\(r.meet i q).drop=r.drop/\(r.meet i q).n=r.n/\(r.meet i q).P=ll r.P i {r.P i with pe:=q}:=by
 unfold iO.meet;simp only;split
 ·exact⟨rfl,rfl,rfl,rfl⟩
 ·split
  ·obtain⟨Z,Y,X,V⟩:=wN ({r.iU i {r.P i with pe:=q}with O:=λx=>if x=i then λ_=>ν else(r.iU i {r.P i with pe:=q}).O x}:iO);exact⟨Z,Y,X,V⟩
  ·obtain⟨Z,Y,X,V⟩:=wN ({r.iU i {r.P i with pe:=q}with O:=λx=>if x=i then λ_=>ν else(r.iU i {r.P i with pe:=q}).O x}:iO);exact⟨Z,Y,X,V⟩
theorem Fit.meet {r:iO} {k:Nat} (h:Fit r k)(i:Nat)(q:lr):Fit (r.meet i q) k:=by
 obtain⟨Z,Y,X,V⟩:=mZ r i q;exact Fit.congr (h.iU i {r.P i with pe:=q} (λhi=>h.out i hi)) Z Y X V
theorem Fit.behind {r:iO} {k:Nat} (h:Fit r k)(s:Int):Fit (r.behind s) k:=by
 obtain⟨Z,Y,X,V⟩:=oJ r s;exact h.congr Z Y X V
theorem acU(r:iO)(t:zi):(r.send t).n=r.n/\(r.send t).id=r.id:=by
 unfold iO.send;split
 ·exact⟨rfl,rfl⟩
 ·split<;>exact⟨rfl,rfl⟩
theorem Fit.send {r:iO} {k:Nat} (h:Fit r k)(t:zi):Fit (r.send t) (k+1):=by
 unfold iO.send;split
 ·exact⟨by have:=h.kd;simp;omega,by have:=h.drop;simp;omega,λj Z=>by have:=h.out j Z;simp;omega⟩
 ·split
  ·exact⟨by have:=h.kd;simp;omega,by have:=h.drop;simp;omega,λj Z=>by have:=h.out j Z;simp;omega⟩
  ·rename_i b _
   exact h.grow b _ (Nat.le_trans (xD (r.P b) 77 (j1 t.1::j1 (t.2.1-1)::t.2.2)) eh)
theorem Fit.state(h:Fit r k)(i:Nat)(l:List UInt8):Fit (jm r i l) (k+1):=by
 unfold jm;simp only;split
 ·exact h.mono (Nat.le_succ k)
 ·split
  ·exact(h.behind _).mono (Nat.le_succ k)
  ·have Z:Fit ({r with K:=lF r.K (St.iu l).1 (St.iu l).2.1 (St.iu l).2.2.1,O:=oX r.K r.O i (St.iu l).1 (St.iu l).2.1 (St.iu l).2.2.1}:iO) k:=h.congr rfl rfl rfl rfl;split
   ·exact Z.grow i _ (Nat.le_trans (xD (r.P i) 65 (ru (St.iu l).1 (St.iu l).2.1 (St.iu l).2.2.1)) (by show(r.P i).out.length+126<=(r.P i).out.length+6000;omega))
   ·exact Z.mono (Nat.le_succ k)
theorem Y5(r:iO)(i:Nat)(l:List UInt8):(jm r i l).n=r.n/\(jm r i l).id=r.id:=by
 unfold jm;simp only;split
 ·exact⟨rfl,rfl⟩
 ·split
  ·exact⟨Vw _ _,Bi _ _⟩
  ·split<;>exact⟨rfl,rfl⟩
theorem lD.send {r:iO} (h:lD r)(t:zi):lD (r.send t):=by
 unfold iO.send;split
 ·exact⟨h.id,h.m,h.pe,h.own,h.PE⟩
 ·split
  ·exact⟨h.id,h.m,h.pe,h.own,h.PE⟩
  ·exact h.iU _ _ (Ib _ _ _) (λhi=>by rw[rS];exact h.pe _ hi)
theorem lD.state(h:lD r)(i:Nat)(l:List UInt8):lD (jm r i l):=by
 unfold jm;simp only;split
 ·exact h
 ·rename_i hc
  have hf:(St.iu l).2.2.2=0:=by
   by_cases e:(St.iu l).2.2.2=0
   ·exact e
   ·exact absurd (.inl e) hc
  have Y:oD (St.iu l).1 (St.iu l).2.1 (St.iu l).2.2.1=0:=pV (l:=l) (by rw[<-hf]);split
  ·exact h.behind (by have:=(jw Y).2.1;omega)
  ·rename_i X
   have Z:lD {r with K:=lF r.K (St.iu l).1 (St.iu l).2.1 (St.iu l).2.2.1,O:=oX r.K r.O i (St.iu l).1 (St.iu l).2.1 (St.iu l).2.2.1}:=by
    refine⟨h.id,h.m,h.pe,?_,?_⟩
    ·show∃q,lF r.K _ _ _ r.id=μ q/\_;unfold lF;split
     ·rename_i V
      have U:r.id≠(St.iu l).1:=λe=>X ⟨e.symm,V⟩;unfold wD;rw[af U];exact h.own
     ·exact h.own
    ·show XO (lF r.K _ _ _);unfold lF;split
     ·exact h.PE.tT (jw Y).1 _
     ·exact h.PE
   split
   ·exact Z.iU _ _ (Ib _ _ _) (λhi=>by rw[rS];exact h.pe _ hi)
   ·exact Z
theorem EU(z:Zt)(r:iO)(k:Nat)(t Z:Int)(tx:ByteArray)(w:dY)(h:mC w z r)(T:lD r)(hf:Fit r k)(hk:k<=100000)(V:0<=t/\t<=255)(hh:0<=Z/\Z<=255)(Y:tx.size<=900):
 eZ e7 91 #[π (μ ⟨z.R,0,ν⟩),.agg #[ι κ t,ι κ Z,.string tx]] w λe w'=>e=ρ (τ #[])/\iG w w' z (r.send (t,Z,tx.data.toList)) r.n:=by
 by_cases e:t=r.id
 ·subst e;refine(RM z r Z tx w h (by have:=hf.kd;omega)).mono ?_;rintro e w1 ⟨rfl,U⟩;refine⟨rfl,?_⟩;unfold iO.send;rw[ai rfl];exact U
 ·exact RN z r t Z tx w h T.PE e V hh Y (by have:=hf.drop;omega) (λj X=>by have:=hf.out j X;omega)
def rC(r:iO)(l:List UInt8):iO:=if 2<=l.length/\l.length<=22 then r.send (((l.getD 0 0).toNat:Int),((l.getD 1 0).toNat:Int),l.drop 2)else r
theorem Dc(s:ByteArray)(z:Zt)(r:iO)(k:Nat)(w:dY)(h:mC w z r)(Y:lD r)(hf:Fit r k)(G:k<=100000)(hs:s.size<=1000):
 eZ e7 137 #[π (μ ⟨z.R,0,ν⟩),.string s] w λe w'=>e=ρ (τ #[])/\iG w w' z (rC r s.data.toList) r.n:=by
 have hl:s.data.toList.length=s.size:=gZ;by_cases h2:2<=s.size
 ·by_cases h22:s.size<=22
  ·have b0:0<s.size:=eh;have b1:1<s.size:=eh;have g1:(2:Int)<=(s.size:Int):=eh;have J:(s.size:Int)<=22:=eh;have Z:∀W,eE w W->eZ e7 91 #[π (μ ⟨z.R,0,ν⟩),.agg #[ι κ (s[0].toNat:Int),ι κ (s[1].toNat:Int),.string (s.extract 2 s.size)]] W λe w'=>e=ρ (τ #[])/\iG w w' z (rC r s.data.toList) r.n:=by
    intro W M;have l0:=s[0].toNat_lt;have l1:=s[1].toNat_lt;refine(EU z r k (s[0].toNat:Int) (s[1].toNat:Int) (s.extract 2 s.size) W (h.below M) Y hf G eh eh (by simp;omega)).mono ?_;rintro e w1 ⟨rfl,U⟩;refine⟨rfl,iG.first h rfl M (λ_=> ?_)⟩;have H:rC r s.data.toList=r.send ((s[0].toNat:Int),(s[1].toNat:Int),(s.extract 2 s.size).data.toList):=by
     unfold rC;rw[ai ⟨eh,eh⟩,nX s 0 b0,nX s 1 b1];rw[wk,aI eh]
    rw[H];exact U
   have X:=Z _ (jb w);have qB:fJ.wrap (s[0].toNat:Int)=(s[0].toNat:Int):=aQ _ ⟨by have:=s[0].toNat_lt;omega,by have:=s[0].toNat_lt;omega⟩;have mU:fJ.wrap (s[1].toNat:Int)=(s[1].toNat:Int):=aQ _ ⟨by have:=s[1].toNat_lt;omega,by have:=s[1].toNat_lt;omega⟩;clear Z hf Y h;obtain⟨T,Q⟩:∃T:dY->Prop,(λx=>iG w x z (rC r s.data.toList) r.n)=T:=⟨_,rfl⟩
   have S:∀x,iG w x z (rC r s.data.toList) r.n=T x:=λx=>ch Q x;simp only[S]at X⊢;clear Q S
   go_in
   go_wp2
   go_region_held3(λ_=>True)
    (first|trivial)
    (first
     |(go_at_call 91;refine X.mono ?_;rintro e w1 ⟨rfl,U⟩))
   all_goals
    clear X
    go_wp2
    first|go_end0|refine iM rfl rfl ?_
    exact⟨rfl,U⟩
  ·have g1:(2:Int)<=(s.size:Int):=eh;have J:¬(s.size:Int)<=22:=eh;have V:Hid (iG w w z (rC r s.data.toList) r.n):=by
    show iG _ _ _ _ _;unfold rC;rw[af eh];exact iG.refl h
   clear h Y hf
   go_in
   go_wp2
   first|go_end0|refine iM rfl rfl ?_
   exact⟨rfl,V.out⟩
 ·have g1:¬(2:Int)<=(s.size:Int):=eh;have V:Hid (iG w w z (rC r s.data.toList) r.n):=by
   show iG _ _ _ _ _;unfold rC;rw[af eh];exact iG.refl h
  clear h Y hf
  go_in
  go_wp2
  first|go_end0|refine iM rfl rfl ?_
  exact⟨rfl,V.out⟩
def j4(r:iO)(i:Nat)(c:UInt8)(s:List UInt8):iO:=if c=76 then r.iU i ((r.P i).packet s)else r
def mF(r1:iO)(i:Nat)(c:UInt8)(s:List UInt8):iO:=
 if c=72 then(if(kI s).2.2=0 then r1.meet i (ji r1.id (kI s).1 (kI s).2.1)else r1)
 else if c=83 then jm r1 i s
 else if c=65 then kF r1 i s
 else if c=77 then rC r1 s
 else r1
theorem lP(r:iO)(i:Nat)(c:UInt8)(s:List UInt8):r.take i c s=if((j4 r i c s).P i).L.st≠9 then(j4 r i c s).meet i nobody else mF (j4 r i c s) i c s:=rfl
theorem VI(T s:ByteArray)(c:UInt8)(z:Zt)(r:iO)(i k:Nat)(w:dY)(h:mC w z r)(hT:T=⟨#[c]⟩)(EV:jh w)(iQ:lD r)(hf:Fit r k)(hk:k<=99999)(hi:i<r.n)(hs:s.size<=1000):
 eZ e7 79 #[π (μ ⟨z.R,0,ν⟩),ι κ (i:Int),.string T,.string s] w λe w'=>e=ρ (τ #[])/\iG w w' z (r.take i c s.data.toList) r.n:=by
 have kX:(i:Int)<(r.n:Int):=eh;have Pv:(0:Int)<=(i:Int):=eh;have c1:=h.c1;have cl:=h.lt;have gl:=h.Kd;have HEq:=lP r i c s.data.toList;obtain⟨r1,lg⟩:=gq (j4 r i c s.data.toList);rw[lg]at HEq;have mT:r1.n=r.n:=by rw[<-lg];unfold j4;split<;>rfl
 have k9:lD r1:=by
  rw[<-lg];unfold j4;split
  ·exact iQ.iU i _ (uE _ _).1 (λhi=>by rw[(uE _ _).2];exact iQ.pe i hi)
  ·exact iQ
 have VJ:Fit r1 (k+1):=by
  rw[<-lg];unfold j4;split
  ·exact hf.grow i _ (Nat.le_trans (ET _ _) eh)
  ·exact hf.mono (Nat.le_succ k)
 have vC:i<r1.n:=by rw[mT];exact hi
 have hop:Hid (∀W,iG w W z r1 r.n->eZ e7 83 #[π (μ ⟨z.g,i*71,ν⟩)] W λe w'=>e=ρ (.bool ((r1.P i).L.st==9))/\W=w'):=by
  intro W S;obtain⟨v,hv⟩:=S.pt vC;exact yJ z.g (i*71) (z.B i) v (r1.P i) W hv
 have u:Hid (c=76->eZ e7 133 #[π (μ ⟨z.g,i*71,ν⟩),.string s] w λe w'=>e=ρ (τ #[])/\iG w w' z r1 r.n):=by
  intro e;refine(Ll s z.g (i*71) (z.B i) (z.v i) (r.P i) w (h.pt i hi) EV hs (by have:=hf.out i hi;omega)).mono ?_;rintro e1 w1 ⟨rfl,hw⟩;refine⟨rfl,?_⟩;rw[<-lg];unfold j4;rw[ai e];exact h.port hi hw
 have y:Hid (c≠76->iG w w z r1 r.n):=by
  intro e;rw[<-lg];unfold j4;rw[af e];exact iG.refl h
 have V:Hid ((r1.P i).L.st≠9->∀W,iG w W z r1 r.n->eZ e7 74 #[π (μ ⟨z.R,0,ν⟩),ι κ (i:Int),.agg #[ι κ 0,.bool false,ι κ 0]] W λe w'=>e=ρ (τ #[])/\iG w w' z (r.take i c s.data.toList) r.n):=by
  intro e W S;rw[HEq,ai e];refine S.call λz1 j hl=> ?_;rw[<-hl.R,<-mT];exact wJ z1 r1 i nobody W j k9 vC (ot.nobody k9.id.1)
 have G:Hid ((r1.P i).L.st=9->c=72->∀W,iG w W z r1 r.n->eZ e7 134 #[π (μ ⟨z.R,0,ν⟩),ι κ (i:Int),.string s] W λe w'=>e=ρ (τ #[])/\iG w w' z (r.take i c s.data.toList) r.n):=by
  intro e X W S;rw[HEq,af (by simp[e])];unfold mF;rw[ai X];refine S.call λz1 j hl=> ?_;rw[<-hl.R,<-mT];exact GJ s z1 r1 i W j k9 vC
 have D:Hid ((r1.P i).L.st=9->c=83->∀W,iG w W z r1 r.n->eZ e7 135 #[π (μ ⟨z.R,0,ν⟩),ι κ (i:Int),.string s] W λe w'=>e=ρ (τ #[])/\iG w w' z (r.take i c s.data.toList) r.n):=by
  intro e X W S;rw[HEq,af (by simp[e])];unfold mF;rw[af (by rw[X];decide),ai X];refine S.call λz1 j hl=> ?_;rw[<-hl.R,<-mT];exact GH s z1 r1 i W j k9 vC hs (by have:=VJ.out i vC;omega)
 have E:Hid ((r1.P i).L.st=9->c=65->∀W,iG w W z r1 r.n->eZ e7 136 #[π (μ ⟨z.R,0,ν⟩),ι κ (i:Int),.string s] W λe w'=>e=ρ (τ #[])/\iG w w' z (r.take i c s.data.toList) r.n):=by
  intro e X W S;rw[HEq,af (by simp[e])];unfold mF;rw[af (by rw[X];decide),af (by rw[X];decide),ai X];refine S.call λz1 j hl=> ?_;rw[<-hl.R,<-mT];exact GG s z1 r1 i W j vC hs
 have H:Hid ((r1.P i).L.st=9->c=77->∀W,iG w W z r1 r.n->eZ e7 137 #[π (μ ⟨z.R,0,ν⟩),.string s] W λe w'=>e=ρ (τ #[])/\iG w w' z (r.take i c s.data.toList) r.n):=by
  intro e X W S;rw[HEq,af (by simp[e])];unfold mF;rw[af (by rw[X];decide),af (by rw[X];decide),af (by rw[X];decide),ai X];refine S.call λz1 j hl=> ?_;rw[<-hl.R,<-mT];exact Dc s z1 r1 (k+1) W j k9 VJ eh hs
 have M:Hid ((r1.P i).L.st=9->c≠72->c≠83->c≠65->c≠77->∀W,iG w W z r1 r.n->iG w W z (r.take i c s.data.toList) r.n):=by
  intro e e1 X e3 e4 W S;rw[HEq,af (by simp[e])];unfold mF;rw[af e1,af X,af e3,af e4];exact S
 have HT:Hid _:=hT;generalize (r1.P i).L.st=st at hop V G D E H M;obtain⟨Q,hQ⟩:∃Q:dY->Prop,(λx=>iG w x z (r.take i c s.data.toList) r.n)=Q:=⟨_,rfl⟩
 have hQ':∀x,iG w x z (r.take i c s.data.toList) r.n=Q x:=λx=>ch hQ x;simp only[hQ']at V G D E H M⊢;obtain⟨Q1,hQ1⟩:∃Q:dY->Prop,(λx=>iG w x z r1 r.n)=Q:=⟨_,rfl⟩
 have agn:∀x,iG w x z r1 r.n=Q1 x:=λx=>ch hQ1 x;simp only[agn]at hop u y V G D E H M;clear h iQ hf k9 VJ vC mT lg HEq hQ hQ' hQ1 agn EV
 go_in
 cases J:(c==76)with
 |true=>
  have vY:=u.out (by simpa using J);go_wp2_with(fail);refine vY.mono ?_;rintro e W3 ⟨rfl,A⟩;clear vY;have zH:=hop.out _ A;go_wp2_with(fail);refine zH.mono ?_;rintro e W4 ⟨rfl,rfl⟩;clear zH;cases q9:(st==9)with
  |false=>
   have Z:=V.out (by simpa using q9) _ A;clear V G D E H M u y hop;go_wp2_with(fail);refine Z.mono ?_;rintro e W5 ⟨rfl,Y⟩;clear Z
   go_wp2
   first|go_end0|refine iM rfl rfl ?_
   exact⟨rfl,Y⟩
  |true=>
   have U:st=9:=by simpa using q9
   have q72:(c==72)=false:=by rw[show c=76 by simpa using J];rfl
   have q83:(c==83)=false:=by rw[show c=76 by simpa using J];rfl
   have q65:(c==65)=false:=by rw[show c=76 by simpa using J];rfl
   have q77:(c==77)=false:=by rw[show c=76 by simpa using J];rfl
   have Y:=M.out U (by simpa using q72) (by simpa using q83) (by simpa using q65) (by simpa using q77) _ A;clear V G D E H M u y hop U
   go_wp2
   first|go_end0|refine iM rfl rfl ?_
   exact⟨rfl,Y⟩
 |false=>
  have A:=y.out (by simpa using J);have zH:=hop.out _ A;go_wp2_with(fail);refine zH.mono ?_;rintro e W4 ⟨rfl,rfl⟩;clear zH;cases q9:(st==9)with
  |false=>
   have Z:=V.out (by simpa using q9) _ A;clear V G D E H M u y hop;go_wp2_with(fail);refine Z.mono ?_;rintro e W5 ⟨rfl,Y⟩;clear Z
   go_wp2
   first|go_end0|refine iM rfl rfl ?_
   exact⟨rfl,Y⟩
  |true=>
   have U:st=9:=by simpa using q9
   cases q72:(c==72)with
   |true=>
    have Z:=G.out U (by simpa using q72) _ A;clear V G D E H M u y hop U;go_wp2_with(fail);refine Z.mono ?_;rintro e W5 ⟨rfl,Y⟩;clear Z
    go_wp2
    first|go_end0|refine iM rfl rfl ?_
    exact⟨rfl,Y⟩
   |false=>
    cases q83:(c==83)with
    |true=>
     have Z:=D.out U (by simpa using q83) _ A;clear V G D E H M u y hop U;go_wp2_with(fail);refine Z.mono ?_;rintro e W5 ⟨rfl,Y⟩;clear Z
     go_wp2
     first|go_end0|refine iM rfl rfl ?_
     exact⟨rfl,Y⟩
    |false=>
     cases q65:(c==65)with
     |true=>
      have Z:=E.out U (by simpa using q65) _ A;clear V G D E H M u y hop U;go_wp2_with(fail);refine Z.mono ?_;rintro e W5 ⟨rfl,Y⟩;clear Z
      go_wp2
      first|go_end0|refine iM rfl rfl ?_
      exact⟨rfl,Y⟩
     |false=>
      cases q77:(c==77)with
      |true=>
       have Z:=H.out U (by simpa using q77) _ A;clear V G D E H M u y hop U;go_wp2_with(fail);refine Z.mono ?_;rintro e W5 ⟨rfl,Y⟩;clear Z
       go_wp2
       first|go_end0|refine iM rfl rfl ?_
       exact⟨rfl,Y⟩
      |false=>
       have Y:=M.out U (by simpa using q72) (by simpa using q83) (by simpa using q65) (by simpa using q77) _ A;clear V G D E H M u y hop U
       go_wp2
       first|go_end0|refine iM rfl rfl ?_
       exact⟨rfl,Y⟩
theorem VK(l:List UInt8)(e d:Bool)(h:l.length<=62):(nH l e d).1.length<=62:=by
 unfold nH;split
 ·simp
 ·split
  ·simp
  ·split
   ·simp
   ·split
    ·simp;omega
    ·simp
theorem VL(s:kE)(c:UInt8)(h:s.1.length<=62):(r8 s c).1.length<=62:=by
 obtain⟨l,e,d⟩:=s;unfold r8;simp only at h⊢;split
 ·exact h
 ·split
  ·exact h
  ·split
   ·exact h
   ·simp;omega
theorem RP(a:List (List UInt8)×Nat×kE)(c:UInt8)(h:a.2.2.1.length<=62)(Z:∀t∈a.1,t.length<=62):(mK a c).2.2.1.length<=62/\∀t∈(mK a c).1,t.length<=62:=by
 have X:(qh a.2.2.1 a.2.2.2.1 a.2.2.2.2 c).1.length<=62:=by
  unfold qh;split
  ·simp
  ·exact VL _ c h
 have U:(qj a.2.2.1 a.2.2.2.1 a.2.2.2.2 c).1.length<=62:=by
  unfold qj;split
  ·exact VK _ _ _ h
  ·simp
 unfold mK;simp only;split
 ·exact⟨X,Z⟩
 ·split
  ·refine⟨X,λt V=> ?_⟩;rcases av.1 V with Y|Y
   ·exact Z t Y
   ·rw[ar.1 Y];exact U
  ·exact⟨X,Z⟩
theorem Ic:∀(l:List UInt8) (a:List (List UInt8)×Nat×kE),a.2.2.1.length<=62->(∀t∈a.1,t.length<=62)->∀t∈(l.foldl mK a).1,t.length<=62
 |[],_,_,h2=>h2
 |c::l,a,h1,h2=>by
  have:=RP a c h1 h2;exact Ic l (mK a c) this.1 this.2
theorem VM(st:kE)(l:List UInt8)(h:st.1.length<=62):∀t∈(kB st l).1,t.length<=62:=Ic l ([],0,st) h (λt Z=>by simp at Z)
theorem Y6(r:iO)(i:Nat)(c:UInt8)(s:List UInt8):(j4 r i c s).n=r.n/\(j4 r i c s).id=r.id:=by
 unfold j4;split<;>exact⟨rfl,rfl⟩
theorem Y7(r:iO)(i:Nat)(c:UInt8)(s:List UInt8):(mF r i c s).n=r.n/\(mF r i c s).id=r.id:=by
 unfold mF;split
 ·split
  ·exact⟨Bj _ _ _,Dy _ _ _⟩
  ·exact⟨rfl,rfl⟩
 ·split
  ·exact Y5 _ _ _
  ·split
   ·unfold kF;simp only;split<;>exact⟨rfl,rfl⟩
   ·split
    ·unfold rC;split
     ·exact acU _ _
     ·exact⟨rfl,rfl⟩
    ·exact⟨rfl,rfl⟩
theorem Oi(r:iO)(i:Nat)(c:UInt8)(s:List UInt8):(r.take i c s).n=r.n/\(r.take i c s).id=r.id:=by
 rw[lP];have Z:=Y6 r i c s;split
 ·exact⟨(Bj _ _ _).trans Z.1,(Dy _ _ _).trans Z.2⟩
 ·have Y:=Y7 (j4 r i c s) i c s;exact⟨Y.1.trans Z.1,Y.2.trans Z.2⟩
theorem lD.link(h:lD r)(i:Nat)(c:UInt8)(s:List UInt8):lD (j4 r i c s):=by
 unfold j4;split
 ·exact h.iU i _ (uE _ _).1 (λhi=>by rw[(uE _ _).2];exact h.pe i hi)
 ·exact h
theorem Fit.link(h:Fit r k)(i:Nat)(c:UInt8)(s:List UInt8):Fit (j4 r i c s) (k+1):=by
 unfold j4;split
 ·exact h.grow i _ (Nat.le_trans (ET _ _) eh)
 ·exact h.mono (Nat.le_succ k)
theorem EW {s:List UInt8} (Z:(kI s).2.2=0):1<=(kI s).1/\(kI s).1<=6:=by
 unfold kI at Z⊢;split at Z
 ·rename_i hc
  rw[ai hc];have:=hc.2;simp only[uu,Bool.and_eq_true,decide_eq_true_eq]at this;simp only;omega
 ·simp at Z
theorem lD.rest(h:lD r)(i:Nat)(c:UInt8)(s:List UInt8):lD (mF r i c s):=by
 unfold mF;split
 ·split
  ·rename_i Z
   exact h.meet i (ot.YQ h.id.1 (EW Z))
  ·exact h
 ·split
  ·exact h.state i s
  ·split
   ·unfold kF;simp only;split
    ·exact h.yL _
    ·exact h
   ·split
    ·unfold rC;split
     ·exact h.send _
     ·exact h
    ·exact h
theorem Fit.rest(h:Fit r k)(i:Nat)(c:UInt8)(s:List UInt8):Fit (mF r i c s) (k+1):=by
 unfold mF;split
 ·split
  ·exact(h.meet i _).mono (Nat.le_succ k)
  ·exact h.mono (Nat.le_succ k)
 ·split
  ·exact h.state i s
  ·split
   ·unfold kF;simp only;split
    ·exact Fit.mono (h.congr rfl rfl rfl rfl) (Nat.le_succ k)
    ·exact h.mono (Nat.le_succ k)
   ·split
    ·unfold rC;split
     ·exact h.send _
     ·exact h.mono (Nat.le_succ k)
    ·exact h.mono (Nat.le_succ k)
theorem lD.take {r:iO} (h:lD r)(i:Nat)(c:UInt8)(s:List UInt8):lD (r.take i c s):=by
 rw[lP];split
 ·exact(h.link i c s).meet i (ot.nobody (h.link i c s).id.1)
 ·exact(h.link i c s).rest i c s
theorem Fit.take {r:iO} {k:Nat} (h:Fit r k)(i:Nat)(c:UInt8)(s:List UInt8):Fit (r.take i c s) (k+2):=by
 rw[lP];split
 ·exact((h.link i c s).meet i _).mono eh
 ·exact(h.link i c s).rest i c s
def jP(r:iO)(i:Nat):List UInt8->iO
 |[] =>r
 |c::s=>r.take i c s
theorem EX:∀(l:List (List UInt8)) (r:iO) (i:Nat) (t:List UInt8),r.takes i (l++ [t])=jP (r.takes i l) i t
 |[],r,i,t=>by cases t<;>rfl
 |x::l,r,i,t=>by
  show(match x with|[] =>r|c::s=>r.take i c s).takes i (l++ [t])=jP ((match x with|[] =>r|c::s=>r.take i c s).takes i l) i t;exact EX l _ i t
theorem RQ(h:lD r)(hf:Fit r k)(i:Nat)(t:List UInt8):(jP r i t).n=r.n/\lD (jP r i t)/\Fit (jP r i t) (k+2):=by
 cases t with
 |nil=>exact⟨rfl,h,hf.mono eh⟩
 |cons c s=>exact⟨(Oi r i c s).1,h.take i c s,hf.take i c s⟩
theorem Bm:∀(l:List (List UInt8)) {r:iO} {k:Nat} (_:lD r) (_:Fit r k) (i:Nat),(r.takes i l).n=r.n/\lD (r.takes i l)/\Fit (r.takes i l) (k+2*l.length)
 |[],r,k,h,hf,i=>⟨rfl,h,hf⟩
 |x::l,r,k,h,hf,i=>by
  have Z:=RQ h hf i x;have e:r.takes i (x::l)=(jP r i x).takes i l:=by cases x<;>rfl
  have Y:=Bm l Z.2.1 Z.2.2 i;rw[e];refine⟨Y.1.trans Z.1,Y.2.1,Y.2.2.mono (by simp;omega)⟩
theorem qE.rdC {o B:Nat} (h:qE w g o B v p):Rd w g (o+2) p.rd.1 p.rd.2.1 p.rd.2.2:=by
 obtain⟨F,hC,hF⟩:=h.xC;refine⟨F,(hC.sub 2 65 eA).congr (λj hj=> ?_),hF⟩;unfold xB;rw[af eh,af eh,ai eh,show 2+j-2=j by omega]
theorem qE.read {o B:Nat} (h:qE w g o B v p)(r:kE)(T:Rd w' g (o+2) r.1 r.2.1 r.2.2)(Z:lp w w' g (o+2) 65):qE w' g o B v {p with rd:=r} /\nR w w' g o B v:=by
 obtain⟨F,hC,hF⟩:=h.xC;obtain⟨G,U,X⟩:=T;have Y:=qz.join (a:=2) (k:=65) hC Z U;refine⟨⟨⟨G,Y.congr (λj Y=>Vm p B v F G r j Y),X⟩,h.lk.keep (Z.block B h.lk.lt (λe=>h.gB e.symm)),h.ou.keep Z.size (λx hx=>Z.block x (h.ou.lt x hx) (λe=>h.vg (by rw[hx,e]))),h.few,h.ok,h.gB,h.vg,h.vB,h.nz⟩,⟨Z.os,Z.tape,Z.output,Z.size,λi hi V _ _=>Z.block i hi V,λj Y=>Z.cell j eh,Z.fz⟩⟩
theorem mC.agp {z:Zt} (h:mC w z r)(hi:i<r.n)(J:qE w' z.g (i*71) (z.B i) (z.v i) p)(Z:nR w w' z.g (i*71) (z.B i) (z.v i)):mC w' z (r.iU i p)/\zO w w' z r.n:=by
 have U:z.mine r.n z.g/\z.mine r.n (z.B i)/\∀k,(z.v i).ownBlock=μ k->z.mine r.n k:=⟨.inr (.inl rfl),.inr (.inr (.inl ⟨i,hi,.inl rfl⟩)),λk Y=>.inr (.inr (.inl ⟨i,hi,.inr Y⟩))⟩
 have S:∀k,k<w.heap.size->¬z.mine r.n k->w'.heap[k]? =w.heap[k]? :=λk Y T=>Z.block k Y (λe=>T (by rw[e];exact U.1)) (λe=>T (by rw[e];exact U.2.1)) (λe=>T (U.2.2 k e));have Q:=h.bs.still Z.size (λj V H=>S j V (λe=>H (h.no j e))) h.nb.1 h.nb.2.1 h.nb.2.2 z.fm.no (λj V=>.inl V) (λj V=>Nat.lt_of_lt_of_le (h.bs.Ro j V) Z.size);refine⟨⟨h.n1,h.n3,h.NT,h.id,?_,?_,?_,Q,h.bl,h.no,h.nb,h.sR,h.sB,h.sV,h.sI,h.Rx⟩,⟨Z.os,Z.tape,Z.output,Z.size,λk Y T _ _=>S k Y T⟩⟩
 ·exact h.oh.keep (Z.block z.R h.oh.lt h.sR.1 (λe=>(h.sR.2.2 i hi).1 e.symm) (h.sR.2.2 i hi).2)
 ·intro j V;by_cases e:j=i
  ·subst e;show qE w' z.g (j*71) (z.B j) (z.v j) (ll r.P j p j);rw[jB];exact J
  ·show qE w' z.g (j*71) (z.B j) (z.v j) (ll r.P i p j);rw[ju _ _ e];have X:=h.pt j V;obtain⟨F,hC,hF⟩:=X.xC;have hs:=h.sB j i V hi e;refine⟨⟨F,λx hx=>⟨(Z.cell (j*71+x) ?_).trans (hC.cell x hx),(Z.fz _).trans (hC.fz x hx)⟩,hF⟩,X.lk.keep (Z.block (z.B j) X.lk.lt (λe=>X.gB e.symm) hs.1 (h.sV i j hi V)),X.ou.keep Z.size (λk Y=>Z.block k (X.ou.lt k Y) (λe=>X.vg (by rw[Y,e])) (λe=>h.sV j i V hi (by rw[Y,e])) (hs.2 k Y)),X.few,X.ok,X.gB,X.vg,X.vB,X.nz⟩;rcases Nat.lt_or_gt_of_ne e with M|M
   ·exact .inl eh
   ·exact .inr eh
 ·exact h.ib.keep Z.size (λk Y=>Z.block k (h.ib.lt k Y) (h.sI k Y).2.1 ((h.sI k Y).2.2 i hi).1 ((h.sI k Y).2.2 i hi).2)
theorem Y8(l:List (List UInt8))(j:Nat)(h:j<l.length):(strs l)[j]? =μ (.string ⟨l[j].toArray⟩):=by simp[strs,h]
theorem VN(s:ByteArray)(z:Zt)(r:iO)(i k:Nat)(w:dY)(h:mC w z r)(EV:jh w)(iQ:lD r)(hf:Fit r k)(hk:k+2*s.size<=99999)(hi:i<r.n):
 eZ e7 23 #[π (μ ⟨z.R,0,ν⟩),ι κ (i:Int),.string s] w λe w'=>e=ρ η/\iG w w' z (r.recv i s.data.toList) r.n:=by
 have hh:=EE z r i w h;rw[zQ hi]at hh;have kX:(i:Int)<(r.n:Int):=eh;have Pv:(0:Int)<=(i:Int):=eh;have c1:=h.c1;have cl:=h.lt;have gl:=h.Kd;have hp:=h.pt i hi;obtain⟨A,hA⟩:=gq (kB (r.P i).rd s.data.toList);have S:=Uw z.g (i*71+2) (r.P i).rd s w hp.rdC eh;rw[hA]at S;have hAl:A.1.length<=s.size:=by
  have:=Dq (r.P i).rd s.data.toList;rw[hA]at this;have e:s.data.toList.length=s.size:=gZ;omega
 have hAt:Hid (∀t∈A.1,t.length<=62):=by
  show∀t∈A.1,_;rw[<-hA];obtain⟨F,_,hF⟩:=hp.xC;exact VM _ _ hF.len
 obtain⟨r1,H⟩:=gq (r.iU i {r.P i with rd:=A.2.2});have u:r1.n=r.n:=by rw[<-H];rfl
 have k9:lD r1:=by rw[<-H];exact iQ.iU i _ rfl (λhi=>iQ.pe i hi)
 have VJ:Fit r1 k:=by rw[<-H];exact hf.iU i _ (λhi=>hf.out i hi)
 have hE:Hid (r.recv i s.data.toList=r1.takes i A.1):=by
  show _=_;unfold iO.recv;simp only[hA];rw[H]
 have G:eZ e7 78 #[π (μ ⟨z.g,i*71+2,ν⟩),.string s] w λe w'=>∃v,e=ρ (τ #[v,ι κ (A.2.1:Int)])/\Row w' 1 v A.1.length (strs A.1)/\(∀k,v.ownBlock=μ k->w.heap.size<=k)/\mC w' z r1/\zO w w' z r.n:=by
  refine S.mono ?_;rintro e w1 ⟨v,rfl,h1,h2,_,h4,h5⟩;refine⟨v,rfl,h1,h2,?_⟩;rw[<-H];have h6:=qE.read hp A.2.2 h4 h5;exact h.agp hi h6.1 h6.2
 have HR:Hid _:=h;have RT:Hid _:=EV;clear h iQ hf hp S EV
 go_in
 go_wp2_with(fail);refine hh.mono ?_;rintro e w0 ⟨rfl,rfl⟩;clear hh;go_wp2_with(fail);refine G.mono ?_;rintro e V ⟨v,rfl,iX,jn,T,XG⟩;clear G c1 cl gl;obtain⟨n,hn⟩:=gq (A.1.length);have YL:∃a cp,v=σ a n cp:=by
  rcases iX.2 with⟨e,h0⟩|⟨g,c,e,_⟩
  ·exact⟨ν,0,by rw[e,<-hn,h0]⟩
  ·exact⟨_,c,by rw[e,hn]⟩
 obtain⟨a,cp,rfl⟩:=YL;have O9:∀j,eu (σ a n cp)=μ j->¬z.mine r.n j:=λj hj=>HR.out.uD (jn j hj);have ags:Hid (∀wr rr,iG V wr z rr r.n->jh wr):=by
  have h1:jh V:=iG.tab (z:=z) (r:=r1) ⟨⟨z,T,z.sA,λ_ e=>.inl e,λ_ e=>e⟩,XG⟩ HR.out rfl RT.out;intro wr rr y;exact y.tab T u h1
 have VO:Hid (∀wr rr,iG V wr z rr r.n->∀j,(hj:j<A.1.length)->∃g,a=μ ⟨g,0,ν⟩/\wr.cell? ⟨g,j,ν⟩=μ (.string ⟨(A.1[j]).toArray⟩)):=by
  intro wr rr y j hj;rcases iX.2 with⟨e,h0⟩|⟨g,c,e,_,_,_,hc,_⟩
  ·omega
  ·have ea:a=μ ⟨g,0,ν⟩:=(bO e).1;refine⟨g,ea,y.cell T (p:=⟨g,j,ν⟩) (O9 g (by rw[ea];rfl)) (hc j _ (Y8 A.1 j hj))⟩
 have acV:Hid (∀wr,iG V wr z (r1.takes i A.1) r.n->iG w wr z (r.recv i s.data.toList) r.n):=by
  intro wr y;rw[hE.out];exact iG.qP (r:=r1) ⟨⟨z,T,z.sA,λ_ e=>.inl e,λ_ e=>e⟩,XG⟩ T z.sA (λ_ e=>.inl e) (λ_ e=>e) y
 have H0:Hid (iG V V z (r1.takes i (A.1.take 0)) r.n):=by
  show iG _ _ _ _ _;rw[<-u];exact iG.refl T
 have HN:Hid _:=hn;have C9:Hid _:=k9;have HF1:Hid _:=VJ;clear iX jn T XG O9 hE k9 VJ H hA;have hns:n<=s.size:=eh
 go_wp2
 go_loopw [30] (λx wr=>∃q:Nat,q<=n/\x=ι κ q/\iG V wr z (r1.takes i (A.1.take q)) r.n) (λx _=>n-(fa x).toNat)
 case atStart=>exact⟨0,Nat.zero_le _,rfl,H0.out⟩
 case round=>
  obtain⟨q,hq,rfl,X⟩:=hrel;by_cases kD:q<n
  ·have nS:(q:Int)<(n:Int):=eh;have hq0:(0:Int)<=(q:Int):=eh;have Q:q<A.1.length:=by have:=HN.out;omega
   obtain⟨g,rfl,hcell⟩:=VO.out _ _ X q Q;have XM:=ags.out _ _ X;have E:=hAt.out _ (aF Q);have J:Hid (r1.takes i (A.1.take (q+1))=jP (r1.takes i (A.1.take q)) i A.1[q]):=by
    show _=_;rw[aA Q,EX]
   have U:=Bm (A.1.take q) C9.out HF1.out i;have hlq:(A.1.take q).length<=q:=ct _ _;have gl:=ag _ _ hcell;generalize A.1[q] =tt at hcell E J;obtain⟨rq,M⟩:=gq (r1.takes i (A.1.take q));rw[M]at X J U;cases tt with
   |nil=>
    have HW:Hid (iG V wr z (r1.takes i (A.1.take (q+1))) r.n):=by
     show iG _ _ _ _ _;rw[J.out];exact X
    clear X J U M;obtain⟨Z,Y⟩:∃Z:ByteArray,(⟨([] :List UInt8).toArray⟩:ByteArray)=Z:=⟨_,rfl⟩
    rw[Y]at hcell;have jx:Z.toList.isEmpty=true:=by rw[<-Y,di];rfl
    clear Y
    go_wp2
    go_roundw
    case rel=>exact⟨q+1,eh,by go_num,HW.out⟩
    case measure=>simp[fa];omega
   |cons c tl=>
    obtain⟨Z,Y⟩:∃Z:ByteArray,(⟨(c::tl).toArray⟩:ByteArray)=Z:=⟨_,rfl⟩
    have rV:Z.size=tl.length+1:=by rw[<-Y];simp[ByteArray.size]
    have hx0:Z.extract 0 1=⟨#[c]⟩:=by
     rw[<-Y];apply gN;apply dE.1;rw[wk];simp
    have hx1:Z.extract 1 Z.size=⟨tl.toArray⟩:=by
     apply gN;apply dE.1;rw[wk,rV,<-Y];simp
    have D:Z.toList=c::tl:=by rw[di,<-Y]
    have jx:Z.toList.isEmpty=false:=by rw[D];rfl
    rw[Y]at hcell;have g1:(1:Int)<=(Z.size:Int):=eh;have g0:(0:Int)<=(Z.size:Int):=eh;have XR:i<rq.n:=by rw[U.1,u];exact hi
    have zj:eZ e7 79 #[π (μ ⟨z.R,0,ν⟩),ι κ (i:Int),.string ⟨#[c]⟩,.string ⟨tl.toArray⟩] wr.drew λe w'=>e=ρ (τ #[])/\iG V w' z (r1.takes i (A.1.take (q+1))) r.n:=by
     rw[J.out];have Dz:=X.below (by rw[U.1];exact u) (jb wr);refine Dz.call λz1 Rz hl=> ?_;have hlen:(⟨tl.toArray⟩:ByteArray).size<=1000:=by
      show tl.toArray.size<=1000;simp at E⊢;omega
     have:=VI ⟨#[c]⟩ ⟨tl.toArray⟩ c z1 rq i (k+2*(A.1.take q).length) wr.drew Rz rfl XM U.2.1 U.2.2 eh XR hlen;rw[hl.R,U.1,u]at this;have e1:(⟨tl.toArray⟩:ByteArray).data.toList=tl:=gZ;rw[e1]at this;exact this
    have g1n:1<=Z.size:=eh;clear X J U M Y XM D rV
    go_wp2
    go_region_held3(λ_=>True)
     (first|trivial)
     (first
      |(go_at_call 79;refine zj.mono ?_;rintro e w6 ⟨rfl,ML⟩))
    all_goals
     have HW6:Hid _:=ML;clear zj ML
     go_wp2
     go_roundw
     case rel=>exact⟨q+1,eh,by go_num,HW6.out⟩
     case measure=>simp[fa];omega
  ·have xZ:¬(q:Int)<(n:Int):=eh;have HW:Hid (iG w wr z (r.recv i s.data.toList) r.n):=by
    show iG _ _ _ _ _;refine acV.out _ ?_;have e1:A.1.take q=A.1:=aI (by have:=HN.out;omega);rw[e1]at X;exact X
   clear X
   go_wp2
   go_ret;exact⟨rfl,HW.out⟩
theorem RU(q:lr)(w:dY)(h:0<=q.left/\q.left<=4):eZ e7 84 #[.agg #[.int .i64 q.who,.bool q.both,.int .i64 q.left]] w λe w'=>
 e=ρ (.agg #[.int .i64 (iK q).who,.bool (iK q).both,.int .i64 (iK q).left])/\eE w w':=by
 have Z:=Go.Proofs.YtieklnlbljejdaaGreatDoor.UG q.who q.left q.both w h.1 eh;have e:Go.Proofs.YtieklnlbljejdaaGreatDoor.iY (q.who,q.both,q.left)=((iK q).who,(iK q).both,(iK q).left):=by
  unfold Go.Proofs.YtieklnlbljejdaaGreatDoor.iY iK;by_cases hl:q.left<=1
  ·simp[hl,nobody]
  ·simp[hl]
 rw[e]at Z;exact Z
theorem sU(p:jy):p.tick.m=p.m/\p.tick.pe=p.pe/\p.tick.out.length<=p.out.length+1512:=by
 unfold jy.tick;have Z:=vF (je p.L).2 {p with L:=(je p.L).1};have h2:=zM (je p.L).2 {p with L:=(je p.L).1};have h3:=HJ p.L;refine⟨Z.1,Z.2,?_⟩;have h4:({p with L:=(je p.L).1}:jy).out.length=p.out.length:=rfl;omega
theorem EY:∀(l:List (Int×PS)) (p:jy),(p.kJ l).m=p.m/\(p.kJ l).pe=p.pe
 |[],_=>⟨rfl,rfl⟩
 |x::l,p=>by
  have h:=EY l (p.put 83 (ru x.1 x.2.1 x.2.2));exact⟨h.1.trans (Ib _ _ _),h.2.trans (rS _ _ _)⟩
theorem Bn(F:Int->Option PS):(lJ F).length<=6:=by
 unfold lJ;have:=dH (λ(j:Nat)=>(F ((j:Int)+1)).map λq=>((j:Int)+1,q)) (List.range 6);simpa using this
theorem lD.tell(h:lD r)(i:Nat):lD (mP r i):=by
 unfold mP;simp only;refine h.iU i _ ?_ (λhi=> ?_)
 ·split
  ·exact(EY _ _).1.trans (Ib _ _ _)
  ·exact Ib _ _ _
 ·have Z:=h.pe i hi;split
  ·rw[(EY _ _).2,rS];exact Z
  ·rw[rS];exact Z
theorem Fit.tell(h:Fit r k)(i:Nat):Fit (mP r i) (k+1):=by
 unfold mP;simp only;have h1:=xD (r.P i) 72 [j1 r.id,j1 (r.P i).pe.who];refine h.grow i _ ?_;split
 ·have h2:=yR (lJ (r.O i)) ((r.P i).put 72 [j1 r.id,j1 (r.P i).pe.who]);have h3:=Bn (r.O i);omega
 ·omega
def jd(r:iO)(i:Nat):iO:=r.iU i (r.P i).tick
theorem ld(r:iO)(i:Nat):r.iY i=if((jd r i).P i).L.st≠9 then(jd r i).meet i nobody else mP ((jd r i).meet i (iK ((jd r i).P i).pe)) i:=rfl
theorem lD.jd {r:iO} (h:lD r)(i:Nat):lD (Rt.jd r i):=h.iU i _ (sU _).1 (λhi=>by rw[(sU _).2.1];exact h.pe i hi)
theorem Fit.jd {r:iO} {k:Nat} (h:Fit r k)(i:Nat):Fit (Rt.jd r i) (k+1):=h.grow i _ (Nat.le_trans (sU _).2.2 eh)
theorem RV(h:lD r)(hf:Fit r k)(hi:i<r.n):(r.iY i).n=r.n/\lD (r.iY i)/\Fit (r.iY i) (k+2):=by
 rw[ld];have Z:=h.jd i;have f1:=hf.jd i;split
 ·exact⟨Bj _ _ _,Z.meet i (ot.nobody Z.id.1),(f1.meet i _).mono eh⟩
 ·have Y:=(Z.pe i hi).tick Z.id.1;exact⟨Bj _ _ _,(Z.meet i Y).tell i,(f1.meet i _).tell i⟩
theorem Bp {r:iO} {k:Nat} (h:lD r)(hf:Fit r k):∀q,q<=r.n->(r.jc q).n=r.n/\lD (r.jc q)/\Fit (r.jc q) (k+2*q)
 |0,_=>⟨rfl,h,hf⟩
 |q+1,hq=>by
  have ih:=Bp h hf q eh;have:=RV (i:=q) ih.2.1 ih.2.2 (by rw[ih.1];omega);exact⟨this.1.trans ih.1,this.2.1,this.2.2.mono eh⟩
theorem RW(z:Zt)(r:iO)(k:Nat)(w:dY)(h:mC w z r)(EV:jh w)(iQ:lD r)(hf:Fit r k)(hk:k<=90000):
 eZ e7 25 #[π (μ ⟨z.R,0,ν⟩)] w λe w'=>e=ρ (τ #[])/\iG w w' z r.tick r.n:=by
 have c1:=h.c1;have cl:=h.lt;have ye:=h.n3;obtain⟨n,hn⟩:=gq (r.n);have H0:Hid (iG w w z (r.jc 0) r.n):=iG.refl h;have RT:Hid (∀wr rr,iG w wr z rr r.n->jh wr):=λwr rr hw=>hw.tab h rfl EV;have RX:Hid (∀q,q<=r.n->(r.jc q).n=r.n/\lD (r.jc q)/\Fit (r.jc q) (k+2*q)):=Bp iQ hf;have JA:Hid (r.tick=r.jc r.n):=rfl;rw[hn]at c1 ye H0 RT RX JA⊢;clear h iQ hf EV
 go_in
 go_wp2
 go_loopw [8] (λx wr=>∃q:Nat,q<=n/\x=ι κ q/\iG w wr z (r.jc q) n) (λx _=>n-(fa x).toNat)
 case atStart=>exact⟨0,Nat.zero_le _,rfl,H0.out⟩
 case round=>
  obtain⟨q,hq,rfl,X⟩:=hrel;by_cases kD:q<n
  ·have nS:(q:Int)<(n:Int):=eh;have hq0:(0:Int)<=(q:Int):=eh;obtain⟨a1,a2,a3⟩:=RX.out q eh;have hT:=RT.out _ _ X;have d1:=X.c1;have dl:=X.lt;rw[a1]at d1;have HS:Hid (r.jc (q+1)=(r.jc q).iY q):=rfl;obtain⟨J,A⟩:=gq (r.jc q);rw[A]at X HS a1 a2 a3;have XR:q<J.n:=eh;have zj:eZ e7 82 #[π (μ ⟨z.g,q*71,ν⟩)] wr λe w'=>e=ρ (τ #[])/\iG w w' z (jd J q) n:=by
    refine X.call λV T hl=> ?_;rw[<-hl.g];refine(Rv V.g (q*71) (V.B q) (V.v q) (J.P q) wr (T.pt q XR) hT (by have:=a3.out q XR;omega)).mono ?_;rintro e w1 ⟨rfl,hw⟩;have:=T.port XR hw;rw[a1]at this;exact⟨rfl,this⟩
   have k9:=a2.jd q;have VJ:=a3.jd q;have H:(jd J q).n=n:=a1;obtain⟨r1,lg⟩:=gq (jd J q);have HE:Hid (J.iY q=if(r1.P q).L.st≠9 then r1.meet q nobody else mP (r1.meet q (iK (r1.P q).pe)) q):=by
    show _=_;rw[<-lg];exact ld J q
   rw[lg]at zj k9 VJ H;have Q:Hid _:=k9;have HF1:Hid _:=VJ;clear A a2 a3 X hT lg k9 VJ;go_wp2_with(fail);refine zj.mono ?_;rintro e D ⟨rfl,S⟩;have vC:q<r1.n:=eh;obtain⟨v1,Z⟩:=S.pt vC;have hop:=yJ z.g (q*71) (z.B q) v1 (r1.P q) D Z;have e1:=S.c1;have el:=S.lt;have gl:=S.Kd;rw[H]at e1;have g7:=Z.c67;have g8:=Z.c68;have g9:=Z.c69;clear zj Z d1 dl;go_wp2_with(fail);refine hop.mono ?_;rintro e W2 ⟨rfl,rfl⟩;clear hop;cases q9:((r1.P q).L.st==9)with
   |false=>
    have jx:(r1.P q).L.st≠9:=by simpa using q9
    have hm:eZ e7 74 #[π (μ ⟨z.R,0,ν⟩),ι κ (q:Int),.agg #[ι κ 0,.bool false,ι κ 0]] D λe w'=>e=ρ (τ #[])/\iG w w' z (r.jc (q+1)) n:=by
     rw[HS.out,HE.out,ai jx];refine S.call λV T hl=> ?_;rw[<-hl.R,<-H];exact wJ V r1 q nobody D T Q.out vC (ot.nobody Q.out.id.1)
    clear S jx;go_wp2_with(fail);refine hm.mono ?_;rintro e W3 ⟨rfl,j⟩;have HW3:Hid _:=j;clear hm j
    go_wp2
    go_roundw
    case rel=>exact⟨q+1,eh,by go_num,HW3.out⟩
    case measure=>simp[fa];omega
   |true=>
    have h9:(r1.P q).L.st=9:=by simpa using q9
    have G:Hid (r.jc (q+1)=mP (r1.meet q (iK (r1.P q).pe)) q):=by
     show _=_;rw[HS.out,HE.out,af (by simp[h9])]
    have Y:=Q.out.pe q vC;have U:=RU (r1.P q).pe D Y.left;have E:Hid (∀W,eE D W->eZ e7 74 #[π (μ ⟨z.R,0,ν⟩),.int .i64 (q:Int),.agg #[.int .i64 (iK (r1.P q).pe).who,.bool (iK (r1.P q).pe).both,.int .i64 (iK (r1.P q).pe).left]] W λe w'=>e=ρ (τ #[])/\iG w w' z (r1.meet q (iK (r1.P q).pe)) n):=by
     intro W hW;refine(S.below H hW).call λV T hl=> ?_;rw[<-hl.R,<-H];exact wJ V r1 q _ W T Q.out vC (Y.tick Q.out.id.1)
    have u:Hid (∀W,iG w W z (r1.meet q (iK (r1.P q).pe)) n->eZ e7 85 #[π (μ ⟨z.R,0,ν⟩),ι κ (q:Int)] W λe w'=>e=ρ (τ #[])/\iG w w' z (r.jc (q+1)) n):=by
     intro W hW;rw[G.out];refine hW.call λV T hl=> ?_;have vQ:(r1.meet q (iK (r1.P q).pe)).n=n:=(Bj _ _ _).trans H;rw[<-hl.R,<-vQ];have acD:=Q.out.meet q (Y.tick Q.out.id.1);exact VB V _ q W T acD eh (by have:=(HF1.out.meet q (iK (r1.P q).pe)).out q eh;omega)
    generalize (r1.P q).pe.who=p1 at g7 U;generalize (r1.P q).pe.both=p2 at g8 U;generalize (r1.P q).pe.left=p3 at g9 U;generalize (iK (r1.P q).pe).who=t1 at U E;generalize (iK (r1.P q).pe).both=t2 at U E;generalize (iK (r1.P q).pe).left=t3 at U E;clear S h9 Y G;go_wp2_with(fail);refine U.mono ?_;rintro e W2 ⟨rfl,b2⟩;have C2:=E.out _ b2;clear U E;go_wp2_with(fail);refine C2.mono ?_;rintro e W3 ⟨rfl,j⟩;have y:=u.out _ j;clear C2 u j;go_wp2_with(fail);refine y.mono ?_;rintro e W4 ⟨rfl,uW⟩;have Lx:Hid _:=uW;clear y uW
    go_wp2
    go_roundw
    case rel=>exact⟨q+1,eh,by go_num,Lx.out⟩
    case measure=>simp[fa];omega
  ·have xZ:¬(q:Int)<(n:Int):=eh;have M:q=n:=eh;have HW:Hid (iG w wr z r.tick n):=by
    show iG _ _ _ _ _;rw[JA.out,<-M];rw[<-M]at X;exact X
   clear X M
   go_wp2
   first|go_end0|refine iM rfl rfl ?_
   exact⟨rfl,HW.out⟩
theorem yU(p:jy)(up:Bool):((p.iL up).1.m=p.m/\(p.iL up).1.pe=p.pe)/\((p.iL up).2≠0->(p.iL up).1=p):=by
 unfold jy.iL;generalize k8 p.L (if up=true then 0 else 1)=e;simp only;by_cases h:e.2.2=0
 ·rw[af (by simp[h])];exact⟨vF _ _,λe=>absurd rfl e⟩
 ·rw[ai h];exact⟨⟨rfl,rfl⟩,λ_=>rfl⟩
theorem RY(z:Zt)(r:iO)(k:Nat)(t:Int)(tx:ByteArray)(w:dY)(h:mC w z r)(X:lD r)(hf:Fit r k)(T:k<=100000):
 eZ e7 27 #[π (μ ⟨z.R,0,ν⟩),ι κ t,.string tx] w λe w'=>e=ρ (jk (kg r t tx.data.toList).2)/\iG w w' z (kg r t tx.data.toList).1 r.n:=by
 have hl:tx.data.toList.length=tx.size:=gZ;by_cases V:t<1
 ·have Z:kg r t tx.data.toList=(r,1):=by unfold kg;rw[ai (.inl V)]
  rw[Z];have Y:Hid _:=iG.refl h;clear h X hf
  go_in
  go_wp2
  go_ret;exact⟨rfl,Y.out⟩
 ·by_cases U:6<t
  ·have Z:kg r t tx.data.toList=(r,1):=by unfold kg;rw[ai (.inr (.inl U))]
   rw[Z];have Y:Hid _:=iG.refl h;clear h X hf
   go_in
   go_wp2
   go_ret;exact⟨rfl,Y.out⟩
  ·by_cases h3:(20:Int)<(tx.size:Int)
   ·have Z:kg r t tx.data.toList=(r,1):=by unfold kg;rw[ai (.inr (.inr eh))]
    rw[Z];have Y:Hid _:=iG.refl h;clear h X hf
    go_in
    go_wp2
    go_ret;exact⟨rfl,Y.out⟩
   ·have Z:kg r t tx.data.toList=(r.send (t,8,tx.data.toList),0):=by unfold kg;rw[af eh]
    rw[Z];have hs:=EU z r k t 8 tx w h X hf T eh eh eh;clear h X hf
    go_in
    go_wp2_with(fail);refine hs.mono ?_;rintro e w1 ⟨rfl,S⟩;clear hs
    go_wp2
    go_ret;exact⟨rfl,S⟩
theorem RZ(up:Bool)(z:Zt)(r:iO)(i k:Nat)(w:dY)(h:mC w z r)(H:jh w)(Q:lD r)(hf:Fit r k)(hk:k<=100000)(hi:i<r.n):
 eZ e7 20 #[π (μ ⟨z.R,0,ν⟩),ι κ (i:Int),.bool up] w λe w'=>e=ρ (jk (r.iL i up).2)/\iG w w' z (r.iL i up).1 r.n:=by
 have hh:=EE z r i w h;rw[zQ hi]at hh;have kX:(i:Int)<(r.n:Int):=eh;have Pv:(0:Int)<=(i:Int):=eh;have c1:=h.c1;have cl:=h.lt;have gl:=h.Kd;have Z:=Rw up z.g (i*71) (z.B i) (z.v i) (r.P i) w (h.pt i hi) H (by have:=hf.out i hi;omega);have X:r.iL i up=if((r.P i).iL up).2≠0 then(r,((r.P i).iL up).2)else((r.iU i ((r.P i).iL up).1).meet i nobody,0):=rfl
 have Y:=(yU (r.P i) up).1;have M:=(yU (r.P i) up).2;have j:r.iU i (r.P i)=r:=by
  have:ll r.P i (r.P i)=r.P:=by
   funext x
   unfold ll;by_cases e:x=i
   ·simp[e]
   ·simp[e]
  show({r with P:=ll r.P i (r.P i)}:iO)=r;rw[this]
 obtain⟨A,J⟩:=gq (((r.P i).iL up).1);obtain⟨f,V⟩:=gq (((r.P i).iL up).2);rw[J,V]at Z X;rw[J]at Y M;rw[V]at M;have G:Hid _:=h;have D:Hid (lD (r.iU i A)):=Q.iU i _ Y.1 (λhi=>by rw[Y.2];exact Q.pe i hi);clear h Q hf H;by_cases S:f=0
 ·subst S;rw[af gZ]at X;rw[X];have u:jk 0=η:=rfl;rw[u]at Z⊢
  go_in
  go_wp2_with(fail);refine hh.mono ?_;rintro e w0 ⟨rfl,rfl⟩;clear hh;go_wp2_with(fail);refine Z.mono ?_;rintro e w1 ⟨rfl,T⟩;have U:=G.out.port hi T;have E:eZ e7 74 #[π (μ ⟨z.R,0,ν⟩),ι κ (i:Int),.agg #[ι κ 0,.bool false,ι κ 0]] w1 λe w'=>e=ρ (τ #[])/\iG w w' z ((r.iU i A).meet i nobody) r.n:=by
   refine U.call λz1 y hl=> ?_;rw[<-hl.R];exact wJ z1 _ i nobody w1 y D.out hi (ot.nobody D.out.id.1)
  clear Z T U;go_wp2_with(fail);refine E.mono ?_;rintro e w2 ⟨rfl,vR⟩;clear E
  go_wp2
  go_ret;exact⟨rfl,vR⟩
 ·rw[ai S]at X;rw[X];have hb:=M S;have ee:jk f=.iface 128 (ι κ (f:Int)):=by simp only[jk];rw[af S]
  rw[ee]at Z⊢
  go_in
  go_wp2_with(fail);refine hh.mono ?_;rintro e w0 ⟨rfl,rfl⟩;clear hh;go_wp2_with(fail);refine Z.mono ?_;rintro e w1 ⟨rfl,T⟩;have U:=G.out.port hi T;rw[hb,j]at U;clear Z T
  go_wp2
  go_ret;exact⟨rfl,U⟩
theorem R6(z:Zt)(r:iO)(w:dY)(h:mC w z r):
 eZ e7 32 #[π (μ ⟨z.R,0,ν⟩)] w λe w'=>e=ρ z.iv/\Row w' 3 z.iv r.kd.length (rR r.kd)/\iG w w' z {r with kd:=[] } r.n:=by
 have c3:=h.c3;have cl:=h.lt;have f3:=h.oh.frozen 3;have Z:Hid _:=h;clear h
 go_in
 go_wp2
 go_ret;refine⟨rfl,Z.out.ib.keep gZ (λk Y=>ak _ _ _ k (by show k≠z.R;exact(Z.out.sI k Y).1)),?_⟩;exact Z.out.own (σ ν 0 0) [] r.drop gZ rfl rfl rfl (λk _ X _=>ak _ _ _ k X) (Z.out.oh.set 3 _) (Row.nil _ 3) (λk Y=>by simp[eu]at Y)
theorem VP(z:Zt)(r:iO)(i:Nat)(w:dY)(h:mC w z r)(hi:i<r.n):
 eZ e7 29 #[π (μ ⟨z.R,0,ν⟩),ι κ (i:Int)] w λe w'=>e=ρ (τ #[.string ⟨(r.P i).out.toArray⟩,η])/\iG w w' z (r.out i) r.n:=by
 have hh:=EE z r i w h;rw[zQ hi]at hh;have kX:(i:Int)<(r.n:Int):=eh;have Pv:(0:Int)<=(i:Int):=eh;have c1:=h.c1;have cl:=h.lt;have gl:=h.Kd;have Z:=h.pt i hi;have X:=Z.c70;have f70:=Z.fz 70 eA;have U:=Row.back Z.ou 140 9 5 underlying140 underlying5 underlying9;have V:lU w (w.setCell ⟨z.g,i*71+70,ν⟩ (σ ν 0 0)) z.g (i*71) (z.B i) (z.v i) {r.P i with out:=[] }:=by
  obtain⟨F,hC,hF⟩:=Z.xC;have Y:=(lp.refl w z.g (i*71) 71).set (i*71+70) eh eh (σ ν 0 0);refine⟨⟨σ ν 0 0,⟨⟨F,(hC.set 70 eA (σ ν 0 0)).congr (PD (r.P i) (z.B i) (z.v i) (σ ν 0 0) F []),hF⟩,Z.lk.keep (Y.block _ Z.lk.lt (λe=>Z.gB e.symm)),Row.nil _ 1,gZ,Z.ok,Z.gB,by simp[eu],by simp[eu],⟨Z.nz.1,Z.nz.2.1,by simp[eu]⟩⟩,λk Y=>by simp[eu]at Y⟩,⟨Y.os,Y.tape,Y.output,Y.size,λj Q S _ _=>Y.block j Q S,Y.cell,Y.fz⟩⟩
 have T:Hid (iG w (w.setCell ⟨z.g,i*71+70,ν⟩ (σ ν 0 0)) z (r.out i) r.n):=h.port hi V;generalize (r.P i).out=L at U⊢;generalize z.v i=v at X U;clear h Z V
 go_in
 go_wp2_with(fail);refine hh.mono ?_;rintro e w0 ⟨rfl,rfl⟩;clear hh
 go_wp2
 go_ret2
 exact⟨rfl,T.out⟩
def Bq(m mg:Int):jy:=⟨m,⟨255,mg,255,mg,0,0,1,255,0,0,0⟩,([],false,false),nobody,[]⟩
theorem Ly(m mg:Int)(w:dY)(hT:jh w)(hm:1<=m/\m<=20)(hg:1<=mg/\mg<=255):
 eZ e7 68 #[ι κ m,ι κ mg] w λe w'=>∃B,e=ρ (τ #[.agg (rowOf 71 (xB (Bq m mg) B (σ ν 0 0) Nk)),η])/\Lk w' B ((Bq m mg).L.c (σ ν 0 0))/\w.heap.size<B/\eE w w':=by
 have hz:=NW;have rV:=NY;obtain⟨Z,y⟩:=gq (rowOf 71 zPt);have Q:Z.size=71:=by rw[<-y];exact mM _ _
 rw[y]at hz;have alq:¬Z= #[] :=λe=>by rw[e]at Q;simp at Q
 have ba:=gY w (γ Z 142);have xw:iZ (w.alloc (γ Z 142)) w.heap.size Z 142:=iZ.new w _ _;have Tw:=hT.below ba;have U:=YI 255 mg (w.alloc (γ Z 142)) eh eh eh eh;obtain⟨W0,h⟩:=gq (w.alloc (γ Z 142));obtain⟨N,u⟩:=gq (w.heap.size);have hNs:N<W0.heap.size:=by rw[<-h,<-u];simp
 rw[h]at ba xw U Tw;rw[u]at xw;have g1:¬m<1:=eh;have g2:¬20<m:=eh;have GK:Hid _:=h;have A:Hid _:=u;have HB0:Hid _:=xw;have HZ:Hid _:=y;clear h u xw y
 go_in
 go_wp2_with(fail);rw[GK.out,A.out];refine U.mono ?_;rintro e w1 ⟨B,rfl,hL,hBg,b1⟩;have G:=U8 B 255 mg 255 mg 0 0 255 0 0 0 (σ ν 0 0) w1 (Tw.below b1) hL;clear U hL;go_wp2_with(fail);refine G.mono ?_;rintro e T ⟨rfl,J,X⟩;obtain⟨D,hD⟩:=gq ((Z.setIfInBounds 0 (eB .i64 m)).setIfInBounds 1 (Value.pointer (μ ⟨B,0,ν⟩)));have S:D.size=71:=by rw[<-hD];simp[Q]
 have M:Hid (D=rowOf 71 (xB (Bq m mg) B (σ ν 0 0) Nk)):=by
  show _=_;rw[<-hD,<-HZ.out];apply bQ;intro j;by_cases E:j<71
  ·rw[sS 71 _ j E,bk,bk,sS 71 _ j E];simp only[gO,mM];by_cases e1:j=1
   ·subst e1;simp[xB]
   ·by_cases e0:j=0
    ·subst e0;simp[xB,Bq]
    ·rw[af (λe=>e1 e.symm),af (λe=>e0 e.symm)];congr 1;unfold zPt xB;simp only[e0,e1,if_false];rfl
  ·rw[a9 (by simp[mM];omega),a9 (by rw[mM];omega)]
 have py:D.all (·.oneCell')=true:=by rw[M.out];exact Js Dp.zero rfl
 have H:N≠B:=eh;have V:iZ T N Z 142:=by
  have Y:=iZ.below HB0.out b1;exact Y.keep (X.block N Y.lt (λe=>H (Option.some.inj e)))
 have hR:iZ (T.setRow N D) N D 142:=V.setRow;have XS:Lk (T.setRow N D) B ((Bq m mg).L.c (σ ν 0 0)):=J.keep (by simp only[World.setRow];rw[cJ,af H]);have l6:=bU (P:=e7) (T.setRow N D) N 142 142 D (0,0) _ hR underlying142 rfl (by rw[S];exact rV);have iN:Hid (eE w (T.setRow N D)):=by
  have Y:=gu ba b1;have h2:eE w T:=⟨X.os.trans Y.os,X.tape.trans Y.tape,X.output.trans Y.output,Nat.le_trans Y.size X.size,λj E=>(X.block j (Nat.lt_of_lt_of_le E Y.size) (λe=>by have e2:j=B:=Option.some.inj e;have:=A.out;omega)).trans (Y.block j E)⟩
  exact Go.Proofs.YtieklnlbljejdaaGreatDoor.oR h2 (by have:=A.out;omega) D
 have HL3:Hid _:=XS;clear G J X XS hR;go_wp2_with(first
  |(rw[hD];refine oo _ rfl (.tmp 4) (.tmp 29) 142 rfl rfl N Z D rfl rfl V (by rw[Q,S]) (by rw[S];exact rV) py ?_)
  |(refine oo _ rfl (.tmp 4) (.tmp 29) 142 rfl rfl N Z D rfl rfl V (by rw[Q,S]) (by rw[S];exact rV) py ?_))
 refine aE (v:=τ #[.agg D,η]) (by simp[results,results68,asAddr,l6]) rfl ?_;exact⟨B,by rw[M.out],HL3.out,by have:=A.out;omega,iN.out⟩
theorem zV:∀(l:List dZ) (k:Nat) (base:Array dZ) (j:Nat),k+l.length<=base.size->((l.zipIdx k).foldl (λcs (x:dZ×Nat)=>cs.setIfInBounds x.2 x.1) base)[j]? =if k<=j/\j<k+l.length then l[j-k]? else base[j]?
 |[],k,base,j,_=>by
  rw[af gZ];rfl
 |x::l,k,base,j,h=>by
  have X:k+1+l.length<=base.size:=by simp at h;omega
  rw[List.zipIdx_cons,bF,zV l (k+1) (base.setIfInBounds k x) j (by rw[gO];exact X)];by_cases Z:k+1<=j/\j<k+1+l.length
  ·rw[ai Z,ai (by simp;omega),show j-k=(j-(k+1))+1 by omega,List.getElem?_cons_succ]
  ·rw[af Z,bk];by_cases Y:k=j
   ·subst Y;rw[ai rfl,ai eh,ai gZ];simp
   ·rw[af Y,af (by simp;omega)]
theorem EZ(D base:Array dZ)(h:base.size=D.size)(n:Nat)(Z:D.size=n):Array.foldl (λcs (x:dZ×Nat)=>cs.setIfInBounds x.2 x.1) base D.zipIdx 0 n=D:=by
 have hs:D.zipIdx.size=n:=by rw[Array.size_zipIdx,Z]
 rw[<-hs,<-Array.foldl_toList,Array.toList_zipIdx];apply bQ;intro j;rw[zV D.toList 0 base j (by simp;omega)];by_cases hj:j<D.size
 ·rw[ai (by simp;omega)];simp
 ·rw[af (by simp;omega),a9 eh,a9 eh]
theorem VQ:(e7.info? 142).map (λi=>(i.zero,i.size,i.bytes))=μ (μ (.agg (rowOf 71 zPt)),71,144):=gX
def yV(id:Int)(ms:Nat->Int)(B:Nat->Nat):Nat->List dZ
 |0=>[]
 |q+1=>yV id ms B q++(rowOf 71 (xB (Bq (ms q) (8*id+q+1)) (B q) (.slice none 0 0) Nk)).toList
theorem wO(id:Int)(ms:Nat->Int)(B:Nat->Nat):∀q,(yV id ms B q).length=q*71
 |0=>rfl
 |q+1=>by
  unfold yV;rw[az,wO id ms B q,Array.length_toList,mM];omega
theorem PX(id:Int)(ms:Nat->Int)(B:Nat->Nat):∀(q i j:Nat),i<q->j<71->(yV id ms B q)[i*71+j]? =μ (xB (Bq (ms i) (8*id+i+1)) (B i) (σ ν 0 0) Nk j)
 |0,i,j,h,_=>eh
 |q+1,i,j,h,hj=>by
  unfold yV;have hl:=wO id ms B q;by_cases e:i=q
  ·subst e;rw[bu eh,hl,show i*71+j-i*71=j by omega];simpa using sS 71 (xB (Bq (ms i) (8*id+i+1)) (B i) (σ ν 0 0) Nk) j hj
  ·rw[bE eh];exact PX id ms B q i j eh hj
structure Making(wb W:dY)(id:Int)(ms:Nat->Int)(q R Bb:Nat)(B:Nat->Nat)(v:dZ):Prop where
 oh:iZ W R #[ι κ id,v,π (μ ⟨Bb,0,ν⟩),σ ν 0 0,ι κ 0] 135
 row:Row W 71 v q (yV id ms B q)
 lk:∀i,i<q->Lk W (B i) ((Bq (ms i) (8*id+i+1)).L.c (σ ν 0 0))
 nU:eE wb W
 gR:wb.heap.size<=R
 gB:∀i,i<q->wb.heap.size<=B i/\B i≠R/\v.ownBlock≠μ (B i)
 gV:∀k,v.ownBlock=μ k->wb.heap.size<=k/\k≠R
 dis:∀i j,i<q->j<q->i≠j->B i≠B j
theorem Making.below {wb W W':dY} {id:Int} {ms:Nat->Int} {q R Bb:Nat} {B:Nat->Nat} {v:dZ} (h:Making wb W id ms q R Bb B v)(hb:eE W W'):Making wb W' id ms q R Bb B v:=
 ⟨h.oh.below hb,h.row.below hb,λi hi=>(h.lk i hi).below hb,gu h.nU hb,h.gR,h.gB,h.gV,h.dis⟩
theorem E3(id:Int)(ms:Nat->Int)(B B':Nat->Nat):∀q,(∀i,i<q->B i=B' i)->yV id ms B q=yV id ms B' q
 |0,_=>rfl
 |q+1,h=>by
  unfold yV;rw[E3 id ms B B' q (λi hi=>h i eh),h q eh]
theorem E4(w:dY)(D:Array dZ)(t:TypeId)(g:Nat)(Z:w.heap.size=g):∀(j:Nat) (u:dZ),D.toList[j]? =μ u->(w.alloc (γ D t)).drew.cell? ((⟨g,0,ν⟩:Addr).add j)=μ u:=by
 subst Z;intro j u Y;rw[add_plain];show(w.alloc (γ D t)).cell? _=_;rw[aq];simpa using Y
theorem Making.add {W2 x1:dY} {q:Nat} {B' g' jv:Nat} {D:Array dZ} (h:Making wb W2 id ms q RR Bb B v)(hD:rowOf 71 (xB (Bq (ms q) (8*id+q+1)) B' (σ ν 0 0) Nk)=D)
 (M:Lk W2 B' ((Bq (ms q) (8*id+q+1)).L.c (σ ν 0 0))) (rN:wb.heap.size<=B') (E:B'≠RR) (y:v.ownBlock≠μ B') (A:∀i,i<q->B i≠B')
 (hr:Row x1 71 (σ (μ ⟨g',0,ν⟩) (q+1) jv) (q+1) (yV id ms B q++D.toList)) (X:(W2.alloc o).drew.grownBy x1 v.ownBlock) (jq:v.ownBlock=μ g' \/(W2.alloc o).drew.heap.size<=g'):
 Making wb (x1.setCell ⟨RR,1,ν⟩ (σ (μ ⟨g',0,ν⟩) (q+1) jv)) id ms (q+1) RR Bb (λi=>if i=q then B' else B i) (σ (μ ⟨g',0,ν⟩) (q+1) jv):=by
 have G:v.ownBlock=μ g' \/W2.heap.size<=g':=jq.imp_right (λe=>Nat.le_trans (by show W2.heap.size<=(W2.alloc o).heap.size;simp) e);have u:v.ownBlock≠μ RR:=λe=>(h.gV _ e).2 rfl;have S:∀k,k<W2.heap.size->v.ownBlock≠μ k->k≠RR->(x1.setCell ⟨RR,1,ν⟩ (σ (μ ⟨g',0,ν⟩) (q+1) jv)).heap[k]? =W2.heap[k]? :=by
  intro k Y Q h2;rw[ak _ _ _ k h2,X.block k (by show k<(W2.alloc o).heap.size;simp;omega) (λe=>Q e.symm)];exact aU W2 o k Y
 have rV:W2.heap.size<=x1.heap.size:=Nat.le_trans (by show W2.heap.size<=(W2.alloc o).heap.size;simp) X.size;have hRl:=h.oh.lt;have Y3:g'≠RR:=by
  intro e;rcases G with Z|Z
  ·exact u (by rw[Z,e])
  ·omega
 have H:=h.nU.size;refine⟨(uB h.oh X u).set 1 _,?_,λi hi=> ?_,⟨X.os.trans h.nU.os,X.tape.trans h.nU.tape,X.output.trans h.nU.output,Nat.le_trans H (by simpa using rV),λk Y=> ?_⟩,h.gR,λi hi=> ?_,λk Y=> ?_,λi j hi hj J=> ?_⟩
 ·have Z:yV id ms (λi=>if i=q then B' else B i) (q+1)=yV id ms B q++D.toList:=by
   show yV id ms (λi=>if i=q then B' else B i) q++_=_;rw[E3 id ms _ B q (λi hi=>by simp[show i≠q by omega])];simp only[if_true];rw[hD]
  rw[Z];exact hr.keep gZ (λk Y=>ak _ _ _ k (by
   have T:g'=k:=by simpa[eu]using Y
   show k≠RR;omega))
 ·by_cases e:i=q
  ·subst e;simp only[if_true];exact M.keep (S B' M.lt y E)
  ·simp only[e,if_false];have hl:=h.lk i eh;exact hl.keep (S (B i) hl.lt (h.gB i eh).2.2 (h.gB i eh).2.1)
 ·exact(S k eh (λe=>by have:=(h.gV k e).1;omega) (by have:=h.gR;omega)).trans (h.nU.block k Y)
 ·have V:∀k,k<W2.heap.size->v.ownBlock≠μ k->eu (σ (μ ⟨g',0,ν⟩) (q+1) jv)≠μ k:=by
   intro k Y Q e;have T:g'=k:=by simpa[eu]using e
   rcases G with Z|Z
   ·exact Q (by rw[Z,T])
   ·omega
  by_cases e:i=q
  ·subst e;simp only[if_true];exact⟨rN,E,V B' M.lt y⟩
  ·simp only[e,if_false];have hb:=h.gB i eh;exact⟨hb.1,hb.2.1,V (B i) (h.lk i eh).lt hb.2.2⟩
 ·have T:g'=k:=by simpa[eu]using Y
  subst T;refine⟨?_,Y3⟩;rcases G with Z|Z
  ·exact(h.gV _ Z).1
  ·omega
 ·by_cases Z:i=q
  ·have U:j≠q:=eh;simp only[Z,U,if_true,if_false];exact λe=>A j eh e.symm
  ·by_cases U:j=q
   ·simp only[Z,U,if_true,if_false];exact A i eh
   ·simp only[Z,U,if_false];exact h.dis i j eh eh J
theorem Y9 {m mg:Int} (hg:1<=mg/\mg<=255):AE (Bq m mg).L:=⟨by show xT 1 0 0=true;decide,by show(0:Int)<=0;omega,by show(0:Int)<=255;omega,by show 0<=mg;omega,by show mg<=255;omega,by show 0<=mg;omega,by show mg<=255;omega⟩
def Dd(R g cap Bb:Nat)(B:Nat->Nat)(m:FM)(n:Nat):Zt:=⟨R,g,cap,B,λ_=>σ ν 0 0,Bb,{m with no:=λk=>m.no k \/k=R \/k=g \/ ∃i,i<n/\k=B i},σ ν 0 0⟩
theorem Ie {R cap:Nat} (h:(Dd R g cap Bb B m n).mine n k):k=R \/k=g \/ ∃i,i<n/\k=B i:=by
 rcases h with e|e|⟨i,hi,e|e⟩|e
 ·exact .inl e
 ·exact .inr (.inl e)
 ·exact .inr (.inr ⟨i,hi,e⟩)
 ·simp[Dd,eu]at e
 ·simp[Dd,eu]at e
theorem Making.done {W:dY} (h:Making wb W id ms n RR Bb B v)(G:1<=n/\n<=3)(u:1<=id/\id<=6)(H:jh wb)
 (X:BR wb Bb m k (λx=>if x=id then μ (1,[])else ν) (λ_ x=>if x=id then μ (1,[])else ν)) (V:¬m.no Bb/\¬m.no m.g/\∀b,(b=m.bm \/b∈m.bs)->¬m.no b) (qe:m.bs.length=n):
 ∃g cap,v=σ (μ ⟨g,0,ν⟩) n cap/\mC W (Dd RR g cap Bb B m n) (jO id n ms)/\wb.heap.size<=g:=by
 rcases h.row.2 with⟨_,y⟩|⟨g,cap,rfl,A,D,aqE,hc,hf⟩
 ·omega
 have Y:=h.gV g rfl;have y:=H.lt;have acv:Bb<wb.heap.size:=by obtain⟨_,_,hF,_⟩:=X.ex;exact hF.lt
 have acw:m.g<wb.heap.size:=by obtain⟨_,_,hF,_⟩:=X.ex;exact hF.row.lt _ rfl
 have U:∀j,(j=RR \/j=g \/ ∃i,i<n/\j=B i)->wb.heap.size<=j/\j<W.heap.size:=by
  intro j Z;rcases Z with rfl|rfl|⟨i,hi,rfl⟩
  ·exact⟨h.gR,h.oh.lt⟩
  ·exact⟨Y.1,A⟩
  ·exact⟨(h.gB i hi).1,(h.lk i hi).lt⟩
 have E:=X.still h.nU.size (λj Z _=>h.nU.block j Z) V.1 V.2.1 V.2.2 (λj=>m.no j \/j=RR \/j=g \/ ∃i,i<n/\j=B i) (λj Z=>Z.imp_right (λe=>(U j e).1)) (λj Z=>Z.elim (λe=>Nat.lt_of_lt_of_le (X.Ro j e) h.nU.size) (λe=>(U j e).2));have hlen:=wO id ms B n;refine⟨g,cap,rfl,⟨G.1,G.2,D,u,h.oh,λi hi=> ?_,Row.nil _ 3,E.six,qe,λj Z=>.inr (Ie Z),⟨λe=> ?_,λe=> ?_,λb hb e=> ?_⟩,⟨λe=>Y.2 e.symm,by have:=h.gR;show RR≠0;omega,λi hi=>⟨(h.gB i hi).2.1,by simp[Dd,eu]⟩⟩,λi j hi Z S=>⟨h.dis i j hi Z S,λk Q=>by simp[Dd,eu]at Q⟩,λi j _ _=>by simp[Dd,eu],λk Q=>by simp[Dd,eu]at Q,⟨by simp[Dd,eu],λb hb e=> ?_⟩⟩,Y.1⟩
 ·have M:i<n:=hi;have T:=h.gB i M;refine⟨⟨Nk,λj Z=>⟨?_,?_⟩,Dp.zero⟩,h.lk i M,Row.nil _ 1,by show(0:Nat)<=_;omega,Y9 (m:=ms i) (mg:=8*id+i+1) eh,λe=>T.2.2 (by show μ g=μ (B i);rw[show g=B i from e]),by simp[Dd,eu],by simp[Dd,eu],⟨by show g≠0;omega,by show B i≠0;omega,by simp[Dd,eu]⟩⟩
  ·exact hc (i*71+j) _ (PX id ms B n i j M Z)
  ·exact(hf (i*71+j) (by have:(i+1)*71<=cap*71:=Nat.mul_le_mul_right 71 eh;omega)).2
 ·rcases e with e|e
  ·exact V.1 e
  ·have:=(U _ e).1;have J:wb.heap.size<=Bb:=this;omega
 ·rcases e with e|e
  ·exact V.2.1 e
  ·have:=(U _ e).1;have J:wb.heap.size<=m.g:=this;omega
 ·rcases e with e|e
  ·exact V.2.2 b hb e
  ·have h8:=(U b e).1;have J:=X.mlt b hb;omega
 ·exact qo (H 0 0 eA eA) (X.maps b hb) e.symm
structure Idle(p:jy):Prop where
 st:p.L.st=1
 pe:p.pe=nobody
 out:p.out=[]
structure jK(r r':iO)(k:Nat):Prop where
 n:r'.n=r.n
 id:r'.id=r.id
 lo:r.drop<=r'.drop
 hi:r'.drop<=r.drop+k
theorem jK.refl(r:iO):jK r r 0:=⟨rfl,rfl,Int.le_refl _,eh⟩
theorem jK.mono(h:jK r r' k)(hl:k<=l):jK r r' l:=⟨h.n,h.id,h.lo,by have:=h.hi;omega⟩
theorem jK.trans {a b c:iO} {k l:Nat} (h:jK a b k)(g:jK b c l):jK a c (k+l):=⟨g.n.trans h.n,g.id.trans h.id,Int.le_trans h.lo g.lo,by have:=h.hi;have:=g.hi;omega⟩
theorem jK.xG(Z:r'.n=r.n)(hi:r'.id=r.id)(hd:r'.drop=r.drop):jK r r' 0:=⟨Z,hi,eh,eh⟩
theorem jK.iU(r:iO)(i:Nat)(p:jy):jK r (r.iU i p) 0:=jK.xG rfl rfl rfl
theorem jK.meet(r:iO)(i:Nat)(q:lr):jK r (r.meet i q) 0:=by
 obtain⟨_,Z,Y,_⟩:=mZ r i q;exact jK.xG Y (Dy _ _ _) Z
theorem jK.behind(r:iO)(s:Int):jK r (r.behind s) 0:=by
 obtain⟨_,Z,Y,_⟩:=oJ r s;exact jK.xG Y (Bi _ _) Z
theorem jK.send(r:iO)(t:zi):jK r (r.send t) 1:=by
 unfold iO.send;split
 ·exact jK.mono (k:=0) (jK.xG rfl rfl rfl) eh
 ·split
  ·exact⟨rfl,rfl,by simp;omega,gZ⟩
  ·exact(jK.iU _ _ _).mono eh
theorem jK.state(r:iO)(i:Nat)(l:List UInt8):jK r (jm r i l) 0:=by
 unfold jm;simp only;split
 ·exact jK.refl r
 ·split
  ·exact jK.behind _ _
  ·split<;>exact jK.xG rfl rfl rfl
theorem jK.link(r:iO)(i:Nat)(c:UInt8)(s:List UInt8):jK r (j4 r i c s) 0:=by
 unfold j4;split
 ·exact jK.iU _ _ _
 ·exact jK.refl r
theorem jK.rest(r:iO)(i:Nat)(c:UInt8)(s:List UInt8):jK r (mF r i c s) 1:=by
 unfold mF;split
 ·split
  ·exact(jK.meet _ _ _).mono eh
  ·exact(jK.refl r).mono eh
 ·split
  ·exact(jK.state _ _ _).mono eh
  ·split
   ·unfold kF;simp only;split<;>exact jK.mono (k:=0) (jK.xG rfl rfl rfl) eh
   ·split
    ·unfold rC;split
     ·exact jK.send _ _
     ·exact(jK.refl r).mono eh
    ·exact(jK.refl r).mono eh
theorem jK.take(r:iO)(i:Nat)(c:UInt8)(s:List UInt8):jK r (r.take i c s) 1:=by
 rw[lP];have Z:=jK.link r i c s;split
 ·exact(Z.trans (jK.meet _ _ _)).mono eh
 ·exact(Z.trans (jK.rest _ i c s)).mono eh
theorem jK.takes:∀(l:List (List UInt8)) (r:iO) (i:Nat),jK r (r.takes i l) l.length
 |[],r,_=>jK.refl r
 |t::l,r,i=>by
  show jK r ((jP r i t).takes i l) (l.length+1);have Y:=jK.takes l (jP r i t) i;have Z:jK r (jP r i t) 1:=by
   cases t with
   |nil=>exact jK.mono (jK.refl r) eh
   |cons c s=>exact jK.take r i c s
  exact jK.mono (Z.trans Y) eh
theorem jK.recv(r:iO)(i:Nat)(l:List UInt8):jK r (r.recv i l) l.length:=by
 unfold iO.recv;simp only;have h:=(jK.iU r i {r.P i with rd:=(kB (r.P i).rd l).2.2}).trans (jK.takes (kB (r.P i).rd l).1 _ i);refine h.mono ?_;have:=Dq (r.P i).rd l;omega
theorem jK.iL(r:iO)(i:Nat)(up:Bool):jK r (r.iL i up).1 0:=by
 unfold iO.iL;simp only;split
 ·exact jK.refl r
 ·exact((jK.iU r i _).trans (jK.meet _ _ _)).mono eh
theorem jK.iY(r:iO)(i:Nat):jK r (r.iY i) 0:=by
 rw[ld];have Z:jK r (jd r i) 0:=jK.iU _ _ _;split
 ·exact Z.trans (jK.meet _ _ _)
 ·exact(Z.trans (jK.meet _ i _)).trans (jK.iU _ _ _)
theorem jK.jc(r:iO):∀q,jK r (r.jc q) 0
 |0=>jK.refl r
 |q+1=>(jK.jc r q).trans (jK.iY _ _)
theorem jK.kg(r:iO)(t:Int)(tx:List UInt8):jK r (kg r t tx).1 1:=by
 unfold Rt.kg;split
 ·exact jK.mono (k:=0) (jK.refl r) eh
 ·show jK r (r.send (t,8,tx)) 1;exact jK.send r (t,8,tx)
theorem JB {m:Nat} (h:lD r)(hf:Fit r k)(i:Nat)(A:List (List UInt8))(rd:kE)(hA:A.length<=m):lD ((r.iU i {r.P i with rd:=rd}).takes i A)/\Fit ((r.iU i {r.P i with rd:=rd}).takes i A) (k+2*m):=by
 have Y:lD (r.iU i {r.P i with rd:=rd}):=h.iU i _ rfl (λhi=>h.pe i hi);have f1:Fit (r.iU i {r.P i with rd:=rd}) k:=hf.iU i _ (λhi=>hf.out i hi);have Z:=Bm A Y f1 i;exact⟨Z.2.1,Z.2.2.mono eh⟩
theorem VU(h:lD r)(hf:Fit r k)(i:Nat)(l:List UInt8):lD (r.recv i l)/\Fit (r.recv i l) (k+2*l.length):=
 JB h hf i (kB (r.P i).rd l).1 (kB (r.P i).rd l).2.2 (Nat.le_trans (Nat.le_add_right _ _) (Dq (r.P i).rd l))
theorem VW(h:lD r)(hf:Fit r k)(i:Nat)(up:Bool):lD (r.iL i up).1/\Fit (r.iL i up).1 (k+1):=by
 have Z:=(yU (r.P i) up).1;have hl:((r.P i).iL up).1.out.length<=(r.P i).out.length+6000:=by
  unfold jy.iL;have X:=zJ (r.P i).L (if up=true then 0 else 1);generalize k8 (r.P i).L (if up=true then 0 else 1)=e at X⊢;simp only;by_cases Y:e.2.2=0
  ·rw[af (by simp[Y])];have h2:=zM e.2.1 {r.P i with L:=e.1,rd:=([],false,false)};have h4:({r.P i with L:=e.1,rd:=([],false,false)}:jy).out.length=(r.P i).out.length:=rfl;show(({r.P i with L:=e.1,rd:=([],false,false)}:jy).say e.2.1).out.length<=_;omega
  ·rw[ai Y];show(r.P i).out.length<=_;omega
 unfold iO.iL;generalize (r.P i).iL up=e at Z hl⊢;simp only;split
 ·exact⟨h,hf.mono (Nat.le_succ k)⟩
 ·exact⟨(h.iU i _ Z.1 (λhi=>by rw[Z.2];exact h.pe i hi)).meet i (ot.nobody h.id.1),(hf.grow i _ hl).meet i _⟩
theorem Oj(h:lD r)(hf:Fit r k)(t:Int)(tx:List UInt8):lD (kg r t tx).1/\Fit (kg r t tx).1 (k+1):=by
 unfold Rt.kg;split
 ·exact⟨h,hf.mono (Nat.le_succ k)⟩
 ·exact⟨h.send _,hf.send _⟩
