import Derived.Test.YtieklnlbljejdaaGreatDoorM11
open Go.Value renaming int → ι, slice → σ, pointer → π, tuple → τ, nilIface → η
open Go.IntKind renaming i64 → κ
open Go.Ending renaming returned → ρ
open Go.Obj renaming cells → γ
open Option renaming none → ν, some → μ
open Go renaming World → dY, Calls → eW
open Go.Proofs.Tryz renaming prog → eX
open And renaming intro → fV
open Go.Value renaming ownBlock → eu
open Go.IntKind renaming i64 → ft, u8 → fD
open Go.IntWalk renaming u8_in → gL
open Go.Act renaming put → gF
open List renaming setIfInBounds_toArray → gG, set_cons_zero → gH, set_cons_succ → gJ
open Go.RowKit renaming intOf → eY
open ByteArray renaming ext → gM
set_option maxRecDepth 100000
set_option maxHeartbeats 8000000
namespace Go.Proofs.YtieklnlbljejdaaGreatDoor
open Go.RowKit St
namespace Rt
variable {B g i k o:Nat} {p:jw} {r:iM} {v:Value} {w w':World}
theorem NZ(z:Zt)(r:iM)(t Y:Int)(tx:ByteArray)(w:dY)(h:mr w z r)(hK:Xn r.K):
 eW eX 153 #[π (μ ⟨z.R,0,ν⟩),.agg #[ι κ t,ι κ Y,.string tx]] w λe w'=>e=ρ (τ #[ι κ (Hn (YG r t Y)),.bool (YG r t Y).isSome])/\eE w w':=by
 obtain⟨hop,G⟩:=gg ((AL (mc r) t).getD HP.zero);obtain⟨ok,iN⟩:=gg ((AL (mc r) t).isSome);have T:∀W,eE w W->eW eX 64 #[π (μ ⟨z.R,0,ν⟩)] W λe w'=>∃b n c,e=ρ (σ b n c)/\eE W w'/\(∀W',eE w' W'->eW eX 199 #[σ b n c,ι κ t] W' λe w2=>e=ρ (τ #[.agg #[ι κ hop.dst,ι κ hop.far,ι κ hop.rG],.bool ok])/\eE W' w2):=by
  intro W hW;refine(A6 z r W (h.below hW) hK).mono ?_;rintro e w1 ⟨b,c,rfl,hH,b1⟩;refine⟨b,_,c,rfl,b1,λW' hW'=> ?_⟩;have:=abp b (mc r).length c (mc r) t W' (hH.r.below hW') (by have:=Ji (kK (xV r.K)) r.id.toNat;show(qb _ _).length<=_;omega);rw[G,iN]at this;exact this
 have U:Hid (∀W,eE w W->eW eX 200 #[π (μ ⟨z.R,0,ν⟩),ι κ hop.rG] W λe w'=>e=ρ (τ #[ι κ (Hn (jP r.P hop.rG r.n)),.bool (jP r.P hop.rG r.n).isSome])/\eE W w'):=λW hW=>Ev z r hop.rG W (h.below hW);have H:Hid (YG r t Y=if 1<=Y/\ok=true then jP r.P hop.rG r.n else ν):=by
  show _=_;unfold YG;rw[<-iN,<-G];by_cases y:1<=Y
  ·rw[ai y];cases AL (mc r) t<;>simp[y]
  ·rw[af y,af (by simp[y])]
 generalize jP r.P hop.rG r.n=bp at U H;generalize YG r t Y=op at H⊢;obtain⟨d,f,x⟩:=hop;simp only at T U;have hRl:=h.lt;generalize z.R=RR at T U hRl⊢;clear h G iN;obtain⟨C,hC⟩:∃C:Array Value,#[Value.int .i64 t,ι κ Y,.string tx] =C:=⟨_,rfl⟩
 have bm:=gW w (γ #[ι κ t,ι κ Y,.string tx] 106);have Lg:iX (w.alloc (γ #[ι κ t,ι κ Y,.string tx] 106)) w.heap.size #[ι κ t,ι κ Y,.string tx] 106:=iX.new w _ _;obtain⟨V,nX⟩:=gg (w.alloc (γ #[ι κ t,ι κ Y,.string tx] 106));obtain⟨N,hN⟩:=gg (w.heap.size);have E:eE w V.drew:=by rw[<-nX];exact jD bm
 have S:iX V.drew N #[ι κ t,ι κ Y,.string tx] 106:=by rw[<-nX,<-hN];exact Lg.drew
 have Gt:Hid _:=nX;have HN:Hid _:=hN;clear Lg bm nX hN hC C
 go_in
 go_wp2_with(fail);rw[Gt.out,HN.out]
 go_cut [6,7] (λv6 v7 wx=>∃Z:Nat,v6=π (μ ⟨Z,0,ν⟩)/\v7=.bool ok/\wx.cell? ⟨Z,2,ν⟩=μ (ι κ x)/\eE w wx/\wx.cell? ⟨N,1,ν⟩=μ (ι κ Y))
 case first=>
  have F0:V.drew.cell? ⟨N,0,ν⟩=μ (ι κ t)/\V.drew.cell? ⟨N,1,ν⟩=μ (ι κ Y):=⟨S.cell 0,S.cell 1⟩
  have Nl:N<V.drew.heap.size:=S.lt;have ba:Below V.drew.heap.size V.drew (V.alloc (γ #[ι κ 0,ι κ 0,ι κ 0] 98)).drew:=by
   have b':=jD (gW V (γ #[ι κ 0,ι κ 0,ι κ 0] 98));exact⟨b'.os,b'.tape,b'.output,b'.size,b'.block⟩
  have xX:iX (V.alloc (γ #[ι κ 0,ι κ 0,ι κ 0] 98)).drew V.heap.size #[ι κ 0,ι κ 0,ι κ 0] 98:=(iX.new V _ _).drew;have ju:N≠V.heap.size:=by have h2:N<V.heap.size:=Nl;omega
  have D:w.heap.size<=V.heap.size:=E.size
  go_region_held3(λx=>x.cell? ⟨N,0,ν⟩=μ (ι κ t)/\x.cell? ⟨N,1,ν⟩=μ (ι κ Y))
   (first|assumption|exact F0|exact F1|exact Q|exact oB F0|exact oB F1|exact oB Q|exact uQ Q ju ju|exact uQ Q Gu Gu)
   (first
    |(go_at_call 64;refine(T _ (by first|exact E|exact gk E ba)).mono ?_;rintro e w1 ⟨b,n,c,rfl,b1,akS⟩;first|(have mM:=xX.below b1;have M:=(S.below ba).below b1;have F1:=fV (M.cell 0) (M.cell 1))|(have M:=S.below b1;have F1:=fV (M.cell 0) (M.cell 1)))
    |(go_at_call 199;refine(akS _ (by first|exact av _ _|exact gW _ _)).mono ?_;rintro e w2 ⟨rfl,b2⟩;first|(have X:=mM.below b2;have J:=M.below b2;have Q:=fV (J.cell 0) (J.cell 1);have y0:=X.cell 0;have y1:=X.cell 1;have y2:=X.cell 2;have z0:=X.frozen 0;have z1:=X.frozen 1;have z2:=X.frozen 2)|(have J:=M.below b2;have Q:=fV (J.cell 0) (J.cell 1))|(have X:=(iX.new w1 #[.int .i64 0,.int .i64 0,.int .i64 0] 98).below b2;have J:=(M.below (gW w1 _)).below b2;have Q:=fV (J.cell 0) (J.cell 1);have Gu:N≠w1.heap.size:=(by have h2:=M.lt;omega);have y0:=X.cell 0;have y1:=X.cell 1;have y2:=X.cell 2;have z0:=X.frozen 0;have z1:=X.frozen 1;have z2:=X.frozen 2)))
  all_goals
   go_wp2_with(fail)
   go_meet
   first
    |exact⟨_,rfl,rfl,ar w2 _ _ (0,0) 2,gk (gk (gk E b1) b2) (gW _ _),mH Q.2⟩
    |(have u:=Jf (a:=.int .i64 d) (b:=.int .i64 f) (c:=.int .i64 x) X rfl D (gk (gk (gk E ba) b1) b2)
      exact⟨_,rfl,rfl,u.2.1,u.2.2.1,xu Q.2 ju⟩)
    |(have u:=Jf (a:=.int .i64 d) (b:=.int .i64 f) (c:=.int .i64 x) X rfl (Nat.le_trans D b1.size) (gk (gk (gk E b1) (gW w1 _)) b2)
      exact⟨_,rfl,rfl,u.2.1,u.2.2.1,xu Q.2 Gu⟩)
 case rest=>
  obtain⟨Z,rfl,rfl,dz,j,dn⟩:=hcut;have zl:=ag _ _ dz;have nl:=ag _ _ dn;cases ok with
  |false=>
   have A:Hid (op=ν):=by show _=_;rw[H.out,af gY]
   clear T U H
   go_wp2
   go_ret2
   exact⟨by rw[A.out];rfl,j⟩
  |true=>
   by_cases y:Y<1
   ·have A:Hid (op=ν):=by show _=_;rw[H.out,af eh]
    clear T U H
    go_wp2
    go_ret2
    exact⟨by rw[A.out];rfl,j⟩
   ·have A:Hid (op=bp):=by show _=_;rw[H.out,ai ⟨eh,rfl⟩]
    have B3:=U.out _ j;clear T U H;go_wp2_with(fail);refine B3.mono ?_;rintro e w5 ⟨rfl,b5⟩;have HB:Hid _:=gk j b5;clear B3
    go_wp2
    go_ret2
    exact⟨by rw[A.out];rfl,HB.out⟩
theorem Px:(eX.info? 106).map (λi=>(i.zero,i.size,i.bytes))=μ (μ (.agg #[ι κ 0,ι κ 0,.string ⟨#[]⟩]),3,32):=gq
theorem Ru(l:List za)(t:za):rM (l++ [t])=rM l++ [ι κ t.1,ι κ t.2.1,.string ⟨t.2.2.toArray⟩] :=by simp[rM]
theorem Py(a b:Int)(s:ByteArray):∀u∈ [Value.int .i64 a,ι κ b,.string s],u.oneCell'=true:=by
 intro u Z;simp at Z;rcases Z with rfl|rfl|rfl<;>rfl
theorem Rv(z:Zt)(r:iM)(Y:Int)(tx:ByteArray)(w:dY)(h:mr w z r)(hn:r.j8.length<=1000000):
 eW eX 91 #[π (μ ⟨z.R,0,ν⟩),.agg #[ι κ r.id,ι κ Y,.string tx]] w λe w'=>e=ρ (τ #[])/\iD w w' z {r with j8:=r.j8++ [(r.id,Y,tx.data.toList)] } r.n:=by
 obtain⟨i0,hi,ox,nh,mO⟩:=aY Px;have ba:=gW w (γ #[ι κ r.id,ι κ Y,.string tx] 106);have T:iX (w.alloc (γ #[ι κ r.id,ι κ Y,.string tx] 106)) w.heap.size #[ι κ r.id,ι κ Y,.string tx] 106:=iX.new w _ _;obtain⟨j,u⟩:=gg (w.alloc (γ #[ι κ r.id,ι κ Y,.string tx] 106));obtain⟨N,G⟩:=gg (w.heap.size);rw[u]at ba T;rw[G]at T;have J:=h.below ba;have c0:=J.c0;have cl:=J.lt;have m0:j.cell? ⟨N,0,ν⟩=μ (ι κ r.id):=T.cell 0;have ml:=T.lt;have heq:(r.id==r.id)=true:=gY;have HR:Hid _:=h;have E:Hid _:=J;have HM:Hid _:=T;have S:Hid _:=ba;have Gt:Hid _:=u;have HN:Hid _:=G;clear h J T ba u G
 go_in
 go_wp2_with(fail);rw[Gt.out,HN.out]
 go_quiet(fail)
 obtain⟨Z,M⟩:=gg (j.drewN nq);have b1:eE w Z:=by rw[<-M];exact below_drewN S.out nq
 have H:iX Z N #[ι κ r.id,ι κ Y,.string tx] 106:=by rw[<-M];exact iX.drewN HM.out nq
 rw[M];have X:=HR.out.below b1;have ot:=X.oe;have iW:=X.ib;have e3:=X.c3;have el:=X.lt;have d0:Z.cell? ⟨N,0,ν⟩=μ (ι κ r.id):=H.cell 0;have d1:Z.cell? ⟨N,1,ν⟩=μ (ι κ Y):=H.cell 1;have d2:Z.cell? ⟨N,2,ν⟩=μ (.string tx):=H.cell 2;have dl:=H.lt;have HO:Hid (z.iv.ownBlock≠μ z.R):=λe=>(X.sI _ e).1 rfl;have D3:Hid _:=b1;have HR1:Hid _:=X;obtain⟨nn,y⟩:=gg (r.j8.length);have D:Hid _:=y;rw[y]at iW hn;clear M b1 X c0 cl m0 ml E HM S Gt y
 go_wp2
 go_region_law ((refine lU (by rfl) (.tmp 17) (.tmp 19) 53 (by rfl) 106 i0 (.agg #[ι κ 0,ι κ 0,.string ⟨#[]⟩]) 3 32 Tryz.underlying53 hi ox nh mO (by rfl) eA z.iv nn (rM r.j8) (by rfl) ((iW.alloc _).drew) _ 1 1 [ι κ r.id,ι κ Y,.string tx] (by rfl) (by rfl) eA (zf _ _ _ _ _ _ rfl) (Py _ _ _) (by unfold maxLen;omega) eh ?_;intro U jr x1 k8 V jF;have A:=um ot V HO.out;have f3:=A.frozen 3;have g3:x1.cell? ⟨z.R,3,ν⟩=μ z.iv:=A.cell 3))
 all_goals
  go_wp2
  first|go_end0|refine iJ rfl rfl ?_
  refine⟨rfl,iD.first HR.out rfl D3.out (λR=> ?_)⟩;have rQ:Z.heap.size<=x1.heap.size:=Nat.le_trans (by show Z.heap.size<=(Z.alloc _).heap.size;simp) V.size;have kU:∀k,eu (σ (μ ⟨U,0,ν⟩) (nn+1) jr)=μ k->z.iv.ownBlock=μ k \/Z.heap.size<=k:=by
   intro k Q;have ze:U=k:=by simpa[eu]using Q
   subst ze;rcases jF with hh|hh
   ·exact .inl hh
   ·exact .inr (Nat.le_trans (by show Z.heap.size<=(Z.alloc _).heap.size;simp) hh)
  have YL:U≠z.R:=by
   intro e;rcases kU U rfl with hh|hh
   ·exact HO.out (by rw[hh,e])
   ·omega
  refine R.own (σ (μ ⟨U,0,ν⟩) (nn+1) jr) (r.j8++ [(r.id,Y,tx.data.toList)]) r.drop (by simpa using rQ) V.os V.tape V.output (λk Q h1 h2=> ?_) ?_ ?_ kU
  ·rw[aq _ _ _ k h1,V.block k (by show k<(Z.alloc _).heap.size;simp;omega) (λe=>h2 e.symm)];exact aU Z _ k Q
  ·exact A.set 3 _
  ·rw[Ru,aA,D.out];have e4:(⟨tx.data.toList.toArray⟩:ByteArray)=tx:=gY;rw[e4];refine k8.keep gY (λk Q=> ?_);have ze:U=k:=by simpa[eu]using Q
   exact aq _ _ _ k (by show k≠z.R;omega)
theorem wC {o:Obj} {p q s t:Addr} {a b c d:Value} (h:w.cell? p=μ a/\w.cell? q=μ b/\w.cell? s=μ c/\w.cell? t=μ d):(w.alloc o).cell? p=μ a/\(w.alloc o).cell? q=μ b/\(w.alloc o).cell? s=μ c/\(w.alloc o).cell? t=μ d:=⟨mH h.1,mH h.2.1,mH h.2.2.1,mH h.2.2.2⟩
theorem acu {t hp:Int} {j:Nat} (h:YG r t hp=μ j):j<r.n/\1<=hp:=by
 unfold YG at h;split at h
 ·rename_i Y
  cases Z:AL (mc r) t with
  |none=>rw[Z]at h;cases h
  |some x=>rw[Z]at h;exact⟨(oA h).1,Y⟩
 ·cases h
theorem Rw(z:Zt)(r:iM)(t Z:Int)(tx:ByteArray)(w:dY)(h:mr w z r)(H:Xn r.K)(ju:t≠r.id)(ht:0<=t/\t<=255)(hh:0<=Z/\Z<=255)(htx:tx.size<=900)(hd:0<=r.drop/\r.drop<=4000000000000000000)(vA:∀j,j<r.n->(r.P j).out.length<=800000000):
 eW eX 91 #[π (μ ⟨z.R,0,ν⟩),.agg #[ι κ t,ι κ Z,.string tx]] w λe w'=>e=ρ (τ #[])/\iD w w' z (r.send (t,Z,tx.data.toList)) r.n:=by
 have hS:Hid (r.send (t,Z,tx.data.toList)=match YG r t Z with|none=>{r with drop:=r.drop+1} |some i=>r.iU i ((r.P i).put 77 (jY t::jY (Z-1)::tx.data.toList))):=by
  show _=_;unfold iM.send;rw[af ju];rfl
 have ba:=gW w (γ #[ι κ t,ι κ Z,.string tx] 106);have u:iX (w.alloc (γ #[ι κ t,ι κ Z,.string tx] 106)) w.heap.size #[ι κ t,ι κ Z,.string tx] 106:=iX.new w _ _;obtain⟨W0,nX⟩:=gg (w.alloc (γ #[ι κ t,ι κ Z,.string tx] 106));obtain⟨N,hN⟩:=gg (w.heap.size);rw[nX]at ba u;rw[hN]at u;have R0:=h.below ba;have c0:=R0.c0;have cl:=R0.lt;have m0:W0.cell? ⟨N,0,ν⟩=μ (ι κ t):=u.cell 0;have ml:=u.lt;have heq:(t==r.id)=false:=by simp[ju]
 have A:Hid _:=h;have HM:Hid _:=u;have HBa:Hid _:=ba;have Gt:Hid _:=nX;have HN:Hid _:=hN;clear h R0 u ba nX hN ju
 go_in
 go_wp2_with(fail);rw[Gt.out,HN.out]
 go_quiet(fail)
 obtain⟨J,j6⟩:=gg (W0.drewN nq);have b1:eE w J:=by rw[<-j6];exact below_drewN HBa.out nq
 have qT:iX J N #[ι κ t,ι κ Z,.string tx] 106:=by rw[<-j6];exact iX.drewN HM.out nq
 rw[j6];have d0:J.cell? ⟨N,0,ν⟩=μ (ι κ t):=qT.cell 0;have d1:J.cell? ⟨N,1,ν⟩=μ (ι κ Z):=qT.cell 1;have d2:J.cell? ⟨N,2,ν⟩=μ (.string tx):=qT.cell 2;have dl:=qT.lt;have M:=NZ z r t Z tx J (A.out.below b1) H;have Yp:Hid _:=qT;have D3:Hid _:=b1;clear j6 c0 cl m0 ml HM HBa Gt qT b1;cases ho:YG r t Z with
 |none=>
  have M:eW eX 153 #[π (μ ⟨z.R,0,ν⟩),.agg #[ι κ t,ι κ Z,.string tx]] J λe w'=>e=ρ (τ #[ι κ 0,.bool false])/\eE J w':=by
   rw[ho]at M;exact M
  rw[ho]at hS;go_wp2_with(fail);refine M.mono ?_;rintro e X ⟨rfl,b2⟩;have bb:=gk D3.out b2;have Q:=A.out.below bb;have ot:=Q.oe;have e4:=Q.c4;have f4:=ot.frozen 4;have el:=Q.lt;have hsI:Hid (z.iv.ownBlock≠μ z.R):=λe=>(Q.sI _ e).1 rfl;have ND:=Q.ib;have Yq:Hid _:=bb;have hd0:=hd.1;have hd1:=hd.2;have Xc:ft.wrap (r.drop+1)=r.drop+1:=aX _ ⟨eh,eh⟩;clear M Q b2 bb hd
  go_wp2
  first|go_end0|refine iJ rfl rfl ?_
  refine⟨rfl,?_⟩;rw[hS.out];refine iD.first A.out rfl Yq.out (λR=> ?_);refine R.own z.iv r.j8 (r.drop+1) gY rfl rfl rfl (λk _ h1 _=>aq _ _ _ k h1) (ot.set 4 _) ?_ (λk hk=>.inl hk);exact ND.keep gY (λk hk=>aq _ _ _ k (by show k≠z.R;intro e;exact hsI.out (by rw[hk,e])))
 |some j=>
  have M:eW eX 153 #[π (μ ⟨z.R,0,ν⟩),.agg #[ι κ t,ι κ Z,.string tx]] J λe w'=>e=ρ (τ #[ι κ (j:Int),.bool true])/\eE J w':=by
   rw[ho]at M;exact M
  rw[ho]at hS;obtain⟨OD,CJ⟩:=acu ho;have J7:(j:Int)<(r.n:Int):=eh;have yF:(0:Int)<=(j:Int):=eh;go_wp2_with(fail);refine M.mono ?_;rintro e X ⟨rfl,b2⟩;have bb:=gk D3.out b2;have tY:=iX.below Yp.out b2;have Q:=A.out.below (gk bb (iZ X));have F0:X.drew.cell? ⟨z.R,1,ν⟩=μ (σ (μ ⟨z.g,0,ν⟩) r.n z.cap)/\X.drew.cell? ⟨N,0,ν⟩=μ (ι κ t)/\X.drew.cell? ⟨N,1,ν⟩=μ (ι κ Z)/\X.drew.cell? ⟨N,2,ν⟩=μ (.string tx):=⟨Q.c1,tY.cell 0,tY.cell 1,tY.cell 2⟩
  have hlen:¬(9223372036854775807<2+tx.size):=eh;have hw8:fD.wrap t=t:=gL _ ⟨eh,eh⟩;have hwm:ft.wrap (Z-1)=Z-1:=aX _ ⟨eh,eh⟩;have hw9:fD.wrap (Z-1)=Z-1:=gL _ ⟨eh,eh⟩;have vS:(convert 140 9 (σ (μ ⟨X.heap.size,0,ν⟩) 2 2)).run eX (X.alloc (γ #[.int .u8 t,.int .u8 (Z-1)] 5)).drew=.ok (.string ⟨#[u8 t,u8 (Z-1)]⟩) (X.alloc (γ #[.int .u8 t,.int .u8 (Z-1)] 5)).drew:=ZY X.drew t (Z-1) ht.1 ht.2 eh eh;have b3:eE w (X.alloc (γ #[.int .u8 t,.int .u8 (Z-1)] 5)).drew:=jD (gk bb (gW _ _));obtain⟨E,hs2⟩:∃E:ByteArray,(⟨#[u8 t,u8 (Z-1)]⟩++tx)=E:=⟨_,rfl⟩
  have D:E.data.toList=u8 t::u8 (Z-1)::tx.data.toList:=by
   rw[<-hs2];simp
  have afX:E.size<=1000:=by
   have e:E.size=E.data.toList.length:=gY;have e2:tx.data.toList.length=tx.size:=gY;rw[e,D];simp only[List.length_cons,e2];omega
  have oh:eW eX 150 #[π (μ ⟨z.g,j*71,ν⟩),.string ⟨#[77]⟩,.string E] (X.alloc (γ #[.int .u8 t,.int .u8 (Z-1)] 5)).drew λe w'=>e=ρ (τ #[])/\iD w w' z (r.send (t,Z,tx.data.toList)) r.n/\(w'.cell? ⟨z.R,1,ν⟩=μ (σ (μ ⟨z.g,0,ν⟩) r.n z.cap)/\w'.cell? ⟨N,0,ν⟩=μ (ι κ t)/\w'.cell? ⟨N,1,ν⟩=μ (ι κ Z)/\w'.cell? ⟨N,2,ν⟩=μ (.string tx)):=by
   have y:=A.out.below b3;have G:(X.alloc (γ #[.int .u8 t,.int .u8 (Z-1)] 5)).drew.cell? ⟨z.R,1,ν⟩=μ (σ (μ ⟨z.g,0,ν⟩) r.n z.cap)/\(X.alloc (γ #[.int .u8 t,.int .u8 (Z-1)] 5)).drew.cell? ⟨N,0,ν⟩=μ (ι κ t)/\(X.alloc (γ #[.int .u8 t,.int .u8 (Z-1)] 5)).drew.cell? ⟨N,1,ν⟩=μ (ι κ Z)/\(X.alloc (γ #[.int .u8 t,.int .u8 (Z-1)] 5)).drew.cell? ⟨N,2,ν⟩=μ (.string tx):=wC (o:=.cells #[.int .u8 t,.int .u8 (Z-1)] 5) F0;generalize (X.alloc (γ #[.int .u8 t,.int .u8 (Z-1)] 5)).drew=W3 at b3 y G⊢;have hpj:=vA j OD;refine(Dj z.g (j*71) (z.B j) (z.v j) (r.P j) ⟨#[77]⟩ E 77 W3 (y.pt j OD) rfl afX eh).mono ?_;rintro e w6 ⟨rfl,Mv⟩;have hE:r.send (t,Z,tx.data.toList)=r.iU j ((r.P j).put 77 E.data.toList):=by
    rw[hS.out,D];rfl
   have U:=y.port OD Mv;rw[hE];have OJ:¬z.mine r.n N:=by rw[<-HN.out];exact A.out.uo (Nat.le_refl _)
   exact⟨rfl,iD.first A.out rfl b3 (λ_=>U),U.c1,U.cell y (p:=⟨N,0,ν⟩) OJ G.2.1,U.cell y (p:=⟨N,1,ν⟩) OJ G.2.2.1,U.cell y (p:=⟨N,2,ν⟩) OJ G.2.2.2⟩
  have el:=Q.lt;have eg:=Q.JZ;obtain⟨T,hT⟩:∃T:dY->Prop,(λx=>iD w x z (r.send (t,Z,tx.data.toList)) r.n)=T:=⟨_,rfl⟩
  have Lf:∀x,iD w x z (r.send (t,Z,tx.data.toList)) r.n=T x:=λx=>ct hT x;simp only[Lf]at oh;have HT:Hid _:=Lf;clear M tY b2 hT Lf Q b3 D afX bb;go_wp2_with(fail);refine cz (S:=λx=>x.cell? ⟨z.R,1,ν⟩=μ (σ (μ ⟨z.g,0,ν⟩) r.n z.cap)/\x.cell? ⟨N,0,ν⟩=μ (ι κ t)/\x.cell? ⟨N,1,ν⟩=μ (ι κ Z)/\x.cell? ⟨N,2,ν⟩=μ (.string tx)) gq F0 (λlF=> ?_);refine jn 0 (μ 38) rfl rfl gq gq gq (λ_ _ _ h=>h) (by rfl) (v:= ?_) ?_ je ?_
  rotate_left
  ·intro V Y
   (try dsimp only at Y)
   go_simp
   try with_reducible rfl
  simp only[gF,gG,gH,gJ];refine jn 1 (μ 39) rfl rfl gq gq gq (λ_ _ _ h=>h) (by rfl) (v:= ?_) ?_ je ?_
  rotate_left
  ·intro V Y
   (try dsimp only at Y)
   go_simp
   try with_reducible rfl
  simp only[gF,gG,gH,gJ];refine jn 2 (μ 40) rfl rfl gq gq gq (λ_ _ _ h=>h) (by rfl) (v:= ?_) ?_ je ?_
  rotate_left
  ·intro V Y
   (try dsimp only at Y)
   go_simp
   try with_reducible rfl
  simp only[gF,gG,gH,gJ];refine jn 3 (μ 41) rfl rfl gq gq gq (λ_ _ _ h=>h) (by rfl) (v:= ?_) ?_ je ?_
  rotate_left
  ·intro V Y
   (try dsimp only at Y)
   go_simp
   try with_reducible rfl
  simp only[gF,gG,gH,gJ];refine jn 4 (μ 42) rfl rfl gq gq gq (λ_ _ _ h=>h) (by rfl) (v:= ?_) ?_ je ?_
  rotate_left
  ·intro V Y
   (try dsimp only at Y)
   go_simp
   try with_reducible rfl
  simp only[gF,gG,gH,gJ];refine jn 5 (μ 43) rfl rfl gq gq gq (λ_ _ _ h=>h) (by rfl) (v:= ?_) ?_ je ?_
  rotate_left
  ·intro V Y
   (try dsimp only at Y)
   go_simp
   try with_reducible rfl
  simp only[gF,gG,gH,gJ];refine jn 6 (μ 44) rfl rfl gq gq gq (λ_ _ _ h=>h) (by rfl) (v:= ?_) ?_ je ?_
  rotate_left
  ·intro V Y
   (try dsimp only at Y)
   go_simp
   try with_reducible rfl
  simp only[gF,gG,gH,gJ];refine jn 7 (μ 45) rfl rfl gq gq gq (λ_ _ _ h=>h) (by rfl) (v:= ?_) ?_ je ?_
  rotate_left
  ·intro V Y
   (try dsimp only at Y)
   go_simp
   try with_reducible rfl
  simp only[gF,gG,gH,gJ];refine jn 8 (μ 46) rfl rfl gq gq gq (λ_ _ _ h=>h) (by rfl) (v:= ?_) ?_ je ?_
  rotate_left
  ·intro V Y
   (try dsimp only at Y)
   go_simp
   try with_reducible rfl
  simp only[gF,gG,gH,gJ];refine jn 9 (μ 47) rfl rfl gq gq gq (λ_ _ _ h=>h) (by rfl) (v:= ?_) ?_ je ?_
  rotate_left
  ·intro V Y
   (try dsimp only at Y)
   go_simp
   try with_reducible rfl
  simp only[gF,gG,gH,gJ];refine jn 10 (μ 48) rfl rfl gq gq gq (λ_ _ _ h=>h) (by rfl) (v:= ?_) ?_ je ?_
  rotate_left
  ·intro V Y
   (try dsimp only at Y)
   go_simp
   try with_reducible rfl
  simp only[gF,gG,gH,gJ];refine jn 11 (μ 49) rfl rfl gq gq gq (λ_ _ _ h=>h) (by rfl) (v:= ?_) ?_ je ?_
  rotate_left
  ·intro V Y
   (try dsimp only at Y)
   go_simp
   try with_reducible rfl
  simp only[gF,gG,gH,gJ];refine jn 12 (μ 50) rfl rfl gq gq gq (λ_ _ _ h=>h) (by rfl) (v:= ?_) ?_ je ?_
  rotate_left
  ·intro V Y
   (try dsimp only at Y)
   go_simp
   try with_reducible rfl
  simp only[gF,gG,gH,gJ];refine jn 15 (μ 53) rfl rfl gq gq gq (λ_ _ _ h=>h) (by rfl) (v:= ?_) ?_ je ?_
  rotate_left
  ·intro V Y
   (try dsimp only at Y)
   go_simp
   try with_reducible rfl
  simp only[gF,gG,gH,gJ];refine jn 16 (μ 54) rfl rfl gq gq gq (λ_ _ _ h=>h) (by rfl) (v:= ?_) ?_ je ?_
  rotate_left
  ·intro V Y
   (try dsimp only at Y)
   go_simp
   try with_reducible rfl
  simp only[gF,gG,gH,gJ];refine aR (rs:=[13]) gq gY ?_;refine aH (o:=_) rfl (λK H=> ?_) aO
  go_simp
  refine H.out _ _ ?_ (λlF=> ?_)
  ·exact wC F0
  clear H K;refine aR (rs:=[14]) gq gY ?_;refine aH (o:=_) rfl (λK H=> ?_) aO
  go_simp
  refine H.out _ _ ?_ (λlF=> ?_)
  ·exact wC F0
  clear H K;refine jn 17 (μ 55) rfl rfl gq gq gq (λ_ _ _ h=>h) (by rfl) (v:= ?_) ?_ je ?_
  rotate_left
  ·intro V Y
   (try dsimp only at Y)
   go_simp
   try with_reducible rfl
  simp only[gF,gG,gH,gJ];refine aR (rs:=[18]) gq gY ?_;refine aH (o:=_) rfl (λK H=> ?_) aO
  go_simp
  refine oh.mono ?_;rintro e w5 ⟨rfl,Mt,F5⟩
  (try go_wp2_with(fail))
  refine H.out _ _ ?_ (λlF=> ?_)
  ·exact F5
  clear H K;refine cS gq ?_ _
  all_goals
   clear oh F0 F5
   go_wp2
   first|go_end0|refine iJ rfl rfl ?_
   exact⟨rfl,by rw[HT.out];exact Mt⟩
theorem Hu(p:jw)(c:UInt8)(s:List UInt8):(p.put c s).m=p.m:=by
 unfold jw.put;split
 ·rfl
 ·split<;>rfl
theorem acx(p:jw)(q:kM):(wm p q).m=p.m/\(wm p q).pe=p.pe:=by
 unfold wm;split
 ·exact⟨Hu _ _ _,rN _ _ _⟩
 ·exact⟨rfl,rfl⟩
theorem wD:∀(l:List kM) (p:jw),(p.say l).m=p.m/\(p.say l).pe=p.pe
 |[],_=>⟨rfl,rfl⟩
 |x::l,p=>by
  have h:=wD l (wm p x);have Z:=acx p x;exact⟨h.1.trans Z.1,h.2.trans Z.2⟩
theorem ur(p:jw)(s:List UInt8):(p.packet s).m=p.m/\(p.packet s).pe=p.pe:=by
 unfold jw.packet;simp only;split
 ·exact wD _ _
 ·exact⟨rfl,rfl⟩
theorem EH(p:jw)(s:List UInt8):(p.packet s).out.length<=p.out.length+5040:=by
 unfold jw.packet;simp only;split
 ·have h1:=Hg p.L ((iY s).1,(iY s).2.1,(iY s).2.2.1);have h2:=zF (jK p.L ((iY s).1,(iY s).2.1,(iY s).2.2.1)).2.1 {p with L:=(jK p.L ((iY s).1,(iY s).2.1,(iY s).2.2.1)).1};have h3:({p with L:=(jK p.L ((iY s).1,(iY s).2.1,(iY s).2.2.1)).1}:jw).out.length=p.out.length:=rfl;omega
 ·omega
structure Fit(r:iM)(k:Nat):Prop where
 j8:r.j8.length<=k
 drop:0<=r.drop/\r.drop<=k+1000000000000000
 out:∀j,j<r.n->(r.P j).out.length<=6000*k
theorem Fit.mono {l:Nat} (h:Fit r k)(hl:k<=l):Fit r l:=⟨by have:=h.j8;omega,by have:=h.drop;omega,λj Z=>by have:=h.out j Z;omega⟩
theorem Fit.iU {r:iM} {k:Nat} (h:Fit r k)(i:Nat)(p:jw)(Y:i<r.n->p.out.length<=6000*k):Fit (r.iU i p) k:=⟨h.j8,h.drop,λj Z=>by
 show(la r.P i p j).out.length<=_;by_cases e:j=i
 ·subst e;rw[jy];exact Y Z
 ·rw[jq _ _ e];exact h.out j Z⟩
theorem Fit.grow(h:Fit r k)(i:Nat)(p:jw)(hp:p.out.length<=(r.P i).out.length+6000):Fit (r.iU i p) (k+1):=(h.mono (Nat.le_succ k)).iU i p (λhi=>by have:=h.out i hi;omega)
theorem Fit.congr {r':iM} (h:Fit r k)(Y:r'.j8=r.j8)(X:r'.drop=r.drop)(Z:r'.n=r.n)(U:r'.P=r.P):Fit r' k:=⟨by rw[Y];exact h.j8,by rw[X];exact h.drop,λj V=>by rw[U];exact h.out j (by rw[<-Z];exact V)⟩
theorem oE(r:iM)(s:Int):(r.behind s).j8=r.j8/\(r.behind s).drop=r.drop/\(r.behind s).n=r.n/\(r.behind s).P=r.P:=by
 unfold iM.behind;split<;>exact⟨rfl,rfl,rfl,rfl⟩
theorem wE(r:iM):r.change.j8=r.j8/\r.change.drop=r.drop/\r.change.n=r.n/\r.change.P=r.P:=by
 unfold iM.change;split
 ·exact⟨rfl,rfl,rfl,rfl⟩
 ·exact oE _ _
theorem mV(r:iM)(i:Nat)(q:lD):(r.meet i q).j8=r.j8/\(r.meet i q).drop=r.drop/\(r.meet i q).n=r.n/\(r.meet i q).P=la r.P i {r.P i with pe:=q}:=by
 unfold iM.meet;simp only;split
 ·exact⟨rfl,rfl,rfl,rfl⟩
 ·split
  ·obtain⟨Y,V,Z,X⟩:=wE ({r.iU i {r.P i with pe:=q}with O:=λx=>if x=i then λ_=>ν else(r.iU i {r.P i with pe:=q}).O x}:iM);exact⟨Y,V,Z,X⟩
  ·obtain⟨Y,V,Z,X⟩:=wE ({r.iU i {r.P i with pe:=q}with O:=λx=>if x=i then λ_=>ν else(r.iU i {r.P i with pe:=q}).O x}:iM);exact⟨Y,V,Z,X⟩
theorem Fit.meet {r:iM} {k:Nat} (h:Fit r k)(i:Nat)(q:lD):Fit (r.meet i q) k:=by
 obtain⟨Y,V,Z,X⟩:=mV r i q;exact Fit.congr (h.iU i {r.P i with pe:=q} (λhi=>h.out i hi)) Y V Z X
theorem Fit.behind {r:iM} {k:Nat} (h:Fit r k)(s:Int):Fit (r.behind s) k:=by
 obtain⟨Y,V,Z,X⟩:=oE r s;exact h.congr Y V Z X
theorem acy(r:iM)(t:za):(r.send t).n=r.n/\(r.send t).id=r.id:=by
 unfold iM.send;split
 ·exact⟨rfl,rfl⟩
 ·split<;>exact⟨rfl,rfl⟩
theorem Fit.send {r:iM} {k:Nat} (h:Fit r k)(t:za):Fit (r.send t) (k+1):=by
 unfold iM.send;split
 ·exact⟨by have:=h.j8;simp;omega,by have:=h.drop;simp;omega,λj Z=>by have:=h.out j Z;simp;omega⟩
 ·split
  ·exact⟨by have:=h.j8;simp;omega,by have:=h.drop;simp;omega,λj Z=>by have:=h.out j Z;simp;omega⟩
  ·rename_i b _
   exact h.grow b _ (Nat.le_trans (xr (r.P b) 77 (jY t.1::jY (t.2.1-1)::t.2.2)) eh)
theorem Fit.state(h:Fit r k)(i:Nat)(l:List UInt8):Fit (ji r i l) (k+1):=by
 unfold ji;simp only;split
 ·exact h.mono (Nat.le_succ k)
 ·split
  ·exact(h.behind _).mono (Nat.le_succ k)
  ·have Z:Fit ({r with K:=lr r.K (St.il l).1 (St.il l).2.1 (St.il l).2.2.1,O:=oR r.K r.O i (St.il l).1 (St.il l).2.1 (St.il l).2.2.1}:iM) k:=h.congr rfl rfl rfl rfl;split
   ·exact Z.grow i _ (Nat.le_trans (xr (r.P i) 65 (rb (St.il l).1 (St.il l).2.1 (St.il l).2.2.1)) (by show(r.P i).out.length+126<=(r.P i).out.length+6000;omega))
   ·exact Z.mono (Nat.le_succ k)
theorem YM(r:iM)(i:Nat)(l:List UInt8):(ji r i l).n=r.n/\(ji r i l).id=r.id:=by
 unfold ji;simp only;split
 ·exact⟨rfl,rfl⟩
 ·split
  ·exact⟨Ve _ _,A4 _ _⟩
  ·split<;>exact⟨rfl,rfl⟩
theorem ln.send {r:iM} (h:ln r)(t:za):ln (r.send t):=by
 unfold iM.send;split
 ·exact⟨h.id,h.m,h.pe,h.own,h.Po⟩
 ·split
  ·exact⟨h.id,h.m,h.pe,h.own,h.Po⟩
  ·exact h.iU _ _ (Hu _ _ _) (λhi=>by rw[rN];exact h.pe _ hi)
theorem ln.state(h:ln r)(i:Nat)(l:List UInt8):ln (ji r i l):=by
 unfold ji;simp only;split
 ·exact h
 ·rename_i hc
  have hf:(St.il l).2.2.2=0:=by
   by_cases e:(St.il l).2.2.2=0
   ·exact e
   ·exact absurd (.inl e) hc
  have Y:oy (St.il l).1 (St.il l).2.1 (St.il l).2.2.1=0:=pO (l:=l) (by rw[<-hf]);split
  ·exact h.behind (by have:=(jt Y).2.1;omega)
  ·rename_i V
   have Z:ln {r with K:=lr r.K (St.il l).1 (St.il l).2.1 (St.il l).2.2.1,O:=oR r.K r.O i (St.il l).1 (St.il l).2.1 (St.il l).2.2.1}:=by
    refine⟨h.id,h.m,h.pe,?_,?_⟩
    ·show∃q,lr r.K _ _ _ r.id=μ q/\_;unfold lr;split
     ·rename_i U
      have X:r.id≠(St.il l).1:=λe=>V ⟨e.symm,U⟩;unfold wk;rw[af X];exact h.own
     ·exact h.own
    ·show Xn (lr r.K _ _ _);unfold lr;split
     ·exact h.Po.tL (jt Y).1 _
     ·exact h.Po
   split
   ·exact Z.iU _ _ (Hu _ _ _) (λhi=>by rw[rN];exact h.pe _ hi)
   ·exact Z
theorem EI(z:Zt)(r:iM)(k:Nat)(t Z:Int)(tx:ByteArray)(w:dY)(h:mr w z r)(T:ln r)(hf:Fit r k)(hk:k<=100000)(X:0<=t/\t<=255)(hh:0<=Z/\Z<=255)(Y:tx.size<=900):
 eW eX 91 #[π (μ ⟨z.R,0,ν⟩),.agg #[ι κ t,ι κ Z,.string tx]] w λe w'=>e=ρ (τ #[])/\iD w w' z (r.send (t,Z,tx.data.toList)) r.n:=by
 by_cases e:t=r.id
 ·subst e;refine(Rv z r Z tx w h (by have:=hf.j8;omega)).mono ?_;rintro e w1 ⟨rfl,V⟩;refine⟨rfl,?_⟩;unfold iM.send;rw[ai rfl];exact V
 ·exact Rw z r t Z tx w h T.Po e X hh Y (by have:=hf.drop;omega) (λj U=>by have:=hf.out j U;omega)
def ru(r:iM)(l:List UInt8):iM:=if 2<=l.length/\l.length<=22 then r.send (((l.getD 0 0).toNat:Int),((l.getD 1 0).toNat:Int),l.drop 2)else r
theorem CY(s:ByteArray)(z:Zt)(r:iM)(k:Nat)(w:dY)(h:mr w z r)(Y:ln r)(hf:Fit r k)(G:k<=100000)(hs:s.size<=1000):
 eW eX 137 #[π (μ ⟨z.R,0,ν⟩),.string s] w λe w'=>e=ρ (τ #[])/\iD w w' z (ru r s.data.toList) r.n:=by
 have hl:s.data.toList.length=s.size:=gY;by_cases h2:2<=s.size
 ·by_cases h22:s.size<=22
  ·have b0:0<s.size:=eh;have b1:1<s.size:=eh;have g1:(2:Int)<=(s.size:Int):=eh;have H:(s.size:Int)<=22:=eh;have Z:∀W,eE w W->eW eX 91 #[π (μ ⟨z.R,0,ν⟩),.agg #[ι κ (s[0].toNat:Int),ι κ (s[1].toNat:Int),.string (s.extract 2 s.size)]] W λe w'=>e=ρ (τ #[])/\iD w w' z (ru r s.data.toList) r.n:=by
    intro W S;have l0:=s[0].toNat_lt;have l1:=s[1].toNat_lt;refine(EI z r k (s[0].toNat:Int) (s[1].toNat:Int) (s.extract 2 s.size) W (h.below S) Y hf G eh eh (by simp;omega)).mono ?_;rintro e w1 ⟨rfl,X⟩;refine⟨rfl,iD.first h rfl S (λ_=> ?_)⟩;have J:ru r s.data.toList=r.send ((s[0].toNat:Int),(s[1].toNat:Int),(s.extract 2 s.size).data.toList):=by
     unfold ru;rw[ai ⟨eh,eh⟩,nV s 0 b0,nV s 1 b1];rw[wi,aJ eh]
    rw[J];exact X
   have U:=Z _ (iZ w);have qv:ft.wrap (s[0].toNat:Int)=(s[0].toNat:Int):=aX _ ⟨by have:=s[0].toNat_lt;omega,by have:=s[0].toNat_lt;omega⟩;have mP:ft.wrap (s[1].toNat:Int)=(s[1].toNat:Int):=aX _ ⟨by have:=s[1].toNat_lt;omega,by have:=s[1].toNat_lt;omega⟩;clear Z hf Y h;obtain⟨T,M⟩:∃T:dY->Prop,(λx=>iD w x z (ru r s.data.toList) r.n)=T:=⟨_,rfl⟩
   have Q:∀x,iD w x z (ru r s.data.toList) r.n=T x:=λx=>ct M x;simp only[Q]at U⊢;clear M Q
   go_in
   go_wp2
   go_region_held3(λ_=>True)
    (first|trivial)
    (first
     |(go_at_call 91;refine U.mono ?_;rintro e w1 ⟨rfl,X⟩))
   all_goals
    clear U
    go_wp2
    first|go_end0|refine iJ rfl rfl ?_
    exact⟨rfl,X⟩
  ·have g1:(2:Int)<=(s.size:Int):=eh;have H:¬(s.size:Int)<=22:=eh;have V:Hid (iD w w z (ru r s.data.toList) r.n):=by
    show iD _ _ _ _ _;unfold ru;rw[af eh];exact iD.refl h
   clear h Y hf
   go_in
   go_wp2
   first|go_end0|refine iJ rfl rfl ?_
   exact⟨rfl,V.out⟩
 ·have g1:¬(2:Int)<=(s.size:Int):=eh;have V:Hid (iD w w z (ru r s.data.toList) r.n):=by
   show iD _ _ _ _ _;unfold ru;rw[af eh];exact iD.refl h
  clear h Y hf
  go_in
  go_wp2
  first|go_end0|refine iJ rfl rfl ?_
  exact⟨rfl,V.out⟩
def j1(r:iM)(i:Nat)(c:UInt8)(s:List UInt8):iM:=if c=76 then r.iU i ((r.P i).packet s)else r
def mA(r1:iM)(i:Nat)(c:UInt8)(s:List UInt8):iM:=
 if c=72 then(if(kG s).2.2=0 then r1.meet i (jg r1.id (kG s).1 (kG s).2.1)else r1)
 else if c=83 then ji r1 i s
 else if c=65 then kD r1 i s
 else if c=77 then ru r1 s
 else r1
theorem lJ(r:iM)(i:Nat)(c:UInt8)(s:List UInt8):r.take i c s=if((j1 r i c s).P i).L.st≠9 then(j1 r i c s).meet i nobody else mA (j1 r i c s) i c s:=rfl
theorem Vr(T s:ByteArray)(c:UInt8)(z:Zt)(r:iM)(i k:Nat)(w:dY)(h:mr w z r)(hT:T=⟨#[c]⟩)(EJ:jf w)(iN:ln r)(hf:Fit r k)(hk:k<=99999)(hi:i<r.n)(hs:s.size<=1000):
 eW eX 79 #[π (μ ⟨z.R,0,ν⟩),ι κ (i:Int),.string T,.string s] w λe w'=>e=ρ (τ #[])/\iD w w' z (r.take i c s.data.toList) r.n:=by
 have kS:(i:Int)<(r.n:Int):=eh;have O1:(0:Int)<=(i:Int):=eh;have c1:=h.c1;have cl:=h.lt;have gl:=h.JZ;have HEq:=lJ r i c s.data.toList;obtain⟨r1,k8⟩:=gg (j1 r i c s.data.toList);rw[k8]at HEq;have mM:r1.n=r.n:=by rw[<-k8];unfold j1;split<;>rfl
 have kX:ln r1:=by
  rw[<-k8];unfold j1;split
  ·exact iN.iU i _ (ur _ _).1 (λhi=>by rw[(ur _ _).2];exact iN.pe i hi)
  ·exact iN
 have UY:Fit r1 (k+1):=by
  rw[<-k8];unfold j1;split
  ·exact hf.grow i _ (Nat.le_trans (EH _ _) eh)
  ·exact hf.mono (Nat.le_succ k)
 have vh:i<r1.n:=by rw[mM];exact hi
 have hop:Hid (∀W,iD w W z r1 r.n->eW eX 83 #[π (μ ⟨z.g,i*71,ν⟩)] W λe w'=>e=ρ (.bool ((r1.P i).L.st==9))/\W=w'):=by
  intro W J;obtain⟨v,hv⟩:=J.pt vh;exact yD z.g (i*71) (z.B i) v (r1.P i) W hv
 have y:Hid (c=76->eW eX 133 #[π (μ ⟨z.g,i*71,ν⟩),.string s] w λe w'=>e=ρ (τ #[])/\iD w w' z r1 r.n):=by
  intro e;refine(K7 s z.g (i*71) (z.B i) (z.v i) (r.P i) w (h.pt i hi) EJ hs (by have:=hf.out i hi;omega)).mono ?_;rintro e1 w1 ⟨rfl,hw⟩;refine⟨rfl,?_⟩;rw[<-k8];unfold j1;rw[ai e];exact h.port hi hw
 have u:Hid (c≠76->iD w w z r1 r.n):=by
  intro e;rw[<-k8];unfold j1;rw[af e];exact iD.refl h
 have S:Hid ((r1.P i).L.st≠9->∀W,iD w W z r1 r.n->eW eX 74 #[π (μ ⟨z.R,0,ν⟩),ι κ (i:Int),.agg #[ι κ 0,.bool false,ι κ 0]] W λe w'=>e=ρ (τ #[])/\iD w w' z (r.take i c s.data.toList) r.n):=by
  intro e W J;rw[HEq,ai e];refine J.call λz1 j hl=> ?_;rw[<-hl.R,<-mM];exact wz z1 r1 i nobody W j kX vh (oj.nobody kX.id.1)
 have E:Hid ((r1.P i).L.st=9->c=72->∀W,iD w W z r1 r.n->eW eX 134 #[π (μ ⟨z.R,0,ν⟩),ι κ (i:Int),.string s] W λe w'=>e=ρ (τ #[])/\iD w w' z (r.take i c s.data.toList) r.n):=by
  intro e Y W J;rw[HEq,af (by simp[e])];unfold mA;rw[ai Y];refine J.call λz1 j hl=> ?_;rw[<-hl.R,<-mM];exact Gs s z1 r1 i W j kX vh
 have H:Hid ((r1.P i).L.st=9->c=83->∀W,iD w W z r1 r.n->eW eX 135 #[π (μ ⟨z.R,0,ν⟩),ι κ (i:Int),.string s] W λe w'=>e=ρ (τ #[])/\iD w w' z (r.take i c s.data.toList) r.n):=by
  intro e Y W J;rw[HEq,af (by simp[e])];unfold mA;rw[af (by rw[Y];decide),ai Y];refine J.call λz1 j hl=> ?_;rw[<-hl.R,<-mM];exact Gr s z1 r1 i W j kX vh hs (by have:=UY.out i vh;omega)
 have D:Hid ((r1.P i).L.st=9->c=65->∀W,iD w W z r1 r.n->eW eX 136 #[π (μ ⟨z.R,0,ν⟩),ι κ (i:Int),.string s] W λe w'=>e=ρ (τ #[])/\iD w w' z (r.take i c s.data.toList) r.n):=by
  intro e Y W J;rw[HEq,af (by simp[e])];unfold mA;rw[af (by rw[Y];decide),af (by rw[Y];decide),ai Y];refine J.call λz1 j hl=> ?_;rw[<-hl.R,<-mM];exact Gq s z1 r1 i W j vh hs
 have G:Hid ((r1.P i).L.st=9->c=77->∀W,iD w W z r1 r.n->eW eX 137 #[π (μ ⟨z.R,0,ν⟩),.string s] W λe w'=>e=ρ (τ #[])/\iD w w' z (r.take i c s.data.toList) r.n):=by
  intro e Y W J;rw[HEq,af (by simp[e])];unfold mA;rw[af (by rw[Y];decide),af (by rw[Y];decide),af (by rw[Y];decide),ai Y];refine J.call λz1 j hl=> ?_;rw[<-hl.R,<-mM];exact CY s z1 r1 (k+1) W j kX UY eh hs
 have V:Hid ((r1.P i).L.st=9->c≠72->c≠83->c≠65->c≠77->∀W,iD w W z r1 r.n->iD w W z (r.take i c s.data.toList) r.n):=by
  intro e e1 Y e3 e4 W J;rw[HEq,af (by simp[e])];unfold mA;rw[af e1,af Y,af e3,af e4];exact J
 have HT:Hid _:=hT;generalize (r1.P i).L.st=st at hop S E H D G V;obtain⟨Q,hQ⟩:∃Q:dY->Prop,(λx=>iD w x z (r.take i c s.data.toList) r.n)=Q:=⟨_,rfl⟩
 have hQ':∀x,iD w x z (r.take i c s.data.toList) r.n=Q x:=λx=>ct hQ x;simp only[hQ']at S E H D G V⊢;obtain⟨Q1,hQ1⟩:∃Q:dY->Prop,(λx=>iD w x z r1 r.n)=Q:=⟨_,rfl⟩
 have af0:∀x,iD w x z r1 r.n=Q1 x:=λx=>ct hQ1 x;simp only[af0]at hop y u S E H D G V;clear h iN hf kX UY vh mM k8 HEq hQ hQ' hQ1 af0 EJ
 go_in
 cases M:(c==76)with
 |true=>
  have vN:=y.out (by simpa using M);go_wp2_with(fail);refine vN.mono ?_;rintro e W3 ⟨rfl,A⟩;clear vN;have zq:=hop.out _ A;go_wp2_with(fail);refine zq.mono ?_;rintro e W4 ⟨rfl,rfl⟩;clear zq;cases q9:(st==9)with
  |false=>
   have Z:=S.out (by simpa using q9) _ A;clear S E H D G V y u hop;go_wp2_with(fail);refine Z.mono ?_;rintro e W5 ⟨rfl,X⟩;clear Z
   go_wp2
   first|go_end0|refine iJ rfl rfl ?_
   exact⟨rfl,X⟩
  |true=>
   have U:st=9:=by simpa using q9
   have q72:(c==72)=false:=by rw[show c=76 by simpa using M];rfl
   have q83:(c==83)=false:=by rw[show c=76 by simpa using M];rfl
   have q65:(c==65)=false:=by rw[show c=76 by simpa using M];rfl
   have q77:(c==77)=false:=by rw[show c=76 by simpa using M];rfl
   have X:=V.out U (by simpa using q72) (by simpa using q83) (by simpa using q65) (by simpa using q77) _ A;clear S E H D G V y u hop U
   go_wp2
   first|go_end0|refine iJ rfl rfl ?_
   exact⟨rfl,X⟩
 |false=>
  have A:=u.out (by simpa using M);have zq:=hop.out _ A;go_wp2_with(fail);refine zq.mono ?_;rintro e W4 ⟨rfl,rfl⟩;clear zq;cases q9:(st==9)with
  |false=>
   have Z:=S.out (by simpa using q9) _ A;clear S E H D G V y u hop;go_wp2_with(fail);refine Z.mono ?_;rintro e W5 ⟨rfl,X⟩;clear Z
   go_wp2
   first|go_end0|refine iJ rfl rfl ?_
   exact⟨rfl,X⟩
  |true=>
   have U:st=9:=by simpa using q9
   cases q72:(c==72)with
   |true=>
    have Z:=E.out U (by simpa using q72) _ A;clear S E H D G V y u hop U;go_wp2_with(fail);refine Z.mono ?_;rintro e W5 ⟨rfl,X⟩;clear Z
    go_wp2
    first|go_end0|refine iJ rfl rfl ?_
    exact⟨rfl,X⟩
   |false=>
    cases q83:(c==83)with
    |true=>
     have Z:=H.out U (by simpa using q83) _ A;clear S E H D G V y u hop U;go_wp2_with(fail);refine Z.mono ?_;rintro e W5 ⟨rfl,X⟩;clear Z
     go_wp2
     first|go_end0|refine iJ rfl rfl ?_
     exact⟨rfl,X⟩
    |false=>
     cases q65:(c==65)with
     |true=>
      have Z:=D.out U (by simpa using q65) _ A;clear S E H D G V y u hop U;go_wp2_with(fail);refine Z.mono ?_;rintro e W5 ⟨rfl,X⟩;clear Z
      go_wp2
      first|go_end0|refine iJ rfl rfl ?_
      exact⟨rfl,X⟩
     |false=>
      cases q77:(c==77)with
      |true=>
       have Z:=G.out U (by simpa using q77) _ A;clear S E H D G V y u hop U;go_wp2_with(fail);refine Z.mono ?_;rintro e W5 ⟨rfl,X⟩;clear Z
       go_wp2
       first|go_end0|refine iJ rfl rfl ?_
       exact⟨rfl,X⟩
      |false=>
       have X:=V.out U (by simpa using q72) (by simpa using q83) (by simpa using q65) (by simpa using q77) _ A;clear S E H D G V y u hop U
       go_wp2
       first|go_end0|refine iJ rfl rfl ?_
       exact⟨rfl,X⟩
theorem Vs(l:List UInt8)(e d:Bool)(h:l.length<=62):(nF l e d).1.length<=62:=by
 unfold nF;split
 ·simp
 ·split
  ·simp
  ·split
   ·simp
   ·split
    ·simp;omega
    ·simp
theorem Vt(s:kC)(c:UInt8)(h:s.1.length<=62):(rV s c).1.length<=62:=by
 obtain⟨l,e,d⟩:=s;unfold rV;simp only at h⊢;split
 ·exact h
 ·split
  ·exact h
  ·split
   ·exact h
   ·simp;omega
theorem Ry(a:List (List UInt8)×Nat×kC)(c:UInt8)(h:a.2.2.1.length<=62)(Y:∀t∈a.1,t.length<=62):(mF a c).2.2.1.length<=62/\∀t∈(mF a c).1,t.length<=62:=by
 have X:(pY a.2.2.1 a.2.2.2.1 a.2.2.2.2 c).1.length<=62:=by
  unfold pY;split
  ·simp
  ·exact Vt _ c h
 have V:(pZ a.2.2.1 a.2.2.2.1 a.2.2.2.2 c).1.length<=62:=by
  unfold pZ;split
  ·exact Vs _ _ _ h
  ·simp
 unfold mF;simp only;split
 ·exact⟨X,Y⟩
 ·split
  ·refine⟨X,λt U=> ?_⟩;rcases aw.1 U with Z|Z
   ·exact Y t Z
   ·rw[au.1 Z];exact V
  ·exact⟨X,Y⟩
theorem Hv:∀(l:List UInt8) (a:List (List UInt8)×Nat×kC),a.2.2.1.length<=62->(∀t∈a.1,t.length<=62)->∀t∈(l.foldl mF a).1,t.length<=62
 |[],_,_,h2=>h2
 |c::l,a,h1,h2=>by
  have:=Ry a c h1 h2;exact Hv l (mF a c) this.1 this.2
theorem Vu(st:kC)(l:List UInt8)(h:st.1.length<=62):∀t∈(kx st l).1,t.length<=62:=Hv l ([],0,st) h (λt Z=>by simp at Z)
theorem YO(r:iM)(i:Nat)(c:UInt8)(s:List UInt8):(j1 r i c s).n=r.n/\(j1 r i c s).id=r.id:=by
 unfold j1;split<;>exact⟨rfl,rfl⟩
theorem YP(r:iM)(i:Nat)(c:UInt8)(s:List UInt8):(mA r i c s).n=r.n/\(mA r i c s).id=r.id:=by
 unfold mA;split
 ·split
  ·exact⟨A5 _ _ _,Dm _ _ _⟩
  ·exact⟨rfl,rfl⟩
 ·split
  ·exact YM _ _ _
  ·split
   ·unfold kD;simp only;split<;>exact⟨rfl,rfl⟩
   ·split
    ·unfold ru;split
     ·exact acy _ _
     ·exact⟨rfl,rfl⟩
    ·exact⟨rfl,rfl⟩
theorem N1(r:iM)(i:Nat)(c:UInt8)(s:List UInt8):(r.take i c s).n=r.n/\(r.take i c s).id=r.id:=by
 rw[lJ];have Z:=YO r i c s;split
 ·exact⟨(A5 _ _ _).trans Z.1,(Dm _ _ _).trans Z.2⟩
 ·have Y:=YP (j1 r i c s) i c s;exact⟨Y.1.trans Z.1,Y.2.trans Z.2⟩
theorem ln.link(h:ln r)(i:Nat)(c:UInt8)(s:List UInt8):ln (j1 r i c s):=by
 unfold j1;split
 ·exact h.iU i _ (ur _ _).1 (λhi=>by rw[(ur _ _).2];exact h.pe i hi)
 ·exact h
theorem Fit.link(h:Fit r k)(i:Nat)(c:UInt8)(s:List UInt8):Fit (j1 r i c s) (k+1):=by
 unfold j1;split
 ·exact h.grow i _ (Nat.le_trans (EH _ _) eh)
 ·exact h.mono (Nat.le_succ k)
theorem EK {s:List UInt8} (Z:(kG s).2.2=0):1<=(kG s).1/\(kG s).1<=6:=by
 unfold kG at Z⊢;split at Z
 ·rename_i hc
  rw[ai hc];have:=hc.2;simp only[ug,Bool.and_eq_true,decide_eq_true_eq]at this;simp only;omega
 ·simp at Z
theorem ln.rest(h:ln r)(i:Nat)(c:UInt8)(s:List UInt8):ln (mA r i c s):=by
 unfold mA;split
 ·split
  ·rename_i Z
   exact h.meet i (oj.YA h.id.1 (EK Z))
  ·exact h
 ·split
  ·exact h.state i s
  ·split
   ·unfold kD;simp only;split
    ·exact h.yG _
    ·exact h
   ·split
    ·unfold ru;split
     ·exact h.send _
     ·exact h
    ·exact h
theorem Fit.rest(h:Fit r k)(i:Nat)(c:UInt8)(s:List UInt8):Fit (mA r i c s) (k+1):=by
 unfold mA;split
 ·split
  ·exact(h.meet i _).mono (Nat.le_succ k)
  ·exact h.mono (Nat.le_succ k)
 ·split
  ·exact h.state i s
  ·split
   ·unfold kD;simp only;split
    ·exact Fit.mono (h.congr rfl rfl rfl rfl) (Nat.le_succ k)
    ·exact h.mono (Nat.le_succ k)
   ·split
    ·unfold ru;split
     ·exact h.send _
     ·exact h.mono (Nat.le_succ k)
    ·exact h.mono (Nat.le_succ k)
theorem ln.take {r:iM} (h:ln r)(i:Nat)(c:UInt8)(s:List UInt8):ln (r.take i c s):=by
 rw[lJ];split
 ·exact(h.link i c s).meet i (oj.nobody (h.link i c s).id.1)
 ·exact(h.link i c s).rest i c s
theorem Fit.take {r:iM} {k:Nat} (h:Fit r k)(i:Nat)(c:UInt8)(s:List UInt8):Fit (r.take i c s) (k+2):=by
 rw[lJ];split
 ·exact((h.link i c s).meet i _).mono eh
 ·exact(h.link i c s).rest i c s
def jM(r:iM)(i:Nat):List UInt8->iM
 |[] =>r
 |c::s=>r.take i c s
theorem EL:∀(l:List (List UInt8)) (r:iM) (i:Nat) (t:List UInt8),r.takes i (l++ [t])=jM (r.takes i l) i t
 |[],r,i,t=>by cases t<;>rfl
 |x::l,r,i,t=>by
  show(match x with|[] =>r|c::s=>r.take i c s).takes i (l++ [t])=jM ((match x with|[] =>r|c::s=>r.take i c s).takes i l) i t;exact EL l _ i t
theorem RA(h:ln r)(hf:Fit r k)(i:Nat)(t:List UInt8):(jM r i t).n=r.n/\ln (jM r i t)/\Fit (jM r i t) (k+2):=by
 cases t with
 |nil=>exact⟨rfl,h,hf.mono eh⟩
 |cons c s=>exact⟨(N1 r i c s).1,h.take i c s,hf.take i c s⟩
theorem Ba:∀(l:List (List UInt8)) {r:iM} {k:Nat} (_:ln r) (_:Fit r k) (i:Nat),(r.takes i l).n=r.n/\ln (r.takes i l)/\Fit (r.takes i l) (k+2*l.length)
 |[],r,k,h,hf,i=>⟨rfl,h,hf⟩
 |x::l,r,k,h,hf,i=>by
  have Z:=RA h hf i x;have e:r.takes i (x::l)=(jM r i x).takes i l:=by cases x<;>rfl
  have Y:=Ba l Z.2.1 Z.2.2 i;rw[e];refine⟨Y.1.trans Z.1,Y.2.1,Y.2.2.mono (by simp;omega)⟩
theorem qz.rdC(h:qz w g o B v p):Rd w g (o+2) p.rd.1 p.rd.2.1 p.rd.2.2:=by
 obtain⟨F,hC,hF⟩:=h.xm;refine⟨F,(hC.sub 2 65 eA).congr (λj hj=> ?_),hF⟩;unfold xk;rw[af eh,af eh,ai eh,show 2+j-2=j by omega]
theorem qz.read(h:qz w g o B v p)(r:kC)(U:Rd w' g (o+2) r.1 r.2.1 r.2.2)(Z:lh w w' g (o+2) 65):qz w' g o B v {p with rd:=r} /\nP w w' g o B v:=by
 obtain⟨F,hC,hF⟩:=h.xm;obtain⟨G,T,X⟩:=U;have Y:=qp.join (a:=2) (k:=65) hC Z T;refine⟨⟨⟨G,Y.congr (λj Y=>U7 p B v F G r j Y),X⟩,h.lk.keep (Z.block B h.lk.lt (λe=>h.gB e.symm)),h.ou.keep Z.size (λx hx=>Z.block x (h.ou.lt x hx) (λe=>h.vg (by rw[hx,e]))),h.few,h.ok,h.gB,h.vg,h.vB,h.nz⟩,⟨Z.os,Z.tape,Z.output,Z.size,λi hi V _ _=>Z.block i hi V,λj Y=>Z.cell j eh,Z.fz⟩⟩
theorem mr.af1 {z:Zt} (h:mr w z r)(hi:i<r.n)(J:qz w' z.g (i*71) (z.B i) (z.v i) p)(Z:nP w w' z.g (i*71) (z.B i) (z.v i)):mr w' z (r.iU i p)/\zG w w' z r.n:=by
 have U:z.mine r.n z.g/\z.mine r.n (z.B i)/\∀k,(z.v i).ownBlock=μ k->z.mine r.n k:=⟨.inr (.inl rfl),.inr (.inr (.inl ⟨i,hi,.inl rfl⟩)),λk Y=>.inr (.inr (.inl ⟨i,hi,.inr Y⟩))⟩
 have S:∀k,k<w.heap.size->¬z.mine r.n k->w'.heap[k]? =w.heap[k]? :=λk Y T=>Z.block k Y (λe=>T (by rw[e];exact U.1)) (λe=>T (by rw[e];exact U.2.1)) (λe=>T (U.2.2 k e));have H:=h.bs.still Z.size (λj V M=>S j V (λe=>M (h.no j e))) h.nb.1 h.nb.2.1 h.nb.2.2 z.fm.no (λj V=>.inl V) (λj V=>Nat.lt_of_lt_of_le (h.bs.Q5 j V) Z.size);refine⟨⟨h.n1,h.n3,h.NC,h.id,?_,?_,?_,H,h.bl,h.no,h.nb,h.sR,h.sB,h.sV,h.sI,h.Rc⟩,⟨Z.os,Z.tape,Z.output,Z.size,λk Y T _ _=>S k Y T⟩⟩
 ·exact h.oe.keep (Z.block z.R h.oe.lt h.sR.1 (λe=>(h.sR.2.2 i hi).1 e.symm) (h.sR.2.2 i hi).2)
 ·intro j V;by_cases e:j=i
  ·subst e;show qz w' z.g (j*71) (z.B j) (z.v j) (la r.P j p j);rw[jy];exact J
  ·show qz w' z.g (j*71) (z.B j) (z.v j) (la r.P i p j);rw[jq _ _ e];have X:=h.pt j V;obtain⟨F,hC,hF⟩:=X.xm;have hs:=h.sB j i V hi e;refine⟨⟨F,λx hx=>⟨(Z.cell (j*71+x) ?_).trans (hC.cell x hx),(Z.fz _).trans (hC.fz x hx)⟩,hF⟩,X.lk.keep (Z.block (z.B j) X.lk.lt (λe=>X.gB e.symm) hs.1 (h.sV i j hi V)),X.ou.keep Z.size (λk Y=>Z.block k (X.ou.lt k Y) (λe=>X.vg (by rw[Y,e])) (λe=>h.sV j i V hi (by rw[Y,e])) (hs.2 k Y)),X.few,X.ok,X.gB,X.vg,X.vB,X.nz⟩;rcases Nat.lt_or_gt_of_ne e with Q|Q
   ·exact .inl eh
   ·exact .inr eh
 ·exact h.ib.keep Z.size (λk Y=>Z.block k (h.ib.lt k Y) (h.sI k Y).2.1 ((h.sI k Y).2.2 i hi).1 ((h.sI k Y).2.2 i hi).2)
theorem YQ(l:List (List UInt8))(j:Nat)(h:j<l.length):(strs l)[j]? =μ (.string ⟨l[j].toArray⟩):=by simp[strs,h]
theorem Vv(s:ByteArray)(z:Zt)(r:iM)(i k:Nat)(w:dY)(h:mr w z r)(EJ:jf w)(iN:ln r)(hf:Fit r k)(hk:k+2*s.size<=99999)(hi:i<r.n):
 eW eX 23 #[π (μ ⟨z.R,0,ν⟩),ι κ (i:Int),.string s] w λe w'=>e=ρ η/\iD w w' z (r.recv i s.data.toList) r.n:=by
 have hh:=Et z r i w h;rw[zI hi]at hh;have kS:(i:Int)<(r.n:Int):=eh;have O1:(0:Int)<=(i:Int):=eh;have c1:=h.c1;have cl:=h.lt;have gl:=h.JZ;have hp:=h.pt i hi;obtain⟨A,hA⟩:=gg (kx (r.P i).rd s.data.toList);have T:=Uu z.g (i*71+2) (r.P i).rd s w hp.rdC eh;rw[hA]at T;have hAl:A.1.length<=s.size:=by
  have:=Dg (r.P i).rd s.data.toList;rw[hA]at this;have e:s.data.toList.length=s.size:=gY;omega
 have hAt:Hid (∀t∈A.1,t.length<=62):=by
  show∀t∈A.1,_;rw[<-hA];obtain⟨F,_,hF⟩:=hp.xm;exact Vu _ _ hF.len
 obtain⟨r1,J⟩:=gg (r.iU i {r.P i with rd:=A.2.2});have y:r1.n=r.n:=by rw[<-J];rfl
 have kX:ln r1:=by rw[<-J];exact iN.iU i _ rfl (λhi=>iN.pe i hi)
 have UY:Fit r1 k:=by rw[<-J];exact hf.iU i _ (λhi=>hf.out i hi)
 have hE:Hid (r.recv i s.data.toList=r1.takes i A.1):=by
  show _=_;unfold iM.recv;simp only[hA];rw[J]
 have G:eW eX 78 #[π (μ ⟨z.g,i*71+2,ν⟩),.string s] w λe w'=>∃v,e=ρ (τ #[v,ι κ (A.2.1:Int)])/\Row w' 1 v A.1.length (strs A.1)/\(∀k,v.ownBlock=μ k->w.heap.size<=k)/\mr w' z r1/\zG w w' z r.n:=by
  refine T.mono ?_;rintro e w1 ⟨v,rfl,h1,h2,_,h4,h5⟩;refine⟨v,rfl,h1,h2,?_⟩;rw[<-J];have h6:=qz.read hp A.2.2 h4 h5;exact h.af1 hi h6.1 h6.2
 have HR:Hid _:=h;have RB:Hid _:=EJ;clear h iN hf hp T EJ
 go_in
 go_wp2_with(fail);refine hh.mono ?_;rintro e w0 ⟨rfl,rfl⟩;clear hh;go_wp2_with(fail);refine G.mono ?_;rintro e V ⟨v,rfl,iW,jj,Q,Xd⟩;clear G c1 cl gl;obtain⟨n,hn⟩:=gg (A.1.length);have Yv:∃a cp,v=σ a n cp:=by
  rcases iW.2 with⟨e,h0⟩|⟨g,c,e,_⟩
  ·exact⟨ν,0,by rw[e,<-hn,h0]⟩
  ·exact⟨_,c,by rw[e,hn]⟩
 obtain⟨a,cp,rfl⟩:=Yv;have OJ:∀j,eu (σ a n cp)=μ j->¬z.mine r.n j:=λj hj=>HR.out.uo (jj j hj);have af4:Hid (∀wr rr,iD V wr z rr r.n->jf wr):=by
  have h1:jf V:=iD.tab (z:=z) (r:=r1) ⟨⟨z,Q,z.sd,λ_ e=>.inl e,λ_ e=>e⟩,Xd⟩ HR.out rfl RB.out;intro wr rr E;exact E.tab Q y h1
 have Vw:Hid (∀wr rr,iD V wr z rr r.n->∀j,(hj:j<A.1.length)->∃g,a=μ ⟨g,0,ν⟩/\wr.cell? ⟨g,j,ν⟩=μ (.string ⟨(A.1[j]).toArray⟩)):=by
  intro wr rr E j hj;rcases iW.2 with⟨e,h0⟩|⟨g,c,e,_,_,_,hc,_⟩
  ·omega
  ·have ea:a=μ ⟨g,0,ν⟩:=(bQ e).1;refine⟨g,ea,E.cell Q (p:=⟨g,j,ν⟩) (OJ g (by rw[ea];rfl)) (hc j _ (YQ A.1 j hj))⟩
 have acz:Hid (∀wr,iD V wr z (r1.takes i A.1) r.n->iD w wr z (r.recv i s.data.toList) r.n):=by
  intro wr E;rw[hE.out];exact iD.qK (r:=r1) ⟨⟨z,Q,z.sd,λ_ e=>.inl e,λ_ e=>e⟩,Xd⟩ Q z.sd (λ_ e=>.inl e) (λ_ e=>e) E
 have H0:Hid (iD V V z (r1.takes i (A.1.take 0)) r.n):=by
  show iD _ _ _ _ _;rw[<-y];exact iD.refl Q
 have HN:Hid _:=hn;have CV:Hid _:=kX;have HF1:Hid _:=UY;clear iW jj Q Xd OJ hE kX UY J hA;have hns:n<=s.size:=eh
 go_wp2
 go_loopw [30] (λx wr=>∃q:Nat,q<=n/\x=ι κ q/\iD V wr z (r1.takes i (A.1.take q)) r.n) (λx _=>n-(eY x).toNat)
 case atStart=>exact⟨0,Nat.zero_le _,rfl,H0.out⟩
 case round=>
  obtain⟨q,hq,rfl,X⟩:=hrel;by_cases kB:q<n
  ·have nQ:(q:Int)<(n:Int):=eh;have hq0:(0:Int)<=(q:Int):=eh;have M:q<A.1.length:=by have:=HN.out;omega
   obtain⟨g,rfl,hcell⟩:=Vw.out _ _ X q M;have Yz:=af4.out _ _ X;have u:=hAt.out _ (aG M);have H:Hid (r1.takes i (A.1.take (q+1))=jM (r1.takes i (A.1.take q)) i A.1[q]):=by
    show _=_;rw[aB M,EL]
   have U:=Ba (A.1.take q) CV.out HF1.out i;have hlq:(A.1.take q).length<=q:=cy _ _;have gl:=ag _ _ hcell;generalize A.1[q] =tt at hcell u H;obtain⟨rq,S⟩:=gg (r1.takes i (A.1.take q));rw[S]at X H U;cases tt with
   |nil=>
    have HW:Hid (iD V wr z (r1.takes i (A.1.take (q+1))) r.n):=by
     show iD _ _ _ _ _;rw[H.out];exact X
    clear X H U S;obtain⟨Z,Y⟩:∃Z:ByteArray,(⟨([] :List UInt8).toArray⟩:ByteArray)=Z:=⟨_,rfl⟩
    rw[Y]at hcell;have ju:Z.toList.isEmpty=true:=by rw[<-Y,dj];rfl
    clear Y
    go_wp2
    go_roundw
    case rel=>exact⟨q+1,eh,by go_num,HW.out⟩
    case measure=>simp[eY];omega
   |cons c tl=>
    obtain⟨Z,Y⟩:∃Z:ByteArray,(⟨(c::tl).toArray⟩:ByteArray)=Z:=⟨_,rfl⟩
    have rQ:Z.size=tl.length+1:=by rw[<-Y];simp[ByteArray.size]
    have hx0:Z.extract 0 1=⟨#[c]⟩:=by
     rw[<-Y];apply gM;apply dD.1;rw[wi];simp
    have hx1:Z.extract 1 Z.size=⟨tl.toArray⟩:=by
     apply gM;apply dD.1;rw[wi,rQ,<-Y];simp
    have D:Z.toList=c::tl:=by rw[dj,<-Y]
    have ju:Z.toList.isEmpty=false:=by rw[D];rfl
    rw[Y]at hcell;have g1:(1:Int)<=(Z.size:Int):=eh;have g0:(0:Int)<=(Z.size:Int):=eh;have Xq:i<rq.n:=by rw[U.1,y];exact hi
    have zb:eW eX 79 #[π (μ ⟨z.R,0,ν⟩),ι κ (i:Int),.string ⟨#[c]⟩,.string ⟨tl.toArray⟩] wr.drew λe w'=>e=ρ (τ #[])/\iD V w' z (r1.takes i (A.1.take (q+1))) r.n:=by
     rw[H.out];have Dn:=X.below (by rw[U.1];exact y) (iZ wr);refine Dn.call λz1 Rz hl=> ?_;have hlen:(⟨tl.toArray⟩:ByteArray).size<=1000:=by
      show tl.toArray.size<=1000;simp at u⊢;omega
     have:=Vr ⟨#[c]⟩ ⟨tl.toArray⟩ c z1 rq i (k+2*(A.1.take q).length) wr.drew Rz rfl Yz U.2.1 U.2.2 eh Xq hlen;rw[hl.R,U.1,y]at this;have e1:(⟨tl.toArray⟩:ByteArray).data.toList=tl:=gY;rw[e1]at this;exact this
    have g1n:1<=Z.size:=eh;clear X H U S Y Yz D rQ
    go_wp2
    go_region_held3(λ_=>True)
     (first|trivial)
     (first
      |(go_at_call 79;refine zb.mono ?_;rintro e w6 ⟨rfl,Mv⟩))
    all_goals
     have HW6:Hid _:=Mv;clear zb Mv
     go_wp2
     go_roundw
     case rel=>exact⟨q+1,eh,by go_num,HW6.out⟩
     case measure=>simp[eY];omega
  ·have xP:¬(q:Int)<(n:Int):=eh;have HW:Hid (iD w wr z (r.recv i s.data.toList) r.n):=by
    show iD _ _ _ _ _;refine acz.out _ ?_;have e1:A.1.take q=A.1:=aJ (by have:=HN.out;omega);rw[e1]at X;exact X
   clear X
   go_wp2
   go_ret;exact⟨rfl,HW.out⟩
theorem RC(q:lD)(w:dY)(h:0<=q.left/\q.left<=4):eW eX 84 #[.agg #[.int .i64 q.who,.bool q.both,.int .i64 q.left]] w λe w'=>
 e=ρ (.agg #[.int .i64 (iI q).who,.bool (iI q).both,.int .i64 (iI q).left])/\eE w w':=by
 have Z:=Go.Proofs.YtieklnlbljejdaaGreatDoor.TX q.who q.left q.both w h.1 eh;have e:Go.Proofs.YtieklnlbljejdaaGreatDoor.iV (q.who,q.both,q.left)=((iI q).who,(iI q).both,(iI q).left):=by
  unfold Go.Proofs.YtieklnlbljejdaaGreatDoor.iV iI;by_cases hl:q.left<=1
  ·simp[hl,nobody]
  ·simp[hl]
 rw[e]at Z;exact Z
theorem sL(p:jw):p.tick.m=p.m/\p.tick.pe=p.pe/\p.tick.out.length<=p.out.length+1512:=by
 unfold jw.tick;have Z:=wD (jd p.L).2 {p with L:=(jd p.L).1};have h2:=zF (jd p.L).2 {p with L:=(jd p.L).1};have h3:=Hm p.L;refine⟨Z.1,Z.2,?_⟩;have h4:({p with L:=(jd p.L).1}:jw).out.length=p.out.length:=rfl;omega
theorem EM:∀(l:List (Int×PS)) (p:jw),(p.kH l).m=p.m/\(p.kH l).pe=p.pe
 |[],_=>⟨rfl,rfl⟩
 |x::l,p=>by
  have h:=EM l (p.put 83 (rb x.1 x.2.1 x.2.2));exact⟨h.1.trans (Hu _ _ _),h.2.trans (rN _ _ _)⟩
theorem Bc(F:Int->Option PS):(lE F).length<=6:=by
 unfold lE;have:=dG (λ(j:Nat)=>(F ((j:Int)+1)).map λq=>((j:Int)+1,q)) (List.range 6);simpa using this
theorem ln.tell(h:ln r)(i:Nat):ln (mI r i):=by
 unfold mI;simp only;refine h.iU i _ ?_ (λhi=> ?_)
 ·split
  ·exact(EM _ _).1.trans (Hu _ _ _)
  ·exact Hu _ _ _
 ·have Z:=h.pe i hi;split
  ·rw[(EM _ _).2,rN];exact Z
  ·rw[rN];exact Z
theorem Fit.tell(h:Fit r k)(i:Nat):Fit (mI r i) (k+1):=by
 unfold mI;simp only;have h1:=xr (r.P i) 72 [jY r.id,jY (r.P i).pe.who];refine h.grow i _ ?_;split
 ·have h2:=yL (lE (r.O i)) ((r.P i).put 72 [jY r.id,jY (r.P i).pe.who]);have h3:=Bc (r.O i);omega
 ·omega
def jb(r:iM)(i:Nat):iM:=r.iU i (r.P i).tick
theorem k7(r:iM)(i:Nat):r.iV i=if((jb r i).P i).L.st≠9 then(jb r i).meet i nobody else mI ((jb r i).meet i (iI ((jb r i).P i).pe)) i:=rfl
theorem ln.jb {r:iM} (h:ln r)(i:Nat):ln (Rt.jb r i):=h.iU i _ (sL _).1 (λhi=>by rw[(sL _).2.1];exact h.pe i hi)
theorem Fit.jb {r:iM} {k:Nat} (h:Fit r k)(i:Nat):Fit (Rt.jb r i) (k+1):=h.grow i _ (Nat.le_trans (sL _).2.2 eh)
theorem RD(h:ln r)(hf:Fit r k)(hi:i<r.n):(r.iV i).n=r.n/\ln (r.iV i)/\Fit (r.iV i) (k+2):=by
 rw[k7];have Z:=h.jb i;have f1:=hf.jb i;split
 ·exact⟨A5 _ _ _,Z.meet i (oj.nobody Z.id.1),(f1.meet i _).mono eh⟩
 ·have Y:=(Z.pe i hi).tick Z.id.1;exact⟨A5 _ _ _,(Z.meet i Y).tell i,(f1.meet i _).tell i⟩
theorem Bf {r:iM} {k:Nat} (h:ln r)(hf:Fit r k):∀q,q<=r.n->(r.ja q).n=r.n/\ln (r.ja q)/\Fit (r.ja q) (k+2*q)
 |0,_=>⟨rfl,h,hf⟩
 |q+1,hq=>by
  have ih:=Bf h hf q eh;have:=RD (i:=q) ih.2.1 ih.2.2 (by rw[ih.1];omega);exact⟨this.1.trans ih.1,this.2.1,this.2.2.mono eh⟩
theorem RE(z:Zt)(r:iM)(k:Nat)(w:dY)(h:mr w z r)(EJ:jf w)(iN:ln r)(hf:Fit r k)(hk:k<=90000):
 eW eX 25 #[π (μ ⟨z.R,0,ν⟩)] w λe w'=>e=ρ (τ #[])/\iD w w' z r.tick r.n:=by
 have c1:=h.c1;have cl:=h.lt;have xX:=h.n3;obtain⟨n,hn⟩:=gg (r.n);have H0:Hid (iD w w z (r.ja 0) r.n):=iD.refl h;have RB:Hid (∀wr rr,iD w wr z rr r.n->jf wr):=λwr rr hw=>hw.tab h rfl EJ;have QX:Hid (∀q,q<=r.n->(r.ja q).n=r.n/\ln (r.ja q)/\Fit (r.ja q) (k+2*q)):=Bf iN hf;have Jm:Hid (r.tick=r.ja r.n):=rfl;rw[hn]at c1 xX H0 RB QX Jm⊢;clear h iN hf EJ
 go_in
 go_wp2
 go_loopw [8] (λx wr=>∃q:Nat,q<=n/\x=ι κ q/\iD w wr z (r.ja q) n) (λx _=>n-(eY x).toNat)
 case atStart=>exact⟨0,Nat.zero_le _,rfl,H0.out⟩
 case round=>
  obtain⟨q,hq,rfl,V⟩:=hrel;by_cases kB:q<n
  ·have nQ:(q:Int)<(n:Int):=eh;have hq0:(0:Int)<=(q:Int):=eh;obtain⟨a1,a2,a3⟩:=QX.out q eh;have hT:=RB.out _ _ V;have d1:=V.c1;have dl:=V.lt;rw[a1]at d1;have HS:Hid (r.ja (q+1)=(r.ja q).iV q):=rfl;obtain⟨M,G⟩:=gg (r.ja q);rw[G]at V HS a1 a2 a3;have Xq:q<M.n:=eh;have zb:eW eX 82 #[π (μ ⟨z.g,q*71,ν⟩)] wr λe w'=>e=ρ (τ #[])/\iD w w' z (jb M q) n:=by
    refine V.call λY U hl=> ?_;rw[<-hl.g];refine(Ra Y.g (q*71) (Y.B q) (Y.v q) (M.P q) wr (U.pt q Xq) hT (by have:=a3.out q Xq;omega)).mono ?_;rintro e w1 ⟨rfl,hw⟩;have:=U.port Xq hw;rw[a1]at this;exact⟨rfl,this⟩
   have kX:=a2.jb q;have UY:=a3.jb q;have H:(jb M q).n=n:=a1;obtain⟨r1,k8⟩:=gg (jb M q);have HE:Hid (M.iV q=if(r1.P q).L.st≠9 then r1.meet q nobody else mI (r1.meet q (iI (r1.P q).pe)) q):=by
    show _=_;rw[<-k8];exact k7 M q
   rw[k8]at zb kX UY H;have J:Hid _:=kX;have HF1:Hid _:=UY;clear G a2 a3 V hT k8 kX UY;go_wp2_with(fail);refine zb.mono ?_;rintro e D ⟨rfl,T⟩;have vh:q<r1.n:=eh;obtain⟨v1,Z⟩:=T.pt vh;have hop:=yD z.g (q*71) (z.B q) v1 (r1.P q) D Z;have e1:=T.c1;have el:=T.lt;have gl:=T.JZ;rw[H]at e1;have g7:=Z.c67;have g8:=Z.c68;have g9:=Z.c69;clear zb Z d1 dl;go_wp2_with(fail);refine hop.mono ?_;rintro e W2 ⟨rfl,rfl⟩;clear hop;cases q9:((r1.P q).L.st==9)with
   |false=>
    have ju:(r1.P q).L.st≠9:=by simpa using q9
    have hm:eW eX 74 #[π (μ ⟨z.R,0,ν⟩),ι κ (q:Int),.agg #[ι κ 0,.bool false,ι κ 0]] D λe w'=>e=ρ (τ #[])/\iD w w' z (r.ja (q+1)) n:=by
     rw[HS.out,HE.out,ai ju];refine T.call λY U hl=> ?_;rw[<-hl.R,<-H];exact wz Y r1 q nobody D U J.out vh (oj.nobody J.out.id.1)
    clear T ju;go_wp2_with(fail);refine hm.mono ?_;rintro e W3 ⟨rfl,j⟩;have HW3:Hid _:=j;clear hm j
    go_wp2
    go_roundw
    case rel=>exact⟨q+1,eh,by go_num,HW3.out⟩
    case measure=>simp[eY];omega
   |true=>
    have h9:(r1.P q).L.st=9:=by simpa using q9
    have y:Hid (r.ja (q+1)=mI (r1.meet q (iI (r1.P q).pe)) q):=by
     show _=_;rw[HS.out,HE.out,af (by simp[h9])]
    have X:=J.out.pe q vh;have S:=RC (r1.P q).pe D X.left;have u:Hid (∀W,eE D W->eW eX 74 #[π (μ ⟨z.R,0,ν⟩),.int .i64 (q:Int),.agg #[.int .i64 (iI (r1.P q).pe).who,.bool (iI (r1.P q).pe).both,.int .i64 (iI (r1.P q).pe).left]] W λe w'=>e=ρ (τ #[])/\iD w w' z (r1.meet q (iI (r1.P q).pe)) n):=by
     intro W hW;refine(T.below H hW).call λY U hl=> ?_;rw[<-hl.R,<-H];exact wz Y r1 q _ W U J.out vh (X.tick J.out.id.1)
    have E:Hid (∀W,iD w W z (r1.meet q (iI (r1.P q).pe)) n->eW eX 85 #[π (μ ⟨z.R,0,ν⟩),ι κ (q:Int)] W λe w'=>e=ρ (τ #[])/\iD w w' z (r.ja (q+1)) n):=by
     intro W hW;rw[y.out];refine hW.call λY U hl=> ?_;have vG:(r1.meet q (iI (r1.P q).pe)).n=n:=(A5 _ _ _).trans H;rw[<-hl.R,<-vG];have acf:=J.out.meet q (X.tick J.out.id.1);exact Vj Y _ q W U acf eh (by have:=(HF1.out.meet q (iI (r1.P q).pe)).out q eh;omega)
    generalize (r1.P q).pe.who=p1 at g7 S;generalize (r1.P q).pe.both=p2 at g8 S;generalize (r1.P q).pe.left=p3 at g9 S;generalize (iI (r1.P q).pe).who=t1 at S u;generalize (iI (r1.P q).pe).both=t2 at S u;generalize (iI (r1.P q).pe).left=t3 at S u;clear T h9 X y;go_wp2_with(fail);refine S.mono ?_;rintro e W2 ⟨rfl,b2⟩;have CO:=u.out _ b2;clear S u;go_wp2_with(fail);refine CO.mono ?_;rintro e W3 ⟨rfl,j⟩;have A:=E.out _ j;clear CO E j;go_wp2_with(fail);refine A.mono ?_;rintro e W4 ⟨rfl,uO⟩;have Lh:Hid _:=uO;clear A uO
    go_wp2
    go_roundw
    case rel=>exact⟨q+1,eh,by go_num,Lh.out⟩
    case measure=>simp[eY];omega
  ·have xP:¬(q:Int)<(n:Int):=eh;have Q:q=n:=eh;have HW:Hid (iD w wr z r.tick n):=by
    show iD _ _ _ _ _;rw[Jm.out,<-Q];rw[<-Q]at V;exact V
   clear V Q
   go_wp2
   first|go_end0|refine iJ rfl rfl ?_
   exact⟨rfl,HW.out⟩
