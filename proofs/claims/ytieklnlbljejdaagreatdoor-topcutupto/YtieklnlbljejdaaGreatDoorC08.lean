import Derived.Test.YtieklnlbljejdaaGreatDoorC07
open Go.Value renaming int → ι, slice → σ, pointer → π, tuple → τ, nilIface → η, ownBlock → eh
open Go.IntKind renaming i64 → κ, u8 → fI
open Go.Ending renaming returned → ρ
open Go.Obj renaming cells → γ
open Option renaming none → ν, some → μ
open Go renaming World → dX, Calls → eX, Value → dY
open Go.Proofs.Tryz renaming prog → eY
open And renaming intro → e7
open Go.IntWalk renaming u8_in → gF
open Go.Act renaming put → gw
open List renaming setIfInBounds_toArray → gA, set_cons_zero → gD, set_cons_succ → gE
open Go.RowKit renaming intOf → eZ
open ByteArray renaming ext → gG
open Array renaming size_setIfInBounds → gH, length_toList → gJ
open Go.Instr renaming loadAt → fO
set_option maxRecDepth 100000
set_option maxHeartbeats 8000000
open Go.Proofs.Tryz
namespace Go.Proofs.YtieklnlbljejdaaGreatDoor
open Go.RowKit St
namespace Rt
variable {B:Nat->Nat} {Bb RR g i k n:Nat} {id:Int} {m:FM} {ms:Nat->Int} {o:Obj} {p:jv} {r:iN} {v:Value} {w w' wb:World}
theorem N9(z:Zt)(r:iN)(t Y:Int)(tx:ByteArray)(w:dX)(h:mA w z r)(hK:XF r.K):
 eX eY 153 #[π (μ ⟨z.R,0,ν⟩),.agg #[ι κ t,ι κ Y,.string tx]] w λe w'=>e=ρ (τ #[ι κ (Hw (YT r t Y)),.bool (YT r t Y).isSome])/\eB w w':=by
 obtain⟨hop,G⟩:=gg ((AO (mr r) t).getD HP.zero);obtain⟨ok,iO⟩:=gg ((AO (mr r) t).isSome);have T:∀W,eB w W->eX eY 64 #[π (μ ⟨z.R,0,ν⟩)] W λe w'=>∃b n c,e=ρ (σ b n c)/\eB W w'/\(∀W',eB w' W'->eX eY 199 #[σ b n c,ι κ t] W' λe w2=>e=ρ (τ #[.agg #[ι κ hop.dst,ι κ hop.far,ι κ hop.rJ],.bool ok])/\eB W' w2):=by
  intro W hW;refine(Bf z r W (h.below hW) hK).mono ?_;rintro e w1 ⟨b,c,rfl,hH,b1⟩;refine⟨b,_,c,rfl,b1,λW' hW'=> ?_⟩;have:=abR b (mr r).length c (mr r) t W' (hH.r.below hW') (by have:=Jt (kK (xY r.K)) r.id.toNat;show(pY _ _).length<=_;omega);rw[G,iO]at this;exact this
 have V:Hid (∀W,eB w W->eX eY 200 #[π (μ ⟨z.R,0,ν⟩),ι κ hop.rJ] W λe w'=>e=ρ (τ #[ι κ (Hw (jQ r.P hop.rJ r.n)),.bool (jQ r.P hop.rJ r.n).isSome])/\eB W w'):=λW hW=>Ez z r hop.rJ W (h.below hW);have J:Hid (YT r t Y=if 1<=Y/\ok=true then jQ r.P hop.rJ r.n else ν):=by
  show _=_;unfold YT;rw[<-iO,<-G];by_cases A:1<=Y;{rw[ai A];cases AO (mr r) t<;>simp[A]};{rw[af A,af (by simp[A])]}
 generalize jQ r.P hop.rJ r.n=bp at V J;generalize YT r t Y=op at J⊢;obtain⟨d,f,x⟩:=hop;simp only at T V;have hRl:=h.lt;generalize z.R=RR at T V hRl⊢;clear h G iO;obtain⟨C,hC⟩:∃C:Array dY,#[ι .i64 t,ι κ Y,.string tx] =C:=⟨_,rfl⟩
 have bm:=gT w (γ #[ι κ t,ι κ Y,.string tx] 106);have Lu:iX (w.alloc (γ #[ι κ t,ι κ Y,.string tx] 106)) w.heap.size #[ι κ t,ι κ Y,.string tx] 106:=iX.new w _ _;obtain⟨X,j⟩:=gg (w.alloc (γ #[ι κ t,ι κ Y,.string tx] 106));obtain⟨N,hN⟩:=gg (w.heap.size);have E:eB w X.drew:=by rw[<-j];exact jD bm
 have S:iX X.drew N #[ι κ t,ι κ Y,.string tx] 106:=by rw[<-j,<-hN];exact Lu.drew
 have Gz:Hid _:=j;have HN:Hid _:=hN;clear Lu bm j hN hC C
 go_in
 go_wp2_with(fail);rw[Gz.out,HN.out]
 go_cut [6,7] (λv6 v7 wx=>∃Z:Nat,v6=π (μ ⟨Z,0,ν⟩)/\v7=.bool ok/\wx.cell? ⟨Z,2,ν⟩=μ (ι κ x)/\eB w wx/\wx.cell? ⟨N,1,ν⟩=μ (ι κ Y))
 case first=>
  have F0:X.drew.cell? ⟨N,0,ν⟩=μ (ι κ t)/\X.drew.cell? ⟨N,1,ν⟩=μ (ι κ Y):=⟨S.cell 0,S.cell 1⟩
  have Nl:N<X.drew.heap.size:=S.lt;have ba:Below X.drew.heap.size X.drew (X.alloc (γ #[ι κ 0,ι κ 0,ι κ 0] 98)).drew:=by
   have b':=jD (gT X (γ #[ι κ 0,ι κ 0,ι κ 0] 98));exact⟨b'.os,b'.tape,b'.output,b'.size,b'.block⟩
  have x5:iX (X.alloc (γ #[ι κ 0,ι κ 0,ι κ 0] 98)).drew X.heap.size #[ι κ 0,ι κ 0,ι κ 0] 98:=(iX.new X _ _).drew;have jt:N≠X.heap.size:=by have h2:N<X.heap.size:=Nl;omega
  have u:w.heap.size<=X.heap.size:=E.size
  go_region_held3(λx=>x.cell? ⟨N,0,ν⟩=μ (ι κ t)/\x.cell? ⟨N,1,ν⟩=μ (ι κ Y))
   (first|assumption|exact F0|exact F1|exact Q|exact oC F0|exact oC F1|exact oC Q|exact uR Q jt jt|exact uR Q GD GD)
   (first
    |(go_at_call 64;refine(T _ (by first|exact E|exact gh E ba)).mono ?_;rintro e w1 ⟨b,n,c,rfl,b1,alb⟩;first|(have mO:=x5.below b1;have M:=(S.below ba).below b1;have F1:=e7 (M.cell 0) (M.cell 1))|(have M:=S.below b1;have F1:=e7 (M.cell 0) (M.cell 1)))
    |(go_at_call 199;refine(alb _ (by first|exact au _ _|exact gT _ _)).mono ?_;rintro e w2 ⟨rfl,b2⟩;first|(have U:=mO.below b2;have H:=M.below b2;have Q:=e7 (H.cell 0) (H.cell 1);have y0:=U.cell 0;have y1:=U.cell 1;have y2:=U.cell 2;have z0:=U.frozen 0;have z1:=U.frozen 1;have z2:=U.frozen 2)|(have H:=M.below b2;have Q:=e7 (H.cell 0) (H.cell 1))|(have U:=(iX.new w1 #[.int .i64 0,.int .i64 0,.int .i64 0] 98).below b2;have H:=(M.below (gT w1 _)).below b2;have Q:=e7 (H.cell 0) (H.cell 1);have GD:N≠w1.heap.size:=(by have h2:=M.lt;omega);have y0:=U.cell 0;have y1:=U.cell 1;have y2:=U.cell 2;have z0:=U.frozen 0;have z1:=U.frozen 1;have z2:=U.frozen 2)))
  all_goals
   go_wp2_with(fail)
   go_meet
   first
    |exact⟨_,rfl,rfl,aq w2 _ _ (0,0) 2,gh (gh (gh E b1) b2) (gT _ _),mI Q.2⟩
    |(have y:=Jq (a:=.int .i64 d) (b:=.int .i64 f) (c:=.int .i64 x) U rfl u (gh (gh (gh E ba) b1) b2)
      exact⟨_,rfl,rfl,y.2.1,y.2.2.1,xA Q.2 jt⟩)
    |(have y:=Jq (a:=.int .i64 d) (b:=.int .i64 f) (c:=.int .i64 x) U rfl (Nat.le_trans u b1.size) (gh (gh (gh E b1) (gT w1 _)) b2)
      exact⟨_,rfl,rfl,y.2.1,y.2.2.1,xA Q.2 GD⟩)
 case rest=>
  obtain⟨Z,rfl,rfl,dz,qH,dn⟩:=hcut;have zl:=ag _ _ dz;have nl:=ag _ _ dn;cases ok with
  |false=>
   have D:Hid (op=ν):=by show _=_;rw[J.out,af gU]
   clear T V J
   go_wp2
   go_ret2
   exact⟨by rw[D.out];rfl,qH⟩
  |true=>
   by_cases A:Y<1
   ·have D:Hid (op=ν):=by show _=_;rw[J.out,af dZ]
    clear T V J
    go_wp2
    go_ret2
    exact⟨by rw[D.out];rfl,qH⟩
   ·have D:Hid (op=bp):=by show _=_;rw[J.out,ai ⟨dZ,rfl⟩]
    have Cd:=V.out _ qH;clear T V J;go_wp2_with(fail);refine Cd.mono ?_;rintro e w5 ⟨rfl,b5⟩;have HB:Hid _:=gh qH b5;clear Cd
    go_wp2
    go_ret2
    exact⟨by rw[D.out];rfl,HB.out⟩
theorem PR:(eY.info? 106).map (λi=>(i.zero,i.size,i.bytes))=μ (μ (.agg #[ι κ 0,ι κ 0,.string ⟨#[]⟩]),3,32):=gS
theorem RG(l:List zb)(t:zb):rO (l++ [t])=rO l++ [ι κ t.1,ι κ t.2.1,.string ⟨t.2.2.toArray⟩] :=by simp[rO]
theorem PT(a b:Int)(s:ByteArray):∀u∈ [ι .i64 a,ι κ b,.string s],u.oneCell'=true:=by
 intro u Z;simp at Z;rcases Z with rfl|rfl|rfl<;>rfl
theorem RH(z:Zt)(r:iN)(Y:Int)(tx:ByteArray)(w:dX)(h:mA w z r)(hn:r.j8.length<=1000000):
 eX eY 91 #[π (μ ⟨z.R,0,ν⟩),.agg #[ι κ r.id,ι κ Y,.string tx]] w λe w'=>e=ρ (τ #[])/\iD w w' z {r with j8:=r.j8++ [(r.id,Y,tx.data.toList)] } r.n:=by
 obtain⟨i0,hi,og,mZ,mc⟩:=aW PR;have ba:=gT w (γ #[ι κ r.id,ι κ Y,.string tx] 106);have U:iX (w.alloc (γ #[ι κ r.id,ι κ Y,.string tx] 106)) w.heap.size #[ι κ r.id,ι κ Y,.string tx] 106:=iX.new w _ _;obtain⟨W0,u⟩:=gg (w.alloc (γ #[ι κ r.id,ι κ Y,.string tx] 106));obtain⟨N,y⟩:=gg (w.heap.size);rw[u]at ba U;rw[y]at U;have M:=h.below ba;have c0:=M.c0;have cl:=M.lt;have m0:W0.cell? ⟨N,0,ν⟩=μ (ι κ r.id):=U.cell 0;have ml:=U.lt;have heq:(r.id==r.id)=true:=gU;have HR:Hid _:=h;have D:Hid _:=M;have HM:Hid _:=U;have S:Hid _:=ba;have j:Hid _:=u;have HN:Hid _:=y;clear h M U ba u y
 go_in
 go_wp2_with(fail);rw[j.out,HN.out]
 go_quiet(fail)
 obtain⟨Z,J⟩:=gg (W0.drewN nq);have b1:eB w Z:=by rw[<-J];exact below_drewN S.out nq
 have H:iX Z N #[ι κ r.id,ι κ Y,.string tx] 106:=by rw[<-J];exact iX.drewN HM.out nq
 rw[J];have X:=HR.out.below b1;have ox:=X.od;have iV:=X.ib;have e3:=X.c3;have el:=X.lt;have d0:Z.cell? ⟨N,0,ν⟩=μ (ι κ r.id):=H.cell 0;have d1:Z.cell? ⟨N,1,ν⟩=μ (ι κ Y):=H.cell 1;have d2:Z.cell? ⟨N,2,ν⟩=μ (.string tx):=H.cell 2;have dl:=H.lt;have HO:Hid (z.iv.ownBlock≠μ z.R):=λe=>(X.sI _ e).1 rfl;have Dn:Hid _:=b1;have HR1:Hid _:=X;obtain⟨nn,G⟩:=gg (r.j8.length);have E:Hid _:=G;rw[G]at iV hn;clear J b1 X c0 cl m0 ml D HM S j G
 go_wp2
 go_region_law ((refine lV (by rfl) (.tmp 17) (.tmp 19) 53 (by rfl) 106 i0 (.agg #[ι κ 0,ι κ 0,.string ⟨#[]⟩]) 3 32 underlying53 hi og mZ mc (by rfl) ew z.iv nn (rO r.j8) (by rfl) ((iV.alloc _).drew) _ 1 1 [ι κ r.id,ι κ Y,.string tx] (by rfl) (by rfl) ew (zg _ _ _ _ _ _ rfl) (PT _ _ _) (by unfold maxLen;omega) dZ ?_;intro V jn x1 k8 T jE;have A:=uo ox T HO.out;have f3:=A.frozen 3;have g3:x1.cell? ⟨z.R,3,ν⟩=μ z.iv:=A.cell 3))
 all_goals
  go_wp2
  first|go_end0|refine iK rfl rfl ?_
  refine⟨rfl,iD.first HR.out rfl Dn.out (λR=> ?_)⟩;have rS:Z.heap.size<=x1.heap.size:=Nat.le_trans (by show Z.heap.size<=(Z.alloc _).heap.size;simp) T.size;have kV:∀k,eh (σ (μ ⟨V,0,ν⟩) (nn+1) jn)=μ k->z.iv.ownBlock=μ k \/Z.heap.size<=k:=by
   intro k Q;have zf:V=k:=by simpa[eh]using Q
   subst zf;rcases jE with hh|hh
   {exact .inl hh};{exact .inr (Nat.le_trans (by show Z.heap.size<=(Z.alloc _).heap.size;simp) hh)}
  have YX:V≠z.R:=by
   intro e;rcases kV V rfl with hh|hh
   {exact HO.out (by rw[hh,e])};{omega}
  refine R.own (σ (μ ⟨V,0,ν⟩) (nn+1) jn) (r.j8++ [(r.id,Y,tx.data.toList)]) r.drop (by simpa using rS) T.os T.tape T.output (λk Q h1 h2=> ?_) ?_ ?_ kV;{rw[ak _ _ _ k h1,T.block k (by show k<(Z.alloc _).heap.size;simp;omega) (λe=>h2 e.symm)];exact aU Z _ k Q};{exact A.set 3 _}
  ·rw[RG,az,E.out];have e4:(⟨tx.data.toList.toArray⟩:ByteArray)=tx:=gU;rw[e4];refine k8.keep gU (λk Q=> ?_);have zf:V=k:=by simpa[eh]using Q
   exact ak _ _ _ k (by show k≠z.R;omega)
theorem wE {p q s t:Addr} {a b c d:dY} (h:w.cell? p=μ a/\w.cell? q=μ b/\w.cell? s=μ c/\w.cell? t=μ d):(w.alloc o).cell? p=μ a/\(w.alloc o).cell? q=μ b/\(w.alloc o).cell? s=μ c/\(w.alloc o).cell? t=μ d:=⟨mI h.1,mI h.2.1,mI h.2.2.1,mI h.2.2.2⟩
theorem acM {t hp:Int} {j:Nat} (h:YT r t hp=μ j):j<r.n/\1<=hp:=by
 unfold YT at h;split at h
 ·rename_i Y
  cases Z:AO (mr r) t with
  |none=>rw[Z]at h;cases h
  |some x=>rw[Z]at h;exact⟨(oB h).1,Y⟩
 ·cases h
theorem RI(z:Zt)(r:iN)(t Z:Int)(tx:ByteArray)(w:dX)(h:mA w z r)(H:XF r.K)(jt:t≠r.id)(ht:0<=t/\t<=255)(hh:0<=Z/\Z<=255)(htx:tx.size<=900)(hd:0<=r.drop/\r.drop<=4000000000000000000)(vC:∀j,j<r.n->(r.P j).out.length<=800000000):
 eX eY 91 #[π (μ ⟨z.R,0,ν⟩),.agg #[ι κ t,ι κ Z,.string tx]] w λe w'=>e=ρ (τ #[])/\iD w w' z (r.send (t,Z,tx.data.toList)) r.n:=by
 have hS:Hid (r.send (t,Z,tx.data.toList)=match YT r t Z with|none=>{r with drop:=r.drop+1} |some i=>r.iU i ((r.P i).put 77 (jY t::jY (Z-1)::tx.data.toList))):=by
  show _=_;unfold iN.send;rw[af jt];rfl
 have ba:=gT w (γ #[ι κ t,ι κ Z,.string tx] 106);have u:iX (w.alloc (γ #[ι κ t,ι κ Z,.string tx] 106)) w.heap.size #[ι κ t,ι κ Z,.string tx] 106:=iX.new w _ _;obtain⟨W0,nX⟩:=gg (w.alloc (γ #[ι κ t,ι κ Z,.string tx] 106));obtain⟨N,hN⟩:=gg (w.heap.size);rw[nX]at ba u;rw[hN]at u;have R0:=h.below ba;have c0:=R0.c0;have cl:=R0.lt;have m0:W0.cell? ⟨N,0,ν⟩=μ (ι κ t):=u.cell 0;have ml:=u.lt;have heq:(t==r.id)=false:=by simp[jt]
 have D:Hid _:=h;have HM:Hid _:=u;have HBa:Hid _:=ba;have Gz:Hid _:=nX;have HN:Hid _:=hN;clear h R0 u ba nX hN jt
 go_in
 go_wp2_with(fail);rw[Gz.out,HN.out]
 go_quiet(fail)
 obtain⟨J,j6⟩:=gg (W0.drewN nq);have b1:eB w J:=by rw[<-j6];exact below_drewN HBa.out nq
 have qU:iX J N #[ι κ t,ι κ Z,.string tx] 106:=by rw[<-j6];exact iX.drewN HM.out nq
 rw[j6];have d0:J.cell? ⟨N,0,ν⟩=μ (ι κ t):=qU.cell 0;have d1:J.cell? ⟨N,1,ν⟩=μ (ι κ Z):=qU.cell 1;have d2:J.cell? ⟨N,2,ν⟩=μ (.string tx):=qU.cell 2;have dl:=qU.lt;have M:=N9 z r t Z tx J (D.out.below b1) H;have YY:Hid _:=qU;have Dn:Hid _:=b1;clear j6 c0 cl m0 ml HM HBa Gz qU b1;cases ho:YT r t Z with
 |none=>
  have M:eX eY 153 #[π (μ ⟨z.R,0,ν⟩),.agg #[ι κ t,ι κ Z,.string tx]] J λe w'=>e=ρ (τ #[ι κ 0,.bool false])/\eB J w':=by
   rw[ho]at M;exact M
  rw[ho]at hS;go_wp2_with(fail);refine M.mono ?_;rintro e X ⟨rfl,b2⟩;have bb:=gh Dn.out b2;have U:=D.out.below bb;have ox:=U.od;have e4:=U.c4;have f4:=ox.frozen 4;have el:=U.lt;have hsI:Hid (z.iv.ownBlock≠μ z.R):=λe=>(U.sI _ e).1 rfl;have NQ:=U.ib;have YS:Hid _:=bb;have hd0:=hd.1;have hd1:=hd.2;have Uy:κ.wrap (r.drop+1)=r.drop+1:=aS _ ⟨dZ,dZ⟩;clear M U b2 bb hd
  go_wp2
  first|go_end0|refine iK rfl rfl ?_
  refine⟨rfl,?_⟩;rw[hS.out];refine iD.first D.out rfl YS.out (λR=> ?_);refine R.own z.iv r.j8 (r.drop+1) gU rfl rfl rfl (λk _ h1 _=>ak _ _ _ k h1) (ox.set 4 _) ?_ (λk hk=>.inl hk);exact NQ.keep gU (λk hk=>ak _ _ _ k (by show k≠z.R;intro e;exact hsI.out (by rw[hk,e])))
 |some j=>
  have M:eX eY 153 #[π (μ ⟨z.R,0,ν⟩),.agg #[ι κ t,ι κ Z,.string tx]] J λe w'=>e=ρ (τ #[ι κ (j:Int),.bool true])/\eB J w':=by
   rw[ho]at M;exact M
  rw[ho]at hS;obtain⟨OY,CM⟩:=acM ho;have Kj:(j:Int)<(r.n:Int):=dZ;have yG:(0:Int)<=(j:Int):=dZ;go_wp2_with(fail);refine M.mono ?_;rintro e X ⟨rfl,b2⟩;have bb:=gh Dn.out b2;have tZ:=iX.below YY.out b2;have U:=D.out.below (gh bb (iZ X));have F0:X.drew.cell? ⟨z.R,1,ν⟩=μ (σ (μ ⟨z.g,0,ν⟩) r.n z.cap)/\X.drew.cell? ⟨N,0,ν⟩=μ (ι κ t)/\X.drew.cell? ⟨N,1,ν⟩=μ (ι κ Z)/\X.drew.cell? ⟨N,2,ν⟩=μ (.string tx):=⟨U.c1,tZ.cell 0,tZ.cell 1,tZ.cell 2⟩
  have hlen:¬(9223372036854775807<2+tx.size):=dZ;have hw8:fI.wrap t=t:=gF _ ⟨dZ,dZ⟩;have hwm:κ.wrap (Z-1)=Z-1:=aS _ ⟨dZ,dZ⟩;have hw9:fI.wrap (Z-1)=Z-1:=gF _ ⟨dZ,dZ⟩;have wi:(convert 140 9 (σ (μ ⟨X.heap.size,0,ν⟩) 2 2)).run eY (X.alloc (γ #[.int .u8 t,.int .u8 (Z-1)] 5)).drew=.ok (.string ⟨#[u8 t,u8 (Z-1)]⟩) (X.alloc (γ #[.int .u8 t,.int .u8 (Z-1)] 5)).drew:=aaB X.drew t (Z-1) ht.1 ht.2 dZ dZ;have b3:eB w (X.alloc (γ #[.int .u8 t,.int .u8 (Z-1)] 5)).drew:=jD (gh bb (gT _ _));obtain⟨E,hs2⟩:∃E:ByteArray,(⟨#[u8 t,u8 (Z-1)]⟩++tx)=E:=⟨_,rfl⟩
  have A:E.data.toList=u8 t::u8 (Z-1)::tx.data.toList:=by
   rw[<-hs2];simp
  have agf:E.size<=1000:=by
   have e:E.size=E.data.toList.length:=gU;have e2:tx.data.toList.length=tx.size:=gU;rw[e,A];simp only[List.length_cons,e2];omega
  have oh:eX eY 150 #[π (μ ⟨z.g,j*71,ν⟩),.string ⟨#[77]⟩,.string E] (X.alloc (γ #[.int .u8 t,.int .u8 (Z-1)] 5)).drew λe w'=>e=ρ (τ #[])/\iD w w' z (r.send (t,Z,tx.data.toList)) r.n/\(w'.cell? ⟨z.R,1,ν⟩=μ (σ (μ ⟨z.g,0,ν⟩) r.n z.cap)/\w'.cell? ⟨N,0,ν⟩=μ (ι κ t)/\w'.cell? ⟨N,1,ν⟩=μ (ι κ Z)/\w'.cell? ⟨N,2,ν⟩=μ (.string tx)):=by
   have y:=D.out.below b3;have G:(X.alloc (γ #[.int .u8 t,.int .u8 (Z-1)] 5)).drew.cell? ⟨z.R,1,ν⟩=μ (σ (μ ⟨z.g,0,ν⟩) r.n z.cap)/\(X.alloc (γ #[.int .u8 t,.int .u8 (Z-1)] 5)).drew.cell? ⟨N,0,ν⟩=μ (ι κ t)/\(X.alloc (γ #[.int .u8 t,.int .u8 (Z-1)] 5)).drew.cell? ⟨N,1,ν⟩=μ (ι κ Z)/\(X.alloc (γ #[.int .u8 t,.int .u8 (Z-1)] 5)).drew.cell? ⟨N,2,ν⟩=μ (.string tx):=wE (o:=.cells #[.int .u8 t,.int .u8 (Z-1)] 5) F0;generalize (X.alloc (γ #[.int .u8 t,.int .u8 (Z-1)] 5)).drew=W3 at b3 y G⊢;have hpj:=vC j OY;refine(Dr z.g (j*71) (z.B j) (z.v j) (r.P j) ⟨#[77]⟩ E 77 W3 (y.pt j OY) rfl agf dZ).mono ?_;rintro e w6 ⟨rfl,MH⟩;have hE:r.send (t,Z,tx.data.toList)=r.iU j ((r.P j).put 77 E.data.toList):=by
    rw[hS.out,A];rfl
   have Q:=y.port OY MH;rw[hE];have O6:¬z.mine r.n N:=by rw[<-HN.out];exact D.out.ur (Nat.le_refl _)
   exact⟨rfl,iD.first D.out rfl b3 (λ_=>Q),Q.c1,Q.cell y (p:=⟨N,0,ν⟩) O6 G.2.1,Q.cell y (p:=⟨N,1,ν⟩) O6 G.2.2.1,Q.cell y (p:=⟨N,2,ν⟩) O6 G.2.2.2⟩
  have el:=U.lt;have eg:=U.Ka;obtain⟨T,hT⟩:∃T:dX->Prop,(λx=>iD w x z (r.send (t,Z,tx.data.toList)) r.n)=T:=⟨_,rfl⟩
  have Lt:∀x,iD w x z (r.send (t,Z,tx.data.toList)) r.n=T x:=λx=>cu hT x;simp only[Lt]at oh;have HT:Hid _:=Lt;clear M tZ b2 hT Lt U b3 A agf bb;go_wp2_with(fail);refine cA (S:=λx=>x.cell? ⟨z.R,1,ν⟩=μ (σ (μ ⟨z.g,0,ν⟩) r.n z.cap)/\x.cell? ⟨N,0,ν⟩=μ (ι κ t)/\x.cell? ⟨N,1,ν⟩=μ (ι κ Z)/\x.cell? ⟨N,2,ν⟩=μ (.string tx)) gS F0 (λlF=> ?_);refine jo 0 (μ 38) rfl rfl gS gS gS (λ_ _ _ h=>h) (by rfl) (v:= ?_) ?_ je ?_
  rotate_left
  ·intro V Y
   (try dsimp only at Y)
   go_simp
   try with_reducible rfl
  simp only[gw,gA,gD,gE];refine jo 1 (μ 39) rfl rfl gS gS gS (λ_ _ _ h=>h) (by rfl) (v:= ?_) ?_ je ?_
  rotate_left
  ·intro V Y
   (try dsimp only at Y)
   go_simp
   try with_reducible rfl
  simp only[gw,gA,gD,gE];refine jo 2 (μ 40) rfl rfl gS gS gS (λ_ _ _ h=>h) (by rfl) (v:= ?_) ?_ je ?_
  rotate_left
  ·intro V Y
   (try dsimp only at Y)
   go_simp
   try with_reducible rfl
  simp only[gw,gA,gD,gE];refine jo 3 (μ 41) rfl rfl gS gS gS (λ_ _ _ h=>h) (by rfl) (v:= ?_) ?_ je ?_
  rotate_left
  ·intro V Y
   (try dsimp only at Y)
   go_simp
   try with_reducible rfl
  simp only[gw,gA,gD,gE];refine jo 4 (μ 42) rfl rfl gS gS gS (λ_ _ _ h=>h) (by rfl) (v:= ?_) ?_ je ?_
  rotate_left
  ·intro V Y
   (try dsimp only at Y)
   go_simp
   try with_reducible rfl
  simp only[gw,gA,gD,gE];refine jo 5 (μ 43) rfl rfl gS gS gS (λ_ _ _ h=>h) (by rfl) (v:= ?_) ?_ je ?_
  rotate_left
  ·intro V Y
   (try dsimp only at Y)
   go_simp
   try with_reducible rfl
  simp only[gw,gA,gD,gE];refine jo 6 (μ 44) rfl rfl gS gS gS (λ_ _ _ h=>h) (by rfl) (v:= ?_) ?_ je ?_
  rotate_left
  ·intro V Y
   (try dsimp only at Y)
   go_simp
   try with_reducible rfl
  simp only[gw,gA,gD,gE];refine jo 7 (μ 45) rfl rfl gS gS gS (λ_ _ _ h=>h) (by rfl) (v:= ?_) ?_ je ?_
  rotate_left
  ·intro V Y
   (try dsimp only at Y)
   go_simp
   try with_reducible rfl
  simp only[gw,gA,gD,gE];refine jo 8 (μ 46) rfl rfl gS gS gS (λ_ _ _ h=>h) (by rfl) (v:= ?_) ?_ je ?_
  rotate_left
  ·intro V Y
   (try dsimp only at Y)
   go_simp
   try with_reducible rfl
  simp only[gw,gA,gD,gE];refine jo 9 (μ 47) rfl rfl gS gS gS (λ_ _ _ h=>h) (by rfl) (v:= ?_) ?_ je ?_
  rotate_left
  ·intro V Y
   (try dsimp only at Y)
   go_simp
   try with_reducible rfl
  simp only[gw,gA,gD,gE];refine jo 10 (μ 48) rfl rfl gS gS gS (λ_ _ _ h=>h) (by rfl) (v:= ?_) ?_ je ?_
  rotate_left
  ·intro V Y
   (try dsimp only at Y)
   go_simp
   try with_reducible rfl
  simp only[gw,gA,gD,gE];refine jo 11 (μ 49) rfl rfl gS gS gS (λ_ _ _ h=>h) (by rfl) (v:= ?_) ?_ je ?_
  rotate_left
  ·intro V Y
   (try dsimp only at Y)
   go_simp
   try with_reducible rfl
  simp only[gw,gA,gD,gE];refine jo 12 (μ 50) rfl rfl gS gS gS (λ_ _ _ h=>h) (by rfl) (v:= ?_) ?_ je ?_
  rotate_left
  ·intro V Y
   (try dsimp only at Y)
   go_simp
   try with_reducible rfl
  simp only[gw,gA,gD,gE];refine jo 15 (μ 53) rfl rfl gS gS gS (λ_ _ _ h=>h) (by rfl) (v:= ?_) ?_ je ?_
  rotate_left
  ·intro V Y
   (try dsimp only at Y)
   go_simp
   try with_reducible rfl
  simp only[gw,gA,gD,gE];refine jo 16 (μ 54) rfl rfl gS gS gS (λ_ _ _ h=>h) (by rfl) (v:= ?_) ?_ je ?_
  rotate_left
  ·intro V Y
   (try dsimp only at Y)
   go_simp
   try with_reducible rfl
  simp only[gw,gA,gD,gE];refine aQ (rs:=[13]) gS gU ?_;refine aG (o:=_) rfl (λK H=> ?_) aN
  go_simp
  refine H.out _ _ ?_ (λlF=> ?_);{exact wE F0};clear H K;refine aQ (rs:=[14]) gS gU ?_;refine aG (o:=_) rfl (λK H=> ?_) aN
  go_simp
  refine H.out _ _ ?_ (λlF=> ?_);{exact wE F0};clear H K;refine jo 17 (μ 55) rfl rfl gS gS gS (λ_ _ _ h=>h) (by rfl) (v:= ?_) ?_ je ?_
  rotate_left
  ·intro V Y
   (try dsimp only at Y)
   go_simp
   try with_reducible rfl
  simp only[gw,gA,gD,gE];refine aQ (rs:=[18]) gS gU ?_;refine aG (o:=_) rfl (λK H=> ?_) aN
  go_simp
  refine oh.mono ?_;rintro e w5 ⟨rfl,MF,F5⟩
  (try go_wp2_with(fail))
  refine H.out _ _ ?_ (λlF=> ?_);{exact F5};clear H K;refine cS gS ?_ _
  all_goals
   clear oh F0 F5
   go_wp2
   first|go_end0|refine iK rfl rfl ?_
   exact⟨rfl,by rw[HT.out];exact MF⟩
theorem H6(p:jv)(c:UInt8)(s:List UInt8):(p.put c s).m=p.m:=by
 unfold jv.put;split;{rfl};{split<;>rfl}
theorem acP(p:jv)(q:kN):(wu p q).m=p.m/\(wu p q).pe=p.pe:=by
 unfold wu;split;{exact⟨H6 _ _ _,rP _ _ _⟩};{exact⟨rfl,rfl⟩}
theorem wF:∀(l:List kN) (p:jv),(p.say l).m=p.m/\(p.say l).pe=p.pe
 |[],_=>⟨rfl,rfl⟩
 |x::l,p=>by
  have h:=wF l (wu p x);have Z:=acP p x;exact⟨h.1.trans Z.1,h.2.trans Z.2⟩
theorem uu(p:jv)(s:List UInt8):(p.packet s).m=p.m/\(p.packet s).pe=p.pe:=by
 unfold jv.packet;simp only;split;{exact wF _ _};{exact⟨rfl,rfl⟩}
theorem EL(p:jv)(s:List UInt8):(p.packet s).out.length<=p.out.length+5040:=by
 unfold jv.packet;simp only;split;{have h1:=Hp p.L ((iY s).1,(iY s).2.1,(iY s).2.2.1);have h2:=zF (jK p.L ((iY s).1,(iY s).2.1,(iY s).2.2.1)).2.1 {p with L:=(jK p.L ((iY s).1,(iY s).2.1,(iY s).2.2.1)).1};have h3:({p with L:=(jK p.L ((iY s).1,(iY s).2.1,(iY s).2.2.1)).1}:jv).out.length=p.out.length:=rfl;omega};{omega}
structure Fit(r:iN)(k:Nat):Prop where
 j8:r.j8.length<=k
 drop:0<=r.drop/\r.drop<=k+1000000000000000
 out:∀j,j<r.n->(r.P j).out.length<=6000*k
theorem Fit.mono {l:Nat} (h:Fit r k)(hl:k<=l):Fit r l:=⟨by have:=h.j8;omega,by have:=h.drop;omega,λj Z=>by have:=h.out j Z;omega⟩
theorem Fit.iU {r:iN} {k:Nat} (h:Fit r k)(i:Nat)(p:jv)(Y:i<r.n->p.out.length<=6000*k):Fit (r.iU i p) k:=⟨h.j8,h.drop,λj Z=>by
 show(k9 r.P i p j).out.length<=_;by_cases e:j=i;{subst e;rw[jy];exact Y Z}
 ·rw[jr _ _ e];exact h.out j Z⟩
theorem Fit.grow(h:Fit r k)(i:Nat)(p:jv)(hp:p.out.length<=(r.P i).out.length+6000):Fit (r.iU i p) (k+1):=(h.mono (Nat.le_succ k)).iU i p (λhi=>by have:=h.out i hi;omega)
theorem Fit.congr {r':iN} (h:Fit r k)(Z:r'.j8=r.j8)(Y:r'.drop=r.drop)(X:r'.n=r.n)(V:r'.P=r.P):Fit r' k:=⟨by rw[Z];exact h.j8,by rw[Y];exact h.drop,λj U=>by rw[V];exact h.out j (by rw[<-X];exact U)⟩
theorem oG(r:iN)(s:Int):(r.behind s).j8=r.j8/\(r.behind s).drop=r.drop/\(r.behind s).n=r.n/\(r.behind s).P=r.P:=by
 unfold iN.behind;split<;>exact⟨rfl,rfl,rfl,rfl⟩
theorem wG(r:iN):r.change.j8=r.j8/\r.change.drop=r.drop/\r.change.n=r.n/\r.change.P=r.P:=by
 unfold iN.change;split;{exact⟨rfl,rfl,rfl,rfl⟩};{exact oG _ _}
theorem mV(r:iN)(i:Nat)(q:lD):(r.meet i q).j8=r.j8/\(r.meet i q).drop=r.drop/\(r.meet i q).n=r.n/\(r.meet i q).P=k9 r.P i {r.P i with pe:=q}:=by
 unfold iN.meet;simp only;split;{exact⟨rfl,rfl,rfl,rfl⟩};{split;{obtain⟨Z,Y,X,V⟩:=wG ({r.iU i {r.P i with pe:=q}with O:=λx=>if x=i then λ_=>ν else(r.iU i {r.P i with pe:=q}).O x}:iN);exact⟨Z,Y,X,V⟩};{obtain⟨Z,Y,X,V⟩:=wG ({r.iU i {r.P i with pe:=q}with O:=λx=>if x=i then λ_=>ν else(r.iU i {r.P i with pe:=q}).O x}:iN);exact⟨Z,Y,X,V⟩}}
theorem Fit.meet {r:iN} {k:Nat} (h:Fit r k)(i:Nat)(q:lD):Fit (r.meet i q) k:=by
 obtain⟨Z,Y,X,V⟩:=mV r i q;exact Fit.congr (h.iU i {r.P i with pe:=q} (λhi=>h.out i hi)) Z Y X V
theorem Fit.behind {r:iN} {k:Nat} (h:Fit r k)(s:Int):Fit (r.behind s) k:=by
 obtain⟨Z,Y,X,V⟩:=oG r s;exact h.congr Z Y X V
theorem acQ(r:iN)(t:zb):(r.send t).n=r.n/\(r.send t).id=r.id:=by
 unfold iN.send;split;{exact⟨rfl,rfl⟩};{split<;>exact⟨rfl,rfl⟩}
theorem Fit.send {r:iN} {k:Nat} (h:Fit r k)(t:zb):Fit (r.send t) (k+1):=by
 unfold iN.send;split;{exact⟨by have:=h.j8;simp;omega,by have:=h.drop;simp;omega,λj Z=>by have:=h.out j Z;simp;omega⟩}
 ·split;{exact⟨by have:=h.j8;simp;omega,by have:=h.drop;simp;omega,λj Z=>by have:=h.out j Z;simp;omega⟩}
  ·rename_i b _
   exact h.grow b _ (Nat.le_trans (xx (r.P b) 77 (jY t.1::jY (t.2.1-1)::t.2.2)) dZ)
theorem Fit.state(h:Fit r k)(i:Nat)(l:List UInt8):Fit (jj r i l) (k+1):=by
 unfold jj;simp only;split;{exact h.mono (Nat.le_succ k)};{split;{exact(h.behind _).mono (Nat.le_succ k)};{have Z:Fit ({r with K:=lr r.K (St.ij l).1 (St.ij l).2.1 (St.ij l).2.2.1,O:=oT r.K r.O i (St.ij l).1 (St.ij l).2.1 (St.ij l).2.2.1}:iN) k:=h.congr rfl rfl rfl rfl;split;{exact Z.grow i _ (Nat.le_trans (xx (r.P i) 65 (rh (St.ij l).1 (St.ij l).2.1 (St.ij l).2.2.1)) (by show(r.P i).out.length+126<=(r.P i).out.length+6000;omega))};{exact Z.mono (Nat.le_succ k)}}}
theorem YZ(r:iN)(i:Nat)(l:List UInt8):(jj r i l).n=r.n/\(jj r i l).id=r.id:=by
 unfold jj;simp only;split;{exact⟨rfl,rfl⟩};{split;{exact⟨Vr _ _,Ba _ _⟩};{split<;>exact⟨rfl,rfl⟩}}
theorem ln.send {r:iN} (h:ln r)(t:zb):ln (r.send t):=by
 unfold iN.send;split;{exact⟨h.id,h.m,h.pe,h.own,h.PE⟩};{split;{exact⟨h.id,h.m,h.pe,h.own,h.PE⟩};{exact h.iU _ _ (H6 _ _ _) (λhi=>by rw[rP];exact h.pe _ hi)}}
theorem ln.state(h:ln r)(i:Nat)(l:List UInt8):ln (jj r i l):=by
 unfold jj;simp only;split;{exact h}
 ·rename_i hc
  have hf:(St.ij l).2.2.2=0:=by
   by_cases e:(St.ij l).2.2.2=0;{exact e};{exact absurd (.inl e) hc}
  have Y:oA (St.ij l).1 (St.ij l).2.1 (St.ij l).2.2.1=0:=pO (l:=l) (by rw[<-hf]);split;{exact h.behind (by have:=(ju Y).2.1;omega)}
  ·rename_i X
   have Z:ln {r with K:=lr r.K (St.ij l).1 (St.ij l).2.1 (St.ij l).2.2.1,O:=oT r.K r.O i (St.ij l).1 (St.ij l).2.1 (St.ij l).2.2.1}:=by
    refine⟨h.id,h.m,h.pe,?_,?_⟩
    ·show∃q,lr r.K _ _ _ r.id=μ q/\_;unfold lr;split
     ·rename_i V
      have U:r.id≠(St.ij l).1:=λe=>X ⟨e.symm,V⟩;unfold wq;rw[af U];exact h.own
     ·exact h.own
    ·show XF (lr r.K _ _ _);unfold lr;split;{exact h.PE.tM (ju Y).1 _};{exact h.PE}
   split;{exact Z.iU _ _ (H6 _ _ _) (λhi=>by rw[rP];exact h.pe _ hi)};{exact Z}
theorem EM(z:Zt)(r:iN)(k:Nat)(t Z:Int)(tx:ByteArray)(w:dX)(h:mA w z r)(T:ln r)(hf:Fit r k)(hk:k<=100000)(V:0<=t/\t<=255)(hh:0<=Z/\Z<=255)(Y:tx.size<=900):
 eX eY 91 #[π (μ ⟨z.R,0,ν⟩),.agg #[ι κ t,ι κ Z,.string tx]] w λe w'=>e=ρ (τ #[])/\iD w w' z (r.send (t,Z,tx.data.toList)) r.n:=by
 by_cases e:t=r.id;{subst e;refine(RH z r Z tx w h (by have:=hf.j8;omega)).mono ?_;rintro e w1 ⟨rfl,U⟩;refine⟨rfl,?_⟩;unfold iN.send;rw[ai rfl];exact U};{exact RI z r t Z tx w h T.PE e V hh Y (by have:=hf.drop;omega) (λj X=>by have:=hf.out j X;omega)}
def ry(r:iN)(l:List UInt8):iN:=if 2<=l.length/\l.length<=22 then r.send (((l.getD 0 0).toNat:Int),((l.getD 1 0).toNat:Int),l.drop 2)else r
theorem C6(s:ByteArray)(z:Zt)(r:iN)(k:Nat)(w:dX)(h:mA w z r)(Y:ln r)(hf:Fit r k)(G:k<=100000)(hs:s.size<=1000):
 eX eY 137 #[π (μ ⟨z.R,0,ν⟩),.string s] w λe w'=>e=ρ (τ #[])/\iD w w' z (ry r s.data.toList) r.n:=by
 have hl:s.data.toList.length=s.size:=gU;by_cases h2:2<=s.size
 ·by_cases h22:s.size<=22
  ·have b0:0<s.size:=dZ;have b1:1<s.size:=dZ;have g1:(2:Int)<=(s.size:Int):=dZ;have J:(s.size:Int)<=22:=dZ;have Z:∀W,eB w W->eX eY 91 #[π (μ ⟨z.R,0,ν⟩),.agg #[ι κ (s[0].toNat:Int),ι κ (s[1].toNat:Int),.string (s.extract 2 s.size)]] W λe w'=>e=ρ (τ #[])/\iD w w' z (ry r s.data.toList) r.n:=by
    intro W M;have l0:=s[0].toNat_lt;have l1:=s[1].toNat_lt;refine(EM z r k (s[0].toNat:Int) (s[1].toNat:Int) (s.extract 2 s.size) W (h.below M) Y hf G dZ dZ (by simp;omega)).mono ?_;rintro e w1 ⟨rfl,U⟩;refine⟨rfl,iD.first h rfl M (λ_=> ?_)⟩;have H:ry r s.data.toList=r.send ((s[0].toNat:Int),(s[1].toNat:Int),(s.extract 2 s.size).data.toList):=by
     unfold ry;rw[ai ⟨dZ,dZ⟩,nV s 0 b0,nV s 1 b1];rw[wk,aI dZ]
    rw[H];exact U
   have X:=Z _ (iZ w);have qy:κ.wrap (s[0].toNat:Int)=(s[0].toNat:Int):=aS _ ⟨by have:=s[0].toNat_lt;omega,by have:=s[0].toNat_lt;omega⟩;have mQ:κ.wrap (s[1].toNat:Int)=(s[1].toNat:Int):=aS _ ⟨by have:=s[1].toNat_lt;omega,by have:=s[1].toNat_lt;omega⟩;clear Z hf Y h;obtain⟨T,Q⟩:∃T:dX->Prop,(λx=>iD w x z (ry r s.data.toList) r.n)=T:=⟨_,rfl⟩
   have S:∀x,iD w x z (ry r s.data.toList) r.n=T x:=λx=>cu Q x;simp only[S]at X⊢;clear Q S
   go_in
   go_wp2
   go_region_held3(λ_=>True)
    (first|trivial)
    (first
     |(go_at_call 91;refine X.mono ?_;rintro e w1 ⟨rfl,U⟩))
   all_goals
    clear X
    go_wp2
    first|go_end0|refine iK rfl rfl ?_
    exact⟨rfl,U⟩
  ·have g1:(2:Int)<=(s.size:Int):=dZ;have J:¬(s.size:Int)<=22:=dZ;have V:Hid (iD w w z (ry r s.data.toList) r.n):=by
    show iD _ _ _ _ _;unfold ry;rw[af dZ];exact iD.refl h
   clear h Y hf
   go_in
   go_wp2
   first|go_end0|refine iK rfl rfl ?_
   exact⟨rfl,V.out⟩
 ·have g1:¬(2:Int)<=(s.size:Int):=dZ;have V:Hid (iD w w z (ry r s.data.toList) r.n):=by
   show iD _ _ _ _ _;unfold ry;rw[af dZ];exact iD.refl h
  clear h Y hf
  go_in
  go_wp2
  first|go_end0|refine iK rfl rfl ?_
  exact⟨rfl,V.out⟩
def j1(r:iN)(i:Nat)(c:UInt8)(s:List UInt8):iN:=if c=76 then r.iU i ((r.P i).packet s)else r
def mB(r1:iN)(i:Nat)(c:UInt8)(s:List UInt8):iN:=
 if c=72 then(if(kG s).2.2=0 then r1.meet i (jg r1.id (kG s).1 (kG s).2.1)else r1)
 else if c=83 then jj r1 i s
 else if c=65 then kC r1 i s
 else if c=77 then ry r1 s
 else r1
theorem lJ(r:iN)(i:Nat)(c:UInt8)(s:List UInt8):r.take i c s=if((j1 r i c s).P i).L.st≠9 then(j1 r i c s).meet i nobody else mB (j1 r i c s) i c s:=rfl
theorem VA(T s:ByteArray)(c:UInt8)(z:Zt)(r:iN)(i k:Nat)(w:dX)(h:mA w z r)(hT:T=⟨#[c]⟩)(EN:jf w)(iO:ln r)(hf:Fit r k)(hk:k<=99999)(hi:i<r.n)(hs:s.size<=1000):
 eX eY 79 #[π (μ ⟨z.R,0,ν⟩),ι κ (i:Int),.string T,.string s] w λe w'=>e=ρ (τ #[])/\iD w w' z (r.take i c s.data.toList) r.n:=by
 have kT:(i:Int)<(r.n:Int):=dZ;have MC:(0:Int)<=(i:Int):=dZ;have c1:=h.c1;have cl:=h.lt;have gl:=h.Ka;have HEq:=lJ r i c s.data.toList;obtain⟨r1,k8⟩:=gg (j1 r i c s.data.toList);rw[k8]at HEq;have mO:r1.n=r.n:=by rw[<-k8];unfold j1;split<;>rfl
 have kX:ln r1:=by
  rw[<-k8];unfold j1;split;{exact iO.iU i _ (uu _ _).1 (λhi=>by rw[(uu _ _).2];exact iO.pe i hi)};{exact iO}
 have VB:Fit r1 (k+1):=by
  rw[<-k8];unfold j1;split;{exact hf.grow i _ (Nat.le_trans (EL _ _) dZ)};{exact hf.mono (Nat.le_succ k)}
 have vm:i<r1.n:=by rw[mO];exact hi
 have hop:Hid (∀W,iD w W z r1 r.n->eX eY 83 #[π (μ ⟨z.g,i*71,ν⟩)] W λe w'=>e=ρ (.bool ((r1.P i).L.st==9))/\W=w'):=by
  intro W S;obtain⟨v,hv⟩:=S.pt vm;exact yE z.g (i*71) (z.B i) v (r1.P i) W hv
 have u:Hid (c=76->eX eY 133 #[π (μ ⟨z.g,i*71,ν⟩),.string s] w λe w'=>e=ρ (τ #[])/\iD w w' z r1 r.n):=by
  intro e;refine(Lj s z.g (i*71) (z.B i) (z.v i) (r.P i) w (h.pt i hi) EN hs (by have:=hf.out i hi;omega)).mono ?_;rintro e1 w1 ⟨rfl,hw⟩;refine⟨rfl,?_⟩;rw[<-k8];unfold j1;rw[ai e];exact h.port hi hw
 have y:Hid (c≠76->iD w w z r1 r.n):=by
  intro e;rw[<-k8];unfold j1;rw[af e];exact iD.refl h
 have V:Hid ((r1.P i).L.st≠9->∀W,iD w W z r1 r.n->eX eY 74 #[π (μ ⟨z.R,0,ν⟩),ι κ (i:Int),.agg #[ι κ 0,.bool false,ι κ 0]] W λe w'=>e=ρ (τ #[])/\iD w w' z (r.take i c s.data.toList) r.n):=by
  intro e W S;rw[HEq,ai e];refine S.call λz1 j hl=> ?_;rw[<-hl.R,<-mO];exact wB z1 r1 i nobody W j kX vm (oj.nobody kX.id.1)
 have G:Hid ((r1.P i).L.st=9->c=72->∀W,iD w W z r1 r.n->eX eY 134 #[π (μ ⟨z.R,0,ν⟩),ι κ (i:Int),.string s] W λe w'=>e=ρ (τ #[])/\iD w w' z (r.take i c s.data.toList) r.n):=by
  intro e X W S;rw[HEq,af (by simp[e])];unfold mB;rw[ai X];refine S.call λz1 j hl=> ?_;rw[<-hl.R,<-mO];exact Gy s z1 r1 i W j kX vm
 have D:Hid ((r1.P i).L.st=9->c=83->∀W,iD w W z r1 r.n->eX eY 135 #[π (μ ⟨z.R,0,ν⟩),ι κ (i:Int),.string s] W λe w'=>e=ρ (τ #[])/\iD w w' z (r.take i c s.data.toList) r.n):=by
  intro e X W S;rw[HEq,af (by simp[e])];unfold mB;rw[af (by rw[X];decide),ai X];refine S.call λz1 j hl=> ?_;rw[<-hl.R,<-mO];exact Gx s z1 r1 i W j kX vm hs (by have:=VB.out i vm;omega)
 have E:Hid ((r1.P i).L.st=9->c=65->∀W,iD w W z r1 r.n->eX eY 136 #[π (μ ⟨z.R,0,ν⟩),ι κ (i:Int),.string s] W λe w'=>e=ρ (τ #[])/\iD w w' z (r.take i c s.data.toList) r.n):=by
  intro e X W S;rw[HEq,af (by simp[e])];unfold mB;rw[af (by rw[X];decide),af (by rw[X];decide),ai X];refine S.call λz1 j hl=> ?_;rw[<-hl.R,<-mO];exact Gw s z1 r1 i W j vm hs
 have H:Hid ((r1.P i).L.st=9->c=77->∀W,iD w W z r1 r.n->eX eY 137 #[π (μ ⟨z.R,0,ν⟩),.string s] W λe w'=>e=ρ (τ #[])/\iD w w' z (r.take i c s.data.toList) r.n):=by
  intro e X W S;rw[HEq,af (by simp[e])];unfold mB;rw[af (by rw[X];decide),af (by rw[X];decide),af (by rw[X];decide),ai X];refine S.call λz1 j hl=> ?_;rw[<-hl.R,<-mO];exact C6 s z1 r1 (k+1) W j kX VB dZ hs
 have M:Hid ((r1.P i).L.st=9->c≠72->c≠83->c≠65->c≠77->∀W,iD w W z r1 r.n->iD w W z (r.take i c s.data.toList) r.n):=by
  intro e e1 X e3 e4 W S;rw[HEq,af (by simp[e])];unfold mB;rw[af e1,af X,af e3,af e4];exact S
 have HT:Hid _:=hT;generalize (r1.P i).L.st=st at hop V G D E H M;obtain⟨Q,hQ⟩:∃Q:dX->Prop,(λx=>iD w x z (r.take i c s.data.toList) r.n)=Q:=⟨_,rfl⟩
 have hQ':∀x,iD w x z (r.take i c s.data.toList) r.n=Q x:=λx=>cu hQ x;simp only[hQ']at V G D E H M⊢;obtain⟨Q1,hQ1⟩:∃Q:dX->Prop,(λx=>iD w x z r1 r.n)=Q:=⟨_,rfl⟩
 have agj:∀x,iD w x z r1 r.n=Q1 x:=λx=>cu hQ1 x;simp only[agj]at hop u y V G D E H M;clear h iO hf kX VB vm mO k8 HEq hQ hQ' hQ1 agj EN
 go_in
 cases J:(c==76)with
 |true=>
  have vQ:=u.out (by simpa using J);go_wp2_with(fail);refine vQ.mono ?_;rintro e W3 ⟨rfl,A⟩;clear vQ;have zw:=hop.out _ A;go_wp2_with(fail);refine zw.mono ?_;rintro e W4 ⟨rfl,rfl⟩;clear zw;cases q9:(st==9)with
  |false=>
   have Z:=V.out (by simpa using q9) _ A;clear V G D E H M u y hop;go_wp2_with(fail);refine Z.mono ?_;rintro e W5 ⟨rfl,Y⟩;clear Z
   go_wp2
   first|go_end0|refine iK rfl rfl ?_
   exact⟨rfl,Y⟩
  |true=>
   have U:st=9:=by simpa using q9
   have q72:(c==72)=false:=by rw[show c=76 by simpa using J];rfl
   have q83:(c==83)=false:=by rw[show c=76 by simpa using J];rfl
   have q65:(c==65)=false:=by rw[show c=76 by simpa using J];rfl
   have q77:(c==77)=false:=by rw[show c=76 by simpa using J];rfl
   have Y:=M.out U (by simpa using q72) (by simpa using q83) (by simpa using q65) (by simpa using q77) _ A;clear V G D E H M u y hop U
   go_wp2
   first|go_end0|refine iK rfl rfl ?_
   exact⟨rfl,Y⟩
 |false=>
  have A:=y.out (by simpa using J);have zw:=hop.out _ A;go_wp2_with(fail);refine zw.mono ?_;rintro e W4 ⟨rfl,rfl⟩;clear zw;cases q9:(st==9)with
  |false=>
   have Z:=V.out (by simpa using q9) _ A;clear V G D E H M u y hop;go_wp2_with(fail);refine Z.mono ?_;rintro e W5 ⟨rfl,Y⟩;clear Z
   go_wp2
   first|go_end0|refine iK rfl rfl ?_
   exact⟨rfl,Y⟩
  |true=>
   have U:st=9:=by simpa using q9
   cases q72:(c==72)with
   |true=>
    have Z:=G.out U (by simpa using q72) _ A;clear V G D E H M u y hop U;go_wp2_with(fail);refine Z.mono ?_;rintro e W5 ⟨rfl,Y⟩;clear Z
    go_wp2
    first|go_end0|refine iK rfl rfl ?_
    exact⟨rfl,Y⟩
   |false=>
    cases q83:(c==83)with
    |true=>
     have Z:=D.out U (by simpa using q83) _ A;clear V G D E H M u y hop U;go_wp2_with(fail);refine Z.mono ?_;rintro e W5 ⟨rfl,Y⟩;clear Z
     go_wp2
     first|go_end0|refine iK rfl rfl ?_
     exact⟨rfl,Y⟩
    |false=>
     cases q65:(c==65)with
     |true=>
      have Z:=E.out U (by simpa using q65) _ A;clear V G D E H M u y hop U;go_wp2_with(fail);refine Z.mono ?_;rintro e W5 ⟨rfl,Y⟩;clear Z
      go_wp2
      first|go_end0|refine iK rfl rfl ?_
      exact⟨rfl,Y⟩
     |false=>
      cases q77:(c==77)with
      |true=>
       have Z:=H.out U (by simpa using q77) _ A;clear V G D E H M u y hop U;go_wp2_with(fail);refine Z.mono ?_;rintro e W5 ⟨rfl,Y⟩;clear Z
       go_wp2
       first|go_end0|refine iK rfl rfl ?_
       exact⟨rfl,Y⟩
      |false=>
       have Y:=M.out U (by simpa using q72) (by simpa using q83) (by simpa using q65) (by simpa using q77) _ A;clear V G D E H M u y hop U
       go_wp2
       first|go_end0|refine iK rfl rfl ?_
       exact⟨rfl,Y⟩
theorem VC(l:List UInt8)(e d:Bool)(h:l.length<=62):(nE l e d).1.length<=62:=by
 unfold nE;split;{simp};{split;{simp};{split;{simp};{split;{simp;omega};{simp}}}}
theorem VD(s:kB)(c:UInt8)(h:s.1.length<=62):(rW s c).1.length<=62:=by
 obtain⟨l,e,d⟩:=s;unfold rW;simp only at h⊢;split;{exact h};{split;{exact h};{split;{exact h};{simp;omega}}}
theorem RK(a:List (List UInt8)×Nat×kB)(c:UInt8)(h:a.2.2.1.length<=62)(Z:∀t∈a.1,t.length<=62):(mF a c).2.2.1.length<=62/\∀t∈(mF a c).1,t.length<=62:=by
 have X:(qh a.2.2.1 a.2.2.2.1 a.2.2.2.2 c).1.length<=62:=by
  unfold qh;split;{simp};{exact VD _ c h}
 have U:(qj a.2.2.1 a.2.2.2.1 a.2.2.2.2 c).1.length<=62:=by
  unfold qj;split;{exact VC _ _ _ h};{simp}
 unfold mF;simp only;split;{exact⟨X,Z⟩}
 ·split
  ·refine⟨X,λt V=> ?_⟩;rcases av.1 V with Y|Y
   {exact Z t Y};{rw[ar.1 Y];exact U}
  ·exact⟨X,Z⟩
theorem H7:∀(l:List UInt8) (a:List (List UInt8)×Nat×kB),a.2.2.1.length<=62->(∀t∈a.1,t.length<=62)->∀t∈(l.foldl mF a).1,t.length<=62
 |[],_,_,h2=>h2
 |c::l,a,h1,h2=>by
  have:=RK a c h1 h2;exact H7 l (mF a c) this.1 this.2
theorem VE(st:kB)(l:List UInt8)(h:st.1.length<=62):∀t∈(kx st l).1,t.length<=62:=H7 l ([],0,st) h (λt Z=>by simp at Z)
theorem Y0(r:iN)(i:Nat)(c:UInt8)(s:List UInt8):(j1 r i c s).n=r.n/\(j1 r i c s).id=r.id:=by
 unfold j1;split<;>exact⟨rfl,rfl⟩
theorem Y1(r:iN)(i:Nat)(c:UInt8)(s:List UInt8):(mB r i c s).n=r.n/\(mB r i c s).id=r.id:=by
 unfold mB;split;{split;{exact⟨Bc _ _ _,Du _ _ _⟩};{exact⟨rfl,rfl⟩}};{split;{exact YZ _ _ _};{split;{unfold kC;simp only;split<;>exact⟨rfl,rfl⟩};{split;{unfold ry;split;{exact acQ _ _};{exact⟨rfl,rfl⟩}};{exact⟨rfl,rfl⟩}}}}
theorem Oa(r:iN)(i:Nat)(c:UInt8)(s:List UInt8):(r.take i c s).n=r.n/\(r.take i c s).id=r.id:=by
 rw[lJ];have Z:=Y0 r i c s;split;{exact⟨(Bc _ _ _).trans Z.1,(Du _ _ _).trans Z.2⟩};{have Y:=Y1 (j1 r i c s) i c s;exact⟨Y.1.trans Z.1,Y.2.trans Z.2⟩}
theorem ln.link(h:ln r)(i:Nat)(c:UInt8)(s:List UInt8):ln (j1 r i c s):=by
 unfold j1;split;{exact h.iU i _ (uu _ _).1 (λhi=>by rw[(uu _ _).2];exact h.pe i hi)};{exact h}
theorem Fit.link(h:Fit r k)(i:Nat)(c:UInt8)(s:List UInt8):Fit (j1 r i c s) (k+1):=by
 unfold j1;split;{exact h.grow i _ (Nat.le_trans (EL _ _) dZ)};{exact h.mono (Nat.le_succ k)}
theorem EO {s:List UInt8} (Z:(kG s).2.2=0):1<=(kG s).1/\(kG s).1<=6:=by
 unfold kG at Z⊢;split at Z
 ·rename_i hc
  rw[ai hc];have:=hc.2;simp only[um,Bool.and_eq_true,decide_eq_true_eq]at this;simp only;omega
 ·simp at Z
theorem ln.rest(h:ln r)(i:Nat)(c:UInt8)(s:List UInt8):ln (mB r i c s):=by
 unfold mB;split
 ·split
  ·rename_i Z
   exact h.meet i (oj.YL h.id.1 (EO Z))
  ·exact h
 ·split;{exact h.state i s};{split;{unfold kC;simp only;split;{exact h.yH _};{exact h}};{split;{unfold ry;split;{exact h.send _};{exact h}};{exact h}}}
theorem Fit.rest(h:Fit r k)(i:Nat)(c:UInt8)(s:List UInt8):Fit (mB r i c s) (k+1):=by
 unfold mB;split;{split;{exact(h.meet i _).mono (Nat.le_succ k)};{exact h.mono (Nat.le_succ k)}};{split;{exact h.state i s};{split;{unfold kC;simp only;split;{exact Fit.mono (h.congr rfl rfl rfl rfl) (Nat.le_succ k)};{exact h.mono (Nat.le_succ k)}};{split;{unfold ry;split;{exact h.send _};{exact h.mono (Nat.le_succ k)}};{exact h.mono (Nat.le_succ k)}}}}
theorem ln.take {r:iN} (h:ln r)(i:Nat)(c:UInt8)(s:List UInt8):ln (r.take i c s):=by
 rw[lJ];split;{exact(h.link i c s).meet i (oj.nobody (h.link i c s).id.1)};{exact(h.link i c s).rest i c s}
theorem Fit.take {r:iN} {k:Nat} (h:Fit r k)(i:Nat)(c:UInt8)(s:List UInt8):Fit (r.take i c s) (k+2):=by
 rw[lJ];split;{exact((h.link i c s).meet i _).mono dZ};{exact(h.link i c s).rest i c s}
def jN(r:iN)(i:Nat):List UInt8->iN
 |[] =>r
 |c::s=>r.take i c s
theorem EP:∀(l:List (List UInt8)) (r:iN) (i:Nat) (t:List UInt8),r.takes i (l++ [t])=jN (r.takes i l) i t
 |[],r,i,t=>by cases t<;>rfl
 |x::l,r,i,t=>by
  show(match x with|[] =>r|c::s=>r.take i c s).takes i (l++ [t])=jN ((match x with|[] =>r|c::s=>r.take i c s).takes i l) i t;exact EP l _ i t
theorem RL(h:ln r)(hf:Fit r k)(i:Nat)(t:List UInt8):(jN r i t).n=r.n/\ln (jN r i t)/\Fit (jN r i t) (k+2):=by
 cases t with
 |nil=>exact⟨rfl,h,hf.mono dZ⟩
 |cons c s=>exact⟨(Oa r i c s).1,h.take i c s,hf.take i c s⟩
theorem Bh:∀(l:List (List UInt8)) {r:iN} {k:Nat} (_:ln r) (_:Fit r k) (i:Nat),(r.takes i l).n=r.n/\ln (r.takes i l)/\Fit (r.takes i l) (k+2*l.length)
 |[],r,k,h,hf,i=>⟨rfl,h,hf⟩
 |x::l,r,k,h,hf,i=>by
  have Z:=RL h hf i x;have e:r.takes i (x::l)=(jN r i x).takes i l:=by cases x<;>rfl
  have Y:=Bh l Z.2.1 Z.2.2 i;rw[e];refine⟨Y.1.trans Z.1,Y.2.1,Y.2.2.mono (by simp;omega)⟩
theorem qB.rdC {o B:Nat} (h:qB w g o B v p):Rd w g (o+2) p.rd.1 p.rd.2.1 p.rd.2.2:=by
 obtain⟨F,hC,hF⟩:=h.xw;refine⟨F,(hC.sub 2 65 ew).congr (λj hj=> ?_),hF⟩;unfold xu;rw[af dZ,af dZ,ai dZ,show 2+j-2=j by omega]
theorem qB.read {o B:Nat} (h:qB w g o B v p)(r:kB)(T:Rd w' g (o+2) r.1 r.2.1 r.2.2)(Z:lh w w' g (o+2) 65):qB w' g o B v {p with rd:=r} /\nR w w' g o B v:=by
 obtain⟨F,hC,hF⟩:=h.xw;obtain⟨G,U,X⟩:=T;have Y:=qg.join (a:=2) (k:=65) hC Z U;refine⟨⟨⟨G,Y.congr (λj Y=>Vh p B v F G r j Y),X⟩,h.lk.keep (Z.block B h.lk.lt (λe=>h.gB e.symm)),h.ou.keep Z.size (λx hx=>Z.block x (h.ou.lt x hx) (λe=>h.vg (by rw[hx,e]))),h.few,h.ok,h.gB,h.vg,h.vB,h.nz⟩,⟨Z.os,Z.tape,Z.output,Z.size,λi hi V _ _=>Z.block i hi V,λj Y=>Z.cell j dZ,Z.fz⟩⟩
theorem mA.agk {z:Zt} (h:mA w z r)(hi:i<r.n)(J:qB w' z.g (i*71) (z.B i) (z.v i) p)(Z:nR w w' z.g (i*71) (z.B i) (z.v i)):mA w' z (r.iU i p)/\zG w w' z r.n:=by
 have U:z.mine r.n z.g/\z.mine r.n (z.B i)/\∀k,(z.v i).ownBlock=μ k->z.mine r.n k:=⟨.inr (.inl rfl),.inr (.inr (.inl ⟨i,hi,.inl rfl⟩)),λk Y=>.inr (.inr (.inl ⟨i,hi,.inr Y⟩))⟩
 have S:∀k,k<w.heap.size->¬z.mine r.n k->w'.heap[k]? =w.heap[k]? :=λk Y T=>Z.block k Y (λe=>T (by rw[e];exact U.1)) (λe=>T (by rw[e];exact U.2.1)) (λe=>T (U.2.2 k e));have Q:=h.bs.still Z.size (λj V H=>S j V (λe=>H (h.no j e))) h.nb.1 h.nb.2.1 h.nb.2.2 z.fm.no (λj V=>.inl V) (λj V=>Nat.lt_of_lt_of_le (h.bs.Rl j V) Z.size);refine⟨⟨h.n1,h.n3,h.NP,h.id,?_,?_,?_,Q,h.bl,h.no,h.nb,h.sR,h.sB,h.sV,h.sI,h.Rs⟩,⟨Z.os,Z.tape,Z.output,Z.size,λk Y T _ _=>S k Y T⟩⟩;{exact h.od.keep (Z.block z.R h.od.lt h.sR.1 (λe=>(h.sR.2.2 i hi).1 e.symm) (h.sR.2.2 i hi).2)}
 ·intro j V;by_cases e:j=i;{subst e;show qB w' z.g (j*71) (z.B j) (z.v j) (k9 r.P j p j);rw[jy];exact J}
  ·show qB w' z.g (j*71) (z.B j) (z.v j) (k9 r.P i p j);rw[jr _ _ e];have X:=h.pt j V;obtain⟨F,hC,hF⟩:=X.xw;have hs:=h.sB j i V hi e;refine⟨⟨F,λx hx=>⟨(Z.cell (j*71+x) ?_).trans (hC.cell x hx),(Z.fz _).trans (hC.fz x hx)⟩,hF⟩,X.lk.keep (Z.block (z.B j) X.lk.lt (λe=>X.gB e.symm) hs.1 (h.sV i j hi V)),X.ou.keep Z.size (λk Y=>Z.block k (X.ou.lt k Y) (λe=>X.vg (by rw[Y,e])) (λe=>h.sV j i V hi (by rw[Y,e])) (hs.2 k Y)),X.few,X.ok,X.gB,X.vg,X.vB,X.nz⟩;rcases Nat.lt_or_gt_of_ne e with M|M
   {exact .inl dZ};{exact .inr dZ}
 ·exact h.ib.keep Z.size (λk Y=>Z.block k (h.ib.lt k Y) (h.sI k Y).2.1 ((h.sI k Y).2.2 i hi).1 ((h.sI k Y).2.2 i hi).2)
theorem Y2(l:List (List UInt8))(j:Nat)(h:j<l.length):(strs l)[j]? =μ (.string ⟨l[j].toArray⟩):=by simp[strs,h]
theorem VF(s:ByteArray)(z:Zt)(r:iN)(i k:Nat)(w:dX)(h:mA w z r)(EN:jf w)(iO:ln r)(hf:Fit r k)(hk:k+2*s.size<=99999)(hi:i<r.n):
 eX eY 23 #[π (μ ⟨z.R,0,ν⟩),ι κ (i:Int),.string s] w λe w'=>e=ρ η/\iD w w' z (r.recv i s.data.toList) r.n:=by
 have hh:=Ex z r i w h;rw[zI hi]at hh;have kT:(i:Int)<(r.n:Int):=dZ;have MC:(0:Int)<=(i:Int):=dZ;have c1:=h.c1;have cl:=h.lt;have gl:=h.Ka;have hp:=h.pt i hi;obtain⟨A,hA⟩:=gg (kx (r.P i).rd s.data.toList);have S:=UY z.g (i*71+2) (r.P i).rd s w hp.rdC dZ;rw[hA]at S;have hAl:A.1.length<=s.size:=by
  have:=Dq (r.P i).rd s.data.toList;rw[hA]at this;have e:s.data.toList.length=s.size:=gU;omega
 have hAt:Hid (∀t∈A.1,t.length<=62):=by
  show∀t∈A.1,_;rw[<-hA];obtain⟨F,_,hF⟩:=hp.xw;exact VE _ _ hF.len
 obtain⟨r1,H⟩:=gg (r.iU i {r.P i with rd:=A.2.2});have u:r1.n=r.n:=by rw[<-H];rfl
 have kX:ln r1:=by rw[<-H];exact iO.iU i _ rfl (λhi=>iO.pe i hi)
 have VB:Fit r1 k:=by rw[<-H];exact hf.iU i _ (λhi=>hf.out i hi)
 have hE:Hid (r.recv i s.data.toList=r1.takes i A.1):=by
  show _=_;unfold iN.recv;simp only[hA];rw[H]
 have G:eX eY 78 #[π (μ ⟨z.g,i*71+2,ν⟩),.string s] w λe w'=>∃v,e=ρ (τ #[v,ι κ (A.2.1:Int)])/\Row w' 1 v A.1.length (strs A.1)/\(∀k,v.ownBlock=μ k->w.heap.size<=k)/\mA w' z r1/\zG w w' z r.n:=by
  refine S.mono ?_;rintro e w1 ⟨v,rfl,h1,h2,_,h4,h5⟩;refine⟨v,rfl,h1,h2,?_⟩;rw[<-H];have h6:=qB.read hp A.2.2 h4 h5;exact h.agk hi h6.1 h6.2
 have HR:Hid _:=h;have RM:Hid _:=EN;clear h iO hf hp S EN
 go_in
 go_wp2_with(fail);refine hh.mono ?_;rintro e w0 ⟨rfl,rfl⟩;clear hh;go_wp2_with(fail);refine G.mono ?_;rintro e V ⟨v,rfl,iV,jk,T,Xq⟩;clear G c1 cl gl;obtain⟨n,hn⟩:=gg (A.1.length);have YG:∃a cp,v=σ a n cp:=by
  rcases iV.2 with⟨e,h0⟩|⟨g,c,e,_⟩
  {exact⟨ν,0,by rw[e,<-hn,h0]⟩};{exact⟨_,c,by rw[e,hn]⟩}
 obtain⟨a,cp,rfl⟩:=YG;have O6:∀j,eh (σ a n cp)=μ j->¬z.mine r.n j:=λj hj=>HR.out.ur (jk j hj);have agn:Hid (∀wr rr,iD V wr z rr r.n->jf wr):=by
  have h1:jf V:=iD.tab (z:=z) (r:=r1) ⟨⟨z,T,z.si,λ_ e=>.inl e,λ_ e=>e⟩,Xq⟩ HR.out rfl RM.out;intro wr rr y;exact y.tab T u h1
 have VG:Hid (∀wr rr,iD V wr z rr r.n->∀j,(hj:j<A.1.length)->∃g,a=μ ⟨g,0,ν⟩/\wr.cell? ⟨g,j,ν⟩=μ (.string ⟨(A.1[j]).toArray⟩)):=by
  intro wr rr y j hj;rcases iV.2 with⟨e,h0⟩|⟨g,c,e,_,_,_,hc,_⟩
  {omega};{have ea:a=μ ⟨g,0,ν⟩:=(bO e).1;refine⟨g,ea,y.cell T (p:=⟨g,j,ν⟩) (O6 g (by rw[ea];rfl)) (hc j _ (Y2 A.1 j hj))⟩}
 have acR:Hid (∀wr,iD V wr z (r1.takes i A.1) r.n->iD w wr z (r.recv i s.data.toList) r.n):=by
  intro wr y;rw[hE.out];exact iD.qL (r:=r1) ⟨⟨z,T,z.si,λ_ e=>.inl e,λ_ e=>e⟩,Xq⟩ T z.si (λ_ e=>.inl e) (λ_ e=>e) y
 have H0:Hid (iD V V z (r1.takes i (A.1.take 0)) r.n):=by
  show iD _ _ _ _ _;rw[<-u];exact iD.refl T
 have HN:Hid _:=hn;have C4:Hid _:=kX;have HF1:Hid _:=VB;clear iV jk T Xq O6 hE kX VB H hA;have hns:n<=s.size:=dZ
 go_wp2
 go_loopw [30] (λx wr=>∃q:Nat,q<=n/\x=ι κ q/\iD V wr z (r1.takes i (A.1.take q)) r.n) (λx _=>n-(eZ x).toNat)
 case atStart=>exact⟨0,Nat.zero_le _,rfl,H0.out⟩
 case round=>
  obtain⟨q,hq,rfl,X⟩:=hrel;by_cases kA:q<n
  ·have nL:(q:Int)<(n:Int):=dZ;have hq0:(0:Int)<=(q:Int):=dZ;have Q:q<A.1.length:=by have:=HN.out;omega
   obtain⟨g,rfl,hcell⟩:=VG.out _ _ X q Q;have XE:=agn.out _ _ X;have E:=hAt.out _ (aF Q);have J:Hid (r1.takes i (A.1.take (q+1))=jN (r1.takes i (A.1.take q)) i A.1[q]):=by
    show _=_;rw[aA Q,EP]
   have U:=Bh (A.1.take q) C4.out HF1.out i;have hlq:(A.1.take q).length<=q:=cz _ _;have gl:=ag _ _ hcell;generalize A.1[q] =tt at hcell E J;obtain⟨rq,M⟩:=gg (r1.takes i (A.1.take q));rw[M]at X J U;cases tt with
   |nil=>
    have HW:Hid (iD V wr z (r1.takes i (A.1.take (q+1))) r.n):=by
     show iD _ _ _ _ _;rw[J.out];exact X
    clear X J U M;obtain⟨Z,Y⟩:∃Z:ByteArray,(⟨([] :List UInt8).toArray⟩:ByteArray)=Z:=⟨_,rfl⟩
    rw[Y]at hcell;have jt:Z.toList.isEmpty=true:=by rw[<-Y,dk];rfl
    clear Y
    go_wp2
    go_roundw
    case rel=>exact⟨q+1,dZ,by go_num,HW.out⟩
    case measure=>simp[eZ];omega
   |cons c tl=>
    obtain⟨Z,Y⟩:∃Z:ByteArray,(⟨(c::tl).toArray⟩:ByteArray)=Z:=⟨_,rfl⟩
    have rS:Z.size=tl.length+1:=by rw[<-Y];simp[ByteArray.size]
    have hx0:Z.extract 0 1=⟨#[c]⟩:=by
     rw[<-Y];apply gG;apply dC.1;rw[wk];simp
    have hx1:Z.extract 1 Z.size=⟨tl.toArray⟩:=by
     apply gG;apply dC.1;rw[wk,rS,<-Y];simp
    have D:Z.toList=c::tl:=by rw[dk,<-Y]
    have jt:Z.toList.isEmpty=false:=by rw[D];rfl
    rw[Y]at hcell;have g1:(1:Int)<=(Z.size:Int):=dZ;have g0:(0:Int)<=(Z.size:Int):=dZ;have XI:i<rq.n:=by rw[U.1,u];exact hi
    have zc:eX eY 79 #[π (μ ⟨z.R,0,ν⟩),ι κ (i:Int),.string ⟨#[c]⟩,.string ⟨tl.toArray⟩] wr.drew λe w'=>e=ρ (τ #[])/\iD V w' z (r1.takes i (A.1.take (q+1))) r.n:=by
     rw[J.out];have Dv:=X.below (by rw[U.1];exact u) (iZ wr);refine Dv.call λz1 Rz hl=> ?_;have hlen:(⟨tl.toArray⟩:ByteArray).size<=1000:=by
      show tl.toArray.size<=1000;simp at E⊢;omega
     have:=VA ⟨#[c]⟩ ⟨tl.toArray⟩ c z1 rq i (k+2*(A.1.take q).length) wr.drew Rz rfl XE U.2.1 U.2.2 dZ XI hlen;rw[hl.R,U.1,u]at this;have e1:(⟨tl.toArray⟩:ByteArray).data.toList=tl:=gU;rw[e1]at this;exact this
    have g1n:1<=Z.size:=dZ;clear X J U M Y XE D rS
    go_wp2
    go_region_held3(λ_=>True)
     (first|trivial)
     (first
      |(go_at_call 79;refine zc.mono ?_;rintro e w6 ⟨rfl,MH⟩))
    all_goals
     have HW6:Hid _:=MH;clear zc MH
     go_wp2
     go_roundw
     case rel=>exact⟨q+1,dZ,by go_num,HW6.out⟩
     case measure=>simp[eZ];omega
  ·have xL:¬(q:Int)<(n:Int):=dZ;have HW:Hid (iD w wr z (r.recv i s.data.toList) r.n):=by
    show iD _ _ _ _ _;refine acR.out _ ?_;have e1:A.1.take q=A.1:=aI (by have:=HN.out;omega);rw[e1]at X;exact X
   clear X
   go_wp2
   go_ret;exact⟨rfl,HW.out⟩
theorem RN(q:lD)(w:dX)(h:0<=q.left/\q.left<=4):eX eY 84 #[.agg #[.int .i64 q.who,.bool q.both,.int .i64 q.left]] w λe w'=>
 e=ρ (.agg #[.int .i64 (iJ q).who,.bool (iJ q).both,.int .i64 (iJ q).left])/\eB w w':=by
 have Z:=Go.Proofs.YtieklnlbljejdaaGreatDoor.UM q.who q.left q.both w h.1 dZ;have e:Go.Proofs.YtieklnlbljejdaaGreatDoor.iW (q.who,q.both,q.left)=((iJ q).who,(iJ q).both,(iJ q).left):=by
  unfold Go.Proofs.YtieklnlbljejdaaGreatDoor.iW iJ;by_cases hl:q.left<=1;{simp[hl,nobody]};{simp[hl]}
 rw[e]at Z;exact Z
theorem sN(p:jv):p.tick.m=p.m/\p.tick.pe=p.pe/\p.tick.out.length<=p.out.length+1512:=by
 unfold jv.tick;have Z:=wF (jd p.L).2 {p with L:=(jd p.L).1};have h2:=zF (jd p.L).2 {p with L:=(jd p.L).1};have h3:=Hv p.L;refine⟨Z.1,Z.2,?_⟩;have h4:({p with L:=(jd p.L).1}:jv).out.length=p.out.length:=rfl;omega
theorem ER:∀(l:List (Int×PS)) (p:jv),(p.kH l).m=p.m/\(p.kH l).pe=p.pe
 |[],_=>⟨rfl,rfl⟩
 |x::l,p=>by
  have h:=ER l (p.put 83 (rh x.1 x.2.1 x.2.2));exact⟨h.1.trans (H6 _ _ _),h.2.trans (rP _ _ _)⟩
theorem Bi(F:Int->Option PS):(lE F).length<=6:=by
 unfold lE;have:=dF (λ(j:Nat)=>(F ((j:Int)+1)).map λq=>((j:Int)+1,q)) (List.range 6);simpa using this
theorem ln.tell(h:ln r)(i:Nat):ln (mJ r i):=by
 unfold mJ;simp only;refine h.iU i _ ?_ (λhi=> ?_);{split;{exact(ER _ _).1.trans (H6 _ _ _)};{exact H6 _ _ _}};{have Z:=h.pe i hi;split;{rw[(ER _ _).2,rP];exact Z};{rw[rP];exact Z}}
theorem Fit.tell(h:Fit r k)(i:Nat):Fit (mJ r i) (k+1):=by
 unfold mJ;simp only;have h1:=xx (r.P i) 72 [jY r.id,jY (r.P i).pe.who];refine h.grow i _ ?_;split;{have h2:=yM (lE (r.O i)) ((r.P i).put 72 [jY r.id,jY (r.P i).pe.who]);have h3:=Bi (r.O i);omega};{omega}
def jb(r:iN)(i:Nat):iN:=r.iU i (r.P i).tick
theorem k7(r:iN)(i:Nat):r.iW i=if((jb r i).P i).L.st≠9 then(jb r i).meet i nobody else mJ ((jb r i).meet i (iJ ((jb r i).P i).pe)) i:=rfl
theorem ln.jb {r:iN} (h:ln r)(i:Nat):ln (Rt.jb r i):=h.iU i _ (sN _).1 (λhi=>by rw[(sN _).2.1];exact h.pe i hi)
theorem Fit.jb {r:iN} {k:Nat} (h:Fit r k)(i:Nat):Fit (Rt.jb r i) (k+1):=h.grow i _ (Nat.le_trans (sN _).2.2 dZ)
theorem RO(h:ln r)(hf:Fit r k)(hi:i<r.n):(r.iW i).n=r.n/\ln (r.iW i)/\Fit (r.iW i) (k+2):=by
 rw[k7];have Z:=h.jb i;have f1:=hf.jb i;split;{exact⟨Bc _ _ _,Z.meet i (oj.nobody Z.id.1),(f1.meet i _).mono dZ⟩};{have Y:=(Z.pe i hi).tick Z.id.1;exact⟨Bc _ _ _,(Z.meet i Y).tell i,(f1.meet i _).tell i⟩}
theorem Bj {r:iN} {k:Nat} (h:ln r)(hf:Fit r k):∀q,q<=r.n->(r.ja q).n=r.n/\ln (r.ja q)/\Fit (r.ja q) (k+2*q)
 |0,_=>⟨rfl,h,hf⟩
 |q+1,hq=>by
  have ih:=Bj h hf q dZ;have:=RO (i:=q) ih.2.1 ih.2.2 (by rw[ih.1];omega);exact⟨this.1.trans ih.1,this.2.1,this.2.2.mono dZ⟩
theorem RP(z:Zt)(r:iN)(k:Nat)(w:dX)(h:mA w z r)(EN:jf w)(iO:ln r)(hf:Fit r k)(hk:k<=90000):
 eX eY 25 #[π (μ ⟨z.R,0,ν⟩)] w λe w'=>e=ρ (τ #[])/\iD w w' z r.tick r.n:=by
 have c1:=h.c1;have cl:=h.lt;have x5:=h.n3;obtain⟨n,hn⟩:=gg (r.n);have H0:Hid (iD w w z (r.ja 0) r.n):=iD.refl h;have RM:Hid (∀wr rr,iD w wr z rr r.n->jf wr):=λwr rr hw=>hw.tab h rfl EN;have RQ:Hid (∀q,q<=r.n->(r.ja q).n=r.n/\ln (r.ja q)/\Fit (r.ja q) (k+2*q)):=Bj iO hf;have Jw:Hid (r.tick=r.ja r.n):=rfl;rw[hn]at c1 x5 H0 RM RQ Jw⊢;clear h iO hf EN
 go_in
 go_wp2
 go_loopw [8] (λx wr=>∃q:Nat,q<=n/\x=ι κ q/\iD w wr z (r.ja q) n) (λx _=>n-(eZ x).toNat)
 case atStart=>exact⟨0,Nat.zero_le _,rfl,H0.out⟩
 case round=>
  obtain⟨q,hq,rfl,X⟩:=hrel;by_cases kA:q<n
  ·have nL:(q:Int)<(n:Int):=dZ;have hq0:(0:Int)<=(q:Int):=dZ;obtain⟨a1,a2,a3⟩:=RQ.out q dZ;have hT:=RM.out _ _ X;have d1:=X.c1;have dl:=X.lt;rw[a1]at d1;have HS:Hid (r.ja (q+1)=(r.ja q).iW q):=rfl;obtain⟨J,A⟩:=gg (r.ja q);rw[A]at X HS a1 a2 a3;have XI:q<J.n:=dZ;have zc:eX eY 82 #[π (μ ⟨z.g,q*71,ν⟩)] wr λe w'=>e=ρ (τ #[])/\iD w w' z (jb J q) n:=by
    refine X.call λV T hl=> ?_;rw[<-hl.g];refine(Rq V.g (q*71) (V.B q) (V.v q) (J.P q) wr (T.pt q XI) hT (by have:=a3.out q XI;omega)).mono ?_;rintro e w1 ⟨rfl,hw⟩;have:=T.port XI hw;rw[a1]at this;exact⟨rfl,this⟩
   have kX:=a2.jb q;have VB:=a3.jb q;have H:(jb J q).n=n:=a1;obtain⟨r1,k8⟩:=gg (jb J q);have HE:Hid (J.iW q=if(r1.P q).L.st≠9 then r1.meet q nobody else mJ (r1.meet q (iJ (r1.P q).pe)) q):=by
    show _=_;rw[<-k8];exact k7 J q
   rw[k8]at zc kX VB H;have Q:Hid _:=kX;have HF1:Hid _:=VB;clear A a2 a3 X hT k8 kX VB;go_wp2_with(fail);refine zc.mono ?_;rintro e D ⟨rfl,S⟩;have vm:q<r1.n:=dZ;obtain⟨v1,Z⟩:=S.pt vm;have hop:=yE z.g (q*71) (z.B q) v1 (r1.P q) D Z;have e1:=S.c1;have el:=S.lt;have gl:=S.Ka;rw[H]at e1;have g7:=Z.c67;have g8:=Z.c68;have g9:=Z.c69;clear zc Z d1 dl;go_wp2_with(fail);refine hop.mono ?_;rintro e W2 ⟨rfl,rfl⟩;clear hop;cases q9:((r1.P q).L.st==9)with
   |false=>
    have jt:(r1.P q).L.st≠9:=by simpa using q9
    have hm:eX eY 74 #[π (μ ⟨z.R,0,ν⟩),ι κ (q:Int),.agg #[ι κ 0,.bool false,ι κ 0]] D λe w'=>e=ρ (τ #[])/\iD w w' z (r.ja (q+1)) n:=by
     rw[HS.out,HE.out,ai jt];refine S.call λV T hl=> ?_;rw[<-hl.R,<-H];exact wB V r1 q nobody D T Q.out vm (oj.nobody Q.out.id.1)
    clear S jt;go_wp2_with(fail);refine hm.mono ?_;rintro e W3 ⟨rfl,j⟩;have HW3:Hid _:=j;clear hm j
    go_wp2
    go_roundw
    case rel=>exact⟨q+1,dZ,by go_num,HW3.out⟩
    case measure=>simp[eZ];omega
   |true=>
    have h9:(r1.P q).L.st=9:=by simpa using q9
    have G:Hid (r.ja (q+1)=mJ (r1.meet q (iJ (r1.P q).pe)) q):=by
     show _=_;rw[HS.out,HE.out,af (by simp[h9])]
    have Y:=Q.out.pe q vm;have U:=RN (r1.P q).pe D Y.left;have E:Hid (∀W,eB D W->eX eY 74 #[π (μ ⟨z.R,0,ν⟩),.int .i64 (q:Int),.agg #[.int .i64 (iJ (r1.P q).pe).who,.bool (iJ (r1.P q).pe).both,.int .i64 (iJ (r1.P q).pe).left]] W λe w'=>e=ρ (τ #[])/\iD w w' z (r1.meet q (iJ (r1.P q).pe)) n):=by
     intro W hW;refine(S.below H hW).call λV T hl=> ?_;rw[<-hl.R,<-H];exact wB V r1 q _ W T Q.out vm (Y.tick Q.out.id.1)
    have u:Hid (∀W,iD w W z (r1.meet q (iJ (r1.P q).pe)) n->eX eY 85 #[π (μ ⟨z.R,0,ν⟩),ι κ (q:Int)] W λe w'=>e=ρ (τ #[])/\iD w w' z (r.ja (q+1)) n):=by
     intro W hW;rw[G.out];refine hW.call λV T hl=> ?_;have vJ:(r1.meet q (iJ (r1.P q).pe)).n=n:=(Bc _ _ _).trans H;rw[<-hl.R,<-vJ];have acE:=Q.out.meet q (Y.tick Q.out.id.1);exact Vw V _ q W T acE dZ (by have:=(HF1.out.meet q (iJ (r1.P q).pe)).out q dZ;omega)
    generalize (r1.P q).pe.who=p1 at g7 U;generalize (r1.P q).pe.both=p2 at g8 U;generalize (r1.P q).pe.left=p3 at g9 U;generalize (iJ (r1.P q).pe).who=t1 at U E;generalize (iJ (r1.P q).pe).both=t2 at U E;generalize (iJ (r1.P q).pe).left=t3 at U E;clear S h9 Y G;go_wp2_with(fail);refine U.mono ?_;rintro e W2 ⟨rfl,b2⟩;have CT:=E.out _ b2;clear U E;go_wp2_with(fail);refine CT.mono ?_;rintro e W3 ⟨rfl,j⟩;have y:=u.out _ j;clear CT u j;go_wp2_with(fail);refine y.mono ?_;rintro e W4 ⟨rfl,uN⟩;have Lv:Hid _:=uN;clear y uN
    go_wp2
    go_roundw
    case rel=>exact⟨q+1,dZ,by go_num,Lv.out⟩
    case measure=>simp[eZ];omega
  ·have xL:¬(q:Int)<(n:Int):=dZ;have M:q=n:=dZ;have HW:Hid (iD w wr z r.tick n):=by
    show iD _ _ _ _ _;rw[Jw.out,<-M];rw[<-M]at X;exact X
   clear X M
   go_wp2
   first|go_end0|refine iK rfl rfl ?_
   exact⟨rfl,HW.out⟩
theorem yN(p:jv)(up:Bool):((p.iH up).1.m=p.m/\(p.iH up).1.pe=p.pe)/\((p.iH up).2≠0->(p.iH up).1=p):=by
 unfold jv.iH;generalize kY p.L (if up=true then 0 else 1)=e;simp only;by_cases h:e.2.2=0;{rw[af (by simp[h])];exact⟨wF _ _,λe=>absurd rfl e⟩};{rw[ai h];exact⟨⟨rfl,rfl⟩,λ_=>rfl⟩}
theorem RT(z:Zt)(r:iN)(k:Nat)(t:Int)(tx:ByteArray)(w:dX)(h:mA w z r)(X:ln r)(hf:Fit r k)(T:k<=100000):
 eX eY 27 #[π (μ ⟨z.R,0,ν⟩),ι κ t,.string tx] w λe w'=>e=ρ (ji (kf r t tx.data.toList).2)/\iD w w' z (kf r t tx.data.toList).1 r.n:=by
 have hl:tx.data.toList.length=tx.size:=gU;by_cases V:t<1
 ·have Z:kf r t tx.data.toList=(r,1):=by unfold kf;rw[ai (.inl V)]
  rw[Z];have Y:Hid _:=iD.refl h;clear h X hf
  go_in
  go_wp2
  go_ret;exact⟨rfl,Y.out⟩
 ·by_cases U:6<t
  ·have Z:kf r t tx.data.toList=(r,1):=by unfold kf;rw[ai (.inr (.inl U))]
   rw[Z];have Y:Hid _:=iD.refl h;clear h X hf
   go_in
   go_wp2
   go_ret;exact⟨rfl,Y.out⟩
  ·by_cases h3:(20:Int)<(tx.size:Int)
   ·have Z:kf r t tx.data.toList=(r,1):=by unfold kf;rw[ai (.inr (.inr dZ))]
    rw[Z];have Y:Hid _:=iD.refl h;clear h X hf
    go_in
    go_wp2
    go_ret;exact⟨rfl,Y.out⟩
   ·have Z:kf r t tx.data.toList=(r.send (t,8,tx.data.toList),0):=by unfold kf;rw[af dZ]
    rw[Z];have hs:=EM z r k t 8 tx w h X hf T dZ dZ dZ;clear h X hf
    go_in
    go_wp2_with(fail);refine hs.mono ?_;rintro e w1 ⟨rfl,S⟩;clear hs
    go_wp2
    go_ret;exact⟨rfl,S⟩
theorem RU(up:Bool)(z:Zt)(r:iN)(i k:Nat)(w:dX)(h:mA w z r)(H:jf w)(Q:ln r)(hf:Fit r k)(hk:k<=100000)(hi:i<r.n):
 eX eY 20 #[π (μ ⟨z.R,0,ν⟩),ι κ (i:Int),.bool up] w λe w'=>e=ρ (ji (r.iH i up).2)/\iD w w' z (r.iH i up).1 r.n:=by
 have hh:=Ex z r i w h;rw[zI hi]at hh;have kT:(i:Int)<(r.n:Int):=dZ;have MC:(0:Int)<=(i:Int):=dZ;have c1:=h.c1;have cl:=h.lt;have gl:=h.Ka;have Z:=Rr up z.g (i*71) (z.B i) (z.v i) (r.P i) w (h.pt i hi) H (by have:=hf.out i hi;omega);have X:r.iH i up=if((r.P i).iH up).2≠0 then(r,((r.P i).iH up).2)else((r.iU i ((r.P i).iH up).1).meet i nobody,0):=rfl
 have Y:=(yN (r.P i) up).1;have M:=(yN (r.P i) up).2;have vp:r.iU i (r.P i)=r:=by
  have:k9 r.P i (r.P i)=r.P:=by
   funext x
   unfold k9;by_cases e:x=i;{simp[e]};{simp[e]}
  show({r with P:=k9 r.P i (r.P i)}:iN)=r;rw[this]
 obtain⟨A,J⟩:=gg (((r.P i).iH up).1);obtain⟨f,V⟩:=gg (((r.P i).iH up).2);rw[J,V]at Z X;rw[J]at Y M;rw[V]at M;have G:Hid _:=h;have D:Hid (ln (r.iU i A)):=Q.iU i _ Y.1 (λhi=>by rw[Y.2];exact Q.pe i hi);clear h Q hf H;by_cases S:f=0
 ·subst S;rw[af gU]at X;rw[X];have u:ji 0=η:=rfl;rw[u]at Z⊢
  go_in
  go_wp2_with(fail);refine hh.mono ?_;rintro e w0 ⟨rfl,rfl⟩;clear hh;go_wp2_with(fail);refine Z.mono ?_;rintro e w1 ⟨rfl,T⟩;have U:=G.out.port hi T;have E:eX eY 74 #[π (μ ⟨z.R,0,ν⟩),ι κ (i:Int),.agg #[ι κ 0,.bool false,ι κ 0]] w1 λe w'=>e=ρ (τ #[])/\iD w w' z ((r.iU i A).meet i nobody) r.n:=by
   refine U.call λz1 y hl=> ?_;rw[<-hl.R];exact wB z1 _ i nobody w1 y D.out hi (oj.nobody D.out.id.1)
  clear Z T U;go_wp2_with(fail);refine E.mono ?_;rintro e w2 ⟨rfl,j⟩;clear E
  go_wp2
  go_ret;exact⟨rfl,j⟩
 ·rw[ai S]at X;rw[X];have hb:=M S;have ee:ji f=.iface 128 (ι κ (f:Int)):=by simp only[ji];rw[af S]
  rw[ee]at Z⊢
  go_in
  go_wp2_with(fail);refine hh.mono ?_;rintro e w0 ⟨rfl,rfl⟩;clear hh;go_wp2_with(fail);refine Z.mono ?_;rintro e w1 ⟨rfl,T⟩;have U:=G.out.port hi T;rw[hb,vp]at U;clear Z T
  go_wp2
  go_ret;exact⟨rfl,U⟩
theorem RV(z:Zt)(r:iN)(w:dX)(h:mA w z r):
 eX eY 32 #[π (μ ⟨z.R,0,ν⟩)] w λe w'=>e=ρ z.iv/\Row w' 3 z.iv r.j8.length (rO r.j8)/\iD w w' z {r with j8:=[] } r.n:=by
 have c3:=h.c3;have cl:=h.lt;have f3:=h.od.frozen 3;have Z:Hid _:=h;clear h
 go_in
 go_wp2
 go_ret;refine⟨rfl,Z.out.ib.keep gU (λk Y=>ak _ _ _ k (by show k≠z.R;exact(Z.out.sI k Y).1)),?_⟩;exact Z.out.own (σ ν 0 0) [] r.drop gU rfl rfl rfl (λk _ X _=>ak _ _ _ k X) (Z.out.od.set 3 _) (Row.nil _ 3) (λk Y=>by simp[eh]at Y)
theorem VH(z:Zt)(r:iN)(i:Nat)(w:dX)(h:mA w z r)(hi:i<r.n):
 eX eY 29 #[π (μ ⟨z.R,0,ν⟩),ι κ (i:Int)] w λe w'=>e=ρ (τ #[.string ⟨(r.P i).out.toArray⟩,η])/\iD w w' z (r.out i) r.n:=by
 have hh:=Ex z r i w h;rw[zI hi]at hh;have kT:(i:Int)<(r.n:Int):=dZ;have MC:(0:Int)<=(i:Int):=dZ;have c1:=h.c1;have cl:=h.lt;have gl:=h.Ka;have Z:=h.pt i hi;have X:=Z.c70;have f70:=Z.fz 70 ew;have U:=Row.back Z.ou 140 9 5 underlying140 underlying5 underlying9;have V:lP w (w.setCell ⟨z.g,i*71+70,ν⟩ (σ ν 0 0)) z.g (i*71) (z.B i) (z.v i) {r.P i with out:=[] }:=by
  obtain⟨F,hC,hF⟩:=Z.xw;have Y:=(lh.refl w z.g (i*71) 71).set (i*71+70) dZ dZ (σ ν 0 0);refine⟨⟨σ ν 0 0,⟨⟨F,(hC.set 70 ew (σ ν 0 0)).congr (PB (r.P i) (z.B i) (z.v i) (σ ν 0 0) F []),hF⟩,Z.lk.keep (Y.block _ Z.lk.lt (λe=>Z.gB e.symm)),Row.nil _ 1,gU,Z.ok,Z.gB,by simp[eh],by simp[eh],⟨Z.nz.1,Z.nz.2.1,by simp[eh]⟩⟩,λk Y=>by simp[eh]at Y⟩,⟨Y.os,Y.tape,Y.output,Y.size,λj Q S _ _=>Y.block j Q S,Y.cell,Y.fz⟩⟩
 have T:Hid (iD w (w.setCell ⟨z.g,i*71+70,ν⟩ (σ ν 0 0)) z (r.out i) r.n):=h.port hi V;generalize (r.P i).out=L at U⊢;generalize z.v i=v at X U;clear h Z V
 go_in
 go_wp2_with(fail);refine hh.mono ?_;rintro e w0 ⟨rfl,rfl⟩;clear hh
 go_wp2
 go_ret2
 exact⟨rfl,T.out⟩
def Bk(m mg:Int):jv:=⟨m,⟨255,mg,255,mg,0,0,1,255,0,0,0⟩,([],false,false),nobody,[]⟩
theorem Lw(m mg:Int)(w:dX)(hT:jf w)(hm:1<=m/\m<=20)(hg:1<=mg/\mg<=255):
 eX eY 68 #[ι κ m,ι κ mg] w λe w'=>∃B,e=ρ (τ #[.agg (rowOf 71 (xu (Bk m mg) B (σ ν 0 0) NC)),η])/\Lk w' B ((Bk m mg).L.c (σ ν 0 0))/\w.heap.size<B/\eB w w':=by
 have hz:=NS;have rS:=NT;obtain⟨Z,y⟩:=gg (rowOf 71 zPt);have Q:Z.size=71:=by rw[<-y];exact mH _ _
 rw[y]at hz;have ali:¬Z= #[] :=λe=>by rw[e]at Q;simp at Q
 have ba:=gT w (γ Z 142);have xj:iX (w.alloc (γ Z 142)) w.heap.size Z 142:=iX.new w _ _;have Tr:=hT.below ba;have U:=Yv 255 mg (w.alloc (γ Z 142)) dZ dZ dZ dZ;obtain⟨W0,h⟩:=gg (w.alloc (γ Z 142));obtain⟨N,u⟩:=gg (w.heap.size);have hNs:N<W0.heap.size:=by rw[<-h,<-u];simp
 rw[h]at ba xj U Tr;rw[u]at xj;have g1:¬m<1:=dZ;have g2:¬20<m:=dZ;have Gz:Hid _:=h;have A:Hid _:=u;have HB0:Hid _:=xj;have HZ:Hid _:=y;clear h u xj y
 go_in
 go_wp2_with(fail);rw[Gz.out,A.out];refine U.mono ?_;rintro e w1 ⟨B,rfl,hL,hBg,b1⟩;have G:=UQ B 255 mg 255 mg 0 0 255 0 0 0 (σ ν 0 0) w1 (Tr.below b1) hL;clear U hL;go_wp2_with(fail);refine G.mono ?_;rintro e T ⟨rfl,J,X⟩;obtain⟨D,hD⟩:=gg ((Z.setIfInBounds 0 (ι .i64 m)).setIfInBounds 1 (Value.pointer (μ ⟨B,0,ν⟩)));have S:D.size=71:=by rw[<-hD];simp[Q]
 have M:Hid (D=rowOf 71 (xu (Bk m mg) B (σ ν 0 0) NC)):=by
  show _=_;rw[<-hD,<-HZ.out];apply bQ;intro j;by_cases E:j<71;{rw[sL 71 _ j E,bk,bk,sL 71 _ j E];simp only[gH,mH];by_cases e1:j=1;{subst e1;simp[xu]};{by_cases e0:j=0;{subst e0;simp[xu,Bk]};{rw[af (λe=>e1 e.symm),af (λe=>e0 e.symm)];congr 1;unfold zPt xu;simp only[e0,e1,if_false];rfl}}};{rw[a9 (by simp[mH];omega),a9 (by rw[mH];omega)]}
 have o9:D.all (·.oneCell')=true:=by rw[M.out];exact Jp Dp.zero rfl
 have H:N≠B:=dZ;have V:iX T N Z 142:=by
  have Y:=iX.below HB0.out b1;exact Y.keep (X.block N Y.lt (λe=>H (Option.some.inj e)))
 have hR:iX (T.setRow N D) N D 142:=V.setRow;have XJ:Lk (T.setRow N D) B ((Bk m mg).L.c (σ ν 0 0)):=J.keep (by simp only[World.setRow];rw[cJ,af H]);have l6:=bS (P:=eY) (T.setRow N D) N 142 142 D (0,0) _ hR underlying142 rfl (by rw[S];exact rS);have iL:Hid (eB w (T.setRow N D)):=by
  have Y:=gh ba b1;have h2:eB w T:=⟨X.os.trans Y.os,X.tape.trans Y.tape,X.output.trans Y.output,Nat.le_trans Y.size X.size,λj E=>(X.block j (Nat.lt_of_lt_of_le E Y.size) (λe=>by have e2:j=B:=Option.some.inj e;have:=A.out;omega)).trans (Y.block j E)⟩
  exact Go.Proofs.YtieklnlbljejdaaGreatDoor.oM h2 (by have:=A.out;omega) D
 have HL3:Hid _:=XJ;clear G J X XJ hR;go_wp2_with(first
  |(rw[hD];refine oe _ rfl (.tmp 4) (.tmp 29) 142 rfl rfl N Z D rfl rfl V (by rw[Q,S]) (by rw[S];exact rS) o9 ?_)
  |(refine oe _ rfl (.tmp 4) (.tmp 29) 142 rfl rfl N Z D rfl rfl V (by rw[Q,S]) (by rw[S];exact rS) o9 ?_))
 refine aE (v:=τ #[.agg D,η]) (by simp[results,results68,asAddr,l6]) rfl ?_;exact⟨B,by rw[M.out],HL3.out,by have:=A.out;omega,iL.out⟩
theorem zN:∀(l:List dY) (k:Nat) (base:Array dY) (j:Nat),k+l.length<=base.size->((l.zipIdx k).foldl (λcs (x:dY×Nat)=>cs.setIfInBounds x.2 x.1) base)[j]? =if k<=j/\j<k+l.length then l[j-k]? else base[j]?
 |[],k,base,j,_=>by
  rw[af gU];rfl
 |x::l,k,base,j,h=>by
  have X:k+1+l.length<=base.size:=by simp at h;omega
  rw[List.zipIdx_cons,bF,zN l (k+1) (base.setIfInBounds k x) j (by rw[gH];exact X)];by_cases Z:k+1<=j/\j<k+1+l.length;{rw[ai Z,ai (by simp;omega),show j-k=(j-(k+1))+1 by omega,List.getElem?_cons_succ]};{rw[af Z,bk];by_cases Y:k=j;{subst Y;rw[ai rfl,ai dZ,ai gU];simp};{rw[af Y,af (by simp;omega)]}}
theorem ES(D base:Array dY)(h:base.size=D.size)(n:Nat)(Z:D.size=n):Array.foldl (λcs (x:dY×Nat)=>cs.setIfInBounds x.2 x.1) base D.zipIdx 0 n=D:=by
 have hs:D.zipIdx.size=n:=by rw[Array.size_zipIdx,Z]
 rw[<-hs,<-Array.foldl_toList,Array.toList_zipIdx];apply bQ;intro j;rw[zN D.toList 0 base j (by simp;omega)];by_cases hj:j<D.size;{rw[ai (by simp;omega)];simp};{rw[af (by simp;omega),a9 dZ,a9 dZ]}
theorem VI:(eY.info? 142).map (λi=>(i.zero,i.size,i.bytes))=μ (μ (.agg (rowOf 71 zPt)),71,144):=gS
def yO(id:Int)(ms:Nat->Int)(B:Nat->Nat):Nat->List dY
 |0=>[]
 |q+1=>yO id ms B q++(rowOf 71 (xu (Bk (ms q) (8*id+q+1)) (B q) (.slice none 0 0) NC)).toList
theorem wH(id:Int)(ms:Nat->Int)(B:Nat->Nat):∀q,(yO id ms B q).length=q*71
 |0=>rfl
 |q+1=>by
  unfold yO;rw[az,wH id ms B q,gJ,mH];omega
theorem PU(id:Int)(ms:Nat->Int)(B:Nat->Nat):∀(q i j:Nat),i<q->j<71->(yO id ms B q)[i*71+j]? =μ (xu (Bk (ms i) (8*id+i+1)) (B i) (σ ν 0 0) NC j)
 |0,i,j,h,_=>dZ
 |q+1,i,j,h,hj=>by
  unfold yO;have hl:=wH id ms B q;by_cases e:i=q;{subst e;rw[br dZ,hl,show i*71+j-i*71=j by omega];simpa using sL 71 (xu (Bk (ms i) (8*id+i+1)) (B i) (σ ν 0 0) NC) j hj};{rw[bz dZ];exact PU id ms B q i j dZ hj}
structure Making(wb W:dX)(id:Int)(ms:Nat->Int)(q R Bb:Nat)(B:Nat->Nat)(v:dY):Prop where
 od:iX W R #[ι κ id,v,π (μ ⟨Bb,0,ν⟩),σ ν 0 0,ι κ 0] 135
 row:Row W 71 v q (yO id ms B q)
 lk:∀i,i<q->Lk W (B i) ((Bk (ms i) (8*id+i+1)).L.c (σ ν 0 0))
 nQ:eB wb W
 gR:wb.heap.size<=R
 gB:∀i,i<q->wb.heap.size<=B i/\B i≠R/\v.ownBlock≠μ (B i)
 gV:∀k,v.ownBlock=μ k->wb.heap.size<=k/\k≠R
 dis:∀i j,i<q->j<q->i≠j->B i≠B j
theorem Making.below {wb W W':dX} {id:Int} {ms:Nat->Int} {q R Bb:Nat} {B:Nat->Nat} {v:dY} (h:Making wb W id ms q R Bb B v)(hb:eB W W'):Making wb W' id ms q R Bb B v:=
 ⟨h.od.below hb,h.row.below hb,λi hi=>(h.lk i hi).below hb,gh h.nQ hb,h.gR,h.gB,h.gV,h.dis⟩
theorem ET(id:Int)(ms:Nat->Int)(B B':Nat->Nat):∀q,(∀i,i<q->B i=B' i)->yO id ms B q=yO id ms B' q
 |0,_=>rfl
 |q+1,h=>by
  unfold yO;rw[ET id ms B B' q (λi hi=>h i dZ),h q dZ]
theorem EU(w:dX)(D:Array dY)(t:TypeId)(g:Nat)(Z:w.heap.size=g):∀(j:Nat) (u:dY),D.toList[j]? =μ u->(w.alloc (γ D t)).drew.cell? ((⟨g,0,ν⟩:Addr).add j)=μ u:=by
 subst Z;intro j u Y;rw[add_plain];show(w.alloc (γ D t)).cell? _=_;rw[aq];simpa using Y
theorem Making.add {W2 x1:dX} {q:Nat} {B' g' jn:Nat} {D:Array dY} (h:Making wb W2 id ms q RR Bb B v)(hD:rowOf 71 (xu (Bk (ms q) (8*id+q+1)) B' (σ ν 0 0) NC)=D)
 (M:Lk W2 B' ((Bk (ms q) (8*id+q+1)).L.c (σ ν 0 0))) (rK:wb.heap.size<=B') (E:B'≠RR) (y:v.ownBlock≠μ B') (A:∀i,i<q->B i≠B')
 (hr:Row x1 71 (σ (μ ⟨g',0,ν⟩) (q+1) jn) (q+1) (yO id ms B q++D.toList)) (X:(W2.alloc o).drew.grownBy x1 v.ownBlock) (jm:v.ownBlock=μ g' \/(W2.alloc o).drew.heap.size<=g'):
 Making wb (x1.setCell ⟨RR,1,ν⟩ (σ (μ ⟨g',0,ν⟩) (q+1) jn)) id ms (q+1) RR Bb (λi=>if i=q then B' else B i) (σ (μ ⟨g',0,ν⟩) (q+1) jn):=by
 have G:v.ownBlock=μ g' \/W2.heap.size<=g':=jm.imp_right (λe=>Nat.le_trans (by show W2.heap.size<=(W2.alloc o).heap.size;simp) e);have u:v.ownBlock≠μ RR:=λe=>(h.gV _ e).2 rfl;have S:∀k,k<W2.heap.size->v.ownBlock≠μ k->k≠RR->(x1.setCell ⟨RR,1,ν⟩ (σ (μ ⟨g',0,ν⟩) (q+1) jn)).heap[k]? =W2.heap[k]? :=by
  intro k Y Q h2;rw[ak _ _ _ k h2,X.block k (by show k<(W2.alloc o).heap.size;simp;omega) (λe=>Q e.symm)];exact aU W2 o k Y
 have rS:W2.heap.size<=x1.heap.size:=Nat.le_trans (by show W2.heap.size<=(W2.alloc o).heap.size;simp) X.size;have hRl:=h.od.lt;have YX:g'≠RR:=by
  intro e;rcases G with Z|Z
  {exact u (by rw[Z,e])};{omega}
 have H:=h.nQ.size;refine⟨(uo h.od X u).set 1 _,?_,λi hi=> ?_,⟨X.os.trans h.nQ.os,X.tape.trans h.nQ.tape,X.output.trans h.nQ.output,Nat.le_trans H (by simpa using rS),λk Y=> ?_⟩,h.gR,λi hi=> ?_,λk Y=> ?_,λi j hi hj J=> ?_⟩
 ·have Z:yO id ms (λi=>if i=q then B' else B i) (q+1)=yO id ms B q++D.toList:=by
   show yO id ms (λi=>if i=q then B' else B i) q++_=_;rw[ET id ms _ B q (λi hi=>by simp[show i≠q by omega])];simp only[if_true];rw[hD]
  rw[Z];exact hr.keep gU (λk Y=>ak _ _ _ k (by
   have T:g'=k:=by simpa[eh]using Y
   show k≠RR;omega))
 {by_cases e:i=q;{subst e;simp only[if_true];exact M.keep (S B' M.lt y E)};{simp only[e,if_false];have hl:=h.lk i dZ;exact hl.keep (S (B i) hl.lt (h.gB i dZ).2.2 (h.gB i dZ).2.1)}};{exact(S k dZ (λe=>by have:=(h.gV k e).1;omega) (by have:=h.gR;omega)).trans (h.nQ.block k Y)}
 ·have V:∀k,k<W2.heap.size->v.ownBlock≠μ k->eh (σ (μ ⟨g',0,ν⟩) (q+1) jn)≠μ k:=by
   intro k Y Q e;have T:g'=k:=by simpa[eh]using e
   rcases G with Z|Z
   {exact Q (by rw[Z,T])};{omega}
  by_cases e:i=q;{subst e;simp only[if_true];exact⟨rK,E,V B' M.lt y⟩};{simp only[e,if_false];have hb:=h.gB i dZ;exact⟨hb.1,hb.2.1,V (B i) (h.lk i dZ).lt hb.2.2⟩}
 ·have T:g'=k:=by simpa[eh]using Y
  subst T;refine⟨?_,YX⟩;rcases G with Z|Z
  {exact(h.gV _ Z).1};{omega}
 ·by_cases Z:i=q;{have U:j≠q:=dZ;simp only[Z,U,if_true,if_false];exact λe=>A j dZ e.symm};{by_cases U:j=q;{simp only[Z,U,if_true,if_false];exact A i dZ};{simp only[Z,U,if_false];exact h.dis i j dZ dZ J}}
theorem Y3 {m mg:Int} (hg:1<=mg/\mg<=255):Av (Bk m mg).L:=⟨by show xP 1 0 0=true;decide,by show(0:Int)<=0;omega,by show(0:Int)<=255;omega,by show 0<=mg;omega,by show mg<=255;omega,by show 0<=mg;omega,by show mg<=255;omega⟩
def C8(R g cap Bb:Nat)(B:Nat->Nat)(m:FM)(n:Nat):Zt:=⟨R,g,cap,B,λ_=>σ ν 0 0,Bb,{m with no:=λk=>m.no k \/k=R \/k=g \/ ∃i,i<n/\k=B i},σ ν 0 0⟩
theorem H8 {R cap:Nat} (h:(C8 R g cap Bb B m n).mine n k):k=R \/k=g \/ ∃i,i<n/\k=B i:=by
 rcases h with e|e|⟨i,hi,e|e⟩|e
 {exact .inl e};{exact .inr (.inl e)};{exact .inr (.inr ⟨i,hi,e⟩)};{simp[C8,eh]at e};{simp[C8,eh]at e}
theorem Making.done {W:dX} (h:Making wb W id ms n RR Bb B v)(G:1<=n/\n<=3)(u:1<=id/\id<=6)(H:jf wb)
 (X:BR wb Bb m k (λx=>if x=id then μ (1,[])else ν) (λ_ x=>if x=id then μ (1,[])else ν)) (V:¬m.no Bb/\¬m.no m.g/\∀b,(b=m.bm \/b∈m.bs)->¬m.no b) (pW:m.bs.length=n):
 ∃g cap,v=σ (μ ⟨g,0,ν⟩) n cap/\mA W (C8 RR g cap Bb B m n) (jO id n ms)/\wb.heap.size<=g:=by
 rcases h.row.2 with⟨_,y⟩|⟨g,cap,rfl,D,A,aqn,hc,hf⟩
 ·omega
 have Y:=h.gV g rfl;have y:=H.lt;have acw:Bb<wb.heap.size:=by obtain⟨_,_,hF,_⟩:=X.ex;exact hF.lt
 have acx:m.g<wb.heap.size:=by obtain⟨_,_,hF,_⟩:=X.ex;exact hF.row.lt _ rfl
 have U:∀j,(j=RR \/j=g \/ ∃i,i<n/\j=B i)->wb.heap.size<=j/\j<W.heap.size:=by
  intro j Z;rcases Z with rfl|rfl|⟨i,hi,rfl⟩
  {exact⟨h.gR,h.od.lt⟩};{exact⟨Y.1,D⟩};{exact⟨(h.gB i hi).1,(h.lk i hi).lt⟩}
 have E:=X.still h.nQ.size (λj Z _=>h.nQ.block j Z) V.1 V.2.1 V.2.2 (λj=>m.no j \/j=RR \/j=g \/ ∃i,i<n/\j=B i) (λj Z=>Z.imp_right (λe=>(U j e).1)) (λj Z=>Z.elim (λe=>Nat.lt_of_lt_of_le (X.Rl j e) h.nQ.size) (λe=>(U j e).2));have hlen:=wH id ms B n;refine⟨g,cap,rfl,⟨G.1,G.2,A,u,h.od,λi hi=> ?_,Row.nil _ 3,E.six,pW,λj Z=>.inr (H8 Z),⟨λe=> ?_,λe=> ?_,λb hb e=> ?_⟩,⟨λe=>Y.2 e.symm,by have:=h.gR;show RR≠0;omega,λi hi=>⟨(h.gB i hi).2.1,by simp[C8,eh]⟩⟩,λi j hi Z S=>⟨h.dis i j hi Z S,λk Q=>by simp[C8,eh]at Q⟩,λi j _ _=>by simp[C8,eh],λk Q=>by simp[C8,eh]at Q,⟨by simp[C8,eh],λb hb e=> ?_⟩⟩,Y.1⟩;{have M:i<n:=hi;have T:=h.gB i M;refine⟨⟨NC,λj Z=>⟨?_,?_⟩,Dp.zero⟩,h.lk i M,Row.nil _ 1,by show(0:Nat)<=_;omega,Y3 (m:=ms i) (mg:=8*id+i+1) dZ,λe=>T.2.2 (by show μ g=μ (B i);rw[show g=B i from e]),by simp[C8,eh],by simp[C8,eh],⟨by show g≠0;omega,by show B i≠0;omega,by simp[C8,eh]⟩⟩;{exact hc (i*71+j) _ (PU id ms B n i j M Z)};{exact(hf (i*71+j) (by have:(i+1)*71<=cap*71:=Nat.mul_le_mul_right 71 dZ;omega)).2}}
 ·rcases e with e|e
  {exact V.1 e};{have:=(U _ e).1;have J:wb.heap.size<=Bb:=this;omega}
 ·rcases e with e|e
  {exact V.2.1 e};{have:=(U _ e).1;have J:wb.heap.size<=m.g:=this;omega}
 ·rcases e with e|e
  {exact V.2.2 b hb e};{have h8:=(U b e).1;have J:=X.mlt b hb;omega}
 ·exact qk (H 0 0 ew ew) (X.maps b hb) e.symm
theorem VL(id:Int)(b off n cap:Nat)(ms:Nat->Int)(w:dX)(hT:jf w)(pU:1<=id/\id<=6)(hn:1<=n/\n<=3)(hms:∀i,i<n->w.cell? ⟨b,off+i,ν⟩=μ (ι κ (ms i)))(hm:∀i,i<n->1<=ms i/\ms i<=20)(X:Nat->Prop)(hX:∀k,X k->k<w.heap.size):
 eX eY 17 #[ι κ id,σ (μ ⟨b,off,ν⟩) n cap] w λe w'=>∃z,e=ρ (τ #[π (μ ⟨z.R,0,ν⟩),η])/\mA w' z (jO id n ms)/\eB w w'/\(∀k,z.mine n k->w.heap.size<=k)/\w.heap.size<=z.fm.bm/\(∀x∈z.fm.bs,w.heap.size<=x)/\∀k,X k->z.fm.no k:=by
 have hz:=NS;have rS:=NT;obtain⟨i0,hi,og,mZ,mc⟩:=aW VI;obtain⟨Zp,Tz⟩:=gg (rowOf 71 zPt);have Rv:Zp.size=71:=by rw[<-Tz];exact mH _ _
 rw[Tz]at hz og;have ali:¬Zp= #[] :=λe=>by rw[e]at Rv;simp at Rv
 have hnb:=Vd n w hn;have g1:¬id<1:=dZ;have g2:¬6<id:=dZ;clear Tz
 go_in
 go_wp2_with(fail);refine hnb.mono ?_;rintro e w1 ⟨rfl,m,CL,rK,b1,m1,m2,m3⟩;have rK:=rK.avoid X (λk e=>Nat.lt_of_lt_of_le (hX k e) b1.size);obtain⟨m',UD⟩:∃m':FM,({m with no:=X}:FM)=m':=⟨_,rfl⟩
 have ll:m'.no=X:=by rw[<-UD]
 have CL:m'.bs.length=n:=by rw[<-UD];exact CL
 have m1:w.heap.size<=m'.bm:=by rw[<-UD];exact m1
 have m3:∀x∈m'.bs,w.heap.size<=x:=by rw[<-UD];exact m3
 have m2:w.heap.size<=m'.g:=by rw[<-UD];exact m2
 rw[UD]at rK;have TC:=Lg (w.heap.size+1) m' 0 (λ_=>ν) (λ_ _=>ν) id 1 ν 0 0 [] w1 rK (sj dZ) ⟨rfl,.inl rfl⟩ (λ_=>rfl) dZ (by unfold oA;rw[af dZ];rfl);clear hnb;go_wp2_with(fail);refine TC.mono ?_;rintro e wb ⟨rfl,hBR,hKM⟩;clear TC;have bb:eB w wb:=jC.below b1 hKM m1 m3;have H0:Making wb (wb.alloc (γ #[ι κ id,σ ν 0 0,π (μ ⟨w.heap.size+1,0,ν⟩),σ ν 0 0,ι κ 0] 135)) id ms 0 wb.heap.size (w.heap.size+1) (λ_=>0) (σ ν 0 0):=⟨iX.new wb _ _,Row.nil _ _,λi hi=>dZ,gT _ _,Nat.le_refl _,λi hi=>dZ,λk hk=>by simp[eh]at hk,λi j hi=>dZ⟩
 have Gd:∀W,eB wb W->∀i,i<n->W.cell? ⟨b,off+i,ν⟩=μ (ι κ (ms i)):=λW hW i hi=>by
  have hc:=(aj (a:=⟨b,off+i,ν⟩) (bb.block b (ag _ _ (hms i hi)))).trans (hms i hi);exact(aj (a:=⟨b,off+i,ν⟩) (hW.block b (ag _ _ hc))).trans hc
 have hTb:jf wb:=hT.below bb;have HBR:Hid _:=hBR;have YS:Hid _:=bb;have HCM:Hid _:=Gd;have HH0:Hid _:=H0;have Q:Hid (w.heap.size<=m'.bm/\(∀x∈m'.bs,w.heap.size<=x)/\m'.bs.length=n/\(¬m'.no (w.heap.size+1)/\¬m'.no m'.g/\∀b,(b=m'.bm \/b∈m'.bs)->¬m'.no b)/\∀k,X k->m'.no k):=by
  refine⟨m1,m3,CL,⟨λe=> ?_,λe=> ?_,λb hb e=> ?_⟩,λk hk=>by rw[ll];exact hk⟩;{rw[ll]at e;have M:=hX _ e;omega};{rw[ll]at e;have M:=hX _ e;omega}
  ·rw[ll]at e;have M:=hX _ e;rcases hb with rfl|hb
   {omega};{have h2:=m3 b hb;omega}
 obtain⟨Bb,Jx⟩:=gg (w.heap.size+1);rw[Jx]at HH0 HBR Q;clear hBR bb Gd H0 b1 hKM rK m1 m2 m3 CL hms ll UD;go_wp2_with(fail)
 try rw[Jx]
 obtain⟨RR,H⟩:=gg (wb.heap.size);rw[H]at HH0;rw[H];have HRR:Hid _:=H;have mO:=hn.1;have vJ:=hn.2;have alo:=pU.1;have acV:=pU.2;clear hn pU H
 go_loopw [39] (λx wr=>∃(q:Nat) (B:Nat->Nat) (v:dY),q<=n/\x=ι κ q/\Making wb wr id ms q RR Bb B v) (λx _=>n-(eZ x).toNat)
 case atStart=>exact⟨0,_,_,Nat.zero_le _,rfl,HH0.out⟩
 case round=>
  obtain⟨q,B,v,hq,rfl,J⟩:=hrel;by_cases kA:q<n
  ·have nL:(q:Int)<(n:Int):=dZ;have hq0:(0:Int)<=(q:Int):=dZ;have hmc:=HCM.out _ J.nQ q kA;have CL:=ag _ _ hmc;have hmq:=hm q kA;have hnp:=Lw (ms q) (8*id+q+1) wr (hTb.below J.nQ) hmq dZ;have HM:Hid _:=J;clear J;go_wp2_with(fail);refine hnp.mono ?_;rintro e w1 ⟨B',rfl,hLk,hBg,bN⟩;clear hnp;obtain⟨D,hD⟩:=gg (rowOf 71 (xu (Bk (ms q) (8*id+q+1)) B' (σ ν 0 0) NC));have E:D.size=71:=by rw[<-hD];exact mH _ _
   have o9:D.all (·.oneCell')=true:=by rw[<-hD];exact Jp Dp.zero rfl
   have hDl:D.toList.length=1*71:=by rw[gJ,E]
   have aaT:∀u∈D.toList,u.oneCell'=true:=λu hu=>(cr.1 o9) u (by simpa using hu);rw[hD];have jk:=dO w1 Zp D 142;have M1:=HM.out.below bN;have bA:=gT w1 (γ D 142);have A:=M1.below bA;have hV:iX (w1.alloc (γ D 142)) w1.heap.size D 142:=iX.new _ _ _;have acW:=hLk.below bA;go_wp2_with(refine oe _ rfl (.tmp 11) (.tmp 52) 142 rfl rfl w1.heap.size Zp D rfl rfl (iX.new _ _ _) (by rw[Rv,E]) (by rw[E];exact rS) o9 ?_;rw[jk]);obtain⟨W2,nr⟩:=gg (w1.alloc (γ D 142));obtain⟨Y,hY⟩:=gg (w1.heap.size);rw[nr]at A hV acW;rw[hY]at hV;rw[nr,hY];have hBf:B'<Y:=by rw[<-hY];exact hLk.lt
   have hMY:wb.heap.size<=B':=by have M:=HM.out.nQ.size;omega
   have c1:W2.cell? ⟨RR,1,ν⟩=μ v:=A.od.cell 1;have cl:=A.od.lt;have ox:=A.od;have iV:=A.row;have HO:Hid (v.ownBlock≠μ RR):=λe=>(A.gV _ e).2 rfl;have Hg:Hid _:=A;have aqr:wr.heap.size<B':=hBg;have HOY:Hid (v.ownBlock≠μ Y):=λe=>by have M:=M1.row.lt Y e;omega
   have alq:RR<Y:=by have M:=M1.od.lt;omega
   clear jk M1 bA A nr hLk bN;have hYR:Y≠RR:=by intro e;have M:=alq;omega
   have RW:iX (W2.alloc (γ D 142)).drew Y D 142:=iX.below hV (jD (gT _ _));have c1b:(W2.alloc (γ D 142)).drew.cell? ⟨RR,1,ν⟩=μ v:=mI c1;have kd:∀T:dX,iX T Y D 142->(fO 142 (π (μ ⟨Y,0,ν⟩))).run eY T=.ok (.agg D) T:=λT hS=>by
    simp only[fO,Instr.sureAddr,Sem.run_bind,Sem.run_pure,Result.andThen];exact bS T Y 142 142 D (0,0) _ hS underlying142 rfl (by rw[E];exact rS)
   have mS:B'≠RR:=by have M:=HM.out.od.lt;omega
   have sg:v.ownBlock≠μ B':=λe=>by have M:=HM.out.row.lt B' e;omega
   have hb4:∀i,i<q->B i≠B':=λi hi e=>by have M:=(HM.out.lk i hi).lt;omega
   have HD:Hid _:=hD;clear hD;refine cA (S:=λx=>iX x Y D 142) gS hV (λy=> ?_);refine jo 0 (μ 57) rfl rfl gS gS gS (λ_ _ _ h=>h) (by rfl) (v:= ?_) ?_ je ?_
   rotate_left
   ·intro T V
    (try dsimp only at V)
    go_simp
    try with_reducible rfl
   simp only[gw,gA,gD,gE];refine jo 1 (μ 58) rfl rfl gS gS gS (λ_ _ _ h=>h) (by rfl) (v:= ?_) ?_ je ?_
   rotate_left
   ·intro T V
    (try dsimp only at V)
    go_simp
    try with_reducible rfl
   simp only[gw,gA,gD,gE];refine jo 2 (μ 59) rfl rfl gS gS gS (λ_ _ _ h=>h) (by rfl) (v:= ?_) ?_ je ?_
   rotate_left
   ·intro T V
    (try dsimp only at V)
    go_simp
    try with_reducible rfl
   simp only[gw,gA,gD,gE];refine jo 3 (μ 60) rfl rfl gS gS gS (λ_ _ _ h=>h) (by rfl) (v:= ?_) ?_ je ?_
   rotate_left
   ·intro T V
    (try dsimp only at V)
    go_simp
    try with_reducible rfl
   simp only[gw,gA,gD,gE];refine jo 5 (μ 62) rfl rfl gS gS gS (λ_ _ _ h=>h) (by rfl) (v:=.agg D) ?_ je ?_;{intro T V;have h7:=kd T V;simp[execOp,Act.eval,h7]};simp only[gw,gA,gD,gE];refine aQ (rs:=[4,6]) gS gU ?_;refine aG (o:=_) rfl (λK Z=> ?_) (aG (o:=_) rfl (λK Z=> ?_) aN)
   ·go_simp
    (try go_wp2_with(fail))
    refine Z.out _ _ (by exact hV) (λy=> ?_);clear Z K;refine aQ (rs:=[6]) gS gU ?_;refine aG (o:=_) rfl (λK Z=> ?_) aN
    go_simp
    rw[ES D _ (by rw[E];rfl) 71 E];refine Z.out _ _ (by exact RW) (λy=> ?_);clear Z K;refine aQ (rs:=[7]) gS gU ?_;refine aG (o:=_) rfl (λK Z=> ?_) aN;refine lV (by rfl) (.tmp 61) (.tmp 63) 133 (by rfl) 142 i0 (.agg Zp) 71 144 underlying133 hi og mZ mc Rv ew v q (yO id ms B q) (by rfl) ((iV.alloc _).drew) _ 1 1 D.toList (by rfl) hDl ew (EU _ _ _ _ rfl) aaT (by unfold maxLen;omega) dZ ?_;intro g' jn x1 k8 G jE;have MR:=uo ox G HO.out;have U:=uo hV G HOY.out;have f1:=MR.frozen 1;have k1:x1.cell? ⟨RR,1,ν⟩=μ v:=MR.cell 1;refine Z.out _ _ (by exact U) (λy=> ?_);clear Z K;refine jo 8 (μ 65) rfl rfl gS gS gS (λ_ _ _ h=>h) (by rfl) (v:= ?_) ?_ je ?_
    rotate_left
    ·intro T V
     (try dsimp only at V)
     go_simp
     try with_reducible rfl
    simp only[gw,gA];refine jo 9 (μ 66) rfl rfl gS gS gS (λ_ _ _ h=>h) (by rfl) (v:= ?_) ?_ je ?_
    rotate_left
    ·intro T V
     (try dsimp only at V)
     go_simp
     try with_reducible rfl
    simp only[gw];refine aQ (rs:=[10]) gS gU ?_;refine aG (o:=_) rfl (λK Z=> ?_) aN
    go_simp
    (try go_wp2_with(fail))
    refine Z.out _ _ (by exact U.other hYR _) (λy=> ?_);clear Z K;refine cS gS ?_ _;have HAdd:Hid _:=Making.add Hg.out HD.out acW hMY mS sg hb4 k8 G jE;clear k8 G jE MR U f1 k1
    go_wp2
    go_roundw
    case rel=>exact⟨q+1,_,_,dZ,by go_num,HAdd.out⟩
    case measure=>simp[eZ];omega
   ·go_simp
    rw[ES D _ (by rw[E];rfl) 71 E];refine Z.out _ _ (by exact RW) (λy=> ?_);clear Z K;refine aQ (rs:=[4]) gS gU ?_;refine aG (o:=_) rfl (λK Z=> ?_) aN
    go_simp
    (try go_wp2_with(fail))
    refine Z.out _ _ (by exact RW) (λy=> ?_);clear Z K;refine aQ (rs:=[7]) gS gU ?_;refine aG (o:=_) rfl (λK Z=> ?_) aN;refine lV (by rfl) (.tmp 61) (.tmp 63) 133 (by rfl) 142 i0 (.agg Zp) 71 144 underlying133 hi og mZ mc Rv ew v q (yO id ms B q) (by rfl) ((iV.alloc _).drew) _ 1 1 D.toList (by rfl) hDl ew (EU _ _ _ _ rfl) aaT (by unfold maxLen;omega) dZ ?_;intro g' jn x1 k8 G jE;have MR:=uo ox G HO.out;have U:=uo hV G HOY.out;have f1:=MR.frozen 1;have k1:x1.cell? ⟨RR,1,ν⟩=μ v:=MR.cell 1;refine Z.out _ _ (by exact U) (λy=> ?_);clear Z K;refine jo 8 (μ 65) rfl rfl gS gS gS (λ_ _ _ h=>h) (by rfl) (v:= ?_) ?_ je ?_
    rotate_left
    ·intro T V
     (try dsimp only at V)
     go_simp
     try with_reducible rfl
    simp only[gw,gA];refine jo 9 (μ 66) rfl rfl gS gS gS (λ_ _ _ h=>h) (by rfl) (v:= ?_) ?_ je ?_
    rotate_left
    ·intro T V
     (try dsimp only at V)
     go_simp
     try with_reducible rfl
    simp only[gw];refine aQ (rs:=[10]) gS gU ?_;refine aG (o:=_) rfl (λK Z=> ?_) aN
    go_simp
    (try go_wp2_with(fail))
    refine Z.out _ _ (by exact U.other hYR _) (λy=> ?_);clear Z K;refine cS gS ?_ _;have HAdd:Hid _:=Making.add Hg.out HD.out acW hMY mS sg hb4 k8 G jE;clear k8 G jE MR U f1 k1
    go_wp2
    go_roundw
    case rel=>exact⟨q+1,_,_,dZ,by go_num,HAdd.out⟩
    case measure=>simp[eZ];omega
  ·have hqn:q=n:=dZ;subst hqn;obtain⟨g,cp,hv,hR,QD⟩:=J.done ⟨mO,vJ⟩ ⟨alo,acV⟩ hTb HBR.out Q.out.2.2.2.1 Q.out.2.2.1;have HF:Hid (∃z:Zt,z.R=RR/\mA wr z (jO id q ms)/\eB w wr/\(∀k,z.mine q k->w.heap.size<=k)/\w.heap.size<=z.fm.bm/\(∀x∈z.fm.bs,w.heap.size<=x)/\∀k,X k->z.fm.no k):=by
    refine⟨_,rfl,hR,gh YS.out J.nQ,λk hk=> ?_,Q.out.1,Q.out.2.1,λk hk=>.inl (Q.out.2.2.2.2 k hk)⟩;have hs:=YS.out.size;rcases H8 hk with rfl|rfl|⟨i,hi,rfl⟩
    {have:=J.gR;omega};{omega};{have:=(J.gB i hi).1;omega}
   have xL:¬(q:Int)<(q:Int):=dZ;clear J hR QD hv
   go_wp2
   go_ret2
   obtain⟨z,mZ,mc⟩:=HF.out;exact⟨z,by rw[mZ];rfl,mc⟩
theorem PW:(eY.info? 3).map (λi=>(i.zero,i.size,i.bytes))=μ (μ (ι κ 0),1,8):=gS
def vu(ms:Nat->Int):Nat->List dY
 |0=>[]
 |q+1=>vu ms q++ [.int .i64 (ms q)]
theorem r8(ms:Nat->Int):∀q,(vu ms q).length=q
 |0=>rfl
 |q+1=>by unfold vu;rw[az,r8 ms q];rfl
theorem Lx(ms:Nat->Int):∀(q i:Nat),i<q->(vu ms q)[i]? =μ (ι κ (ms i))
 |q+1,i,h=>by
  unfold vu;by_cases e:i<q;{rw[bz (by rw[r8];exact e)];exact Lx ms q i e};{have:i=q:=dZ;subst this;rw[br (by rw[r8];exact Nat.le_refl _),r8,Nat.sub_self];rfl}
theorem yb(N b i:Nat)(E:List (Int×Int×Int))(ms:Nat->Int)(w:dX)(hc:w.cell? ⟨N,2,ν⟩=μ (.map (μ b)))(hm:oE w b E)(hE:Dt E)(hi6:i<6)(ht:∀p:Nat,p<3->(kR E ((i:Int)+1) (p:Int)).getD 1=ms p/\1<=ms p/\ms p<=20)(hT:jf w)(X:Nat->Prop)(hX:∀k,X k->k<w.heap.size):
 eX eY 96 #[π (μ ⟨N,0,ν⟩),ι κ ((i:Int)+1)] w λe w'=>∃z,e=ρ (τ #[π (μ ⟨z.R,0,ν⟩),η])/\mA w' z (jO ((i:Int)+1) 3 ms)/\eB w w'/\(∀k,z.mine 3 k->w.heap.size<=k)/\w.heap.size<=z.fm.bm/\(∀x∈z.fm.bs,w.heap.size<=x)/\∀k,X k->z.fm.no k:=by
 obtain⟨i0,hi,og,mZ,mc⟩:=aW PW;have Nl:=ag _ _ hc;have bl:b<w.heap.size:=by
  obtain⟨es,clock,h1,_⟩:=hm;exact(ax.1 h1).1
 have HL:Hid (∀W,eB w W->∀p:Nat,p<3->(Instr.lookup 184 (.map (μ b)) (.agg #[ι κ ((i:Int)+1),ι κ (p:Int)]) true).run eY W=.ok (τ #[ι κ ((kR E ((i:Int)+1) (p:Int)).getD 0),.bool (kR E ((i:Int)+1) (p:Int)).isSome]) W):=by
  intro W D p hp;exact oE.look (hm.keep (D.block b bl)) hE ⟨dZ,dZ,dZ,dZ⟩
 have HC:Hid (∀W,eB w W->W.cell? ⟨N,2,ν⟩=μ (.map (μ b))/\N<W.heap.size):=by
  intro W D;exact⟨(aj (a:=⟨N,2,ν⟩) (D.block N Nl)).trans hc,Nat.lt_of_lt_of_le Nl D.size⟩
 have HT:Hid _:=ht;have RM:Hid _:=hT;clear hm hc ht hT
 go_in
 go_wp2
 go_loopw [6,10] (λv x wr=>∃q:Nat,q<=3/\x=ι κ q/\Row wr 1 v q (vu ms q)/\(∀k,v.ownBlock=μ k->w.heap.size<=k)/\eB w wr) (λ_ x _=>3-(eZ x).toNat)
 case atStart=>exact⟨0,Nat.zero_le _,rfl,Row.nil _ _,λk Z=>by simp[eh]at Z,au _ _⟩
 case round=>
  obtain⟨q,hq,rfl,Y,jm,V⟩:=hrel;by_cases kA:q<3
  ·have nL:(q:Int)<3:=dZ;have A:=HL.out wr V q kA;obtain⟨d2,dl⟩:=HC.out wr V;obtain⟨t1,t2,t3⟩:=HT.out q kA;have HR:Hid _:=Y;have G:Hid _:=jm;have U:Hid _:=V;clear jm V;cases y:kR E ((i:Int)+1) (q:Int)with
   |none=>
    rw[y]at A t1;have h:Hid (ms q=1):=t1.symm;have e0:(Option.getD (ν:Option Int) 0)=0:=rfl;have e1:(Option.isSome (ν:Option Int))=false:=rfl;rw[e0,e1]at A;clear y t1;go_wp2_with(at_builtin;go_must(refine iG _ rfl (.tmp 26) (.tmp 28) 22 rfl 3 i0 (ι κ 0) 1 8 underlying22 hi og mZ mc rfl ew u6 q (vu ms q) rfl (Y.alloc _) _ 1 1 [ι κ 1] rfl rfl ew (qF _ _ _) (xd _ _) (by unfold maxLen;omega) dZ ?_));intro T Q J S M H;have u:Hid (Row J 1 (σ (μ ⟨T,0,ν⟩) (q+1) Q) (q+1) (vu ms (q+1))/\(∀k,eh (σ (μ ⟨T,0,ν⟩) (q+1) Q)=μ k->w.heap.size<=k)/\eB w J):=by
     have hs:=U.out.size;refine⟨by unfold vu;rw[h.out];exact S,λk Z=> ?_,?_⟩
     ·have:T=k:=by simpa[eh]using Z
      subst this;rcases H with e|e
      {exact G.out _ e};{have:(wr.alloc (γ #[ι κ 1] 3)).heap.size=wr.heap.size+1:=gU;omega}
     ·exact(U.out.alloc hs _).grown M (by simp;omega) (λk Z=>G.out k (by rw[<-Z]))
    clear S M H Y
    go_wp2
    go_roundw
    case rel=>exact⟨q+1,dZ,by go_num,u.out⟩
    case measure=>simp[eZ];omega
   |some m=>
    rw[y]at A t1;have h:Hid (ms q=m):=t1.symm;have e0:(Option.getD (μ m) 0)=m:=rfl;have e1:(Option.isSome (μ m))=true:=rfl;rw[e0,e1]at A;clear y t1;go_wp2_with(at_builtin;go_must(refine iG _ rfl (.tmp 26) (.tmp 28) 22 rfl 3 i0 (ι κ 0) 1 8 underlying22 hi og mZ mc rfl ew u6 q (vu ms q) rfl (Y.alloc _) _ 1 1 [ι κ m] rfl rfl ew (qF _ _ _) (xd _ _) (by unfold maxLen;omega) dZ ?_));intro T Q J S M H;have u:Hid (Row J 1 (σ (μ ⟨T,0,ν⟩) (q+1) Q) (q+1) (vu ms (q+1))/\(∀k,eh (σ (μ ⟨T,0,ν⟩) (q+1) Q)=μ k->w.heap.size<=k)/\eB w J):=by
     have hs:=U.out.size;refine⟨by unfold vu;rw[h.out];exact S,λk Z=> ?_,?_⟩
     ·have:T=k:=by simpa[eh]using Z
      subst this;rcases H with e|e
      {exact G.out _ e};{have:(wr.alloc (γ #[ι κ m] 3)).heap.size=wr.heap.size+1:=gU;omega}
     ·exact(U.out.alloc hs _).grown M (by simp;omega) (λk Z=>G.out k (by rw[<-Z]))
    clear S M H Y
    go_wp2
    go_roundw
    case rel=>exact⟨q+1,dZ,by go_num,u.out⟩
    case measure=>simp[eZ];omega
  ·obtain rfl:q=3:=dZ;have S:=Y;have YG:∃g cap,u6=σ (μ ⟨g,0,ν⟩) 3 cap:=by
    rcases Y.2 with⟨_,e2⟩|⟨g,cap,e,_⟩
    {omega};{exact⟨g,cap,e⟩}
   obtain⟨g,cap,rfl⟩:=YG;have jk:=VL ((i:Int)+1) g 0 3 cap ms wr (jf.below (w:=w) RM.out V) dZ dZ (λj hj=>by
    have:=Row.cell Y j _ (Lx ms 3 j hj);rw[Nat.zero_add];exact this) (λj hj=>(HT.out j hj).2) X (λk Z=>Nat.lt_of_lt_of_le (hX k Z) V.size)
   have U:Hid _:=V;have h33:((3:Nat):Int)=3:=rfl;clear Y jm V S;go_wp2_with(fail);refine jk.mono ?_;rintro e w1 ⟨z,rfl,hz⟩;have HZ:Hid _:=hz;clear jk hz
   go_wp2
   go_ret2
   have hs:=U.out.size;obtain⟨z1,z2,z3,z4,z5,z6⟩:=HZ.out;exact⟨z,rfl,z1,gh U.out z2,λk Z=>Nat.le_trans hs (z3 k Z),Nat.le_trans hs z4,λx hx=>Nat.le_trans hs (z5 x hx),z6⟩
