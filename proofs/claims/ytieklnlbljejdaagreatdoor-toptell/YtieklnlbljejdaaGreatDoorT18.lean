import Derived.Test.YtieklnlbljejdaaGreatDoorT17
open Go.Value renaming int → ι, slice → σ, pointer → π, tuple → τ
open Go.IntKind renaming i64 → κ
open Go.Ending renaming returned → ρ
open Go.Obj renaming cells → γ
open Option renaming none → ν, some → μ
open Go renaming World → dN, Calls → eM
open Go.Proofs.Tryz renaming prog → eN
open And renaming intro → fD
open Go.Value renaming ownBlock → dQ
open Go.IntKind renaming i64 → fC, u8 → fF
open Go.IntWalk renaming u8_in → gu
open Go.Act renaming put → gh
open List renaming setIfInBounds_toArray → gj, set_cons_zero → gk, set_cons_succ → gp
set_option maxRecDepth 100000
set_option maxHeartbeats 8000000
namespace Go.Proofs.YtieklnlbljejdaaGreatDoor
open Go.RowKit St
namespace Rt
variable {k:Nat} {r:iy}
theorem Kp(z:Zt)(r:iy)(t Y:Int)(tx:ByteArray)(w:dN)(h:k8 w z r)(hK:Ug r.K):
 eM eN 153 #[π (μ ⟨z.R,0,ν⟩),.agg #[ι κ t,ι κ Y,.string tx]] w λe w'=>e=ρ (τ #[ι κ (DM (Uo r t Y)),.bool (Uo r t Y).isSome])/\dV w w':=by
 obtain⟨hop,XT⟩:=fP ((ym (oB r) t).getD HP.zero);obtain⟨ok,iC⟩:=fP ((ym (oB r) t).isSome);have G:∀W,dV w W->eM eN 64 #[π (μ ⟨z.R,0,ν⟩)] W λe w'=>∃b n c,e=ρ (σ b n c)/\dV W w'/\(∀W',dV w' W'->eM eN 199 #[σ b n c,ι κ t] W' λe w2=>e=ρ (τ #[.agg #[ι κ hop.dst,ι κ hop.far,ι κ hop.tf],.bool ok])/\dV W' w2):=by
  intro W hW;refine(DS z r W (h.below hW) hK).mono ?_;rintro e u ⟨b,c,rfl,hH,b1⟩;refine⟨b,_,c,rfl,b1,λW' hW'=> ?_⟩;have:=WK b (oB r).length c (oB r) t W' (hH.r.below hW') (by have:=E7 (nY (LC r.K)) r.id.toNat;show(xd _ _).length<=_;omega);rw[XT,iC]at this;exact this
 have J:Hid (∀W,dV w W->eM eN 200 #[π (μ ⟨z.R,0,ν⟩),ι κ hop.tf] W λe w'=>e=ρ (τ #[ι κ (DM (jA r.P hop.tf r.n)),.bool (jA r.P hop.tf r.n).isSome])/\dV W w'):=λW hW=>BH z r hop.tf W (h.below hW);have Q:Hid (Uo r t Y=if 1<=Y/\ok=true then jA r.P hop.tf r.n else ν):=by
  show _=_;unfold Uo;rw[<-iC,<-XT];by_cases D:1<=Y
  ·rw[ag D];cases ym (oB r) t<;>simp[D]
  ·rw[ae D,ae (by simp[D])]
 generalize jA r.P hop.tf r.n=bp at J Q;generalize Uo r t Y=op at Q⊢;obtain⟨d,f,x⟩:=hop;simp only at G J;have hRl:=h.lt;generalize z.R=RR at G J hRl⊢;clear h XT iC;obtain⟨C,hC⟩:∃C:Array Value,#[Value.int .i64 t,ι κ Y,.string tx] =C:=⟨_,rfl⟩
 have bm:=gM w (γ #[ι κ t,ι κ Y,.string tx] 106);have Hs:iM (w.alloc (γ #[ι κ t,ι κ Y,.string tx] 106)) w.heap.size #[ι κ t,ι κ Y,.string tx] 106:=iM.new w _ _;obtain⟨X,j⟩:=fP (w.alloc (γ #[ι κ t,ι κ Y,.string tx] 106));obtain⟨N,hN⟩:=fP (w.heap.size);have H:dV w X.drew:=by rw[<-j];exact iZ bm
 have U:iM X.drew N #[ι κ t,ι κ Y,.string tx] 106:=by rw[<-j,<-hN];exact Hs.drew
 have Av:Hid _:=j;have HN:Hid _:=hN;clear Hs bm j hN hC C
 go_in
 go_wp2_with(fail);rw[Av.out,HN.out]
 go_cut [6,7] (λv6 v7 wx=>∃Z:Nat,v6=π (μ ⟨Z,0,ν⟩)/\v7=.bool ok/\wx.cell? ⟨Z,2,ν⟩=μ (ι κ x)/\dV w wx/\wx.cell? ⟨N,1,ν⟩=μ (ι κ Y))
 case first=>
  have F0:X.drew.cell? ⟨N,0,ν⟩=μ (ι κ t)/\X.drew.cell? ⟨N,1,ν⟩=μ (ι κ Y):=⟨U.cell 0,U.cell 1⟩
  have Nl:N<X.drew.heap.size:=U.lt;have ba:Below X.drew.heap.size X.drew (X.alloc (γ #[ι κ 0,ι κ 0,ι κ 0] 98)).drew:=by
   have b':=iZ (gM X (γ #[ι κ 0,ι κ 0,ι κ 0] 98));exact⟨b'.os,b'.tape,b'.output,b'.size,b'.block⟩
  have vE:iM (X.alloc (γ #[ι κ 0,ι κ 0,ι κ 0] 98)).drew X.heap.size #[ι κ 0,ι κ 0,ι κ 0] 98:=(iM.new X _ _).drew;have jq:N≠X.heap.size:=by have h2:N<X.heap.size:=Nl;omega
  have y:w.heap.size<=X.heap.size:=H.size
  go_region_held3(λx=>x.cell? ⟨N,0,ν⟩=μ (ι κ t)/\x.cell? ⟨N,1,ν⟩=μ (ι κ Y))
   (first|assumption|exact F0|exact F1|exact T|exact nu F0|exact nu F1|exact nu T|exact sP T jq jq|exact sP T Dd Dd)
   (first
    |(go_at_call 64;refine(G _ (by first|exact H|exact gD H ba)).mono ?_;rintro e u ⟨b,n,c,rfl,b1,afU⟩;first|(have lT:=vE.below b1;have S:=(U.below ba).below b1;have F1:=fD (S.cell 0) (S.cell 1))|(have S:=U.below b1;have F1:=fD (S.cell 0) (S.cell 1)))
    |(go_at_call 199;refine(afU _ (by first|exact aq _ _|exact gM _ _)).mono ?_;rintro e w2 ⟨rfl,b2⟩;first|(have V:=lT.below b2;have M:=S.below b2;have T:=fD (M.cell 0) (M.cell 1);have y0:=V.cell 0;have y1:=V.cell 1;have y2:=V.cell 2;have z0:=V.frozen 0;have z1:=V.frozen 1;have z2:=V.frozen 2)|(have M:=S.below b2;have T:=fD (M.cell 0) (M.cell 1))|(have V:=(iM.new u #[.int .i64 0,.int .i64 0,.int .i64 0] 98).below b2;have M:=(S.below (gM u _)).below b2;have T:=fD (M.cell 0) (M.cell 1);have Dd:N≠u.heap.size:=(by have h2:=S.lt;omega);have y0:=V.cell 0;have y1:=V.cell 1;have y2:=V.cell 2;have z0:=V.frozen 0;have z1:=V.frozen 1;have z2:=V.frozen 2)))
  all_goals
   go_wp2_with(fail)
   go_meet
   first
    |exact⟨_,rfl,rfl,aj w2 _ _ (0,0) 2,gD (gD (gD H b1) b2) (gM _ _),lH T.2⟩
    |(have A:=BL (a:=.int .i64 d) (b:=.int .i64 f) (c:=.int .i64 x) V rfl y (gD (gD (gD H ba) b1) b2)
      exact⟨_,rfl,rfl,A.2.1,A.2.2.1,uY T.2 jq⟩)
    |(have A:=BL (a:=.int .i64 d) (b:=.int .i64 f) (c:=.int .i64 x) V rfl (Nat.le_trans y b1.size) (gD (gD (gD H b1) (gM u _)) b2)
      exact⟨_,rfl,rfl,A.2.1,A.2.2.1,uY T.2 Dd⟩)
 case rest=>
  obtain⟨Z,rfl,rfl,dz,pj,dn⟩:=hcut;have zl:=af _ _ dz;have nl:=af _ _ dn;cases ok with
  |false=>
   have E:Hid (op=ν):=by show _=_;rw[Q.out,ae gN]
   clear G J Q
   go_wp2
   go_ret2
   exact⟨by rw[E.out];rfl,pj⟩
  |true=>
   by_cases D:Y<1
   ·have E:Hid (op=ν):=by show _=_;rw[Q.out,ae dP]
    clear G J Q
    go_wp2
    go_ret2
    exact⟨by rw[E.out];rfl,pj⟩
   ·have E:Hid (op=bp):=by show _=_;rw[Q.out,ag ⟨dP,rfl⟩]
    have zv:=J.out _ pj;clear G J Q;go_wp2_with(fail);refine zv.mono ?_;rintro e w5 ⟨rfl,b5⟩;have HB:Hid _:=gD pj b5;clear zv
    go_wp2
    go_ret2
    exact⟨by rw[E.out];rfl,HB.out⟩
theorem LU:(eN.info? 106).map (λi=>(i.zero,i.size,i.bytes))=μ (μ (.agg #[ι κ 0,ι κ 0,.string ⟨#[]⟩]),3,32):=gJ
theorem NL(l:List wT)(t:wT):pV (l++ [t])=pV l++ [ι κ t.1,ι κ t.2.1,.string ⟨t.2.2.toArray⟩] :=by simp[pV]
theorem LV(a b:Int)(s:ByteArray):∀u∈ [Value.int .i64 a,ι κ b,.string s],u.oneCell'=true:=by
 intro u Z;simp at Z;rcases Z with rfl|rfl|rfl<;>rfl
theorem NM(z:Zt)(r:iy)(Y:Int)(tx:ByteArray)(w:dN)(h:k8 w z r)(hn:r.jM.length<=1000000):
 eM eN 91 #[π (μ ⟨z.R,0,ν⟩),.agg #[ι κ r.id,ι κ Y,.string tx]] w λe w'=>e=ρ (τ #[])/\ig w w' z {r with jM:=r.jM++ [(r.id,Y,tx.data.toList)] } r.n:=by
 obtain⟨i0,hi,nH,l8,mZ⟩:=aT LU;have ba:=gM w (γ #[ι κ r.id,ι κ Y,.string tx] 106);have U:iM (w.alloc (γ #[ι κ r.id,ι κ Y,.string tx] 106)) w.heap.size #[ι κ r.id,ι κ Y,.string tx] 106:=iM.new w _ _;obtain⟨W0,A⟩:=fP (w.alloc (γ #[ι κ r.id,ι κ Y,.string tx] 106));obtain⟨N,D⟩:=fP (w.heap.size);rw[A]at ba U;rw[D]at U;have M:=h.below ba;have c0:=M.c0;have cl:=M.lt;have m0:W0.cell? ⟨N,0,ν⟩=μ (ι κ r.id):=U.cell 0;have ml:=U.lt;have heq:(r.id==r.id)=true:=gN;have HR:Hid _:=h;have XP:Hid _:=M;have t:Hid _:=U;have S:Hid _:=ba;have u:Hid _:=A;have HN:Hid _:=D;clear h M U ba A D
 go_in
 go_wp2_with(fail);rw[u.out,HN.out]
 go_quiet(fail)
 obtain⟨Z,J⟩:=fP (W0.drewN nq);have b1:dV w Z:=by rw[<-J];exact below_drewN S.out nq
 have H:iM Z N #[ι κ r.id,ι κ Y,.string tx] 106:=by rw[<-J];exact iM.drewN t.out nq
 rw[J];have X:=HR.out.below b1;have nj:=X.m9;have iJ:=X.ib;have e3:=X.c3;have el:=X.lt;have d0:Z.cell? ⟨N,0,ν⟩=μ (ι κ r.id):=H.cell 0;have d1:Z.cell? ⟨N,1,ν⟩=μ (ι κ Y):=H.cell 1;have d2:Z.cell? ⟨N,2,ν⟩=μ (.string tx):=H.cell 2;have dl:=H.lt;have j:Hid (z.iv.ownBlock≠μ z.R):=λe=>(X.sI _ e).1 rfl;have CS:Hid _:=b1;have HR1:Hid _:=X;obtain⟨nn,y⟩:=fP (r.jM.length);have E:Hid _:=y;rw[y]at iJ hn;clear J b1 X c0 cl m0 ml XP t S u y
 go_wp2
 go_region_law ((refine kQ (by rfl) (.tmp 17) (.tmp 19) 53 (by rfl) 106 i0 (.agg #[ι κ 0,ι κ 0,.string ⟨#[]⟩]) 3 32 dk hi nH l8 mZ (by rfl) dS z.iv nn (pV r.jM) (by rfl) ((iJ.alloc _).drew) _ 1 1 [ι κ r.id,ι κ Y,.string tx] (by rfl) (by rfl) dS (wY _ _ _ _ _ _ rfl) (LV _ _ _) (by unfold maxLen;omega) dP ?_;intro V jd x1 kD T jj;have G:=rU nj T j.out;have f3:=G.frozen 3;have g3:x1.cell? ⟨z.R,3,ν⟩=μ z.iv:=G.cell 3))
 all_goals
  go_wp2
  first|go_end0|refine iq rfl rfl ?_
  refine⟨rfl,ig.first HR.out rfl CS.out (λR=> ?_)⟩;have pY:Z.heap.size<=x1.heap.size:=Nat.le_trans (by show Z.heap.size<=(Z.alloc _).heap.size;simp) T.size;have kj:∀k,dQ (σ (μ ⟨V,0,ν⟩) (nn+1) jd)=μ k->z.iv.ownBlock=μ k \/Z.heap.size<=k:=by
   intro k Q;have wX:V=k:=by simpa[dQ]using Q
   subst wX;rcases jj with hh|hh
   ·exact .inl hh
   ·exact .inr (Nat.le_trans (by show Z.heap.size<=(Z.alloc _).heap.size;simp) hh)
  have Uu:V≠z.R:=by
   intro e;rcases kj V rfl with hh|hh
   ·exact j.out (by rw[hh,e])
   ·omega
  refine R.own (σ (μ ⟨V,0,ν⟩) (nn+1) jd) (r.jM++ [(r.id,Y,tx.data.toList)]) r.drop (by simpa using pY) T.os T.tape T.output (λk Q h1 h2=> ?_) ?_ ?_ kj
  ·rw[ak _ _ _ k h1,T.block k (by show k<(Z.alloc _).heap.size;simp;omega) (λe=>h2 e.symm)];exact aQ Z _ k Q
  ·exact G.set 3 _
  ·rw[NL,ay,E.out];have e4:(⟨tx.data.toList.toArray⟩:ByteArray)=tx:=gN;rw[e4];refine kD.keep gN (λk Q=> ?_);have wX:V=k:=by simpa[dQ]using Q
   exact ak _ _ _ k (by show k≠z.R;omega)
theorem uu {w:dN} {o:Obj} {p q s t:Addr} {a b c d:Value} (h:w.cell? p=μ a/\w.cell? q=μ b/\w.cell? s=μ c/\w.cell? t=μ d):(w.alloc o).cell? p=μ a/\(w.alloc o).cell? q=μ b/\(w.alloc o).cell? s=μ c/\(w.alloc o).cell? t=μ d:=⟨lH h.1,lH h.2.1,lH h.2.2.1,lH h.2.2.2⟩
theorem XV {t hp:Int} {j:Nat} (h:Uo r t hp=μ j):j<r.n/\1<=hp:=by
 unfold Uo at h;split at h
 ·rename_i Y
  cases Z:ym (oB r) t with
  |none=>rw[Z]at h;cases h
  |some x=>rw[Z]at h;exact⟨(nt h).1,Y⟩
 ·cases h
theorem NN(z:Zt)(r:iy)(t Z:Int)(tx:ByteArray)(w:dN)(h:k8 w z r)(H:Ug r.K)(jq:t≠r.id)(ht:0<=t/\t<=255)(hh:0<=Z/\Z<=255)(htx:tx.size<=900)(hd:0<=r.drop/\r.drop<=4000000000000000000)(tF:∀j,j<r.n->(r.P j).out.length<=800000000):
 eM eN 91 #[π (μ ⟨z.R,0,ν⟩),.agg #[ι κ t,ι κ Z,.string tx]] w λe w'=>e=ρ (τ #[])/\ig w w' z (r.send (t,Z,tx.data.toList)) r.n:=by
 have hS:Hid (r.send (t,Z,tx.data.toList)=match Uo r t Z with|none=>{r with drop:=r.drop+1} |some i=>r.iE i ((r.P i).put 77 (jQ t::jQ (Z-1)::tx.data.toList))):=by
  show _=_;unfold iy.send;rw[ae jq];rfl
 have ba:=gM w (γ #[ι κ t,ι κ Z,.string tx] 106);have A:iM (w.alloc (γ #[ι κ t,ι κ Z,.string tx] 106)) w.heap.size #[ι κ t,ι κ Z,.string tx] 106:=iM.new w _ _;obtain⟨W0,mL⟩:=fP (w.alloc (γ #[ι κ t,ι κ Z,.string tx] 106));obtain⟨N,hN⟩:=fP (w.heap.size);rw[mL]at ba A;rw[hN]at A;have R0:=h.below ba;have c0:=R0.c0;have cl:=R0.lt;have m0:W0.cell? ⟨N,0,ν⟩=μ (ι κ t):=A.cell 0;have ml:=A.lt;have heq:(t==r.id)=false:=by simp[jq]
 have E:Hid _:=h;have HM:Hid _:=A;have HBa:Hid _:=ba;have Av:Hid _:=mL;have HN:Hid _:=hN;clear h R0 A ba mL hN jq
 go_in
 go_wp2_with(fail);rw[Av.out,HN.out]
 go_quiet(fail)
 obtain⟨J,jO⟩:=fP (W0.drewN nq);have b1:dV w J:=by rw[<-jO];exact below_drewN HBa.out nq
 have y:iM J N #[ι κ t,ι κ Z,.string tx] 106:=by rw[<-jO];exact iM.drewN HM.out nq
 rw[jO];have d0:J.cell? ⟨N,0,ν⟩=μ (ι κ t):=y.cell 0;have d1:J.cell? ⟨N,1,ν⟩=μ (ι κ Z):=y.cell 1;have d2:J.cell? ⟨N,2,ν⟩=μ (.string tx):=y.cell 2;have dl:=y.lt;have M:=Kp z r t Z tx J (E.out.below b1) H;have HM1:Hid _:=y;have CS:Hid _:=b1;clear jO c0 cl m0 ml HM HBa Av y b1;cases ho:Uo r t Z with
 |none=>
  have M:eM eN 153 #[π (μ ⟨z.R,0,ν⟩),.agg #[ι κ t,ι κ Z,.string tx]] J λe w'=>e=ρ (τ #[ι κ 0,.bool false])/\dV J w':=by
   rw[ho]at M;exact M
  rw[ho]at hS;go_wp2_with(fail);refine M.mono ?_;rintro e X ⟨rfl,b2⟩;have bb:=gD CS.out b2;have U:=E.out.below bb;have nj:=U.m9;have e4:=U.c4;have f4:=nj.frozen 4;have el:=U.lt;have hsI:Hid (z.iv.ownBlock≠μ z.R):=λe=>(U.sI _ e).1 rfl;have XD:=U.ib;have Un:Hid _:=bb;have hd0:=hd.1;have hd1:=hd.2;have SN:fC.wrap (r.drop+1)=r.drop+1:=aM _ ⟨dP,dP⟩;clear M U b2 bb hd
  go_wp2
  first|go_end0|refine iq rfl rfl ?_
  refine⟨rfl,?_⟩;rw[hS.out];refine ig.first E.out rfl Un.out (λR=> ?_);refine R.own z.iv r.jM (r.drop+1) gN rfl rfl rfl (λk _ h1 _=>ak _ _ _ k h1) (nj.set 4 _) ?_ (λk hk=>.inl hk);exact XD.keep gN (λk hk=>ak _ _ _ k (by show k≠z.R;intro e;exact hsI.out (by rw[hk,e])))
 |some j=>
  have M:eM eN 153 #[π (μ ⟨z.R,0,ν⟩),.agg #[ι κ t,ι κ Z,.string tx]] J λe w'=>e=ρ (τ #[ι κ (j:Int),.bool true])/\dV J w':=by
   rw[ho]at M;exact M
  rw[ho]at hS;obtain⟨OV,CL⟩:=XV ho;have FY:(j:Int)<(r.n:Int):=dP;have vr:(0:Int)<=(j:Int):=dP;go_wp2_with(fail);refine M.mono ?_;rintro e X ⟨rfl,b2⟩;have bb:=gD CS.out b2;have rL:=iM.below HM1.out b2;have U:=E.out.below (gD bb (iI X));have u:X.drew.cell? ⟨z.R,1,ν⟩=μ (σ (μ ⟨z.g,0,ν⟩) r.n z.cap)/\X.drew.cell? ⟨N,0,ν⟩=μ (ι κ t)/\X.drew.cell? ⟨N,1,ν⟩=μ (ι κ Z)/\X.drew.cell? ⟨N,2,ν⟩=μ (.string tx):=⟨U.c1,rL.cell 0,rL.cell 1,rL.cell 2⟩
  have hlen:¬(9223372036854775807<2+tx.size):=dP;have hw8:fF.wrap t=t:=gu _ ⟨dP,dP⟩;have hwm:fC.wrap (Z-1)=Z-1:=aM _ ⟨dP,dP⟩;have hw9:fF.wrap (Z-1)=Z-1:=gu _ ⟨dP,dP⟩;have tU:(convert 140 9 (σ (μ ⟨X.heap.size,0,ν⟩) 2 2)).run eN (X.alloc (γ #[.int .u8 t,.int .u8 (Z-1)] 5)).drew=.ok (.string ⟨#[u8 t,u8 (Z-1)]⟩) (X.alloc (γ #[.int .u8 t,.int .u8 (Z-1)] 5)).drew:=VA X.drew t (Z-1) ht.1 ht.2 dP dP;have b3:dV w (X.alloc (γ #[.int .u8 t,.int .u8 (Z-1)] 5)).drew:=iZ (gD bb (gM _ _));obtain⟨G,Zx⟩:∃G:ByteArray,(⟨#[u8 t,u8 (Z-1)]⟩++tx)=G:=⟨_,rfl⟩
  have XW:G.data.toList=u8 t::u8 (Z-1)::tx.data.toList:=by
   rw[<-Zx];simp
  have abA:G.size<=1000:=by
   have e:G.size=G.data.toList.length:=gN;have e2:tx.data.toList.length=tx.size:=gN;rw[e,XW];simp only[List.length_cons,e2];omega
  have ni:eM eN 150 #[π (μ ⟨z.g,j*71,ν⟩),.string ⟨#[77]⟩,.string G] (X.alloc (γ #[.int .u8 t,.int .u8 (Z-1)] 5)).drew λe w'=>e=ρ (τ #[])/\ig w w' z (r.send (t,Z,tx.data.toList)) r.n/\(w'.cell? ⟨z.R,1,ν⟩=μ (σ (μ ⟨z.g,0,ν⟩) r.n z.cap)/\w'.cell? ⟨N,0,ν⟩=μ (ι κ t)/\w'.cell? ⟨N,1,ν⟩=μ (ι κ Z)/\w'.cell? ⟨N,2,ν⟩=μ (.string tx)):=by
   have D:=E.out.below b3;have XX:(X.alloc (γ #[.int .u8 t,.int .u8 (Z-1)] 5)).drew.cell? ⟨z.R,1,ν⟩=μ (σ (μ ⟨z.g,0,ν⟩) r.n z.cap)/\(X.alloc (γ #[.int .u8 t,.int .u8 (Z-1)] 5)).drew.cell? ⟨N,0,ν⟩=μ (ι κ t)/\(X.alloc (γ #[.int .u8 t,.int .u8 (Z-1)] 5)).drew.cell? ⟨N,1,ν⟩=μ (ι κ Z)/\(X.alloc (γ #[.int .u8 t,.int .u8 (Z-1)] 5)).drew.cell? ⟨N,2,ν⟩=μ (.string tx):=uu (o:=.cells #[.int .u8 t,.int .u8 (Z-1)] 5) u;generalize (X.alloc (γ #[.int .u8 t,.int .u8 (Z-1)] 5)).drew=W3 at b3 D XX⊢;have hpj:=tF j OV;refine(Aq z.g (j*71) (z.B j) (z.v j) (r.P j) ⟨#[77]⟩ G 77 W3 (D.pt j OV) rfl abA dP).mono ?_;rintro e w6 ⟨rfl,LP⟩;have hE:r.send (t,Z,tx.data.toList)=r.iE j ((r.P j).put 77 G.data.toList):=by
    rw[hS.out,XW];rfl
   have Q:=D.port OV LP;rw[hE];have Ld:¬z.mine r.n N:=by rw[<-HN.out];exact E.out.rY (Nat.le_refl _)
   exact⟨rfl,ig.first E.out rfl b3 (λ_=>Q),Q.c1,Q.cell D (p:=⟨N,0,ν⟩) Ld XX.2.1,Q.cell D (p:=⟨N,1,ν⟩) Ld XX.2.2.1,Q.cell D (p:=⟨N,2,ν⟩) Ld XX.2.2.2⟩
  have el:=U.lt;have eg:=U.DK;obtain⟨T,hT⟩:∃T:dN->Prop,(λx=>ig w x z (r.send (t,Z,tx.data.toList)) r.n)=T:=⟨_,rfl⟩
  have Hp:∀x,ig w x z (r.send (t,Z,tx.data.toList)) r.n=T x:=λx=>bU hT x;simp only[Hp]at ni;have HT:Hid _:=Hp;clear M rL b2 hT Hp U b3 XW abA bb;go_wp2_with(fail);refine bW (S:=λx=>x.cell? ⟨z.R,1,ν⟩=μ (σ (μ ⟨z.g,0,ν⟩) r.n z.cap)/\x.cell? ⟨N,0,ν⟩=μ (ι κ t)/\x.cell? ⟨N,1,ν⟩=μ (ι κ Z)/\x.cell? ⟨N,2,ν⟩=μ (.string tx)) gJ u (λkI=> ?_);refine iR 0 (μ 38) rfl rfl gJ gJ gJ (λ_ _ _ h=>h) (by rfl) (v:= ?_) ?_ iL ?_
  rotate_left
  ·intro V Y
   (try dsimp only at Y)
   go_simp
   try with_reducible rfl
  simp only[gh,gj,gk,gp];refine iR 1 (μ 39) rfl rfl gJ gJ gJ (λ_ _ _ h=>h) (by rfl) (v:= ?_) ?_ iL ?_
  rotate_left
  ·intro V Y
   (try dsimp only at Y)
   go_simp
   try with_reducible rfl
  simp only[gh,gj,gk,gp];refine iR 2 (μ 40) rfl rfl gJ gJ gJ (λ_ _ _ h=>h) (by rfl) (v:= ?_) ?_ iL ?_
  rotate_left
  ·intro V Y
   (try dsimp only at Y)
   go_simp
   try with_reducible rfl
  simp only[gh,gj,gk,gp];refine iR 3 (μ 41) rfl rfl gJ gJ gJ (λ_ _ _ h=>h) (by rfl) (v:= ?_) ?_ iL ?_
  rotate_left
  ·intro V Y
   (try dsimp only at Y)
   go_simp
   try with_reducible rfl
  simp only[gh,gj,gk,gp];refine iR 4 (μ 42) rfl rfl gJ gJ gJ (λ_ _ _ h=>h) (by rfl) (v:= ?_) ?_ iL ?_
  rotate_left
  ·intro V Y
   (try dsimp only at Y)
   go_simp
   try with_reducible rfl
  simp only[gh,gj,gk,gp];refine iR 5 (μ 43) rfl rfl gJ gJ gJ (λ_ _ _ h=>h) (by rfl) (v:= ?_) ?_ iL ?_
  rotate_left
  ·intro V Y
   (try dsimp only at Y)
   go_simp
   try with_reducible rfl
  simp only[gh,gj,gk,gp];refine iR 6 (μ 44) rfl rfl gJ gJ gJ (λ_ _ _ h=>h) (by rfl) (v:= ?_) ?_ iL ?_
  rotate_left
  ·intro V Y
   (try dsimp only at Y)
   go_simp
   try with_reducible rfl
  simp only[gh,gj,gk,gp];refine iR 7 (μ 45) rfl rfl gJ gJ gJ (λ_ _ _ h=>h) (by rfl) (v:= ?_) ?_ iL ?_
  rotate_left
  ·intro V Y
   (try dsimp only at Y)
   go_simp
   try with_reducible rfl
  simp only[gh,gj,gk,gp];refine iR 8 (μ 46) rfl rfl gJ gJ gJ (λ_ _ _ h=>h) (by rfl) (v:= ?_) ?_ iL ?_
  rotate_left
  ·intro V Y
   (try dsimp only at Y)
   go_simp
   try with_reducible rfl
  simp only[gh,gj,gk,gp];refine iR 9 (μ 47) rfl rfl gJ gJ gJ (λ_ _ _ h=>h) (by rfl) (v:= ?_) ?_ iL ?_
  rotate_left
  ·intro V Y
   (try dsimp only at Y)
   go_simp
   try with_reducible rfl
  simp only[gh,gj,gk,gp];refine iR 10 (μ 48) rfl rfl gJ gJ gJ (λ_ _ _ h=>h) (by rfl) (v:= ?_) ?_ iL ?_
  rotate_left
  ·intro V Y
   (try dsimp only at Y)
   go_simp
   try with_reducible rfl
  simp only[gh,gj,gk,gp];refine iR 11 (μ 49) rfl rfl gJ gJ gJ (λ_ _ _ h=>h) (by rfl) (v:= ?_) ?_ iL ?_
  rotate_left
  ·intro V Y
   (try dsimp only at Y)
   go_simp
   try with_reducible rfl
  simp only[gh,gj,gk,gp];refine iR 12 (μ 50) rfl rfl gJ gJ gJ (λ_ _ _ h=>h) (by rfl) (v:= ?_) ?_ iL ?_
  rotate_left
  ·intro V Y
   (try dsimp only at Y)
   go_simp
   try with_reducible rfl
  simp only[gh,gj,gk,gp];refine iR 15 (μ 53) rfl rfl gJ gJ gJ (λ_ _ _ h=>h) (by rfl) (v:= ?_) ?_ iL ?_
  rotate_left
  ·intro V Y
   (try dsimp only at Y)
   go_simp
   try with_reducible rfl
  simp only[gh,gj,gk,gp];refine iR 16 (μ 54) rfl rfl gJ gJ gJ (λ_ _ _ h=>h) (by rfl) (v:= ?_) ?_ iL ?_
  rotate_left
  ·intro V Y
   (try dsimp only at Y)
   go_simp
   try with_reducible rfl
  simp only[gh,gj,gk,gp];refine aN (rs:=[13]) gJ gN ?_;refine aB (o:=_) rfl (λK H=> ?_) aJ
  go_simp
  refine H.out _ _ ?_ (λkI=> ?_)
  ·exact uu u
  clear H K;refine aN (rs:=[14]) gJ gN ?_;refine aB (o:=_) rfl (λK H=> ?_) aJ
  go_simp
  refine H.out _ _ ?_ (λkI=> ?_)
  ·exact uu u
  clear H K;refine iR 17 (μ 55) rfl rfl gJ gJ gJ (λ_ _ _ h=>h) (by rfl) (v:= ?_) ?_ iL ?_
  rotate_left
  ·intro V Y
   (try dsimp only at Y)
   go_simp
   try with_reducible rfl
  simp only[gh,gj,gk,gp];refine aN (rs:=[18]) gJ gN ?_;refine aB (o:=_) rfl (λK H=> ?_) aJ
  go_simp
  refine ni.mono ?_;rintro e w5 ⟨rfl,I9,F5⟩
  (try go_wp2_with(fail))
  refine H.out _ _ ?_ (λkI=> ?_)
  ·exact F5
  clear H K;refine cD gJ ?_ _
  all_goals
   clear ni u F5
   go_wp2
   first|go_end0|refine iq rfl rfl ?_
   exact⟨rfl,by rw[HT.out];exact I9⟩
theorem DV(p:jb)(c:UInt8)(s:List UInt8):(p.put c s).m=p.m:=by
 unfold jb.put;split
 ·rfl
 ·split<;>rfl
theorem XY(p:jb)(q:kr):(uf p q).m=p.m/\(uf p q).pe=p.pe:=by
 unfold uf;split
 ·exact⟨DV _ _ _,pW _ _ _⟩
 ·exact⟨rfl,rfl⟩
theorem uv:∀(l:List kr) (p:jb),(p.say l).m=p.m/\(p.say l).pe=p.pe
 |[],_=>⟨rfl,rfl⟩
 |x::l,p=>by
  have h:=uv l (uf p x);have Z:=XY p x;exact⟨h.1.trans Z.1,h.2.trans Z.2⟩
theorem rZ(p:jb)(s:List UInt8):(p.packet s).m=p.m/\(p.packet s).pe=p.pe:=by
 unfold jb.packet;simp only;split
 ·exact uv _ _
 ·exact⟨rfl,rfl⟩
theorem BQ(p:jb)(s:List UInt8):(p.packet s).out.length<=p.out.length+5040:=by
 unfold jb.packet;simp only;split
 ·have h1:=DH p.L ((iF s).1,(iF s).2.1,(iF s).2.2.1);have h2:=xA (jD p.L ((iF s).1,(iF s).2.1,(iF s).2.2.1)).2.1 {p with L:=(jD p.L ((iF s).1,(iF s).2.1,(iF s).2.2.1)).1};have h3:({p with L:=(jD p.L ((iF s).1,(iF s).2.1,(iF s).2.2.1)).1}:jb).out.length=p.out.length:=rfl;omega
 ·omega
structure Fit(r:iy)(k:Nat):Prop where
 jM:r.jM.length<=k
 drop:0<=r.drop/\r.drop<=k+1000000000000000
 out:∀j,j<r.n->(r.P j).out.length<=6000*k
theorem Fit.mono {l:Nat} (h:Fit r k)(hl:k<=l):Fit r l:=⟨by have:=h.jM;omega,by have:=h.drop;omega,λj Z=>by have:=h.out j Z;omega⟩
theorem Fit.iE {r:iy} {k:Nat} (h:Fit r k)(i:Nat)(p:jb)(Y:i<r.n->p.out.length<=6000*k):Fit (r.iE i p) k:=⟨h.jM,h.drop,λj Z=>by
 show(kA r.P i p j).out.length<=_;by_cases e:j=i
 ·subst e;rw[ja];exact Y Z
 ·rw[iU _ _ e];exact h.out j Z⟩
theorem Fit.grow(h:Fit r k)(i:Nat)(p:jb)(hp:p.out.length<=(r.P i).out.length+6000):Fit (r.iE i p) (k+1):=(h.mono (Nat.le_succ k)).iE i p (λhi=>by have:=h.out i hi;omega)
theorem Fit.congr {r':iy} (h:Fit r k)(Z:r'.jM=r.jM)(Y:r'.drop=r.drop)(X:r'.n=r.n)(V:r'.P=r.P):Fit r' k:=⟨by rw[Z];exact h.jM,by rw[Y];exact h.drop,λj U=>by rw[V];exact h.out j (by rw[<-X];exact U)⟩
theorem nC(r:iy)(s:Int):(r.behind s).jM=r.jM/\(r.behind s).drop=r.drop/\(r.behind s).n=r.n/\(r.behind s).P=r.P:=by
 unfold iy.behind;split<;>exact⟨rfl,rfl,rfl,rfl⟩
theorem uw(r:iy):r.change.jM=r.jM/\r.change.drop=r.drop/\r.change.n=r.n/\r.change.P=r.P:=by
 unfold iy.change;split
 ·exact⟨rfl,rfl,rfl,rfl⟩
 ·exact nC _ _
theorem lS(r:iy)(i:Nat)(q:kL):(r.meet i q).jM=r.jM/\(r.meet i q).drop=r.drop/\(r.meet i q).n=r.n/\(r.meet i q).P=kA r.P i {r.P i with pe:=q}:=by
 unfold iy.meet;simp only;split
 ·exact⟨rfl,rfl,rfl,rfl⟩
 ·split
  ·obtain⟨Z,Y,X,V⟩:=uw ({r.iE i {r.P i with pe:=q}with O:=λx=>if x=i then λ_=>ν else(r.iE i {r.P i with pe:=q}).O x}:iy);exact⟨Z,Y,X,V⟩
  ·obtain⟨Z,Y,X,V⟩:=uw ({r.iE i {r.P i with pe:=q}with O:=λx=>if x=i then λ_=>ν else(r.iE i {r.P i with pe:=q}).O x}:iy);exact⟨Z,Y,X,V⟩
theorem Fit.meet {r:iy} {k:Nat} (h:Fit r k)(i:Nat)(q:kL):Fit (r.meet i q) k:=by
 obtain⟨Z,Y,X,V⟩:=lS r i q;exact Fit.congr (h.iE i {r.P i with pe:=q} (λhi=>h.out i hi)) Z Y X V
theorem Fit.behind {r:iy} {k:Nat} (h:Fit r k)(s:Int):Fit (r.behind s) k:=by
 obtain⟨Z,Y,X,V⟩:=nC r s;exact h.congr Z Y X V
theorem XZ(r:iy)(t:wT):(r.send t).n=r.n/\(r.send t).id=r.id:=by
 unfold iy.send;split
 ·exact⟨rfl,rfl⟩
 ·split<;>exact⟨rfl,rfl⟩
theorem Fit.send {r:iy} {k:Nat} (h:Fit r k)(t:wT):Fit (r.send t) (k+1):=by
 unfold iy.send;split
 ·exact⟨by have:=h.jM;simp;omega,by have:=h.drop;simp;omega,λj Z=>by have:=h.out j Z;simp;omega⟩
 ·split
  ·exact⟨by have:=h.jM;simp;omega,by have:=h.drop;simp;omega,λj Z=>by have:=h.out j Z;simp;omega⟩
  ·rename_i b _
   exact h.grow b _ (Nat.le_trans (uW (r.P b) 77 (jQ t.1::jQ (t.2.1-1)::t.2.2)) dP)
theorem Fit.state(h:Fit r k)(i:Nat)(l:List UInt8):Fit (ji r i l) (k+1):=by
 unfold ji;simp only;split
 ·exact h.mono (Nat.le_succ k)
 ·split
  ·exact(h.behind _).mono (Nat.le_succ k)
  ·have Z:Fit ({r with K:=ld r.K (St.ik l).1 (St.ik l).2.1 (St.ik l).2.2.1,O:=oN r.K r.O i (St.ik l).1 (St.ik l).2.1 (St.ik l).2.2.1}:iy) k:=h.congr rfl rfl rfl rfl;split
   ·exact Z.grow i _ (Nat.le_trans (uW (r.P i) 65 (rM (St.ik l).1 (St.ik l).2.1 (St.ik l).2.2.1)) (by show(r.P i).out.length+126<=(r.P i).out.length+6000;omega))
   ·exact Z.mono (Nat.le_succ k)
theorem Uv(r:iy)(i:Nat)(l:List UInt8):(ji r i l).n=r.n/\(ji r i l).id=r.id:=by
 unfold ji;simp only;split
 ·exact⟨rfl,rfl⟩
 ·split
  ·exact⟨Q5 _ _,yF _ _⟩
  ·split<;>exact⟨rfl,rfl⟩
theorem kE.send {r:iy} (h:kE r)(t:wT):kE (r.send t):=by
 unfold iy.send;split
 ·exact⟨h.id,h.m,h.pe,h.own,h.QS⟩
 ·split
  ·exact⟨h.id,h.m,h.pe,h.own,h.QS⟩
  ·exact h.iE _ _ (DV _ _ _) (λhi=>by rw[pW];exact h.pe _ hi)
theorem kE.state(h:kE r)(i:Nat)(l:List UInt8):kE (ji r i l):=by
 unfold ji;simp only;split
 ·exact h
 ·rename_i hc
  have hf:(St.ik l).2.2.2=0:=by
   by_cases e:(St.ik l).2.2.2=0
   ·exact e
   ·exact absurd (.inl e) hc
  have Y:ox (St.ik l).1 (St.ik l).2.1 (St.ik l).2.2.1=0:=qz (l:=l) (by rw[<-hf]);split
  ·exact h.behind (by have:=(jk Y).2.1;omega)
  ·rename_i X
   have Z:kE {r with K:=ld r.K (St.ik l).1 (St.ik l).2.1 (St.ik l).2.2.1,O:=oN r.K r.O i (St.ik l).1 (St.ik l).2.1 (St.ik l).2.2.1}:=by
    refine⟨h.id,h.m,h.pe,?_,?_⟩
    ·show∃q,ld r.K _ _ _ r.id=μ q/\_;unfold ld;split
     ·rename_i V
      have U:r.id≠(St.ik l).1:=λe=>X ⟨e.symm,V⟩;unfold tZ;rw[ae U];exact h.own
     ·exact h.own
    ·show Ug (ld r.K _ _ _);unfold ld;split
     ·exact h.QS.vu (jk Y).1 _
     ·exact h.QS
   split
   ·exact Z.iE _ _ (DV _ _ _) (λhi=>by rw[pW];exact h.pe _ hi)
   ·exact Z
theorem BS(z:Zt)(r:iy)(k:Nat)(t Z:Int)(tx:ByteArray)(w:dN)(h:k8 w z r)(T:kE r)(hf:Fit r k)(hk:k<=100000)(V:0<=t/\t<=255)(hh:0<=Z/\Z<=255)(Y:tx.size<=900):
 eM eN 91 #[π (μ ⟨z.R,0,ν⟩),.agg #[ι κ t,ι κ Z,.string tx]] w λe w'=>e=ρ (τ #[])/\ig w w' z (r.send (t,Z,tx.data.toList)) r.n:=by
 by_cases e:t=r.id
 ·subst e;refine(NM z r Z tx w h (by have:=hf.jM;omega)).mono ?_;rintro e w1 ⟨rfl,U⟩;refine⟨rfl,?_⟩;unfold iy.send;rw[ag rfl];exact U
 ·exact NN z r t Z tx w h T.QS e V hh Y (by have:=hf.drop;omega) (λj X=>by have:=hf.out j X;omega)
def qj(r:iy)(l:List UInt8):iy:=if 2<=l.length/\l.length<=22 then r.send (((l.getD 0 0).toNat:Int),((l.getD 1 0).toNat:Int),l.drop 2)else r
theorem Ab(s:ByteArray)(z:Zt)(r:iy)(k:Nat)(w:dN)(h:k8 w z r)(Y:kE r)(hf:Fit r k)(G:k<=100000)(hs:s.size<=1000):
 eM eN 137 #[π (μ ⟨z.R,0,ν⟩),.string s] w λe w'=>e=ρ (τ #[])/\ig w w' z (qj r s.data.toList) r.n:=by
 have hl:s.data.toList.length=s.size:=gN;by_cases h2:2<=s.size
 ·by_cases h22:s.size<=22
  ·have b0:0<s.size:=dP;have b1:1<s.size:=dP;have g1:(2:Int)<=(s.size:Int):=dP;have J:(s.size:Int)<=22:=dP;have Z:∀W,dV w W->eM eN 91 #[π (μ ⟨z.R,0,ν⟩),.agg #[ι κ (s[0].toNat:Int),ι κ (s[1].toNat:Int),.string (s.extract 2 s.size)]] W λe w'=>e=ρ (τ #[])/\ig w w' z (qj r s.data.toList) r.n:=by
    intro W M;have l0:=s[0].toNat_lt;have l1:=s[1].toNat_lt;refine(BS z r k (s[0].toNat:Int) (s[1].toNat:Int) (s.extract 2 s.size) W (h.below M) Y hf G dP dP (by simp;omega)).mono ?_;rintro e E ⟨rfl,U⟩;refine⟨rfl,ig.first h rfl M (λ_=> ?_)⟩;have H:qj r s.data.toList=r.send ((s[0].toNat:Int),(s[1].toNat:Int),(s.extract 2 s.size).data.toList):=by
     unfold qj;rw[ag ⟨dP,dP⟩,mU s 0 b0,mU s 1 b1];rw[tY,aC dP]
    rw[H];exact U
   have X:=Z _ (iI w);have oW:fC.wrap (s[0].toNat:Int)=(s[0].toNat:Int):=aM _ ⟨by have:=s[0].toNat_lt;omega,by have:=s[0].toNat_lt;omega⟩;have lN:fC.wrap (s[1].toNat:Int)=(s[1].toNat:Int):=aM _ ⟨by have:=s[1].toNat_lt;omega,by have:=s[1].toNat_lt;omega⟩;clear Z hf Y h;obtain⟨T,Q⟩:∃T:dN->Prop,(λx=>ig w x z (qj r s.data.toList) r.n)=T:=⟨_,rfl⟩
   have S:∀x,ig w x z (qj r s.data.toList) r.n=T x:=λx=>bU Q x;simp only[S]at X⊢;clear Q S
   go_in
   go_wp2
   go_region_held3(λ_=>True)
    (first|trivial)
    (first
     |(go_at_call 91;refine X.mono ?_;rintro e E ⟨rfl,U⟩))
   all_goals
    clear X
    go_wp2
    first|go_end0|refine iq rfl rfl ?_
    exact⟨rfl,U⟩
  ·have g1:(2:Int)<=(s.size:Int):=dP;have J:¬(s.size:Int)<=22:=dP;have V:Hid (ig w w z (qj r s.data.toList) r.n):=by
    show ig _ _ _ _ _;unfold qj;rw[ae dP];exact ig.refl h
   clear h Y hf
   go_in
   go_wp2
   first|go_end0|refine iq rfl rfl ?_
   exact⟨rfl,V.out⟩
 ·have g1:¬(2:Int)<=(s.size:Int):=dP;have V:Hid (ig w w z (qj r s.data.toList) r.n):=by
   show ig _ _ _ _ _;unfold qj;rw[ae dP];exact ig.refl h
  clear h Y hf
  go_in
  go_wp2
  first|go_end0|refine iq rfl rfl ?_
  exact⟨rfl,V.out⟩
