import Derived.Test.YtieklnlbljejdaaGreatDoorV04
open Go.Value renaming int → ι, slice → σ, pointer → π, tuple → τ, nilIface → η, ownBlock → fD
open Go.IntKind renaming i64 → κ, u8 → ic
open Go.Ending renaming returned → ρ
open Go.Obj renaming cells → γ
open Option renaming none → ν, some → μ, getD → ji, isSome → jj
open Go renaming World → fA, Calls → gb, Value → fB
open Go.Proofs.Tryz renaming prog → gg
open And renaming intro → gp
open Go.IntWalk renaming u8_in → jc
open Go.RowKit renaming intOf → gj
open ByteArray renaming ext → je
open Array renaming size_setIfInBounds → jf
open Go.Instr renaming loadAt → iH, index → jk
open Go.Act renaming put → jg
open List renaming setIfInBounds_toArray → jh
open Go.Builtin renaming append_ → iy
open Go.Region renaming wanted → fR
set_option maxRecDepth 100000
set_option maxHeartbeats 8000000
set_option linter.defProp false
open Go.Proofs.Tryz
namespace Go.Proofs.YtieklnlbljejdaaGreatDoor
open Go.RowKit St
namespace Rt
variable {B:Nat->Nat} {Bb D RR c d g i j k k' l n:Nat} {id:Int} {m:FM} {ms:Nat->Int} {o:Obj} {p:kB} {r r':jO} {v:Value} {w w' wb:World} {y:Yt}
def PN(z:Zt)(r:jO)(t Y:Int)(tx:ByteArray)(w:fA)(h:n9 w z r)(hK:ZJ r.K):
 gb gg 153 #[π (μ ⟨z.R,0,ν⟩),.agg #[ι κ t,ι κ Y,.string tx]] w λe w'=>e=ρ (τ #[ι κ (Jp (onP r t Y)),.bool (onP r t Y).isSome])/\fP w w':=by
  obtain⟨hop,G⟩:=fH ((ye (n8 r) t).getD HP.zero);obtain⟨ok,jR⟩:=fH ((ye (n8 r) t).isSome)
  have U:∀W,fP w W->gb gg 64 #[π (μ ⟨z.R,0,ν⟩)] W λe w'=>∃b n c,e=ρ (σ b n c)/\fP W w'/\(∀W',fP w' W'->gb gg 199 #[σ b n c,ι κ t] W' λe w2=>e=ρ (τ #[.agg #[ι κ hop.dst,ι κ hop.far,ι κ hop.qT],.bool ok])/\fP W' w2):=by
   intro W hW;refine(Ju z r W (h.below hW) hK).mono ?_;rintro e w1 ⟨b,c,rfl,hH,b1⟩;refine⟨b,_,c,rfl,b1,λW' hW'=> ?_⟩;have:=aef b (n8 r).length c (n8 r) t W' (hH.r.below hW') (by have:=KK (lp (oD r.K)) r.id.toNat;show(mE _ _).length<=_;omega);rw[G,jR]at this;exact this
  have H:Hid (∀W,fP w W->gb gg 200 #[π (μ ⟨z.R,0,ν⟩),ι κ hop.qT] W λe w'=>e=ρ (τ #[ι κ (Jp (kQ r.P hop.qT r.n)),.bool (kQ r.P hop.qT r.n).isSome])/\fP W w'):=λW hW=>Gc z r hop.qT W (h.below hW)
  have J:Hid (onP r t Y=if 1<=Y/\ok=true then kQ r.P hop.qT r.n else ν):=by
   show _=_;unfold onP;rw[<-jR,<-G];by_cases u:1<=Y;{rw[ag u];cases ye (n8 r) t<;>simp[u]};rw[af u,af (by simp[u])]
  generalize kQ r.P hop.qT r.n=bp at H J;generalize onP r t Y=op at J⊢;obtain⟨d,f,x⟩:=hop;simp only at U H;have hRl:=h.lt;generalize z.R=RR at U H hRl⊢;clear h G jR;obtain⟨C,hC⟩:∃C:Array fB,#[ι .i64 t,ι κ Y,.string tx] =C:=⟨_,rfl⟩
  have bm:=gu w (γ #[ι κ t,ι κ Y,.string tx] 106);have MT:j2 (w.alloc (γ #[ι κ t,ι κ Y,.string tx] 106)) w.heap.size #[ι κ t,ι κ Y,.string tx] 106:=j2.new w _ _;obtain⟨X,pF⟩:=fH (w.alloc (γ #[ι κ t,ι κ Y,.string tx] 106));obtain⟨N,hN⟩:=fH (w.heap.size);have E:fP w X.drew:=by rw[<-pF];exact kN bm
  have T:j2 X.drew N #[ι κ t,ι κ Y,.string tx] 106:=by rw[<-pF,<-hN];exact MT.drew
  have IA:Hid _:=pF;have HN:Hid _:=hN;clear MT bm pF hN hC C;go_in;go_wp2_with fail;rw[IA.out,HN.out];go_cut [6,7] (λv6 v7 wx=>∃Z:Nat,v6=π (μ ⟨Z,0,ν⟩)/\v7=.bool ok/\wx.cell? ⟨Z,2,ν⟩=μ (ι κ x)/\fP w wx/\wx.cell? ⟨N,1,ν⟩=μ (ι κ Y))
  case first=>
   have F0:X.drew.cell? ⟨N,0,ν⟩=μ (ι κ t)/\X.drew.cell? ⟨N,1,ν⟩=μ (ι κ Y):=⟨T.cell 0,T.cell 1⟩
   have Nl:N<X.drew.heap.size:=T.lt
   have ba:Below X.drew.heap.size X.drew (X.alloc (γ #[ι κ 0,ι κ 0,ι κ 0] 98)).drew:=by
    have b':=kN (gu X (γ #[ι κ 0,ι κ 0,ι κ 0] 98));exact⟨b'.os,b'.tape,b'.output,b'.size,b'.block⟩
   have xK:j2 (X.alloc (γ #[ι κ 0,ι κ 0,ι κ 0] 98)).drew X.heap.size #[ι κ 0,ι κ 0,ι κ 0] 98:=(j2.new X _ _).drew;have kf:N≠X.heap.size:=by have h2:N<X.heap.size:=Nl;omega
   have hwW:w.heap.size<=X.heap.size:=E.size
   go_region_held3(λx=>x.cell? ⟨N,0,ν⟩=μ (ι κ t)/\x.cell? ⟨N,1,ν⟩=μ (ι κ Y))
    (first|assumption|exact F0|exact F1|exact S|exact qt F0|exact qt F1|exact qt S|exact wZ S kf kf|exact wZ S IB IB)
    (first
     |(go_at_call 64;refine(U _ (by first|exact E|exact fQ E ba)).mono ?_;rintro e w1 ⟨b,n,c,rfl,b1,am6⟩;first|(have oA:=xK.below b1;have Q:=(T.below ba).below b1;have F1:=gp (Q.cell 0) (Q.cell 1))|(have Q:=T.below b1;have F1:=gp (Q.cell 0) (Q.cell 1)))
     |(go_at_call 199;refine(am6 _ (by first|exact aC _ _|exact gu _ _)).mono ?_;rintro e w2 ⟨rfl,b2⟩;first|(have V:=oA.below b2;have M:=Q.below b2;have S:=gp (M.cell 0) (M.cell 1);have y0:=V.cell 0;have y1:=V.cell 1;have y2:=V.cell 2;have z0:=V.frozen 0;have z1:=V.frozen 1;have z2:=V.frozen 2)|(have M:=Q.below b2;have S:=gp (M.cell 0) (M.cell 1))|(have V:=(j2.new w1 #[.int .i64 0,.int .i64 0,.int .i64 0] 98).below b2;have M:=(Q.below (gu w1 _)).below b2;have S:=gp (M.cell 0) (M.cell 1);have IB:N≠w1.heap.size:=(by have h2:=Q.lt;omega);have y0:=V.cell 0;have y1:=V.cell 1;have y2:=V.cell 2;have z0:=V.frozen 0;have z1:=V.frozen 1;have z2:=V.frozen 2)))
   all_goals
    go_wp2_with fail
    go_meet
    first
     |exact⟨_,rfl,rfl,ay w2 _ _ (0,0) 2,fQ (fQ (fQ E b1) b2) (gu _ _),oq S.2⟩
     |(have h5:=KG (a:=.int .i64 d) (b:=.int .i64 f) (c:=.int .i64 x) V rfl hwW (fQ (fQ (fQ E ba) b1) b2)
       exact⟨_,rfl,rfl,h5.2.1,h5.2.2.1,za S.2 kf⟩)
     |(have h5:=KG (a:=.int .i64 d) (b:=.int .i64 f) (c:=.int .i64 x) V rfl (au hwW b1.size) (fQ (fQ (fQ E b1) (gu w1 _)) b2)
       exact⟨_,rfl,rfl,h5.2.1,h5.2.2.1,za S.2 IB⟩)
  case rest=>
   obtain⟨Z,rfl,rfl,dz,sN,dn⟩:=hcut;have zl:=ai _ _ dz;have nl:=ai _ _ dn;cases ok with
   |false=>
    have A:Hid (op=ν):=by show _=_;rw[J.out,af gZ]
    clear U H J
    go_wp2
    go_ret2
    exact⟨by rw[A.out];rfl,sN⟩
   |true=>
    by_cases u:Y<1
    ·have A:Hid (op=ν):=by show _=_;rw[J.out,af fC]
     clear U H J
     go_wp2
     go_ret2
     exact⟨by rw[A.out];rfl,sN⟩
    ·have A:Hid (op=bp):=by show _=_;rw[J.out,ag ⟨fC,rfl⟩]
     have Dz:=H.out _ sN;clear U H J;go_wp2_with fail;refine Dz.mono ?_;rintro e w5 ⟨rfl,b5⟩;have HB:Hid _:=fQ sN b5;clear Dz
     go_wp2
     go_ret2
     exact⟨by rw[A.out];rfl,HB.out⟩
def Rx:(gg.info? 106).map (λi=>(i.zero,i.size,i.bytes))=μ (μ (.agg #[ι κ 0,ι κ 0,.string ⟨#[]⟩]),3,32):=iV
def TI(l:List wK)(t:wK):rz (l++ [t])=rz l++ [ι κ t.1,ι κ t.2.1,.string ⟨t.2.2.toArray⟩] :=by simp[rz]
def Ry(a b:Int)(s:ByteArray):∀u∈ [ι .i64 a,ι κ b,.string s],u.oneCell'=true:=by
 intro u hu;simp at hu;obtain rfl|rfl|rfl:=hu<;>rfl
def TJ(z:Zt)(r:jO)(Y:Int)(tx:ByteArray)(w:fA)(h:n9 w z r)(hn:r.kA.length<=1000000):
 gb gg 91 #[π (μ ⟨z.R,0,ν⟩),.agg #[ι κ r.id,ι κ Y,.string tx]] w λe w'=>e=ρ (τ #[])/\jy w w' z {r with kA:=r.kA++ [(r.id,Y,tx.data.toList)] } r.n:=by
  obtain⟨i0,hi,pB,oR,oe⟩:=bu Rx;have ba:=gu w (γ #[ι κ r.id,ι κ Y,.string tx] 106);have U:j2 (w.alloc (γ #[ι κ r.id,ι κ Y,.string tx] 106)) w.heap.size #[ι κ r.id,ι κ Y,.string tx] 106:=j2.new w _ _;obtain⟨W0,pF⟩:=fH (w.alloc (γ #[ι κ r.id,ι κ Y,.string tx] 106));obtain⟨N,hN⟩:=fH (w.heap.size);rw[pF]at ba U;rw[hN]at U;have M:=h.below ba;have c0:=M.c0;have cl:=M.lt;have m0:W0.cell? ⟨N,0,ν⟩=μ (ι κ r.id):=U.cell 0;have ml:=U.lt;have heq:(r.id==r.id)=true:=gZ;have HR:Hid _:=h;have A:Hid _:=M;have HM:Hid _:=U;have S:Hid _:=ba;have IA:Hid _:=pF;have HN:Hid _:=hN;clear h M U ba pF hN;go_in;go_wp2_with fail;rw[IA.out,HN.out];go_quiet(fail);obtain⟨Z,J⟩:=fH (W0.drewN nq);have b1:fP w Z:=by rw[<-J];exact below_drewN S.out nq
  have H:j2 Z N #[ι κ r.id,ι κ Y,.string tx] 106:=by rw[<-J];exact j2.drewN HM.out nq
  rw[J];have X:=HR.out.below b1;have qk:=X.pT;have j0:=X.ib;have e3:=X.c3;have el:=X.lt;have d0:Z.cell? ⟨N,0,ν⟩=μ (ι κ r.id):=H.cell 0;have d1:Z.cell? ⟨N,1,ν⟩=μ (ι κ Y):=H.cell 1;have d2:Z.cell? ⟨N,2,ν⟩=μ (.string tx):=H.cell 2;have dl:=H.lt;have HO:Hid (z.iv.ownBlock≠μ z.R):=λe=>(X.sI _ e).1 rfl;have Dl:Hid _:=b1;have HR1:Hid _:=X;obtain⟨nn,G⟩:=fH (r.kA.length);have E:Hid _:=G;rw[G]at j0 hn;clear J b1 X c0 cl m0 ml A HM S IA G;go_wp2
  go_region_law ((refine nN (by rfl) (.tmp 17) (.tmp 19) 53 (by rfl) 106 i0 (.agg #[ι κ 0,ι κ 0,.string ⟨#[]⟩]) 3 32 underlying53 hi pB oR oe (by rfl) fF z.iv nn (rz r.kA) (by rfl) ((j0.alloc _).drew) _ 1 1 [ι κ r.id,ι κ Y,.string tx] (by rfl) (by rfl) fF (AY _ _ _ _ _ _ rfl) (Ry _ _ _) (by unfold maxLen;omega) fC ?_;intro V kE x1 mQ T kO;have u:=wy qk T HO.out;have f3:=u.frozen 3;have g3:x1.cell? ⟨z.R,3,ν⟩=μ z.iv:=u.cell 3))
  all_goals
   go_wp2_with fail;refine nX rfl rfl ?_;refine⟨rfl,jy.first HR.out rfl Dl.out (λR=> ?_)⟩;have ud:Z.heap.size<=x1.heap.size:=au (by show Z.heap.size<=(Z.alloc _).heap.size;simp) T.size
   have mS:∀k,fD (σ (μ ⟨V,0,ν⟩) (nn+1) kE)=μ k->z.iv.ownBlock=μ k \/Z.heap.size<=k:=by
    intro k Q;have AX:V=k:=by simpa[fD]using Q
    subst AX;obtain hh|hh:=kO;{exact .inl hh};exact .inr (au (by show Z.heap.size<=(Z.alloc _).heap.size;simp) hh)
   have hgR:V≠z.R:=by
    intro e;obtain hh|hh:=mS V rfl;{exact HO.out (by rw[hh,e])};omega
   refine R.own (σ (μ ⟨V,0,ν⟩) (nn+1) kE) (r.kA++ [(r.id,Y,tx.data.toList)]) r.drop (by simpa using ud) T.os T.tape T.output (λk Q h1 h2=> ?_) ?_ ?_ mS;{rw[ax _ _ _ k h1,T.block k (by show k<(Z.alloc _).heap.size;simp;omega) (λe=>h2 e.symm)];exact bk Z _ k Q};{exact u.set 3 _}
   ·rw[TI,aG,E.out];have e4:(⟨tx.data.toList.toArray⟩:ByteArray)=tx:=gZ;rw[e4];refine mQ.keep gZ (λk Q=> ?_);have AX:V=k:=by simpa[fD]using Q
    exact ax _ _ _ k (by show k≠z.R;omega)
def yq {p q s t:Addr} {a b c d:fB} (h:w.cell? p=μ a/\w.cell? q=μ b/\w.cell? s=μ c/\w.cell? t=μ d):(w.alloc o).cell? p=μ a/\(w.alloc o).cell? q=μ b/\(w.alloc o).cell? s=μ c/\(w.alloc o).cell? t=μ d:=⟨oq h.1,oq h.2.1,oq h.2.2.1,oq h.2.2.2⟩
def aeG {t hp:Int} (h:onP r t hp=μ j):j<r.n/\1<=hp:=by
 unfold onP at h;split at h;{rename_i Y;cases Z:ye (n8 r) t with|none=>rw[Z]at h;cases h|some x=>rw[Z]at h;exact⟨(oT h).1,Y⟩};cases h
def TK(z:Zt)(r:jO)(t Z:Int)(tx:ByteArray)(w:fA)(h:n9 w z r)(J:ZJ r.K)(kf:t≠r.id)(ht:0<=t/\t<=255)(hh:0<=Z/\Z<=255)(Jx:tx.size<=900)(hd:0<=r.drop/\r.drop<=4000000000000000000)(uL:∀j<r.n,(r.P j).out.length<=800000000):
 gb gg 91 #[π (μ ⟨z.R,0,ν⟩),.agg #[ι κ t,ι κ Z,.string tx]] w λe w'=>e=ρ (τ #[])/\jy w w' z (r.send (t,Z,tx.data.toList)) r.n:=by
  have hS:Hid (r.send (t,Z,tx.data.toList)=match onP r t Z with|none=>{r with drop:=r.drop+1} |some i=>r.jW i ((r.P i).put 77 (kI t::kI (Z-1)::tx.data.toList))):=by
   show _=_;unfold jO.send;rw[af kf];rfl
  have ba:=gu w (γ #[ι κ t,ι κ Z,.string tx] 106);have hM:j2 (w.alloc (γ #[ι κ t,ι κ Z,.string tx] 106)) w.heap.size #[ι κ t,ι κ Z,.string tx] 106:=j2.new w _ _;obtain⟨W0,pF⟩:=fH (w.alloc (γ #[ι κ t,ι κ Z,.string tx] 106));obtain⟨N,hN⟩:=fH (w.heap.size);rw[pF]at ba hM;rw[hN]at hM;have R0:=h.below ba;have c0:=R0.c0;have cl:=R0.lt;have m0:W0.cell? ⟨N,0,ν⟩=μ (ι κ t):=hM.cell 0;have ml:=hM.lt;have heq:(t==r.id)=false:=by simp[kf]
  have A:Hid _:=h;have HM:Hid _:=hM;have HBa:Hid _:=ba;have IA:Hid _:=pF;have HN:Hid _:=hN;clear h R0 hM ba pF hN kf;go_in;go_wp2_with fail;rw[IA.out,HN.out];go_quiet(fail);obtain⟨M,lK⟩:=fH (W0.drewN nq);have b1:fP w M:=by rw[<-lK];exact below_drewN HBa.out nq
  have tC:j2 M N #[ι κ t,ι κ Z,.string tx] 106:=by rw[<-lK];exact j2.drewN HM.out nq
  rw[lK];have d0:M.cell? ⟨N,0,ν⟩=μ (ι κ t):=tC.cell 0;have d1:M.cell? ⟨N,1,ν⟩=μ (ι κ Z):=tC.cell 1;have d2:M.cell? ⟨N,2,ν⟩=μ (.string tx):=tC.cell 2;have dl:=tC.lt;have H:=PN z r t Z tx M (A.out.below b1) J;have HM1:Hid _:=tC;have Dl:Hid _:=b1;clear lK c0 cl m0 ml HM HBa IA tC b1;cases ho:onP r t Z with
  |none=>
   have H:gb gg 153 #[π (μ ⟨z.R,0,ν⟩),.agg #[ι κ t,ι κ Z,.string tx]] M λe w'=>e=ρ (τ #[ι κ 0,.bool false])/\fP M w':=by
    rw[ho]at H;exact H
   rw[ho]at hS;go_wp2_with fail;refine H.mono ?_;rintro e Y ⟨rfl,b2⟩;have bb:=fQ Dl.out b2;have U:=A.out.below bb;have qk:=U.pT;have e4:=U.c4;have f4:=qk.frozen 4;have el:=U.lt;have hsI:Hid (z.iv.ownBlock≠μ z.R):=λe=>(U.sI _ e).1 rfl;have Dw:=U.ib;have HBB:Hid _:=bb;have PE:=hd.1;have hd1:=hd.2;have ZE:κ.wrap (r.drop+1)=r.drop+1:=bg _ ⟨fC,fC⟩;clear H U b2 bb hd;go_wp2_with fail;refine nX rfl rfl ?_;refine⟨rfl,?_⟩;rw[hS.out];refine jy.first A.out rfl HBB.out (λR=> ?_);refine R.own z.iv r.kA (r.drop+1) gZ rfl rfl rfl (λk _ h1 _=>ax _ _ _ k h1) (qk.set 4 _) ?_ (λk hk=>.inl hk);exact Dw.keep gZ (λk hk=>ax _ _ _ k (by show k≠z.R;intro e;exact hsI.out (by rw[hk,e])))
  |some j=>
   have H:gb gg 153 #[π (μ ⟨z.R,0,ν⟩),.agg #[ι κ t,ι κ Z,.string tx]] M λe w'=>e=ρ (τ #[ι κ (j:Int),.bool true])/\fP M w':=by
    rw[ho]at H;exact H
   rw[ho]at hS;obtain⟨Ke,D8⟩:=aeG ho;have LJ:(j:Int)<(r.n:Int):=fC;have Aj:(0:Int)<=(j:Int):=fC;go_wp2_with fail;refine H.mono ?_;rintro e Y ⟨rfl,b2⟩;have bb:=fQ Dl.out b2;have vZ:=j2.below HM1.out b2;have U:=A.out.below (fQ bb (j4 Y));have F0:Y.drew.cell? ⟨z.R,1,ν⟩=μ (σ (μ ⟨z.g,0,ν⟩) r.n z.cap)/\Y.drew.cell? ⟨N,0,ν⟩=μ (ι κ t)/\Y.drew.cell? ⟨N,1,ν⟩=μ (ι κ Z)/\Y.drew.cell? ⟨N,2,ν⟩=μ (.string tx):=⟨U.c1,vZ.cell 0,vZ.cell 1,vZ.cell 2⟩
   have hlen:¬(9223372036854775807<2+tx.size):=fC;have hw8:ic.wrap t=t:=jc _ ⟨fC,fC⟩;have hwm:κ.wrap (Z-1)=Z-1:=bg _ ⟨fC,fC⟩;have hw9:ic.wrap (Z-1)=Z-1:=jc _ ⟨fC,fC⟩;have x5:(convert 140 9 (σ (μ ⟨Y.heap.size,0,ν⟩) 2 2)).run gg (Y.alloc (γ #[.int .u8 t,.int .u8 (Z-1)] 5)).drew=.ok (.string ⟨#[u8 t,u8 (Z-1)]⟩) (Y.alloc (γ #[.int .u8 t,.int .u8 (Z-1)] 5)).drew:=acI Y.drew t (Z-1) ht.1 ht.2 fC fC;have b3:fP w (Y.alloc (γ #[.int .u8 t,.int .u8 (Z-1)] 5)).drew:=kN (fQ bb (gu _ _));obtain⟨E,Lw⟩:∃E:ByteArray,(⟨#[u8 t,u8 (Z-1)]⟩++tx)=E:=⟨_,rfl⟩
   have u:E.data.toList=u8 t::u8 (Z-1)::tx.data.toList:=by
    rw[<-Lw];simp
   have ah1:E.size<=1000:=by
    have e:E.size=E.data.toList.length:=gZ;have e2:tx.data.toList.length=tx.size:=gZ;rw[e,u];simp only[List.length_cons,e2];omega
   have qb:gb gg 150 #[π (μ ⟨z.g,j*71,ν⟩),.string ⟨#[77]⟩,.string E] (Y.alloc (γ #[.int .u8 t,.int .u8 (Z-1)] 5)).drew λe w'=>e=ρ (τ #[])/\jy w w' z (r.send (t,Z,tx.data.toList)) r.n/\(w'.cell? ⟨z.R,1,ν⟩=μ (σ (μ ⟨z.g,0,ν⟩) r.n z.cap)/\w'.cell? ⟨N,0,ν⟩=μ (ι κ t)/\w'.cell? ⟨N,1,ν⟩=μ (ι κ Z)/\w'.cell? ⟨N,2,ν⟩=μ (.string tx)):=by
    have R3:=A.out.below b3;have G:(Y.alloc (γ #[.int .u8 t,.int .u8 (Z-1)] 5)).drew.cell? ⟨z.R,1,ν⟩=μ (σ (μ ⟨z.g,0,ν⟩) r.n z.cap)/\(Y.alloc (γ #[.int .u8 t,.int .u8 (Z-1)] 5)).drew.cell? ⟨N,0,ν⟩=μ (ι κ t)/\(Y.alloc (γ #[.int .u8 t,.int .u8 (Z-1)] 5)).drew.cell? ⟨N,1,ν⟩=μ (ι κ Z)/\(Y.alloc (γ #[.int .u8 t,.int .u8 (Z-1)] 5)).drew.cell? ⟨N,2,ν⟩=μ (.string tx):=yq (o:=.cells #[.int .u8 t,.int .u8 (Z-1)] 5) F0;generalize (Y.alloc (γ #[.int .u8 t,.int .u8 (Z-1)] 5)).drew=W3 at b3 R3 G⊢;have hpj:=uL j Ke;refine(EH z.g (j*71) (z.B j) (z.v j) (r.P j) ⟨#[77]⟩ E 77 W3 (R3.pt j Ke) rfl ah1 fC).mono ?_;rintro e w6 ⟨rfl,Oa⟩;have hE:r.send (t,Z,tx.data.toList)=r.jW j ((r.P j).put 77 E.data.toList):=by
     rw[hS.out,u];rfl
    have Q:=R3.port Ke Oa;rw[hE];have QP:¬z.mine r.n N:=by rw[<-HN.out];exact A.out.wA (aj _)
    exact⟨rfl,jy.first A.out rfl b3 (λ_=>Q),Q.c1,Q.cell R3 (p:=⟨N,0,ν⟩) QP G.2.1,Q.cell R3 (p:=⟨N,1,ν⟩) QP G.2.2.1,Q.cell R3 (p:=⟨N,2,ν⟩) QP G.2.2.2⟩
   have el:=U.lt;have eg:=U.Lz;obtain⟨T,hT⟩:∃T:fA->Prop,(λx=>jy w x z (r.send (t,Z,tx.data.toList)) r.n)=T:=⟨_,rfl⟩
   have MQ:∀x,jy w x z (r.send (t,Z,tx.data.toList)) r.n=T x:=λx=>cN hT x;simp only[MQ]at qb;have HT:Hid _:=MQ;clear H vZ b2 hT MQ U b3 u ah1 bb;go_wp2_with fail;refine cR (S:=λx=>x.cell? ⟨z.R,1,ν⟩=μ (σ (μ ⟨z.g,0,ν⟩) r.n z.cap)/\x.cell? ⟨N,0,ν⟩=μ (ι κ t)/\x.cell? ⟨N,1,ν⟩=μ (ι κ Z)/\x.cell? ⟨N,2,ν⟩=μ (.string tx)) iV F0 (λhHeld=> ?_);refine mU 0 (μ 38) (v:= ?_) ?_ j9 ?_
   rotate_left
   ·intro V X
    go_simp
    try with_reducible rfl
   go_frame
   refine mU 1 (μ 39) (v:= ?_) ?_ j9 ?_
   rotate_left
   ·intro V X
    go_simp
    try with_reducible rfl
   go_frame
   refine mU 2 (μ 40) (v:= ?_) ?_ j9 ?_
   rotate_left
   ·intro V X
    go_simp
    try with_reducible rfl
   go_frame
   refine mU 3 (μ 41) (v:= ?_) ?_ j9 ?_
   rotate_left
   ·intro V X
    go_simp
    try with_reducible rfl
   go_frame
   refine mU 4 (μ 42) (v:= ?_) ?_ j9 ?_
   rotate_left
   ·intro V X
    go_simp
    try with_reducible rfl
   go_frame
   refine mU 5 (μ 43) (v:= ?_) ?_ j9 ?_
   rotate_left
   ·intro V X
    go_simp
    try with_reducible rfl
   go_frame
   refine mU 6 (μ 44) (v:= ?_) ?_ j9 ?_
   rotate_left
   ·intro V X
    go_simp
    try with_reducible rfl
   go_frame
   refine mU 7 (μ 45) (v:= ?_) ?_ j9 ?_
   rotate_left
   ·intro V X
    go_simp
    try with_reducible rfl
   go_frame
   refine mU 8 (μ 46) (v:= ?_) ?_ j9 ?_
   rotate_left
   ·intro V X
    go_simp
    try with_reducible rfl
   go_frame
   refine mU 9 (μ 47) (v:= ?_) ?_ j9 ?_
   rotate_left
   ·intro V X
    go_simp
    try with_reducible rfl
   go_frame
   refine mU 10 (μ 48) (v:= ?_) ?_ j9 ?_
   rotate_left
   ·intro V X
    go_simp
    try with_reducible rfl
   go_frame
   refine mU 11 (μ 49) (v:= ?_) ?_ j9 ?_
   rotate_left
   ·intro V X
    go_simp
    try with_reducible rfl
   go_frame
   refine mU 12 (μ 50) (v:= ?_) ?_ j9 ?_
   rotate_left
   ·intro V X
    go_simp
    try with_reducible rfl
   go_frame
   refine mU 15 (μ 53) (v:= ?_) ?_ j9 ?_
   rotate_left
   ·intro V X
    go_simp
    try with_reducible rfl
   go_frame
   refine mU 16 (μ 54) (v:= ?_) ?_ j9 ?_
   rotate_left
   ·intro V X
    go_simp
    try with_reducible rfl
   go_frame
   refine a8 (rs:=[13]) iV gZ ?_;refine aP (o:=_) rfl (λK J=> ?_) aX
   go_simp
   refine J.out _ _ ?_ (λhHeld=> ?_);{exact yq F0};clear J K;refine a8 (rs:=[14]) iV gZ ?_;refine aP (o:=_) rfl (λK J=> ?_) aX
   go_simp
   refine J.out _ _ ?_ (λhHeld=> ?_);{exact yq F0};clear J K;refine mU 17 (μ 55) (v:= ?_) ?_ j9 ?_
   rotate_left
   ·intro V X
    go_simp
    try with_reducible rfl
   go_frame
   refine a8 (rs:=[18]) iV gZ ?_;refine aP (o:=_) rfl (λK J=> ?_) aX
   go_simp
   refine qb.mono ?_;rintro e w5 ⟨rfl,N8,F5⟩
   (try go_wp2_with fail)
   refine J.out _ _ ?_ (λhHeld=> ?_);{exact F5};clear J K;refine dk iV ?_ _
   all_goals
    clear qb F0 F5;go_wp2_with fail
    go_end0
    exact⟨rfl,by rw[HT.out];exact N8⟩
def Jy(p:kB)(c:UInt8)(s:List UInt8):(p.put c s).m=p.m:=by
 unfold kB.put;split;{rfl};split<;>rfl
def aeJ(p:kB)(q:mH):(yh p q).m=p.m/\(yh p q).pe=p.pe:=by
 unfold yh;split;{exact⟨Jy _ _ _,tX _ _ _⟩};exact⟨rfl,rfl⟩
def yr:∀(l:List mH) (p:kB),(p.say l).m=p.m/\(p.say l).pe=p.pe
 |[],_=>⟨rfl,rfl⟩
 |x::l,p=>by
  have h:=yr l (yh p x);have Z:=aeJ p x;exact⟨h.1.trans Z.1,h.2.trans Z.2⟩
def wC(p:kB)(s:List UInt8):(p.packet s).m=p.m/\(p.packet s).pe=p.pe:=by
 unfold kB.packet;simp only;split;{exact yr _ _};exact⟨rfl,rfl⟩
def Gl(p:kB)(s:List UInt8):(p.packet s).out.length<=p.out.length+5040:=by
 unfold kB.packet;simp only;split;{have h1:=Jm p.L ((j3 s).1,(j3 s).2.1,(j3 s).2.2.1);have h2:=Bk (kV p.L ((j3 s).1,(j3 s).2.1,(j3 s).2.2.1)).2.1 {p with L:=(kV p.L ((j3 s).1,(j3 s).2.1,(j3 s).2.2.1)).1};have h3:({p with L:=(kV p.L ((j3 s).1,(j3 s).2.1,(j3 s).2.2.1)).1}:kB).out.length=p.out.length:=rfl;omega};omega
structure Fit(r:jO)(k:Nat):Prop where
 kA:r.kA.length<=k
 drop:0<=r.drop/\r.drop<=k+1000000000000000
 out:∀j<r.n,(r.P j).out.length<=6000*k
def Fit.mono(h:Fit r k)(hl:k<=l):Fit r l:=⟨by have:=h.kA;omega,by have:=h.drop;omega,λj Z=>by have:=h.out j Z;omega⟩
def Fit.jW {r:jO} {k:Nat} (h:Fit r k)(i:Nat)(p:kB)(Y:i<r.n->p.out.length<=6000*k):Fit (r.jW i p) k:=⟨h.kA,h.drop,λj Z=>by
 show(m8 r.P i p j).out.length<=_;by_cases e:j=i;{subst e;rw[kJ];exact Y Z}
 ·rw[kC _ _ e];exact h.out j Z⟩
def Fit.grow(h:Fit r k)(i:Nat)(p:kB)(hp:p.out.length<=(r.P i).out.length+6000):Fit (r.jW i p) (k+1):=(h.mono (bK k)).jW i p (λhi=>by have:=h.out i hi;omega)
def Fit.congr(h:Fit r k)(Z:r'.kA=r.kA)(Y:r'.drop=r.drop)(X:r'.n=r.n)(V:r'.P=r.P):Fit r' k:=⟨by rw[Z];exact h.kA,by rw[Y];exact h.drop,λj U=>by rw[V];exact h.out j (by rw[<-X];exact U)⟩
def qy(r:jO)(s:Int):(r.behind s).kA=r.kA/\(r.behind s).drop=r.drop/\(r.behind s).n=r.n/\(r.behind s).P=r.P:=by
 unfold jO.behind;split<;>exact⟨rfl,rfl,rfl,rfl⟩
def yt(r:jO):r.change.kA=r.kA/\r.change.drop=r.drop/\r.change.n=r.n/\r.change.P=r.P:=by
 unfold jO.change;split;{exact⟨rfl,rfl,rfl,rfl⟩};exact qy _ _
def oI(r:jO)(i:Nat)(q:mX):(r.meet i q).kA=r.kA/\(r.meet i q).drop=r.drop/\(r.meet i q).n=r.n/\(r.meet i q).P=m8 r.P i {r.P i with pe:=q}:=by
 unfold jO.meet;simp only;split;{exact⟨rfl,rfl,rfl,rfl⟩};split;{obtain⟨Z,Y,X,V⟩:=yt ({r.jW i {r.P i with pe:=q}with O:=λx=>if x=i then λ_=>ν else(r.jW i {r.P i with pe:=q}).O x}:jO);exact⟨Z,Y,X,V⟩};obtain⟨Z,Y,X,V⟩:=yt ({r.jW i {r.P i with pe:=q}with O:=λx=>if x=i then λ_=>ν else(r.jW i {r.P i with pe:=q}).O x}:jO);exact⟨Z,Y,X,V⟩
def Fit.meet {r:jO} {k:Nat} (h:Fit r k)(i:Nat)(q:mX):Fit (r.meet i q) k:=by
 obtain⟨Z,Y,X,V⟩:=oI r i q;exact Fit.congr (h.jW i {r.P i with pe:=q} (λhi=>h.out i hi)) Z Y X V
def Fit.behind {r:jO} {k:Nat} (h:Fit r k)(s:Int):Fit (r.behind s) k:=by
 obtain⟨Z,Y,X,V⟩:=qy r s;exact h.congr Z Y X V
def aeK(r:jO)(t:wK):(r.send t).n=r.n/\(r.send t).id=r.id:=by
 unfold jO.send;split;{exact⟨rfl,rfl⟩};split<;>exact⟨rfl,rfl⟩
def Fit.send {r:jO} {k:Nat} (h:Fit r k)(t:wK):Fit (r.send t) (k+1):=by
 unfold jO.send;split;{exact⟨by have:=h.kA;simp;omega,by have:=h.drop;simp;omega,λj Z=>by have:=h.out j Z;simp;omega⟩};split;{exact⟨by have:=h.kA;simp;omega,by have:=h.drop;simp;omega,λj Z=>by have:=h.out j Z;simp;omega⟩};rename_i b _;exact h.grow b _ (au (yZ (r.P b) 77 (kI t.1::kI (t.2.1-1)::t.2.2)) fC)
def Fit.state(h:Fit r k)(i:Nat)(l:List UInt8):Fit (kj r i l) (k+1):=by
 unfold kj;simp only;split;{exact h.mono (bK k)};split;{exact(h.behind _).mono (bK k)};have Z:Fit ({r with K:=np r.K (St.ig l).1 (St.ig l).2.1 (St.ig l).2.2.1,O:=qL r.K r.O i (St.ig l).1 (St.ig l).2.1 (St.ig l).2.2.1}:jO) k:=h.congr rfl rfl rfl rfl;split;{exact Z.grow i _ (au (yZ (r.P i) 65 (tI (St.ig l).1 (St.ig l).2.1 (St.ig l).2.2.1)) (by show(r.P i).out.length+126<=(r.P i).out.length+6000;omega))};exact Z.mono (bK k)
def aa2(r:jO)(i:Nat)(l:List UInt8):(kj r i l).n=r.n/\(kj r i l).id=r.id:=by
 unfold kj;simp only;split;{exact⟨rfl,rfl⟩};split;{exact⟨Xw _ _,CA _ _⟩};split<;>exact⟨rfl,rfl⟩
def nh.send {r:jO} (h:nh r)(t:wK):nh (r.send t):=by
 unfold jO.send;split;{exact⟨h.id,h.m,h.pe,h.own,h.Tt⟩};split;{exact⟨h.id,h.m,h.pe,h.own,h.Tt⟩};exact h.jW _ _ (Jy _ _ _) (λhi=>by rw[tX];exact h.pe _ hi)
def nh.state(h:nh r)(i:Nat)(l:List UInt8):nh (kj r i l):=by
 unfold kj;simp only;split;{exact h};rename_i hc
 have hf:(St.ig l).2.2.2=0:=by
  by_cases e:(St.ig l).2.2.2=0;{exact e};exact absurd (.inl e) hc
 have Y:qq (St.ig l).1 (St.ig l).2.1 (St.ig l).2.2.1=0:=rK (l:=l) (by rw[<-hf]);split;{exact h.behind (by have:=(kD Y).2.1;omega)};rename_i X
 have Z:nh {r with K:=np r.K (St.ig l).1 (St.ig l).2.1 (St.ig l).2.2.1,O:=qL r.K r.O i (St.ig l).1 (St.ig l).2.1 (St.ig l).2.2.1}:=by
  refine⟨h.id,h.m,h.pe,?_,?_⟩;{show∃q,np r.K _ _ _ r.id=μ q/\_;unfold np;split;{rename_i V;have U:r.id≠(St.ig l).1:=λe=>X ⟨e.symm,V⟩;unfold xY;rw[af U];exact h.own};exact h.own};show ZJ (np r.K _ _ _);unfold np;split;{exact h.Tt.vN (kD Y).1 _};exact h.Tt
 split;{exact Z.jW _ _ (Jy _ _ _) (λhi=>by rw[tX];exact h.pe _ hi)};exact Z
def Gm(z:Zt)(r:jO)(k:Nat)(t Z:Int)(tx:ByteArray)(w:fA)(h:n9 w z r)(U:nh r)(hf:Fit r k)(hk:k<=100000)(V:0<=t/\t<=255)(hh:0<=Z/\Z<=255)(Y:tx.size<=900):
 gb gg 91 #[π (μ ⟨z.R,0,ν⟩),.agg #[ι κ t,ι κ Z,.string tx]] w λe w'=>e=ρ (τ #[])/\jy w w' z (r.send (t,Z,tx.data.toList)) r.n:=by
  by_cases e:t=r.id;{subst e;refine(TJ z r Z tx w h (by have:=hf.kA;omega)).mono ?_;rintro e w1 ⟨rfl,hw⟩;refine⟨rfl,?_⟩;unfold jO.send;rw[ag rfl];exact hw};exact TK z r t Z tx w h U.Tt e V hh Y (by have:=hf.drop;omega) (λj X=>by have:=hf.out j X;omega)
def sT(r:jO)(l:List UInt8):jO:=if 2<=l.length/\l.length<=22 then r.send (((l.getD 0 0).toNat:Int),((l.getD 1 0).toNat:Int),l.drop 2)else r
def Ep(s:ByteArray)(z:Zt)(r:jO)(k:Nat)(w:fA)(h:n9 w z r)(Z:nh r)(hf:Fit r k)(G:k<=100000)(hs:s.size<=1000):
 gb gg 137 #[π (μ ⟨z.R,0,ν⟩),.string s] w λe w'=>e=ρ (τ #[])/\jy w w' z (sT r s.data.toList) r.n:=by
  have hl:s.data.toList.length=s.size:=gZ;by_cases h2:2<=s.size
  ·by_cases h22:s.size<=22
   ·have M:0<s.size:=fC;have b1:1<s.size:=fC;have g1:(2:Int)<=(s.size:Int):=fC;have J:(s.size:Int)<=22:=fC
    have U:∀W,fP w W->gb gg 91 #[π (μ ⟨z.R,0,ν⟩),.agg #[ι κ (s[0].toNat:Int),ι κ (s[1].toNat:Int),.string (s.extract 2 s.size)]] W λe w'=>e=ρ (τ #[])/\jy w w' z (sT r s.data.toList) r.n:=by
     intro W Q;have l0:=s[0].toNat_lt;have l1:=s[1].toNat_lt;refine(Gm z r k (s[0].toNat:Int) (s[1].toNat:Int) (s.extract 2 s.size) W (h.below Q) Z hf G fC fC (by simp;omega)).mono ?_;rintro e w1 ⟨rfl,hw⟩;refine⟨rfl,jy.first h rfl Q (λ_=> ?_)⟩
     have H:sT r s.data.toList=r.send ((s[0].toNat:Int),(s[1].toNat:Int),(s.extract 2 s.size).data.toList):=by
      unfold sT;rw[ag ⟨fC,fC⟩,pM s 0 M,pM s 1 b1];rw[x6,aR fC]
     rw[H];exact hw
    have Y:=U _ (j4 w);have si:κ.wrap (s[0].toNat:Int)=(s[0].toNat:Int):=bg _ ⟨by have:=s[0].toNat_lt;omega,by have:=s[0].toNat_lt;omega⟩;have oC:κ.wrap (s[1].toNat:Int)=(s[1].toNat:Int):=bg _ ⟨by have:=s[1].toNat_lt;omega,by have:=s[1].toNat_lt;omega⟩;clear U hf Z h;obtain⟨T,S⟩:∃T:fA->Prop,(λx=>jy w x z (sT r s.data.toList) r.n)=T:=⟨_,rfl⟩
    have V:∀x,jy w x z (sT r s.data.toList) r.n=T x:=λx=>cN S x;simp only[V]at Y⊢;clear S V;go_in;go_wp2
    go_region_held3(λ_=>True)
     (first|trivial)
     (first
      |(go_at_call 91;refine Y.mono ?_;rintro e w1 ⟨rfl,hw⟩))
    all_goals(clear Y;go_wp2_with fail;go_end0;exact⟨rfl,hw⟩)
   have g1:(2:Int)<=(s.size:Int):=fC;have J:¬(s.size:Int)<=22:=fC
   have X:Hid (jy w w z (sT r s.data.toList) r.n):=by
    show jy _ _ _ _ _;unfold sT;rw[af fC];exact jy.refl h
   clear h Z hf;go_in;go_wp2_with fail;go_end0;exact⟨rfl,X.out⟩
  have g1:¬(2:Int)<=(s.size:Int):=fC
  have X:Hid (jy w w z (sT r s.data.toList) r.n):=by
   show jy _ _ _ _ _;unfold sT;rw[af fC];exact jy.refl h
  clear h Z hf;go_in;go_wp2_with fail;go_end0;exact⟨rfl,X.out⟩
def lE(r:jO)(i:Nat)(c:UInt8)(s:List UInt8):jO:=if c=76 then r.jW i ((r.P i).packet s)else r
def nL(r1:jO)(i:Nat)(c:UInt8)(s:List UInt8):jO:=
 if c=72 then(if(mr s).2.2=0 then r1.meet i (kg r1.id (mr s).1 (mr s).2.1)else r1)
 else if c=83 then kj r1 i s
 else if c=65 then lV r1 i s
 else if c=77 then sT r1 s
 else r1
def mZ(r:jO)(i:Nat)(c:UInt8)(s:List UInt8):r.take i c s=if((lE r i c s).P i).L.st≠9 then(lE r i c s).meet i nobody else nL (lE r i c s) i c s:=rfl
def XJ(T s:ByteArray)(c:UInt8)(z:Zt)(r:jO)(i k:Nat)(w:fA)(h:n9 w z r)(hT:T=⟨#[c]⟩)(Gn:kd w)(jR:nh r)(hf:Fit r k)(hk:k<=99999)(hi:i<r.n)(hs:s.size<=1000):
 gb gg 79 #[π (μ ⟨z.R,0,ν⟩),ι κ (i:Int),.string T,.string s] w λe w'=>e=ρ (τ #[])/\jy w w' z (r.take i c s.data.toList) r.n:=by
  have mR:(i:Int)<(r.n:Int):=fC;have KB:(0:Int)<=(i:Int):=fC;have c1:=h.c1;have cl:=h.lt;have gl:=h.Lz;have HEq:=mZ r i c s.data.toList;obtain⟨r1,mQ⟩:=fH (lE r i c s.data.toList);rw[mQ]at HEq;have oA:r1.n=r.n:=by rw[<-mQ];unfold lE;split<;>rfl
  have mI:nh r1:=by
   rw[<-mQ];unfold lE;split;{exact jR.jW i _ (wC _ _).1 (λhi=>by rw[(wC _ _).2];exact jR.pe i hi)};exact jR
  have Vu:Fit r1 (k+1):=by
   rw[<-mQ];unfold lE;split;{exact hf.grow i _ (au (Gl _ _) fC)};exact hf.mono (bK k)
  have xu:i<r1.n:=by rw[oA];exact hi
  have hop:Hid (∀W,jy w W z r1 r.n->gb gg 83 #[π (μ ⟨z.g,i*71,ν⟩)] W λe w'=>e=ρ (.bool ((r1.P i).L.st==9))/\W=w'):=by
   intro W S;obtain⟨v,hv⟩:=S.pt xu;exact Ah z.g (i*71) (z.B i) v (r1.P i) W hv
  have qV:Hid (c=76->gb gg 133 #[π (μ ⟨z.g,i*71,ν⟩),.string s] w λe w'=>e=ρ (τ #[])/\jy w w' z r1 r.n):=by
   intro e;refine(MI s z.g (i*71) (z.B i) (z.v i) (r.P i) w (h.pt i hi) Gn hs (by have:=hf.out i hi;omega)).mono ?_;rintro e1 w1 ⟨rfl,hw⟩;refine⟨rfl,?_⟩;rw[<-mQ];unfold lE;rw[ag e];exact h.port hi hw
  have TL:Hid (c≠76->jy w w z r1 r.n):=by
   intro e;rw[<-mQ];unfold lE;rw[af e];exact jy.refl h
  have V:Hid ((r1.P i).L.st≠9->∀W,jy w W z r1 r.n->gb gg 74 #[π (μ ⟨z.R,0,ν⟩),ι κ (i:Int),.agg #[ι κ 0,.bool false,ι κ 0]] W λe w'=>e=ρ (τ #[])/\jy w w' z (r.take i c s.data.toList) r.n):=by
   intro e W S;rw[HEq,ag e];refine S.call λz1 R1 hl=> ?_;rw[<-hl.R,<-oA];exact ym z1 r1 i nobody W R1 mI xu (qe.nobody mI.id.1)
  have G:Hid ((r1.P i).L.st=9->c=72->∀W,jy w W z r1 r.n->gb gg 134 #[π (μ ⟨z.R,0,ν⟩),ι κ (i:Int),.string s] W λe w'=>e=ρ (τ #[])/\jy w w' z (r.take i c s.data.toList) r.n):=by
   intro e X W S;rw[HEq,af (by simp[e])];unfold nL;rw[ag X];refine S.call λz1 R1 hl=> ?_;rw[<-hl.R,<-oA];exact Iz s z1 r1 i W R1 mI xu
  have A:Hid ((r1.P i).L.st=9->c=83->∀W,jy w W z r1 r.n->gb gg 135 #[π (μ ⟨z.R,0,ν⟩),ι κ (i:Int),.string s] W λe w'=>e=ρ (τ #[])/\jy w w' z (r.take i c s.data.toList) r.n):=by
   intro e X W S;rw[HEq,af (by simp[e])];unfold nL;rw[af (by rw[X];decide),ag X];refine S.call λz1 R1 hl=> ?_;rw[<-hl.R,<-oA];exact Iy s z1 r1 i W R1 mI xu hs (by have:=Vu.out i xu;omega)
  have E:Hid ((r1.P i).L.st=9->c=65->∀W,jy w W z r1 r.n->gb gg 136 #[π (μ ⟨z.R,0,ν⟩),ι κ (i:Int),.string s] W λe w'=>e=ρ (τ #[])/\jy w w' z (r.take i c s.data.toList) r.n):=by
   intro e X W S;rw[HEq,af (by simp[e])];unfold nL;rw[af (by rw[X];decide),af (by rw[X];decide),ag X];refine S.call λz1 R1 hl=> ?_;rw[<-hl.R,<-oA];exact Ix s z1 r1 i W R1 xu hs
  have H:Hid ((r1.P i).L.st=9->c=77->∀W,jy w W z r1 r.n->gb gg 137 #[π (μ ⟨z.R,0,ν⟩),.string s] W λe w'=>e=ρ (τ #[])/\jy w w' z (r.take i c s.data.toList) r.n):=by
   intro e X W S;rw[HEq,af (by simp[e])];unfold nL;rw[af (by rw[X];decide),af (by rw[X];decide),af (by rw[X];decide),ag X];refine S.call λz1 R1 hl=> ?_;rw[<-hl.R,<-oA];exact Ep s z1 r1 (k+1) W R1 mI Vu fC hs
  have M:Hid ((r1.P i).L.st=9->c≠72->c≠83->c≠65->c≠77->∀W,jy w W z r1 r.n->jy w W z (r.take i c s.data.toList) r.n):=by
   intro e e1 X e3 e4 W S;rw[HEq,af (by simp[e])];unfold nL;rw[af e1,af X,af e3,af e4];exact S
  have HT:Hid _:=hT;generalize (r1.P i).L.st=st at hop V G A E H M;obtain⟨Q,hQ⟩:∃Q:fA->Prop,(λx=>jy w x z (r.take i c s.data.toList) r.n)=Q:=⟨_,rfl⟩
  have hQ':∀x,jy w x z (r.take i c s.data.toList) r.n=Q x:=λx=>cN hQ x;simp only[hQ']at V G A E H M⊢;obtain⟨Q1,hQ1⟩:∃Q:fA->Prop,(λx=>jy w x z r1 r.n)=Q:=⟨_,rfl⟩
  have ah3:∀x,jy w x z r1 r.n=Q1 x:=λx=>cN hQ1 x;simp only[ah3]at hop qV TL V G A E H M;clear h jR hf mI Vu xu oA mQ HEq hQ hQ' hQ1 ah3 Gn;go_in;cases J:(c==76)with
  |true=>
   have xR:=qV.out (by simpa using J);go_wp2_with fail;refine xR.mono ?_;rintro e W3 ⟨rfl,u⟩;clear xR;have A1:=hop.out _ u;go_wp2_with fail;refine A1.mono ?_;rintro e W4 ⟨rfl,rfl⟩;clear A1;cases q9:(st==9)with
   |false=>
    have Z:=V.out (by simpa using q9) _ u;clear V G A E H M qV TL hop;go_wp2_with fail;refine Z.mono ?_;rintro e W5 ⟨rfl,Y⟩;clear Z;go_wp2_with fail;refine nX rfl rfl ?_;exact⟨rfl,Y⟩
   |true=>
    have U:st=9:=by simpa using q9
    have q72:(c==72)=false:=by rw[show c=76 by simpa using J];rfl
    have q83:(c==83)=false:=by rw[show c=76 by simpa using J];rfl
    have q65:(c==65)=false:=by rw[show c=76 by simpa using J];rfl
    have q77:(c==77)=false:=by rw[show c=76 by simpa using J];rfl
    have Y:=M.out U (by simpa using q72) (by simpa using q83) (by simpa using q65) (by simpa using q77) _ u;clear V G A E H M qV TL hop U;go_wp2_with fail
    go_end0
    exact⟨rfl,Y⟩
  |false=>
   have u:=TL.out (by simpa using J);have A1:=hop.out _ u;go_wp2_with fail;refine A1.mono ?_;rintro e W4 ⟨rfl,rfl⟩;clear A1;cases q9:(st==9)with
   |false=>
    have Z:=V.out (by simpa using q9) _ u;clear V G A E H M qV TL hop;go_wp2_with fail;refine Z.mono ?_;rintro e W5 ⟨rfl,Y⟩;clear Z;go_wp2_with fail;refine nX rfl rfl ?_;exact⟨rfl,Y⟩
   |true=>
    have U:st=9:=by simpa using q9
    cases q72:(c==72)with
    |true=>
     have Z:=G.out U (by simpa using q72) _ u;clear V G A E H M qV TL hop U;go_wp2_with fail;refine Z.mono ?_;rintro e W5 ⟨rfl,Y⟩;clear Z;go_wp2_with fail
     go_end0
     exact⟨rfl,Y⟩
    |false=>
     cases q83:(c==83)with
     |true=>
      have Z:=A.out U (by simpa using q83) _ u;clear V G A E H M qV TL hop U;go_wp2_with fail;refine Z.mono ?_;rintro e W5 ⟨rfl,Y⟩;clear Z;go_wp2_with fail
      go_end0
      exact⟨rfl,Y⟩
     |false=>
      cases q65:(c==65)with
      |true=>
       have Z:=E.out U (by simpa using q65) _ u;clear V G A E H M qV TL hop U;go_wp2_with fail;refine Z.mono ?_;rintro e W5 ⟨rfl,Y⟩;clear Z;go_wp2_with fail
       go_end0
       exact⟨rfl,Y⟩
      |false=>
       cases q77:(c==77)with
       |true=>
        have Z:=H.out U (by simpa using q77) _ u;clear V G A E H M qV TL hop U;go_wp2_with fail;refine Z.mono ?_;rintro e W5 ⟨rfl,Y⟩;clear Z;go_wp2_with fail
        go_end0
        exact⟨rfl,Y⟩
       |false=>
        have Y:=M.out U (by simpa using q72) (by simpa using q83) (by simpa using q65) (by simpa using q77) _ u;clear V G A E H M qV TL hop U;go_wp2_with fail
        go_end0
        exact⟨rfl,Y⟩
def XK(l:List UInt8)(e d:Bool)(h:l.length<=62):(pj l e d).1.length<=62:=by
 unfold pj;split;{simp};split;{simp};split;{simp};split;{simp;omega};simp
def XL(s:l7)(c:UInt8)(h:s.1.length<=62):(uj s c).1.length<=62:=by
 obtain⟨l,e,d⟩:=s;unfold uj;simp only at h⊢;split;{exact h};split;{exact h};split;{exact h};simp;omega
def TM(a:List (List UInt8)×Nat×l7)(c:UInt8)(h:a.2.2.1.length<=62)(Z:∀t∈a.1,t.length<=62):(oh a c).2.2.1.length<=62/\∀t∈(oh a c).1,t.length<=62:=by
 have X:(rU a.2.2.1 a.2.2.2.1 a.2.2.2.2 c).1.length<=62:=by
  unfold rU;split;{simp};exact XL _ c h
 have U:(rV a.2.2.1 a.2.2.2.1 a.2.2.2.2 c).1.length<=62:=by
  unfold rV;split;{exact XK _ _ _ h};simp
 unfold oh;simp only;split;{exact⟨X,Z⟩};split;{refine⟨X,λt V=> ?_⟩;obtain Y|Y:=aA.1 V;{exact Z t Y};rw[az.1 Y];exact U};exact⟨X,Z⟩
def Jz:∀(l:List UInt8) (a:List (List UInt8)×Nat×l7),a.2.2.1.length<=62->(∀t∈a.1,t.length<=62)->∀t∈(l.foldl oh a).1,t.length<=62
 |[],_,_,h2=>h2
 |c::l,a,h1,h2=>by
  have:=TM a c h1 h2;exact Jz l (oh a c) this.1 this.2
def XM(st:l7)(l:List UInt8)(h:st.1.length<=62):∀t∈(l5 st l).1,t.length<=62:=Jz l ([],0,st) h (λt Z=>by simp at Z)
def aa3(r:jO)(i:Nat)(c:UInt8)(s:List UInt8):(lE r i c s).n=r.n/\(lE r i c s).id=r.id:=by
 unfold lE;split<;>exact⟨rfl,rfl⟩
def aa4(r:jO)(i:Nat)(c:UInt8)(s:List UInt8):(nL r i c s).n=r.n/\(nL r i c s).id=r.id:=by
 unfold nL;split;{split;{exact⟨CB _ _ _,EK _ _ _⟩};exact⟨rfl,rfl⟩};split;{exact aa2 _ _ _};split;{unfold lV;simp only;split<;>exact⟨rfl,rfl⟩};split;{unfold sT;split;{exact aeK _ _};exact⟨rfl,rfl⟩};exact⟨rfl,rfl⟩
def PO(r:jO)(i:Nat)(c:UInt8)(s:List UInt8):(r.take i c s).n=r.n/\(r.take i c s).id=r.id:=by
 rw[mZ];have Z:=aa3 r i c s;split;{exact⟨(CB _ _ _).trans Z.1,(EK _ _ _).trans Z.2⟩};have Y:=aa4 (lE r i c s) i c s;exact⟨Y.1.trans Z.1,Y.2.trans Z.2⟩
def nh.link(h:nh r)(i:Nat)(c:UInt8)(s:List UInt8):nh (lE r i c s):=by
 unfold lE;split;{exact h.jW i _ (wC _ _).1 (λhi=>by rw[(wC _ _).2];exact h.pe i hi)};exact h
def Fit.link(h:Fit r k)(i:Nat)(c:UInt8)(s:List UInt8):Fit (lE r i c s) (k+1):=by
 unfold lE;split;{exact h.grow i _ (au (Gl _ _) fC)};exact h.mono (bK k)
def Gp {s:List UInt8} (Z:(mr s).2.2=0):1<=(mr s).1/\(mr s).1<=6:=by
 unfold mr at Z⊢;split at Z;{rename_i hc;rw[ag hc];have:=hc.2;simp only[wu,Bool.and_eq_true,decide_eq_true_eq]at this;simp only;omega};simp at Z
def nh.rest(h:nh r)(i:Nat)(c:UInt8)(s:List UInt8):nh (nL r i c s):=by
 unfold nL;split;{split;{rename_i Z;exact h.meet i (qe.aaO h.id.1 (Gp Z))};exact h};split;{exact h.state i s};split;{unfold lV;simp only;split;{exact h.Ak _};exact h};split;{unfold sT;split;{exact h.send _};exact h};exact h
def Fit.rest(h:Fit r k)(i:Nat)(c:UInt8)(s:List UInt8):Fit (nL r i c s) (k+1):=by
 unfold nL;split;{split;{exact(h.meet i _).mono (bK k)};exact h.mono (bK k)};split;{exact h.state i s};split;{unfold lV;simp only;split;{exact Fit.mono (h.congr rfl rfl rfl rfl) (bK k)};exact h.mono (bK k)};split;{unfold sT;split;{exact h.send _};exact h.mono (bK k)};exact h.mono (bK k)
def nh.take {r:jO} (h:nh r)(i:Nat)(c:UInt8)(s:List UInt8):nh (r.take i c s):=by
 rw[mZ];split;{exact(h.link i c s).meet i (qe.nobody (h.link i c s).id.1)};exact(h.link i c s).rest i c s
def Fit.take {r:jO} {k:Nat} (h:Fit r k)(i:Nat)(c:UInt8)(s:List UInt8):Fit (r.take i c s) (k+2):=by
 rw[mZ];split;{exact((h.link i c s).meet i _).mono fC};exact(h.link i c s).rest i c s
def kP(r:jO)(i:Nat):List UInt8->jO
 |[] =>r
 |c::s=>r.take i c s
def Gq:∀(l:List (List UInt8)) (r:jO) (i:Nat) (t:List UInt8),r.takes i (l++ [t])=kP (r.takes i l) i t
 |[],r,i,t=>by cases t<;>rfl
 |x::l,r,i,t=>by
  show(match x with|[] =>r|c::s=>r.take i c s).takes i (l++ [t])=kP ((match x with|[] =>r|c::s=>r.take i c s).takes i l) i t;exact Gq l _ i t
def TN(h:nh r)(hf:Fit r k)(i:Nat)(t:List UInt8):(kP r i t).n=r.n/\nh (kP r i t)/\Fit (kP r i t) (k+2):=by
 cases t with|nil=>exact⟨rfl,h,hf.mono fC⟩|cons c s=>exact⟨(PO r i c s).1,h.take i c s,hf.take i c s⟩
def CF:∀(l:List (List UInt8)) {r:jO} {k:Nat} (_:nh r) (_:Fit r k) (i:Nat),(r.takes i l).n=r.n/\nh (r.takes i l)/\Fit (r.takes i l) (k+2*l.length)
 |[],r,k,h,hf,i=>⟨rfl,h,hf⟩
 |x::l,r,k,h,hf,i=>by
  have Z:=TN h hf i x;have e:r.takes i (x::l)=(kP r i x).takes i l:=by cases x<;>rfl
  have Y:=CF l Z.2.1 Z.2.2 i;rw[e];refine⟨Y.1.trans Z.1,Y.2.1,Y.2.2.mono (by simp;omega)⟩
def sD.rdC {o B:Nat} (h:sD w g o B v p):Rd w g (o+2) p.rd.1 p.rd.2.1 p.rd.2.2:=by
 obtain⟨F,hC,hF⟩:=h.yY;refine⟨F,(hC.sub 2 65 fF).congr (λj hj=> ?_),hF⟩;unfold yX;rw[af fC,af fC,ag fC,show 2+j-2=j by omega]
def sD.read {o B:Nat} (h:sD w g o B v p)(r:l7)(T:Rd w' g (o+2) r.1 r.2.1 r.2.2)(Z:na w w' g (o+2) 65):sD w' g o B v {p with rd:=r} /\pD w w' g o B v:=by
 obtain⟨F,hC,hF⟩:=h.yY;obtain⟨G,U,X⟩:=T;have Y:=sg.join (a:=2) (k:=65) hC Z U;refine⟨⟨⟨G,Y.congr (λj Y=>Xn p B v F G r j Y),X⟩,h.lk.keep (Z.block B h.lk.lt (λe=>h.gB e.symm)),h.ou.keep Z.size (λx hx=>Z.block x (h.ou.lt x hx) (λe=>h.vg (by rw[hx,e]))),h.few,h.ok,h.gB,h.vg,h.vB,h.nz⟩,⟨Z.os,Z.tape,Z.output,Z.size,λi hi V _ _=>Z.block i hi V,λj Y=>Z.cell j fC,Z.fz⟩⟩
def n9.ah4 {z:Zt} (h:n9 w z r)(hi:i<r.n)(J:sD w' z.g (i*71) (z.B i) (z.v i) p)(Z:pD w w' z.g (i*71) (z.B i) (z.v i)):n9 w' z (r.jW i p)/\Bm w w' z r.n:=by
 have T:z.mine r.n z.g/\z.mine r.n (z.B i)/\∀k,(z.v i).ownBlock=μ k->z.mine r.n k:=⟨.inr (.inl rfl),.inr (.inr (.inl ⟨i,hi,.inl rfl⟩)),λk Y=>.inr (.inr (.inl ⟨i,hi,.inr Y⟩))⟩
 have S:∀k<w.heap.size,¬z.mine r.n k->w'.heap[k]? =w.heap[k]? :=λk Y U=>Z.block k Y (λe=>U (by rw[e];exact T.1)) (λe=>U (by rw[e];exact T.2.1)) (λe=>U (T.2.2 k e));have Q:=h.bs.still Z.size (λj V H=>S j V (λe=>H (h.no j e))) h.nb.1 h.nb.2.1 h.nb.2.2 z.fm.no (λj V=>.inl V) (λj V=>aq (h.bs.S0 j V) Z.size);refine⟨⟨h.n1,h.n3,h.Po,h.id,?_,?_,?_,Q,h.bl,h.no,h.nb,h.sR,h.sB,h.sV,h.sI,h.Ts⟩,⟨Z.os,Z.tape,Z.output,Z.size,λk Y U _ _=>S k Y U⟩⟩;{exact h.pT.keep (Z.block z.R h.pT.lt h.sR.1 (λe=>(h.sR.2.2 i hi).1 e.symm) (h.sR.2.2 i hi).2)};{intro j V;by_cases e:j=i;{subst e;show sD w' z.g (j*71) (z.B j) (z.v j) (m8 r.P j p j);rw[kJ];exact J};show sD w' z.g (j*71) (z.B j) (z.v j) (m8 r.P i p j);rw[kC _ _ e];have X:=h.pt j V;obtain⟨F,hC,hF⟩:=X.yY;have hs:=h.sB j i V hi e;refine⟨⟨F,λx hx=>⟨(Z.cell (j*71+x) ?_).trans (hC.cell x hx),(Z.fz _).trans (hC.fz x hx)⟩,hF⟩,X.lk.keep (Z.block (z.B j) X.lk.lt (λe=>X.gB e.symm) hs.1 (h.sV i j hi V)),X.ou.keep Z.size (λk Y=>Z.block k (X.ou.lt k Y) (λe=>X.vg (by rw[Y,e])) (λe=>h.sV j i V hi (by rw[Y,e])) (hs.2 k Y)),X.few,X.ok,X.gB,X.vg,X.vB,X.nz⟩;obtain M|M:=dA e;{exact .inl fC};exact .inr fC};exact h.ib.keep Z.size (λk Y=>Z.block k (h.ib.lt k Y) (h.sI k Y).2.1 ((h.sI k Y).2.2 i hi).1 ((h.sI k Y).2.2 i hi).2)
def aa5(l:List (List UInt8))(j:Nat)(h:j<l.length):(strs l)[j]? =μ (.string ⟨l[j].toArray⟩):=by simp[strs,h]
def XO(s:ByteArray)(z:Zt)(r:jO)(i k:Nat)(w:fA)(h:n9 w z r)(Gn:kd w)(jR:nh r)(hf:Fit r k)(hk:k+2*s.size<=99999)(hi:i<r.n):
 gb gg 23 #[π (μ ⟨z.R,0,ν⟩),ι κ (i:Int),.string s] w λe w'=>e=ρ η/\jy w w' z (r.recv i s.data.toList) r.n:=by
  have hh:=Ga z r i w h;rw[Bp hi]at hh;have mR:(i:Int)<(r.n:Int):=fC;have KB:(0:Int)<=(i:Int):=fC;have c1:=h.c1;have cl:=h.lt;have gl:=h.Lz;have hp:=h.pt i hi;obtain⟨A,hA⟩:=fH (l5 (r.P i).rd s.data.toList);have S:=WG z.g (i*71+2) (r.P i).rd s w hp.rdC fC;rw[hA]at S
  have hAl:A.1.length<=s.size:=by
   have:=EF (r.P i).rd s.data.toList;rw[hA]at this;have e:s.data.toList.length=s.size:=gZ;omega
  have hAt:Hid (∀t∈A.1,t.length<=62):=by
   show∀t∈A.1,_;rw[<-hA];obtain⟨F,_,hF⟩:=hp.yY;exact XM _ _ hF.len
  obtain⟨r1,H⟩:=fH (r.jW i {r.P i with rd:=A.2.2});have oA:r1.n=r.n:=by rw[<-H];rfl
  have mI:nh r1:=by rw[<-H];exact jR.jW i _ rfl (λhi=>jR.pe i hi)
  have Vu:Fit r1 k:=by rw[<-H];exact hf.jW i _ (λhi=>hf.out i hi)
  have hE:Hid (r.recv i s.data.toList=r1.takes i A.1):=by
   show _=_;unfold jO.recv;simp only[hA];rw[H]
  have G:gb gg 78 #[π (μ ⟨z.g,i*71+2,ν⟩),.string s] w λe w'=>∃v,e=ρ (τ #[v,ι κ (A.2.1:Int)])/\Row w' 1 v A.1.length (strs A.1)/\(∀k,v.ownBlock=μ k->w.heap.size<=k)/\n9 w' z r1/\Bm w w' z r.n:=by
   refine S.mono ?_;rintro e w1 ⟨v,rfl,h1,h2,_,h4,h5⟩;refine⟨v,rfl,h1,h2,?_⟩;rw[<-H];have h6:=sD.read hp A.2.2 h4 h5;exact h.ah4 hi h6.1 h6.2
  have HR:Hid _:=h;have TP:Hid _:=Gn;clear h jR hf hp S Gn;go_in;go_wp2_with fail;refine hh.mono ?_;rintro e w0 ⟨rfl,rfl⟩;clear hh;go_wp2_with fail;refine G.mono ?_;rintro e V ⟨v,rfl,j0,kt,T,Zu⟩;clear G c1 cl gl;obtain⟨n,hn⟩:=fH (A.1.length)
  have hsh:∃a cp,v=σ a n cp:=by
   obtain⟨e,h0⟩|⟨g,c,e,_⟩:=j0.2;{exact⟨ν,0,by rw[e,<-hn,h0]⟩};exact⟨_,c,by rw[e,hn]⟩
  obtain⟨a,cp,rfl⟩:=hsh;have QP:∀j,fD (σ a n cp)=μ j->¬z.mine r.n j:=λj hj=>HR.out.wA (kt j hj)
  have ah7:Hid (∀wr rr,jy V wr z rr r.n->kd wr):=by
   have h1:kd V:=jy.tab (z:=z) (r:=r1) ⟨⟨z,T,z.uB,λ_ e=>.inl e,λ_ e=>e⟩,Zu⟩ HR.out rfl TP.out;intro wr rr hw;exact hw.tab T oA h1
  have XP:Hid (∀wr rr,jy V wr z rr r.n->∀j,(hj:j<A.1.length)->∃g,a=μ ⟨g,0,ν⟩/\wr.cell? ⟨g,j,ν⟩=μ (.string ⟨(A.1[j]).toArray⟩)):=by
   intro wr rr hw j hj;obtain⟨e,h0⟩|⟨g,c,e,_,_,_,hc,_⟩:=j0.2;{omega};have ea:a=μ ⟨g,0,ν⟩:=(ch e).1;refine⟨g,ea,hw.cell T (p:=⟨g,j,ν⟩) (QP g (by rw[ea];rfl)) (hc j _ (aa5 A.1 j hj))⟩
  have aeL:Hid (∀wr,jy V wr z (r1.takes i A.1) r.n->jy w wr z (r.recv i s.data.toList) r.n):=by
   intro wr hw;rw[hE.out];exact jy.rY (r:=r1) ⟨⟨z,T,z.uB,λ_ e=>.inl e,λ_ e=>e⟩,Zu⟩ T z.uB (λ_ e=>.inl e) (λ_ e=>e) hw
  have H0:Hid (jy V V z (r1.takes i (A.1.take 0)) r.n):=by
   show jy _ _ _ _ _;rw[<-oA];exact jy.refl T
  have HN:Hid _:=hn;have En:Hid _:=mI;have HF1:Hid _:=Vu;clear j0 kt T Zu QP hE mI Vu H hA;have hns:n<=s.size:=fC;go_wp2;go_loopw [30] (λx wr=>∃q:Nat,q<=n/\x=ι κ q/\jy V wr z (r1.takes i (A.1.take q)) r.n) (λx _=>n-(gj x).toNat);(case atStart=>exact⟨0,aw _,rfl,H0.out⟩)
  case round=>
   obtain⟨q,hq,rfl,X⟩:=hrel;by_cases lZ:q<n
   ·have pE:(q:Int)<(n:Int):=fC;have hq0:(0:Int)<=(q:Int):=fC;have Q:q<A.1.length:=by have:=HN.out;omega
    obtain⟨g,rfl,hcell⟩:=XP.out _ _ X q Q;have ZH:=ah7.out _ _ X;have E:=hAt.out _ (aO Q)
    have J:Hid (r1.takes i (A.1.take (q+1))=kP (r1.takes i (A.1.take q)) i A.1[q]):=by
     show _=_;rw[aJ Q,Gq]
    have U:=CF (A.1.take q) En.out HF1.out i;have hlq:(A.1.take q).length<=q:=cQ _ _;have gl:=ai _ _ hcell;generalize A.1[q] =tt at hcell E J;obtain⟨rq,M⟩:=fH (r1.takes i (A.1.take q));rw[M]at X J U;cases tt with
    |nil=>
     have HW:Hid (jy V wr z (r1.takes i (A.1.take (q+1))) r.n):=by
      show jy _ _ _ _ _;rw[J.out];exact X
     clear X J U M;obtain⟨Z,Y⟩:∃Z:ByteArray,(⟨([] :List UInt8).toArray⟩:ByteArray)=Z:=⟨_,rfl⟩
     rw[Y]at hcell;have kf:Z.toList.isEmpty=true:=by rw[<-Y,dP];rfl
     clear Y
     go_wp2
     go_roundw
     case rel=>exact⟨q+1,fC,by go_num,HW.out⟩
     case measure=>simp[gj];omega
    |cons c tl=>
     obtain⟨Z,Y⟩:∃Z:ByteArray,(⟨(c::tl).toArray⟩:ByteArray)=Z:=⟨_,rfl⟩
     have ud:Z.size=tl.length+1:=by rw[<-Y];simp[ByteArray.size]
     have hx0:Z.extract 0 1=⟨#[c]⟩:=by
      rw[<-Y];apply je;apply eD.1;rw[x6];simp
     have hx1:Z.extract 1 Z.size=⟨tl.toArray⟩:=by
      apply je;apply eD.1;rw[x6,ud,<-Y];simp
     have Zz:Z.toList=c::tl:=by rw[dP,<-Y]
     have kf:Z.toList.isEmpty=false:=by rw[Zz];rfl
     rw[Y]at hcell;have g1:(1:Int)<=(Z.size:Int):=fC;have g0:(0:Int)<=(Z.size:Int):=fC;have ZP:i<rq.n:=by rw[U.1,oA];exact hi
     have AQ:gb gg 79 #[π (μ ⟨z.R,0,ν⟩),ι κ (i:Int),.string ⟨#[c]⟩,.string ⟨tl.toArray⟩] wr.drew λe w'=>e=ρ (τ #[])/\jy V w' z (r1.takes i (A.1.take (q+1))) r.n:=by
      rw[J.out];have EL:=X.below (by rw[U.1];exact oA) (j4 wr);refine EL.call λz1 Rz hl=> ?_;have u:(⟨tl.toArray⟩:ByteArray).size<=1000:=by
       show tl.toArray.size<=1000;simp at E⊢;omega
      have:=XJ ⟨#[c]⟩ ⟨tl.toArray⟩ c z1 rq i (k+2*(A.1.take q).length) wr.drew Rz rfl ZH U.2.1 U.2.2 fC ZP u;rw[hl.R,U.1,oA]at this;have e1:(⟨tl.toArray⟩:ByteArray).data.toList=tl:=gZ;rw[e1]at this;exact this
     have g1n:1<=Z.size:=fC;clear X J U M Y ZH Zz ud
     go_wp2
     go_region_held3(λ_=>True)
      (first|trivial)
      (first
       |(go_at_call 79;refine AQ.mono ?_;rintro e w6 ⟨rfl,Oa⟩))
     all_goals
      have HW6:Hid _:=Oa;clear AQ Oa
      go_wp2
      go_roundw
      case rel=>exact⟨q+1,fC,by go_num,HW6.out⟩
      case measure=>simp[gj];omega
   have zD:¬(q:Int)<(n:Int):=fC
   have HW:Hid (jy w wr z (r.recv i s.data.toList) r.n):=by
    show jy _ _ _ _ _;refine aeL.out _ ?_;have e1:A.1.take q=A.1:=aR (by have:=HN.out;omega);rw[e1]at X;exact X
   clear X;go_wp2;go_ret;exact⟨rfl,HW.out⟩
def TQ(q:mX)(w:fA)(h:0<=q.left/\q.left<=4):gb gg 84 #[.agg #[.int .i64 q.who,.bool q.both,.int .i64 q.left]] w λe w'=>
 e=ρ (.agg #[.int .i64 (jP q).who,.bool (jP q).both,.int .i64 (jP q).left])/\fP w w':=by
  have Z:=Go.Proofs.YtieklnlbljejdaaGreatDoor.WM q.who q.left q.both w h.1 fC
  have e:Go.Proofs.YtieklnlbljejdaaGreatDoor.jZ (q.who,q.both,q.left)=((jP q).who,(jP q).both,(jP q).left):=by
   unfold Go.Proofs.YtieklnlbljejdaaGreatDoor.jZ jP;by_cases hl:q.left<=1;{simp[hl,nobody]};simp[hl]
  rw[e]at Z;exact Z
def uS(p:kB):p.tick.m=p.m/\p.tick.pe=p.pe/\p.tick.out.length<=p.out.length+1512:=by
 unfold kB.tick;have Z:=yr (j8 p.L).2 {p with L:=(j8 p.L).1};have h2:=Bk (j8 p.L).2 {p with L:=(j8 p.L).1};have h3:=Jo p.L;refine⟨Z.1,Z.2,?_⟩;have h4:({p with L:=(j8 p.L).1}:kB).out.length=p.out.length:=rfl;omega
def Gr:∀(l:List (Int×PS)) (p:kB),(p.mA l).m=p.m/\(p.mA l).pe=p.pe
 |[],_=>⟨rfl,rfl⟩
 |x::l,p=>by
  have h:=Gr l (p.put 83 (tI x.1 x.2.1 x.2.2));exact⟨h.1.trans (Jy _ _ _),h.2.trans (tX _ _ _)⟩
def CG(F:Int->Option PS):(nu F).length<=6:=by
 unfold nu;have:=eI (λ(j:Nat)=>(F ((j:Int)+1)).map λq=>((j:Int)+1,q)) (List.range 6);simpa using this
def nh.tell(h:nh r)(i:Nat):nh (oa r i):=by
 unfold oa;simp only;refine h.jW i _ ?_ (λhi=> ?_);{split;{exact(Gr _ _).1.trans (Jy _ _ _)};exact Jy _ _ _};have Z:=h.pe i hi;split;{rw[(Gr _ _).2,tX];exact Z};rw[tX];exact Z
def Fit.tell(h:Fit r k)(i:Nat):Fit (oa r i) (k+1):=by
 unfold oa;simp only;have h1:=yZ (r.P i) 72 [kI r.id,kI (r.P i).pe.who];refine h.grow i _ ?_;split;{have h2:=Aq (nu (r.O i)) ((r.P i).put 72 [kI r.id,kI (r.P i).pe.who]);have h3:=CG (r.O i);omega};omega
def j6(r:jO)(i:Nat):jO:=r.jW i (r.P i).tick
def mO(r:jO)(i:Nat):r.jZ i=if((j6 r i).P i).L.st≠9 then(j6 r i).meet i nobody else oa ((j6 r i).meet i (jP ((j6 r i).P i).pe)) i:=rfl
def nh.j6 {r:jO} (h:nh r)(i:Nat):nh (Rt.j6 r i):=h.jW i _ (uS _).1 (λhi=>by rw[(uS _).2.1];exact h.pe i hi)
def Fit.j6 {r:jO} {k:Nat} (h:Fit r k)(i:Nat):Fit (Rt.j6 r i) (k+1):=h.grow i _ (au (uS _).2.2 fC)
def TR(h:nh r)(hf:Fit r k)(hi:i<r.n):(r.jZ i).n=r.n/\nh (r.jZ i)/\Fit (r.jZ i) (k+2):=by
 rw[mO];have Z:=h.j6 i;have f1:=hf.j6 i;split;{exact⟨CB _ _ _,Z.meet i (qe.nobody Z.id.1),(f1.meet i _).mono fC⟩};have Y:=(Z.pe i hi).tick Z.id.1;exact⟨CB _ _ _,(Z.meet i Y).tell i,(f1.meet i _).tell i⟩
def CH {r:jO} {k:Nat} (h:nh r)(hf:Fit r k):∀q≤r.n,(r.j5 q).n=r.n/\nh (r.j5 q)/\Fit (r.j5 q) (k+2*q)
 |0,_=>⟨rfl,h,hf⟩
 |q+1,hq=>by
  have ih:=CH h hf q fC;have:=TR (i:=q) ih.2.1 ih.2.2 (by rw[ih.1];omega);exact⟨this.1.trans ih.1,this.2.1,this.2.2.mono fC⟩
def TS(z:Zt)(r:jO)(k:Nat)(w:fA)(h:n9 w z r)(Gn:kd w)(jR:nh r)(hf:Fit r k)(hk:k<=90000):
 gb gg 25 #[π (μ ⟨z.R,0,ν⟩)] w λe w'=>e=ρ (τ #[])/\jy w w' z r.tick r.n:=by
  have c1:=h.c1;have cl:=h.lt;have xK:=h.n3;obtain⟨n,hn⟩:=fH (r.n);have H0:Hid (jy w w z (r.j5 0) r.n):=jy.refl h;have TP:Hid (∀wr rr,jy w wr z rr r.n->kd wr):=λwr rr hw=>hw.tab h rfl Gn;have TU:Hid (∀q≤r.n,(r.j5 q).n=r.n/\nh (r.j5 q)/\Fit (r.j5 q) (k+2*q)):=CH jR hf;have KO:Hid (r.tick=r.j5 r.n):=rfl;rw[hn]at c1 xK H0 TP TU KO⊢;clear h jR hf Gn;go_in;go_wp2;go_loopw [8] (λx wr=>∃q:Nat,q<=n/\x=ι κ q/\jy w wr z (r.j5 q) n) (λx _=>n-(gj x).toNat);(case atStart=>exact⟨0,aw _,rfl,H0.out⟩)
  case round=>
   obtain⟨q,hq,rfl,Y⟩:=hrel;by_cases lZ:q<n
   ·have pE:(q:Int)<(n:Int):=fC;have hq0:(0:Int)<=(q:Int):=fC;obtain⟨a1,a2,a3⟩:=TU.out q fC;have hT:=TP.out _ _ Y;have d1:=Y.c1;have dl:=Y.lt;rw[a1]at d1;have HS:Hid (r.j5 (q+1)=(r.j5 q).jZ q):=rfl;obtain⟨M,A⟩:=fH (r.j5 q);rw[A]at Y HS a1 a2 a3;have ZP:q<M.n:=fC
    have AQ:gb gg 82 #[π (μ ⟨z.g,q*71,ν⟩)] wr λe w'=>e=ρ (τ #[])/\jy w w' z (j6 M q) n:=by
     refine Y.call λX U hl=> ?_;rw[<-hl.g];refine(Tq X.g (q*71) (X.B q) (X.v q) (M.P q) wr (U.pt q ZP) hT (by have:=a3.out q ZP;omega)).mono ?_;rintro e w1 ⟨rfl,hw⟩;have:=U.port ZP hw;rw[a1]at this;exact⟨rfl,this⟩
    have mI:=a2.j6 q;have Vu:=a3.j6 q;have J:(j6 M q).n=n:=a1;obtain⟨r1,mQ⟩:=fH (j6 M q)
    have HE:Hid (M.jZ q=if(r1.P q).L.st≠9 then r1.meet q nobody else oa (r1.meet q (jP (r1.P q).pe)) q):=by
     show _=_;rw[<-mQ];exact mO M q
    rw[mQ]at AQ mI Vu J;have S:Hid _:=mI;have HF1:Hid _:=Vu;clear A a2 a3 Y hT mQ mI Vu;go_wp2_with fail;refine AQ.mono ?_;rintro e E ⟨rfl,T⟩;have xu:q<r1.n:=fC;obtain⟨v1,Z⟩:=T.pt xu;have hop:=Ah z.g (q*71) (z.B q) v1 (r1.P q) E Z;have e1:=T.c1;have el:=T.lt;have gl:=T.Lz;rw[J]at e1;have g7:=Z.c67;have g8:=Z.c68;have g9:=Z.c69;clear AQ Z d1 dl;go_wp2_with fail;refine hop.mono ?_;rintro e W2 ⟨rfl,rfl⟩;clear hop;cases q9:((r1.P q).L.st==9)with
    |false=>
     have kf:(r1.P q).L.st≠9:=by simpa using q9
     have hm:gb gg 74 #[π (μ ⟨z.R,0,ν⟩),ι κ (q:Int),.agg #[ι κ 0,.bool false,ι κ 0]] E λe w'=>e=ρ (τ #[])/\jy w w' z (r.j5 (q+1)) n:=by
      rw[HS.out,HE.out,ag kf];refine T.call λX U hl=> ?_;rw[<-hl.R,<-J];exact ym X r1 q nobody E U S.out xu (qe.nobody S.out.id.1)
     clear T kf;go_wp2_with fail;refine hm.mono ?_;rintro e W3 ⟨rfl,zx⟩;have HW3:Hid _:=zx;clear hm zx
     go_wp2
     go_roundw
     case rel=>exact⟨q+1,fC,by go_num,HW3.out⟩
     case measure=>simp[gj];omega
    |true=>
     have h9:(r1.P q).L.st=9:=by simpa using q9
     have H:Hid (r.j5 (q+1)=oa (r1.meet q (jP (r1.P q).pe)) q):=by
      show _=_;rw[HS.out,HE.out,af (by simp[h9])]
     have XQ:=S.out.pe q xu;have V:=TQ (r1.P q).pe E XQ.left;have G:Hid (∀W,fP E W->gb gg 74 #[π (μ ⟨z.R,0,ν⟩),.int .i64 (q:Int),.agg #[.int .i64 (jP (r1.P q).pe).who,.bool (jP (r1.P q).pe).both,.int .i64 (jP (r1.P q).pe).left]] W λe w'=>e=ρ (τ #[])/\jy w w' z (r1.meet q (jP (r1.P q).pe)) n):=by
      intro W hW;refine(T.below J hW).call λX U hl=> ?_;rw[<-hl.R,<-J];exact ym X r1 q _ W U S.out xu (XQ.tick S.out.id.1)
     have hte:Hid (∀W,jy w W z (r1.meet q (jP (r1.P q).pe)) n->gb gg 85 #[π (μ ⟨z.R,0,ν⟩),ι κ (q:Int)] W λe w'=>e=ρ (τ #[])/\jy w w' z (r.j5 (q+1)) n):=by
      intro W hW;rw[H.out];refine hW.call λX U hl=> ?_;have xC:(r1.meet q (jP (r1.P q).pe)).n=n:=(CB _ _ _).trans J;rw[<-hl.R,<-xC];have Py:=S.out.meet q (XQ.tick S.out.id.1);exact XB X _ q W U Py fC (by have:=(HF1.out.meet q (jP (r1.P q).pe)).out q fC;omega)
     generalize (r1.P q).pe.who=p1 at g7 V;generalize (r1.P q).pe.both=p2 at g8 V;generalize (r1.P q).pe.left=p3 at g9 V;generalize (jP (r1.P q).pe).who=t1 at V G;generalize (jP (r1.P q).pe).both=t2 at V G;generalize (jP (r1.P q).pe).left=t3 at V G;clear T h9 XQ H;go_wp2_with fail;refine V.mono ?_;rintro e W2 ⟨rfl,b2⟩;have AP:=G.out _ b2;clear V G;go_wp2_with fail;refine AP.mono ?_;rintro e W3 ⟨rfl,zx⟩;have u:=hte.out _ zx;clear AP hte zx;go_wp2_with fail;refine u.mono ?_;rintro e W4 ⟨rfl,wY⟩;have MU:Hid _:=wY;clear u wY
     go_wp2
     go_roundw
     case rel=>exact⟨q+1,fC,by go_num,MU.out⟩
     case measure=>simp[gj];omega
   have zD:¬(q:Int)<(n:Int):=fC;have Q:q=n:=fC
   have HW:Hid (jy w wr z r.tick n):=by
    show jy _ _ _ _ _;rw[KO.out,<-Q];rw[<-Q]at Y;exact Y
   clear Y Q;go_wp2_with fail;go_end0;exact⟨rfl,HW.out⟩
def As(p:kB)(up:Bool):((p.jT up).1.m=p.m/\(p.jT up).1.pe=p.pe)/\((p.jT up).2≠0->(p.jT up).1=p):=by
 unfold kB.jT;generalize mV p.L (if up=true then 0 else 1)=e;simp only;by_cases h:e.2.2=0;{rw[af (by simp[h])];exact⟨yr _ _,λe=>absurd rfl e⟩};rw[ag h];exact⟨⟨rfl,rfl⟩,λ_=>rfl⟩
def TV(z:Zt)(r:jO)(k:Nat)(t:Int)(tx:ByteArray)(w:fA)(h:n9 w z r)(X:nh r)(hf:Fit r k)(T:k<=100000):
 gb gg 27 #[π (μ ⟨z.R,0,ν⟩),ι κ t,.string tx] w λe w'=>e=ρ (kr (lF r t tx.data.toList).2)/\jy w w' z (lF r t tx.data.toList).1 r.n:=by
  have hl:tx.data.toList.length=tx.size:=gZ;by_cases V:t<1
  ·have Z:lF r t tx.data.toList=(r,1):=by unfold lF;rw[ag (.inl V)]
   rw[Z];have Y:Hid _:=jy.refl h;clear h X hf;go_in;go_wp2;go_ret;exact⟨rfl,Y.out⟩
  by_cases U:6<t
  ·have Z:lF r t tx.data.toList=(r,1):=by unfold lF;rw[ag (.inr (.inl U))]
   rw[Z];have Y:Hid _:=jy.refl h;clear h X hf;go_in;go_wp2;go_ret;exact⟨rfl,Y.out⟩
  by_cases h3:(20:Int)<(tx.size:Int)
  ·have Z:lF r t tx.data.toList=(r,1):=by unfold lF;rw[ag (.inr (.inr fC))]
   rw[Z];have Y:Hid _:=jy.refl h;clear h X hf;go_in;go_wp2;go_ret;exact⟨rfl,Y.out⟩
  have Z:lF r t tx.data.toList=(r.send (t,8,tx.data.toList),0):=by unfold lF;rw[af fC]
  rw[Z];have hs:=Gm z r k t 8 tx w h X hf T fC fC fC;clear h X hf;go_in;go_wp2_with fail;refine hs.mono ?_;rintro e w1 ⟨rfl,hw⟩;clear hs;go_wp2;go_ret;exact⟨rfl,hw⟩
def TW(up:Bool)(z:Zt)(r:jO)(i k:Nat)(w:fA)(h:n9 w z r)(J:kd w)(S:nh r)(hf:Fit r k)(hk:k<=100000)(hi:i<r.n):
 gb gg 20 #[π (μ ⟨z.R,0,ν⟩),ι κ (i:Int),.bool up] w λe w'=>e=ρ (kr (r.jT i up).2)/\jy w w' z (r.jT i up).1 r.n:=by
  have hh:=Ga z r i w h;rw[Bp hi]at hh;have mR:(i:Int)<(r.n:Int):=fC;have KB:(0:Int)<=(i:Int):=fC;have c1:=h.c1;have cl:=h.lt;have gl:=h.Lz;have Z:=Tr up z.g (i*71) (z.B i) (z.v i) (r.P i) w (h.pt i hi) J (by have:=hf.out i hi;omega);have X:r.jT i up=if((r.P i).jT up).2≠0 then(r,((r.P i).jT up).2)else((r.jW i ((r.P i).jT up).1).meet i nobody,0):=rfl
  have Y:=(As (r.P i) up).1;have Q:=(As (r.P i) up).2
  have xm:r.jW i (r.P i)=r:=by
   have:m8 r.P i (r.P i)=r.P:=by
    funext x;unfold m8;by_cases e:x=i;{simp[e]};simp[e]
   show({r with P:=m8 r.P i (r.P i)}:jO)=r;rw[this]
  obtain⟨u,M⟩:=fH (((r.P i).jT up).1);obtain⟨f,G⟩:=fH (((r.P i).jT up).2);rw[M,G]at Z X;rw[M]at Y Q;rw[G]at Q;have H:Hid _:=h;have A:Hid (nh (r.jW i u)):=S.jW i _ Y.1 (λhi=>by rw[Y.2];exact S.pe i hi);clear h S hf J;by_cases T:f=0
  ·subst T;rw[af gZ]at X;rw[X];have e0:kr 0=η:=rfl;rw[e0]at Z⊢;go_in;go_wp2_with fail;refine hh.mono ?_;rintro e w0 ⟨rfl,rfl⟩;clear hh;go_wp2_with fail;refine Z.mono ?_;rintro e w1 ⟨rfl,U⟩;have V:=H.out.port hi U
   have E:gb gg 74 #[π (μ ⟨z.R,0,ν⟩),ι κ (i:Int),.agg #[ι κ 0,.bool false,ι κ 0]] w1 λe w'=>e=ρ (τ #[])/\jy w w' z ((r.jW i u).meet i nobody) r.n:=by
    refine V.call λz1 R1 hl=> ?_;rw[<-hl.R];exact ym z1 _ i nobody w1 R1 A.out hi (qe.nobody A.out.id.1)
   clear Z U V;go_wp2_with fail;refine E.mono ?_;rintro e w2 ⟨rfl,wV⟩;clear E;go_wp2;go_ret;exact⟨rfl,wV⟩
  rw[ag T]at X;rw[X];have hb:=Q T;have ee:kr f=.iface 128 (ι κ (f:Int)):=by simp only[kr];rw[af T]
  rw[ee]at Z⊢;go_in;go_wp2_with fail;refine hh.mono ?_;rintro e w0 ⟨rfl,rfl⟩;clear hh;go_wp2_with fail;refine Z.mono ?_;rintro e w1 ⟨rfl,U⟩;have V:=H.out.port hi U;rw[hb,xm]at V;clear Z U;go_wp2;go_ret;exact⟨rfl,V⟩
def TX(z:Zt)(r:jO)(w:fA)(h:n9 w z r):
 gb gg 32 #[π (μ ⟨z.R,0,ν⟩)] w λe w'=>e=ρ z.iv/\Row w' 3 z.iv r.kA.length (rz r.kA)/\jy w w' z {r with kA:=[] } r.n:=by
  have c3:=h.c3;have cl:=h.lt;have f3:=h.pT.frozen 3;have Z:Hid _:=h;clear h;go_in;go_wp2;go_ret;refine⟨rfl,Z.out.ib.keep gZ (λk Y=>ax _ _ _ k (by show k≠z.R;exact(Z.out.sI k Y).1)),?_⟩;exact Z.out.own (σ ν 0 0) [] r.drop gZ rfl rfl rfl (λk _ X _=>ax _ _ _ k X) (Z.out.pT.set 3 _) (Row.nil _ 3) (λk Y=>by simp[fD]at Y)
def XR(z:Zt)(r:jO)(i:Nat)(w:fA)(h:n9 w z r)(hi:i<r.n):
 gb gg 29 #[π (μ ⟨z.R,0,ν⟩),ι κ (i:Int)] w λe w'=>e=ρ (τ #[.string ⟨(r.P i).out.toArray⟩,η])/\jy w w' z (r.out i) r.n:=by
  have hh:=Ga z r i w h;rw[Bp hi]at hh;have mR:(i:Int)<(r.n:Int):=fC;have KB:(0:Int)<=(i:Int):=fC;have c1:=h.c1;have cl:=h.lt;have gl:=h.Lz;have Z:=h.pt i hi;have X:=Z.c70;have f70:=Z.fz 70 fF;have U:=Row.back Z.ou 140 9 5 underlying140 underlying5 underlying9
  have V:nE w (w.setCell ⟨z.g,i*71+70,ν⟩ (σ ν 0 0)) z.g (i*71) (z.B i) (z.v i) {r.P i with out:=[] }:=by
   obtain⟨F,hC,hF⟩:=Z.yY;have Y:=(na.refl w z.g (i*71) 71).set (i*71+70) fC fC (σ ν 0 0);refine⟨⟨σ ν 0 0,⟨⟨F,(hC.set 70 fF (σ ν 0 0)).congr (Rn (r.P i) (z.B i) (z.v i) (σ ν 0 0) F []),hF⟩,Z.lk.keep (Y.block _ Z.lk.lt (λe=>Z.gB e.symm)),Row.nil _ 1,gZ,Z.ok,Z.gB,by simp[fD],by simp[fD],⟨Z.nz.1,Z.nz.2.1,by simp[fD]⟩⟩,λk Y=>by simp[fD]at Y⟩,⟨Y.os,Y.tape,Y.output,Y.size,λj Q S _ _=>Y.block j Q S,Y.cell,Y.fz⟩⟩
  have T:Hid (jy w (w.setCell ⟨z.g,i*71+70,ν⟩ (σ ν 0 0)) z (r.out i) r.n):=h.port hi V;generalize (r.P i).out=L at U⊢;generalize z.v i=v at X U;clear h Z V;go_in;go_wp2_with fail;refine hh.mono ?_;rintro e w0 ⟨rfl,rfl⟩;clear hh;go_wp2;go_ret2;exact⟨rfl,T.out⟩
def CJ(m mg:Int):kB:=⟨m,⟨255,mg,255,mg,0,0,1,255,0,0,0⟩,([],false,false),nobody,[]⟩
def MV(m mg:Int)(w:fA)(hT:kd w)(hm:1<=m/\m<=20)(hg:1<=mg/\mg<=255):
 gb gg 68 #[ι κ m,ι κ mg] w λe w'=>∃B,e=ρ (τ #[.agg (rowOf 71 (yX (CJ m mg) B (σ ν 0 0) OY)),η])/\Lk w' B ((CJ m mg).L.c (σ ν 0 0))/\w.heap.size<B/\fP w w':=by
  have hz:=Pr;have ud:=Ps;obtain⟨Z,u⟩:=fH (rowOf 71 zPt);have Q:Z.size=71:=by rw[<-u];exact oo _ _
  rw[u]at hz;have anb:¬Z= #[] :=λe=>by rw[e]at Q;simp at Q
  have ba:=gu w (γ Z 142);have yR:j2 (w.alloc (γ Z 142)) w.heap.size Z 142:=j2.new w _ _;have Vj:=hT.below ba;have V:=aaJ 255 mg (w.alloc (γ Z 142)) fC fC fC fC;obtain⟨W0,pF⟩:=fH (w.alloc (γ Z 142));obtain⟨N,h⟩:=fH (w.heap.size);have hNs:N<W0.heap.size:=by rw[<-pF,<-h];simp
  rw[pF]at ba yR V Vj;rw[h]at yR;have g1:¬m<1:=fC;have g2:¬20<m:=fC;have IA:Hid _:=pF;have A:Hid _:=h;have HB0:Hid _:=yR;have HZ:Hid _:=u;clear pF h yR u;go_in;go_wp2_with fail;rw[IA.out,A.out];refine V.mono ?_;rintro e w1 ⟨B,rfl,hL,hBg,b1⟩;have G:=WT B 255 mg 255 mg 0 0 255 0 0 0 (σ ν 0 0) w1 (Vj.below b1) hL;clear V hL;go_wp2_with fail;refine G.mono ?_;rintro e T ⟨rfl,J,U⟩;obtain⟨D,hD⟩:=fH ((Z.setIfInBounds 0 (ι .i64 m)).setIfInBounds 1 (Value.pointer (μ ⟨B,0,ν⟩)));have S:D.size=71:=by rw[<-hD];simp[Q]
  have M:Hid (D=rowOf 71 (yX (CJ m mg) B (σ ν 0 0) OY)):=by
   show _=_;rw[<-hD,<-HZ.out];apply cu;intro j;by_cases E:j<71;{rw[uQ 71 _ j E,bH,bH,uQ 71 _ j E];simp only[jf,oo];by_cases e1:j=1;{subst e1;simp[yX]};by_cases e0:j=0;{subst e0;simp[yX,CJ]};rw[af (λe=>e1 e.symm),af (λe=>e0 e.symm)];congr 1;unfold zPt yX;simp only[e0,e1,if_false];rfl};rw[bD (by simp[oo];omega),bD (by rw[oo];omega)]
  have qX:D.all (·.oneCell')=true:=by rw[M.out];exact KF EE.zero rfl
  have H:N≠B:=fC
  have X:j2 T N Z 142:=by
   have Y:=j2.below HB0.out b1;exact Y.keep (U.block N Y.lt (λe=>H (aL e)))
  have hR:j2 (T.setRow N D) N D 142:=X.setRow;have ZQ:Lk (T.setRow N D) B ((CJ m mg).L.c (σ ν 0 0)):=J.keep (by simp only[World.setRow];rw[de,af H]);have l6:=cA (P:=gg) (T.setRow N D) N 142 142 D (0,0) _ hR underlying142 rfl (by rw[S];exact ud)
  have jS:Hid (fP w (T.setRow N D)):=by
   have Y:=fQ ba b1;have h2:fP w T:=⟨U.os.trans Y.os,U.tape.trans Y.tape,U.output.trans Y.output,au Y.size U.size,λj E=>(U.block j (aq E Y.size) (λe=>by have e2:j=B:=aL e;have:=A.out;omega)).trans (Y.block j E)⟩
   exact Go.Proofs.YtieklnlbljejdaaGreatDoor.qD h2 (by have:=A.out;omega) D
  have HL3:Hid _:=ZQ;clear G J U ZQ hR;go_wp2_with(first
   |(rw[hD];refine pY _ rfl (.tmp 4) (.tmp 29) 142 rfl rfl N Z D rfl rfl X (by rw[Q,S]) (by rw[S];exact ud) qX ?_)
   |(refine pY _ rfl (.tmp 4) (.tmp 29) 142 rfl rfl N Z D rfl rfl X (by rw[Q,S]) (by rw[S];exact ud) qX ?_))
  refine aN (v:=τ #[.agg D,η]) (by simp[results,results68,asAddr,l6]) rfl ?_;exact⟨B,by rw[M.out],HL3.out,by have:=A.out;omega,jS.out⟩
def Bs:∀(l:List fB) (k:Nat) (base:Array fB) (j:Nat),k+l.length<=base.size->((l.zipIdx k).foldl (λcs (x:fB×Nat)=>cs.setIfInBounds x.2 x.1) base)[j]? =if k<=j/\j<k+l.length then l[j-k]? else base[j]?
 |[],k,base,j,_=>by
  rw[af gZ];rfl
 |x::l,k,base,j,h=>by
  have X:k+1+l.length<=base.size:=by simp at h;omega
  rw[List.zipIdx_cons,bV,Bs l (k+1) (base.setIfInBounds k x) j (by rw[jf];exact X)];by_cases Z:k+1<=j/\j<k+1+l.length;{rw[ag Z,ag (by simp;omega),show j-k=(j-(k+1))+1 by omega,List.getElem?_cons_succ]};{rw[af Z,bH];by_cases Y:k=j;{subst Y;rw[ag rfl,ag fC,ag gZ];simp};{rw[af Y,af (by simp;omega)]}}
def Gs(D base:Array fB)(h:base.size=D.size)(n:Nat)(Z:D.size=n):Array.foldl (λcs (x:fB×Nat)=>cs.setIfInBounds x.2 x.1) base D.zipIdx 0 n=D:=by
 have hs:D.zipIdx.size=n:=by rw[Array.size_zipIdx,Z]
 rw[<-hs,<-Array.foldl_toList,Array.toList_zipIdx];apply cu;intro j;rw[Bs D.toList 0 base j (by simp;omega)];by_cases hj:j<D.size;{rw[ag (by simp;omega)];simp};rw[af (by simp;omega),bD fC,bD fC]
def XS:(gg.info? 142).map (λi=>(i.zero,i.size,i.bytes))=μ (μ (.agg (rowOf 71 zPt)),71,144):=iV
def Au(id:Int)(ms:Nat->Int)(B:Nat->Nat):Nat->List fB
 |0=>[]
 |q+1=>Au id ms B q++(rowOf 71 (yX (CJ (ms q) (8*id+q+1)) (B q) (.slice none 0 0) OY)).toList
def yu(id:Int)(ms:Nat->Int)(B:Nat->Nat):∀q,(Au id ms B q).length=q*71
 |0=>rfl
 |q+1=>by
  unfold Au;rw[aG,yu id ms B q,dQ,oo];omega
def RA(id:Int)(ms:Nat->Int)(B:Nat->Nat):∀(q i j:Nat),i<q->j<71->(Au id ms B q)[i*71+j]? =μ (yX (CJ (ms i) (8*id+i+1)) (B i) (σ ν 0 0) OY j)
 |0,i,j,h,_=>fC
 |q+1,i,j,h,hj=>by
  unfold Au;have hl:=yu id ms B q;by_cases e:i=q;{subst e;rw[bL fC,hl,show i*71+j-i*71=j by omega];simpa using uQ 71 (yX (CJ (ms i) (8*id+i+1)) (B i) (σ ν 0 0) OY) j hj};{rw[bT fC];exact RA id ms B q i j fC hj}
structure tY(wb W:fA)(id:Int)(ms:Nat->Int)(q R Bb:Nat)(B:Nat->Nat)(v:fB):Prop where
 pT:j2 W R #[ι κ id,v,π (μ ⟨Bb,0,ν⟩),σ ν 0 0,ι κ 0] 135
 row:Row W 71 v q (Au id ms B q)
 lk:∀i<q,Lk W (B i) ((CJ (ms i) (8*id+i+1)).L.c (σ ν 0 0))
 ph:fP wb W
 gR:wb.heap.size<=R
 gB:∀i<q,wb.heap.size<=B i/\B i≠R/\v.ownBlock≠μ (B i)
 gV:∀k,v.ownBlock=μ k->wb.heap.size<=k/\k≠R
 dis:∀i j,i<q->j<q->i≠j->B i≠B j
def tY.below {wb W W':fA} {id:Int} {ms:Nat->Int} {q R Bb:Nat} {B:Nat->Nat} {v:fB} (h:tY wb W id ms q R Bb B v)(Z:fP W W'):tY wb W' id ms q R Bb B v:=
 ⟨h.pT.below Z,h.row.below Z,λi hi=>(h.lk i hi).below Z,fQ h.ph Z,h.gR,h.gB,h.gV,h.dis⟩
def Gt(id:Int)(ms:Nat->Int)(B B':Nat->Nat):∀q,(∀i<q,B i=B' i)->Au id ms B q=Au id ms B' q
 |0,_=>rfl
 |q+1,h=>by
  unfold Au;rw[Gt id ms B B' q (λi hi=>h i fC),h q fC]
def Gu(w:fA)(D:Array fB)(t:TypeId)(g:Nat)(Z:w.heap.size=g):∀(j:Nat) (u:fB),D.toList[j]? =μ u->(w.alloc (γ D t)).drew.cell? ((⟨g,0,ν⟩:Addr).add j)=μ u:=by
 subst Z;intro j u hu;rw[add_plain];show(w.alloc (γ D t)).cell? _=_;rw[ay];simpa using hu
def tY.add {W2 x1:fA} {q:Nat} {B' g' kE:Nat} {D:Array fB} (h:tY wb W2 id ms q RR Bb B v)(hD:rowOf 71 (yX (CJ (ms q) (8*id+q+1)) B' (σ ν 0 0) OY)=D)
 (M:Lk W2 B' ((CJ (ms q) (8*id+q+1)).L.c (σ ν 0 0))) (tT:wb.heap.size<=B') (u:B'≠RR) (Vo:v.ownBlock≠μ B') (N9:∀i<q,B i≠B')
 (hr:Row x1 71 (σ (μ ⟨g',0,ν⟩) (q+1) kE) (q+1) (Au id ms B q++D.toList)) (X:(W2.alloc o).drew.grownBy x1 v.ownBlock) (ku:v.ownBlock=μ g' \/(W2.alloc o).drew.heap.size<=g'):
 tY wb (x1.setCell ⟨RR,1,ν⟩ (σ (μ ⟨g',0,ν⟩) (q+1) kE)) id ms (q+1) RR Bb (λi=>if i=q then B' else B i) (σ (μ ⟨g',0,ν⟩) (q+1) kE):=by
  have A:v.ownBlock=μ g' \/W2.heap.size<=g':=ku.imp_right (λe=>au (by show W2.heap.size<=(W2.alloc o).heap.size;simp) e);have hO:v.ownBlock≠μ RR:=λe=>(h.gV _ e).2 rfl
  have S:∀k<W2.heap.size,v.ownBlock≠μ k->k≠RR->(x1.setCell ⟨RR,1,ν⟩ (σ (μ ⟨g',0,ν⟩) (q+1) kE)).heap[k]? =W2.heap[k]? :=by
   intro k Y Q h2;rw[ax _ _ _ k h2,X.block k (by show k<(W2.alloc o).heap.size;simp;omega) (λe=>Q e.symm)];exact bk W2 o k Y
  have ud:W2.heap.size<=x1.heap.size:=au (by show W2.heap.size<=(W2.alloc o).heap.size;simp) X.size;have hRl:=h.pT.lt
  have H:g'≠RR:=by
   intro e;obtain Z|Z:=A;{exact hO (by rw[Z,e])};omega
  have E:=h.ph.size;refine⟨(wy h.pT X hO).set 1 _,?_,λi hi=> ?_,⟨X.os.trans h.ph.os,X.tape.trans h.ph.tape,X.output.trans h.ph.output,au E (by simpa using ud),λk Y=> ?_⟩,h.gR,λi hi=> ?_,λk Y=> ?_,λi j hi hj G=> ?_⟩
  ·have Z:Au id ms (λi=>if i=q then B' else B i) (q+1)=Au id ms B q++D.toList:=by
    show Au id ms (λi=>if i=q then B' else B i) q++_=_;rw[Gt id ms _ B q (λi hi=>by simp[show i≠q by omega])];simp only[if_true];rw[hD]
   rw[Z];exact hr.keep gZ (λk Y=>ax _ _ _ k (by
    have U:g'=k:=by simpa[fD]using Y
    show k≠RR;omega))
  {by_cases e:i=q;{subst e;simp only[if_true];exact M.keep (S B' M.lt Vo u)};simp only[e,if_false];have hl:=h.lk i fC;exact hl.keep (S (B i) hl.lt (h.gB i fC).2.2 (h.gB i fC).2.1)};{exact(S k fC (λe=>by have:=(h.gV k e).1;omega) (by have:=h.gR;omega)).trans (h.ph.block k Y)}
  ·have V:∀k<W2.heap.size,v.ownBlock≠μ k->fD (σ (μ ⟨g',0,ν⟩) (q+1) kE)≠μ k:=by
    intro k Y Q e;have U:g'=k:=by simpa[fD]using e
    obtain Z|Z:=A;{exact Q (by rw[Z,U])};omega
   by_cases e:i=q;{subst e;simp only[if_true];exact⟨tT,u,V B' M.lt Vo⟩};simp only[e,if_false];have J:=h.gB i fC;exact⟨J.1,J.2.1,V (B i) (h.lk i fC).lt J.2.2⟩
  ·have U:g'=k:=by simpa[fD]using Y
   subst U;refine⟨?_,H⟩;obtain Z|Z:=A;{exact(h.gV _ Z).1};omega
  by_cases Z:i=q;{have T:j≠q:=fC;simp only[Z,T,if_true,if_false];exact λe=>N9 j fC e.symm};by_cases T:j=q;{simp only[Z,T,if_true,if_false];exact N9 i fC};simp only[Z,T,if_false];exact h.dis i j fC fC G
def aa6 {m mg:Int} (hg:1<=mg/\mg<=255):B5 (CJ m mg).L:=⟨by show zw 1 0 0=true;decide,by show(0:Int)<=0;omega,by show(0:Int)<=255;omega,by show 0<=mg;omega,by show mg<=255;omega,by show 0<=mg;omega,by show mg<=255;omega⟩
def Er(R g cap Bb:Nat)(B:Nat->Nat)(m:FM)(n:Nat):Zt:=⟨R,g,cap,B,λ_=>σ ν 0 0,Bb,{m with no:=λk=>m.no k \/k=R \/k=g \/ ∃i,i<n/\k=B i},σ ν 0 0⟩
def JA {R cap:Nat} (h:(Er R g cap Bb B m n).mine n k):k=R \/k=g \/ ∃i,i<n/\k=B i:=by
 obtain e|e|⟨i,hi,e|e⟩|e:=h;{exact .inl e};{exact .inr (.inl e)};{exact .inr (.inr ⟨i,hi,e⟩)};{simp[Er,fD]at e};simp[Er,fD]at e
def tY.done {W:fA} (h:tY wb W id ms n RR Bb B v)(E:1<=n/\n<=3)(qo:1<=id/\id<=6)(G:kd wb)
 (X:BR wb Bb m k (λx=>if x=id then μ (1,[])else ν) (λ_ x=>if x=id then μ (1,[])else ν)) (V:¬m.no Bb/\¬m.no m.g/\∀b,(b=m.bm \/b∈m.bs)->¬m.no b) (rS:m.bs.length=n):
 ∃g cap,v=σ (μ ⟨g,0,ν⟩) n cap/\n9 W (Er RR g cap Bb B m n) (kZ id n ms)/\wb.heap.size<=g:=by
  obtain⟨_,h0⟩|⟨g,cap,rfl,Q8,u,asI,hc,hf⟩:=h.row.2;{omega};have Y:=h.gV g rfl;have h0:=G.lt;have aeo:Bb<wb.heap.size:=by obtain⟨_,_,hF,_⟩:=X.ex;exact hF.lt
  have aep:m.g<wb.heap.size:=by obtain⟨_,_,hF,_⟩:=X.ex;exact hF.row.lt _ rfl
  have U:∀j,(j=RR \/j=g \/ ∃i,i<n/\j=B i)->wb.heap.size<=j/\j<W.heap.size:=by
   intro j Z;obtain rfl|rfl|⟨i,hi,rfl⟩:=Z;{exact⟨h.gR,h.pT.lt⟩};{exact⟨Y.1,Q8⟩};exact⟨(h.gB i hi).1,(h.lk i hi).lt⟩
  have A:=X.still h.ph.size (λj Z _=>h.ph.block j Z) V.1 V.2.1 V.2.2 (λj=>m.no j \/j=RR \/j=g \/ ∃i,i<n/\j=B i) (λj Z=>Z.imp_right (λe=>(U j e).1)) (λj Z=>Z.elim (λe=>aq (X.S0 j e) h.ph.size) (λe=>(U j e).2));have hlen:=yu id ms B n;refine⟨g,cap,rfl,⟨E.1,E.2,u,qo,h.pT,λi hi=> ?_,Row.nil _ 3,A.six,rS,λj Z=>.inr (JA Z),⟨λe=> ?_,λe=> ?_,λb T e=> ?_⟩,⟨λe=>Y.2 e.symm,by have:=h.gR;show RR≠0;omega,λi hi=>⟨(h.gB i hi).2.1,by simp[Er,fD]⟩⟩,λi j hi Z Q=>⟨h.dis i j hi Z Q,λk M=>by simp[Er,fD]at M⟩,λi j _ _=>by simp[Er,fD],λk M=>by simp[Er,fD]at M,⟨by simp[Er,fD],λb T e=> ?_⟩⟩,Y.1⟩;{have J:i<n:=hi;have S:=h.gB i J;refine⟨⟨OY,λj Z=>⟨?_,?_⟩,EE.zero⟩,h.lk i J,Row.nil _ 1,by show(0:Nat)<=_;omega,aa6 (m:=ms i) (mg:=8*id+i+1) fC,λe=>S.2.2 (by show μ g=μ (B i);rw[show g=B i from e]),by simp[Er,fD],by simp[Er,fD],⟨by show g≠0;omega,by show B i≠0;omega,by simp[Er,fD]⟩⟩;{exact hc (i*71+j) _ (RA id ms B n i j J Z)};exact(hf (i*71+j) (by have:(i+1)*71<=cap*71:=dH 71 fC;omega)).2};{obtain e|e:=e;{exact V.1 e};have:=(U _ e).1;have H:wb.heap.size<=Bb:=this;omega};{obtain e|e:=e;{exact V.2.1 e};have:=(U _ e).1;have H:wb.heap.size<=m.g:=this;omega};{obtain e|e:=e;{exact V.2.2 b T e};have h8:=(U b e).1;have H:=X.mlt b T;omega};exact rT (G 0 0 fF fF) (X.maps b T) e.symm
def XV(id:Int)(b off n cap:Nat)(ms:Nat->Int)(w:fA)(hT:kd w)(qo:1<=id/\id<=6)(hn:1<=n/\n<=3)(hms:∀i<n,w.cell? ⟨b,off+i,ν⟩=μ (ι κ (ms i)))(hm:∀i<n,1<=ms i/\ms i<=20)(X:Nat->Prop)(hX:∀k,X k->k<w.heap.size):
 gb gg 17 #[ι κ id,σ (μ ⟨b,off,ν⟩) n cap] w λe w'=>∃z,e=ρ (τ #[π (μ ⟨z.R,0,ν⟩),η])/\n9 w' z (kZ id n ms)/\fP w w'/\(∀k,z.mine n k->w.heap.size<=k)/\w.heap.size<=z.fm.bm/\(∀x∈z.fm.bs,w.heap.size<=x)/\∀k,X k->z.fm.no k:=by
  have hz:=Pr;have ud:=Ps;obtain⟨i0,hi,pB,oR,oe⟩:=bu XS;obtain⟨Zp,Vr⟩:=fH (rowOf 71 zPt);have Tw:Zp.size=71:=by rw[<-Vr];exact oo _ _
  rw[Vr]at hz pB;have anb:¬Zp= #[] :=λe=>by rw[e]at Tw;simp at Tw
  have hnb:=Wy n w hn;have g1:¬id<1:=fC;have g2:¬6<id:=fC;clear Vr;go_in;go_wp2_with fail;refine hnb.mono ?_;rintro e w1 ⟨rfl,m,Ca,tT,b1,m1,m2,m3⟩;have tT:=tT.avoid X (λk e=>aq (hX k e) b1.size);obtain⟨V,XW⟩:∃V:FM,({m with no:=X}:FM)=V:=⟨_,rfl⟩
  have mT:V.no=X:=by rw[<-XW]
  have Ca:V.bs.length=n:=by rw[<-XW];exact Ca
  have m1:w.heap.size<=V.bm:=by rw[<-XW];exact m1
  have m3:∀x∈V.bs,w.heap.size<=x:=by rw[<-XW];exact m3
  have m2:w.heap.size<=V.g:=by rw[<-XW];exact m2
  rw[XW]at tT;have Vx:=Mn (w.heap.size+1) V 0 (λ_=>ν) (λ_ _=>ν) id 1 ν 0 0 [] w1 tT (uC fC) ⟨rfl,.inl rfl⟩ (λ_=>rfl) fC (by unfold qq;rw[af fC];rfl);clear hnb;go_wp2_with fail;refine Vx.mono ?_;rintro e wb ⟨rfl,hBR,hKM⟩;clear Vx;have bb:fP w wb:=kM.below b1 hKM m1 m3;have H0:tY wb (wb.alloc (γ #[ι κ id,σ ν 0 0,π (μ ⟨w.heap.size+1,0,ν⟩),σ ν 0 0,ι κ 0] 135)) id ms 0 wb.heap.size (w.heap.size+1) (λ_=>0) (σ ν 0 0):=⟨j2.new wb _ _,Row.nil _ _,λi hi=>fC,gu _ _,aj _,λi hi=>fC,λk hk=>by simp[fD]at hk,λi j hi=>fC⟩
  have H9:∀W,fP wb W->∀i<n,W.cell? ⟨b,off+i,ν⟩=μ (ι κ (ms i)):=λW hW i hi=>by
   have hc:=(ak (a:=⟨b,off+i,ν⟩) (bb.block b (ai _ _ (hms i hi)))).trans (hms i hi);exact(ak (a:=⟨b,off+i,ν⟩) (hW.block b (ai _ _ hc))).trans hc
  have hTb:kd wb:=hT.below bb;have HBR:Hid _:=hBR;have HBB:Hid _:=bb;have HCM:Hid _:=H9;have HH0:Hid _:=H0
  have Q:Hid (w.heap.size<=V.bm/\(∀x∈V.bs,w.heap.size<=x)/\V.bs.length=n/\(¬V.no (w.heap.size+1)/\¬V.no V.g/\∀b,(b=V.bm \/b∈V.bs)->¬V.no b)/\∀k,X k->V.no k):=by
   refine⟨m1,m3,Ca,⟨λe=> ?_,λe=> ?_,λb hb e=> ?_⟩,λk hk=>by rw[mT];exact hk⟩;{rw[mT]at e;have M:=hX _ e;omega};{rw[mT]at e;have M:=hX _ e;omega};rw[mT]at e;have M:=hX _ e;obtain rfl|hb:=hb;{omega};have h2:=m3 b hb;omega
  obtain⟨Bb,KP⟩:=fH (w.heap.size+1);rw[KP]at HH0 HBR Q;clear hBR bb H9 H0 b1 hKM tT m1 m2 m3 Ca hms mT XW;go_wp2_with fail;(try rw[KP]);obtain⟨RR,H⟩:=fH (wb.heap.size);rw[H]at HH0;rw[H];have HRR:Hid _:=H;have oA:=hn.1;have xC:=hn.2;have anh:=qo.1;have aeO:=qo.2;clear hn qo H;go_loopw [39] (λx wr=>∃(q:Nat) (B:Nat->Nat) (v:fB),q<=n/\x=ι κ q/\tY wb wr id ms q RR Bb B v) (λx _=>n-(gj x).toNat);(case atStart=>exact⟨0,_,_,aw _,rfl,HH0.out⟩)
  case round=>
   obtain⟨q,B,v,hq,rfl,J⟩:=hrel;by_cases lZ:q<n
   ·have pE:(q:Int)<(n:Int):=fC;have hq0:(0:Int)<=(q:Int):=fC;have hmc:=HCM.out _ J.ph q lZ;have Ca:=ai _ _ hmc;have hmq:=hm q lZ;have hnp:=MV (ms q) (8*id+q+1) wr (hTb.below J.ph) hmq fC;have HM:Hid _:=J;clear J;go_wp2_with fail;refine hnp.mono ?_;rintro e w1 ⟨B',rfl,hLk,hBg,bN⟩;clear hnp;obtain⟨D,hD⟩:=fH (rowOf 71 (yX (CJ (ms q) (8*id+q+1)) B' (σ ν 0 0) OY));have A:D.size=71:=by rw[<-hD];exact oo _ _
    have qX:D.all (·.oneCell')=true:=by rw[<-hD];exact KF EE.zero rfl
    have hDl:D.toList.length=1*71:=by rw[dQ,A]
    have acY:∀u∈D.toList,u.oneCell'=true:=λu hu=>(cL.1 qX) u (by simpa using hu);rw[hD];have kt:=eW w1 Zp D 142;have M1:=HM.out.below bN;have bA:=gu w1 (γ D 142);have M2:=M1.below bA;have hV:j2 (w1.alloc (γ D 142)) w1.heap.size D 142:=j2.new _ _ _;have aeP:=hLk.below bA;go_wp2_with(refine pY _ rfl (.tmp 11) (.tmp 52) 142 rfl rfl w1.heap.size Zp D rfl rfl (j2.new _ _ _) (by rw[Tw,A]) (by rw[A];exact ud) qX ?_;rw[kt]);obtain⟨W2,oW⟩:=fH (w1.alloc (γ D 142));obtain⟨Y,hY⟩:=fH (w1.heap.size);rw[oW]at M2 hV aeP;rw[hY]at hV;rw[oW,hY];have hBf:B'<Y:=by rw[<-hY];exact hLk.lt
    have hMY:wb.heap.size<=B':=by have M:=HM.out.ph.size;omega
    have c1:W2.cell? ⟨RR,1,ν⟩=μ v:=M2.pT.cell 1;have cl:=M2.pT.lt;have qk:=M2.pT;have j0:=M2.row;have HO:Hid (v.ownBlock≠μ RR):=λe=>(M2.gV _ e).2 rfl;have I9:Hid _:=M2;have asM:wr.heap.size<B':=hBg;have HOY:Hid (v.ownBlock≠μ Y):=λe=>by have M:=M1.row.lt Y e;omega
    have anj:RR<Y:=by have M:=M1.pT.lt;omega
    clear kt M1 bA M2 oW hLk bN;have hYR:Y≠RR:=by intro e;have M:=anj;omega
    have TY:j2 (W2.alloc (γ D 142)).drew Y D 142:=j2.below hV (kN (gu _ _));have c1b:(W2.alloc (γ D 142)).drew.cell? ⟨RR,1,ν⟩=μ v:=oq c1
    have lz:∀T:fA,j2 T Y D 142->(iH 142 (π (μ ⟨Y,0,ν⟩))).run gg T=.ok (.agg D) T:=λT hS=>by
     simp only[iH,Instr.sureAddr,Sem.run_bind,Sem.run_pure,Result.andThen];exact cA T Y 142 142 D (0,0) _ hS underlying142 rfl (by rw[A];exact ud)
    have oB:B'≠RR:=by have M:=HM.out.pT.lt;omega
    have uA:v.ownBlock≠μ B':=λe=>by have M:=HM.out.row.lt B' e;omega
    have hb4:∀i<q,B i≠B':=λi hi e=>by have M:=(HM.out.lk i hi).lt;omega
    have HD:Hid _:=hD;clear hD;refine cR (S:=λx=>j2 x Y D 142) iV hV (λhHeld=> ?_);refine mU 0 (μ 57) (v:= ?_) ?_ j9 ?_;rotate_left;{intro T E;go_simp;try with_reducible rfl}
    go_frame
    refine mU 1 (μ 58) (v:= ?_) ?_ j9 ?_;rotate_left;{intro T E;go_simp;try with_reducible rfl}
    go_frame
    refine mU 2 (μ 59) (v:= ?_) ?_ j9 ?_;rotate_left;{intro T E;go_simp;try with_reducible rfl}
    go_frame
    refine mU 3 (μ 60) (v:= ?_) ?_ j9 ?_;rotate_left;{intro T E;go_simp;try with_reducible rfl}
    go_frame
    refine Pm 5 (μ 62) rfl rfl iV iV iV (λ_ _ _ h=>h) (by rfl) (v:=.agg D) ?_ j9 ?_;{intro T E;have h7:=lz T E;simp[execOp,Act.eval,h7]}
    go_frame
    refine a8 (rs:=[4,6]) iV gZ ?_;refine aP (o:=_) rfl (λK Z=> ?_) (aP (o:=_) rfl (λK Z=> ?_) aX);{go_simp;(try go_wp2_with fail);refine Z.out _ _ (by exact hV) (λhHeld=> ?_);clear Z K;refine a8 (rs:=[6]) iV gZ ?_;refine aP (o:=_) rfl (λK Z=> ?_) aX;go_simp;rw[Gs D _ (by rw[A];rfl) 71 A];refine Z.out _ _ (by exact TY) (λhHeld=> ?_);clear Z K;refine a8 (rs:=[7]) iV gZ ?_;refine aP (o:=_) rfl (λK Z=> ?_) aX;refine nN (by rfl) (.tmp 61) (.tmp 63) 133 (by rfl) 142 i0 (.agg Zp) 71 144 underlying133 hi pB oR oe Tw fF v q (Au id ms B q) (by rfl) ((j0.alloc _).drew) _ 1 1 D.toList (by rfl) hDl fF (Gu _ _ _ _ rfl) acY (by unfold maxLen;omega) fC ?_;intro g' kE x1 mQ G kO;have Om:=wy qk G HO.out;have U:=wy hV G HOY.out;have f1:=Om.frozen 1;have k1:x1.cell? ⟨RR,1,ν⟩=μ v:=Om.cell 1;refine Z.out _ _ (by exact U) (λhHeld=> ?_);clear Z K;refine mU 8 (μ 65) (v:= ?_) ?_ j9 ?_;rotate_left;{intro T E;go_simp;try with_reducible rfl};simp only[jg,jh];refine mU 9 (μ 66) (v:= ?_) ?_ j9 ?_;rotate_left;{intro T E;go_simp;try with_reducible rfl};simp only[jg];refine a8 (rs:=[10]) iV gZ ?_;refine aP (o:=_) rfl (λK Z=> ?_) aX;go_simp;(try go_wp2_with fail);refine Z.out _ _ (by exact U.other hYR _) (λhHeld=> ?_);clear Z K;refine dk iV ?_ _;have HAdd:Hid _:=tY.add I9.out HD.out aeP hMY oB uA hb4 mQ G kO;clear mQ G kO Om U f1 k1;go_wp2;go_roundw;(case rel=>exact⟨q+1,_,_,fC,by go_num,HAdd.out⟩);case measure=>simp[gj];omega};go_simp;rw[Gs D _ (by rw[A];rfl) 71 A];refine Z.out _ _ (by exact TY) (λhHeld=> ?_);clear Z K;refine a8 (rs:=[4]) iV gZ ?_;refine aP (o:=_) rfl (λK Z=> ?_) aX;go_simp;(try go_wp2_with fail);refine Z.out _ _ (by exact TY) (λhHeld=> ?_);clear Z K;refine a8 (rs:=[7]) iV gZ ?_;refine aP (o:=_) rfl (λK Z=> ?_) aX;refine nN (by rfl) (.tmp 61) (.tmp 63) 133 (by rfl) 142 i0 (.agg Zp) 71 144 underlying133 hi pB oR oe Tw fF v q (Au id ms B q) (by rfl) ((j0.alloc _).drew) _ 1 1 D.toList (by rfl) hDl fF (Gu _ _ _ _ rfl) acY (by unfold maxLen;omega) fC ?_;intro g' kE x1 mQ G kO;have Om:=wy qk G HO.out;have U:=wy hV G HOY.out;have f1:=Om.frozen 1;have k1:x1.cell? ⟨RR,1,ν⟩=μ v:=Om.cell 1;refine Z.out _ _ (by exact U) (λhHeld=> ?_);clear Z K;refine mU 8 (μ 65) (v:= ?_) ?_ j9 ?_;rotate_left;{intro T E;go_simp;try with_reducible rfl};simp only[jg,jh];refine mU 9 (μ 66) (v:= ?_) ?_ j9 ?_;rotate_left;{intro T E;go_simp;try with_reducible rfl};simp only[jg];refine a8 (rs:=[10]) iV gZ ?_;refine aP (o:=_) rfl (λK Z=> ?_) aX;go_simp;(try go_wp2_with fail);refine Z.out _ _ (by exact U.other hYR _) (λhHeld=> ?_);clear Z K;refine dk iV ?_ _;have HAdd:Hid _:=tY.add I9.out HD.out aeP hMY oB uA hb4 mQ G kO;clear mQ G kO Om U f1 k1;go_wp2;go_roundw;(case rel=>exact⟨q+1,_,_,fC,by go_num,HAdd.out⟩);case measure=>simp[gj];omega
   have hqn:q=n:=fC;subst hqn;obtain⟨g,cp,hv,hR,SD⟩:=J.done ⟨oA,xC⟩ ⟨anh,aeO⟩ hTb HBR.out Q.out.2.2.2.1 Q.out.2.2.1
   have HF:Hid (∃z:Zt,z.R=RR/\n9 wr z (kZ id q ms)/\fP w wr/\(∀k,z.mine q k->w.heap.size<=k)/\w.heap.size<=z.fm.bm/\(∀x∈z.fm.bs,w.heap.size<=x)/\∀k,X k->z.fm.no k):=by
    refine⟨_,rfl,hR,fQ HBB.out J.ph,λk hk=> ?_,Q.out.1,Q.out.2.1,λk hk=>.inl (Q.out.2.2.2.2 k hk)⟩;have hs:=HBB.out.size;obtain rfl|rfl|⟨i,hi,rfl⟩:=JA hk;{have:=J.gR;omega};{omega};have:=(J.gB i hi).1;omega
   have zD:¬(q:Int)<(q:Int):=fC;clear J hR SD hv;go_wp2;go_ret2;obtain⟨z,oR,oe⟩:=HF.out;exact⟨z,by rw[oR];rfl,oe⟩
def RB:(gg.info? 3).map (λi=>(i.zero,i.size,i.bytes))=μ (μ (ι κ 0),1,8):=iV
def xx(ms:Nat->Int):Nat->List fB
 |0=>[]
 |q+1=>xx ms q++ [.int .i64 (ms q)]
def uu(ms:Nat->Int):∀q,(xx ms q).length=q
 |0=>rfl
 |q+1=>by unfold xx;rw[aG,uu ms q];rfl
def MW(ms:Nat->Int):∀(q i:Nat),i<q->(xx ms q)[i]? =μ (ι κ (ms i))
 |q+1,i,h=>by
  unfold xx;by_cases e:i<q;{rw[bT (by rw[uu];exact e)];exact MW ms q i e};{have:i=q:=fC;subst this;rw[bL (by rw[uu];exact aj _),uu,dx];rfl}
def zM(N b i:Nat)(E:List (Int×Int×Int))(ms:Nat->Int)(w:fA)(hc:w.cell? ⟨N,2,ν⟩=μ (.map (μ b)))(hm:qw w b E)(hE:EJ E)(hi6:i<6)(ht:∀p:Nat,p<3->(mM E ((i:Int)+1) (p:Int)).getD 1=ms p/\1<=ms p/\ms p<=20)(hT:kd w)(X:Nat->Prop)(hX:∀k,X k->k<w.heap.size):
 gb gg 96 #[π (μ ⟨N,0,ν⟩),ι κ ((i:Int)+1)] w λe w'=>∃z,e=ρ (τ #[π (μ ⟨z.R,0,ν⟩),η])/\n9 w' z (kZ ((i:Int)+1) 3 ms)/\fP w w'/\(∀k,z.mine 3 k->w.heap.size<=k)/\w.heap.size<=z.fm.bm/\(∀x∈z.fm.bs,w.heap.size<=x)/\∀k,X k->z.fm.no k:=by
  obtain⟨i0,hi,pB,oR,oe⟩:=bu RB;have Nl:=ai _ _ hc
  have bl:b<w.heap.size:=by
   obtain⟨es,clock,h1,_⟩:=hm;exact(aE.1 h1).1
  have HL:Hid (∀W,fP w W->∀p:Nat,p<3->(Instr.lookup 184 (.map (μ b)) (.agg #[ι κ ((i:Int)+1),ι κ (p:Int)]) true).run gg W=.ok (τ #[ι κ ((mM E ((i:Int)+1) (p:Int)).getD 0),.bool (mM E ((i:Int)+1) (p:Int)).isSome]) W):=by
   intro W A p hp;exact qw.look (hm.keep (A.block b bl)) hE ⟨fC,fC,fC,fC⟩
  have HC:Hid (∀W,fP w W->W.cell? ⟨N,2,ν⟩=μ (.map (μ b))/\N<W.heap.size):=by
   intro W A;exact⟨(ak (a:=⟨N,2,ν⟩) (A.block N Nl)).trans hc,aq Nl A.size⟩
  have HT:Hid _:=ht;have TP:Hid _:=hT;clear hm hc ht hT;go_in;go_wp2;go_loopw [6,10] (λv x wr=>∃q:Nat,q<=3/\x=ι κ q/\Row wr 1 v q (xx ms q)/\(∀k,v.ownBlock=μ k->w.heap.size<=k)/\fP w wr) (λ_ x _=>3-(gj x).toNat);(case atStart=>exact⟨0,aw _,rfl,Row.nil _ _,λk Z=>by simp[fD]at Z,aC _ _⟩)
  case round=>
   obtain⟨q,hq,rfl,Y,ku,V⟩:=hrel;by_cases lZ:q<3
   ·have pE:(q:Int)<3:=fC;have u:=HL.out wr V q lZ;obtain⟨d2,dl⟩:=HC.out wr V;obtain⟨Q,t2,t3⟩:=HT.out q lZ;have HR:Hid _:=Y;have G:Hid _:=ku;have U:Hid _:=V;clear ku V;cases h:mM E ((i:Int)+1) (q:Int)with
    |none=>
     rw[h]at u Q;have T1:Hid (ms q=1):=Q.symm;have e0:(ji (ν:Option Int) 0)=0:=rfl;have e1:(jj (ν:Option Int))=false:=rfl;rw[e0,e1]at u;clear h Q;go_wp2_with(at_builtin;go_must(refine jN _ rfl (.tmp 26) (.tmp 28) 22 rfl 3 i0 (ι κ 0) 1 8 underlying22 hi pB oR oe rfl fF u6 q (xx ms q) rfl (Y.alloc _) _ 1 1 [ι κ 1] rfl rfl fF (sL _ _ _) (yQ _ _) (by unfold maxLen;omega) fC ?_));intro T J w3 S H M;have HN:Hid (Row w3 1 (σ (μ ⟨T,0,ν⟩) (q+1) J) (q+1) (xx ms (q+1))/\(∀k,fD (σ (μ ⟨T,0,ν⟩) (q+1) J)=μ k->w.heap.size<=k)/\fP w w3):=by
      have hs:=U.out.size;refine⟨by unfold xx;rw[T1.out];exact S,λk Z=> ?_,?_⟩
      ·have:T=k:=by simpa[fD]using Z
       subst this;obtain e|e:=M;{exact G.out _ e};{have:(wr.alloc (γ #[ι κ 1] 3)).heap.size=wr.heap.size+1:=gZ;omega}
      ·exact(U.out.alloc hs _).grown H (by simp;omega) (λk Z=>G.out k (by rw[<-Z]))
     clear S H M Y
     go_wp2
     go_roundw
     case rel=>exact⟨q+1,fC,by go_num,HN.out⟩
     case measure=>simp[gj];omega
    |some m=>
     rw[h]at u Q;have T1:Hid (ms q=m):=Q.symm;have e0:(ji (μ m) 0)=m:=rfl;have e1:(jj (μ m))=true:=rfl;rw[e0,e1]at u;clear h Q;go_wp2_with(at_builtin;go_must(refine jN _ rfl (.tmp 26) (.tmp 28) 22 rfl 3 i0 (ι κ 0) 1 8 underlying22 hi pB oR oe rfl fF u6 q (xx ms q) rfl (Y.alloc _) _ 1 1 [ι κ m] rfl rfl fF (sL _ _ _) (yQ _ _) (by unfold maxLen;omega) fC ?_));intro T J w3 S H M;have HN:Hid (Row w3 1 (σ (μ ⟨T,0,ν⟩) (q+1) J) (q+1) (xx ms (q+1))/\(∀k,fD (σ (μ ⟨T,0,ν⟩) (q+1) J)=μ k->w.heap.size<=k)/\fP w w3):=by
      have hs:=U.out.size;refine⟨by unfold xx;rw[T1.out];exact S,λk Z=> ?_,?_⟩
      ·have:T=k:=by simpa[fD]using Z
       subst this;obtain e|e:=M;{exact G.out _ e};{have:(wr.alloc (γ #[ι κ m] 3)).heap.size=wr.heap.size+1:=gZ;omega}
      ·exact(U.out.alloc hs _).grown H (by simp;omega) (λk Z=>G.out k (by rw[<-Z]))
     clear S H M Y
     go_wp2
     go_roundw
     case rel=>exact⟨q+1,fC,by go_num,HN.out⟩
     case measure=>simp[gj];omega
   obtain rfl:q=3:=fC;have S:=Y
   have hsh:∃g cap,u6=σ (μ ⟨g,0,ν⟩) 3 cap:=by
    obtain⟨_,e2⟩|⟨g,cap,e,_⟩:=Y.2;{omega};exact⟨g,cap,e⟩
   obtain⟨g,cap,rfl⟩:=hsh;have kt:=XV ((i:Int)+1) g 0 3 cap ms wr (kd.below (w:=w) TP.out V) fC fC (λj hj=>by
    have:=Row.cell Y j _ (MW ms 3 j hj);rw[aY];exact this) (λj hj=>(HT.out j hj).2) X (λk Z=>aq (hX k Z) V.size)
   have U:Hid _:=V;have h33:((3:Nat):Int)=3:=rfl;clear Y ku V S;go_wp2_with fail;refine kt.mono ?_;rintro e w1 ⟨z,rfl,hz⟩;have HZ:Hid _:=hz;clear kt hz;go_wp2;go_ret2;have hs:=U.out.size;obtain⟨z1,z2,z3,z4,z5,z6⟩:=HZ.out;exact⟨z,rfl,z1,fQ U.out z2,λk Z=>au hs (z3 k Z),au hs z4,λx hx=>au hs (z5 x hx),z6⟩
structure Idle(p:kB):Prop where
 st:p.L.st=1
 pe:p.pe=nobody
 out:p.out=[]
structure kR(r r':jO)(k:Nat):Prop where
 n:r'.n=r.n
 id:r'.id=r.id
 lo:r.drop<=r'.drop
 hi:r'.drop<=r.drop+k
def kR.refl(r:jO):kR r r 0:=⟨rfl,rfl,aZ _,fC⟩
def kR.mono(h:kR r r' k)(hl:k<=l):kR r r' l:=⟨h.n,h.id,h.lo,by have:=h.hi;omega⟩
def kR.trans {a b c:jO} {k l:Nat} (h:kR a b k)(g:kR b c l):kR a c (k+l):=⟨g.n.trans h.n,g.id.trans h.id,Int.le_trans h.lo g.lo,by have:=h.hi;have:=g.hi;omega⟩
def kR.zc(Z:r'.n=r.n)(hi:r'.id=r.id)(hd:r'.drop=r.drop):kR r r' 0:=⟨Z,hi,fC,fC⟩
def kR.jW(r:jO)(i:Nat)(p:kB):kR r (r.jW i p) 0:=kR.zc rfl rfl rfl
def kR.meet(r:jO)(i:Nat)(q:mX):kR r (r.meet i q) 0:=by
 obtain⟨_,Z,Y,_⟩:=oI r i q;exact kR.zc Y (EK _ _ _) Z
def kR.behind(r:jO)(s:Int):kR r (r.behind s) 0:=by
 obtain⟨_,Z,Y,_⟩:=qy r s;exact kR.zc Y (CA _ _) Z
def kR.send(r:jO)(t:wK):kR r (r.send t) 1:=by
 unfold jO.send;split;{exact kR.mono (k:=0) (kR.zc rfl rfl rfl) fC};split;{exact⟨rfl,rfl,by simp;omega,gZ⟩};exact(kR.jW _ _ _).mono fC
def kR.state(r:jO)(i:Nat)(l:List UInt8):kR r (kj r i l) 0:=by
 unfold kj;simp only;split;{exact kR.refl r};split;{exact kR.behind _ _};split<;>exact kR.zc rfl rfl rfl
def kR.link(r:jO)(i:Nat)(c:UInt8)(s:List UInt8):kR r (lE r i c s) 0:=by
 unfold lE;split;{exact kR.jW _ _ _};exact kR.refl r
def kR.rest(r:jO)(i:Nat)(c:UInt8)(s:List UInt8):kR r (nL r i c s) 1:=by
 unfold nL;split;{split;{exact(kR.meet _ _ _).mono fC};exact(kR.refl r).mono fC};split;{exact(kR.state _ _ _).mono fC};split;{unfold lV;simp only;split<;>exact kR.mono (k:=0) (kR.zc rfl rfl rfl) fC};split;{unfold sT;split;{exact kR.send _ _};exact(kR.refl r).mono fC};exact(kR.refl r).mono fC
def kR.take(r:jO)(i:Nat)(c:UInt8)(s:List UInt8):kR r (r.take i c s) 1:=by
 rw[mZ];have Z:=kR.link r i c s;split;{exact(Z.trans (kR.meet _ _ _)).mono fC};exact(Z.trans (kR.rest _ i c s)).mono fC
def kR.takes:∀(l:List (List UInt8)) (r:jO) (i:Nat),kR r (r.takes i l) l.length
 |[],r,_=>kR.refl r
 |t::l,r,i=>by
  show kR r ((kP r i t).takes i l) (l.length+1);have Y:=kR.takes l (kP r i t) i;have Z:kR r (kP r i t) 1:=by
   cases t with
   |nil=>exact kR.mono (kR.refl r) fC
   |cons c s=>exact kR.take r i c s
  exact kR.mono (Z.trans Y) fC
def kR.recv(r:jO)(i:Nat)(l:List UInt8):kR r (r.recv i l) l.length:=by
 unfold jO.recv;simp only;have h:=(kR.jW r i {r.P i with rd:=(l5 (r.P i).rd l).2.2}).trans (kR.takes (l5 (r.P i).rd l).1 _ i);refine h.mono ?_;have:=EF (r.P i).rd l;omega
def kR.jT(r:jO)(i:Nat)(up:Bool):kR r (r.jT i up).1 0:=by
 unfold jO.jT;simp only;split;{exact kR.refl r};exact((kR.jW r i _).trans (kR.meet _ _ _)).mono fC
def kR.jZ(r:jO)(i:Nat):kR r (r.jZ i) 0:=by
 rw[mO];have Z:kR r (j6 r i) 0:=kR.jW _ _ _;split;{exact Z.trans (kR.meet _ _ _)};exact(Z.trans (kR.meet _ i _)).trans (kR.jW _ _ _)
def kR.j5(r:jO):∀q,kR r (r.j5 q) 0
 |0=>kR.refl r
 |q+1=>(kR.j5 r q).trans (kR.jZ _ _)
def kR.lF(r:jO)(t:Int)(tx:List UInt8):kR r (lF r t tx).1 1:=by
 unfold Rt.lF;split;{exact kR.mono (k:=0) (kR.refl r) fC};show kR r (r.send (t,8,tx)) 1;exact kR.send r (t,8,tx)
def KQ {m:Nat} (h:nh r)(hf:Fit r k)(i:Nat)(A:List (List UInt8))(rd:l7)(hA:A.length<=m):nh ((r.jW i {r.P i with rd:=rd}).takes i A)/\Fit ((r.jW i {r.P i with rd:=rd}).takes i A) (k+2*m):=by
 have Y:nh (r.jW i {r.P i with rd:=rd}):=h.jW i _ rfl (λhi=>h.pe i hi);have f1:Fit (r.jW i {r.P i with rd:=rd}) k:=hf.jW i _ (λhi=>hf.out i hi);have Z:=CF A Y f1 i;exact⟨Z.2.1,Z.2.2.mono fC⟩
def XX(h:nh r)(hf:Fit r k)(i:Nat)(l:List UInt8):nh (r.recv i l)/\Fit (r.recv i l) (k+2*l.length):=
 KQ h hf i (l5 (r.P i).rd l).1 (l5 (r.P i).rd l).2.2 (au (ct _ _) (EF (r.P i).rd l))
def XY(h:nh r)(hf:Fit r k)(i:Nat)(up:Bool):nh (r.jT i up).1/\Fit (r.jT i up).1 (k+1):=by
 have Z:=(As (r.P i) up).1
 have hl:((r.P i).jT up).1.out.length<=(r.P i).out.length+6000:=by
  unfold kB.jT;have X:=Bl (r.P i).L (if up=true then 0 else 1);generalize mV (r.P i).L (if up=true then 0 else 1)=e at X⊢;simp only;by_cases Y:e.2.2=0;{rw[af (by simp[Y])];have h2:=Bk e.2.1 {r.P i with L:=e.1,rd:=([],false,false)};have h4:({r.P i with L:=e.1,rd:=([],false,false)}:kB).out.length=(r.P i).out.length:=rfl;show(({r.P i with L:=e.1,rd:=([],false,false)}:kB).say e.2.1).out.length<=_;omega};rw[ag Y];show(r.P i).out.length<=_;omega
 unfold jO.jT;generalize (r.P i).jT up=e at Z hl⊢;simp only;split;{exact⟨h,hf.mono (bK k)⟩};exact⟨(h.jW i _ Z.1 (λhi=>by rw[Z.2];exact h.pe i hi)).meet i (qe.nobody h.id.1),(hf.grow i _ hl).meet i _⟩
def PT(h:nh r)(hf:Fit r k)(t:Int)(tx:List UInt8):nh (lF r t tx).1/\Fit (lF r t tx).1 (k+1):=by
 unfold Rt.lF;split;{exact⟨h,hf.mono (bK k)⟩};exact⟨h.send _,hf.send _⟩
def lJ(r r':jO)(i:Nat):Prop:=∀p,p≠i->Idle (r.P p)->Idle (r'.P p)
def lJ.refl(r:jO)(i:Nat):lJ r r i:=λ_ _ h=>h
def lJ.trans {a b c:jO} (h:lJ a b i)(g:lJ b c i):lJ a c i:=λp Z hi=>g p Z (h p Z hi)
def lJ.jW(r:jO)(i:Nat)(q:kB):lJ r (r.jW i q) i:=λp Z h=>by
 show Idle (m8 r.P i q p);rw[kC _ _ Z];exact h
def lJ.zB(h:r'.P=r.P)(i:Nat):lJ r r' i:=λp _ hi=>by rw[h];exact hi
def lJ.meet(r:jO)(i:Nat)(q:mX):lJ r (r.meet i q) i:=λp Z h=>by
 rw[(oI r i q).2.2.2,kC _ _ Z];exact h
def JB(t:wK) {p:Nat} (h:Idle (r.P p)):Idle ((r.send t).P p):=by
 unfold jO.send;split;{exact h};split;{exact h};rename_i b Z;show Idle (m8 r.P b _ p);by_cases e:p=b;{subst e;exfalso;split at Z;{cases Y:ye (n8 r) t.1 with|none=>rw[Y]at Z;simp at Z|some x=>rw[Y]at Z;have X:kQ r.P x.qT r.n=μ p:=Z;have:=(oT X).2.1;rw[h.pe]at this;exact absurd this fF};simp at Z};rw[kC _ _ e];exact h
def lJ.send(r:jO)(t:wK)(i:Nat):lJ r (r.send t) i:=λ_ _ h=>JB t h
def lJ.state(r:jO)(i:Nat)(l:List UInt8):lJ r (kj r i l) i:=by
 unfold kj;simp only;split;{exact lJ.refl r i};split;{exact lJ.zB (qy _ _).2.2.2 i};split;{exact(lJ.zB rfl i).trans (lJ.jW _ _ _)};exact lJ.zB rfl i
def lJ.take(r:jO)(i:Nat)(c:UInt8)(s:List UInt8):lJ r (r.take i c s) i:=by
 rw[mZ]
 have Z:lJ r (lE r i c s) i:=by
  unfold lE;split;{exact lJ.jW _ _ _};exact lJ.refl _ _
 split;{exact Z.trans (lJ.meet _ _ _)};refine Z.trans ?_;unfold nL;split;{split;{exact lJ.meet _ _ _};exact lJ.refl _ _};split;{exact lJ.state _ _ _};split;{unfold lV;simp only;split<;>exact lJ.zB rfl i};split;{unfold sT;split;{exact lJ.send _ _ _};exact lJ.refl _ _};exact lJ.refl _ _
def lJ.takes:∀(l:List (List UInt8)) (r:jO) (i:Nat),lJ r (r.takes i l) i
 |[],r,i=>lJ.refl r i
 |t::l,r,i=>by
  show lJ r ((match t with|[] =>r|c::s=>r.take i c s).takes i l) i;refine lJ.trans ?_ (lJ.takes l _ i);cases t with
  |nil=>exact lJ.refl _ _
  |cons c s=>exact lJ.take r i c s
def lJ.recv(r:jO)(i:Nat)(l:List UInt8):lJ r (r.recv i l) i:=by
 unfold jO.recv;simp only;exact(lJ.jW r i _).trans (lJ.takes _ _ i)
def lJ.jT(r:jO)(i:Nat)(up:Bool):lJ r (r.jT i up).1 i:=by
 unfold jO.jT;simp only;split;{exact lJ.refl r i};exact(lJ.jW r i _).trans (lJ.meet _ _ _)
def MX(h:Idle p):p.tick=p:=by
 have X:j8 p.L=(p.L,[]):=by
  have Z:lS p.L=p.L:=by unfold lS;simp[h.st]
  have Y:nD p.L=[] :=by unfold nD;simp[h.st]
  unfold j8;rw[Z,Y];simp[h.st]
 unfold kB.tick;rw[X];rfl
def PU(i:Nat) {p:Nat} (h:Idle (r.P p)):Idle ((r.jZ i).P p):=by
 rw[mO];by_cases e:p=i
 ·subst e
  have Z:(j6 r p).P p=r.P p:=by
   show m8 r.P p (r.P p).tick p=_;rw[kJ,MX h]
  rw[Z,ag (by rw[h.st];decide),(oI _ _ _).2.2.2,kJ,Z];exact⟨h.st,rfl,h.out⟩
 have Z:Idle ((j6 r i).P p):=by
  show Idle (m8 r.P i _ p);rw[kC _ _ e];exact h
 split;{exact lJ.meet _ _ _ p e Z};exact lJ.jW _ i _ p e (lJ.meet _ _ _ p e Z)
def Gv {r:jO} {p:Nat} (h:Idle (r.P p)):∀q,Idle ((r.j5 q).P p)
 |0=>h
 |q+1=>PU q (Gv h q)
def MY(t:Int)(tx:List UInt8) {p:Nat} (h:Idle (r.P p)):Idle ((lF r t tx).1.P p):=by
 unfold Rt.lF;split;{exact h};show Idle ((r.send (t,8,tx)).P p);exact JB (t,8,tx) h
structure ll(y:jQ)(D k:Nat):Prop where
 n1:1<=y.n
 n6:y.n<=6
 c9:y.nc<=9
 en:∀c d,c<y.nc->d<2->((y.C c).e d).1<y.n/\((y.C c).e d).2<3
 ds:∀c d c' d',c<y.nc->d<2->c'<y.nc->d'<2->(y.C c).e d=(y.C c').e d'->c=c'/\d=d'
 ms:∀i p,i<y.n->p<3->1<=y.ms i p/\y.ms i p<=20
 rn:∀i<y.n,(y.R i).n=3/\(y.R i).id=(i:Int)+1
 ok:∀i<y.n,nh (y.R i)
 drop:∀i<y.n,0<=(y.R i).drop/\(y.R i).drop<=D
 ol:∀c d,c<y.nc->d<2->((y.C c).on d).length<=2000
 ib:∀i<y.n,(y.kA i).length<=D
 idle:∀i p,i<y.n->p<3->(∀c d,c<y.nc->d<2->(y.C c).e d≠(i,p))->Idle ((y.R i).P p)
 fit:∀i<y.n,(y.R i).kA.length<=k/\∀p<3,((y.R i).P p).out.length<=6000*k
def ll.mono {y:jQ} {D':Nat} (h:ll y D k)(hD:D<=D')(hk:k<=k'):ll y D' k':=
 ⟨h.n1,h.n6,h.c9,h.en,h.ds,h.ms,h.rn,h.ok,λi hi=>by have:=h.drop i hi;omega,h.ol,λi hi=>by have:=h.ib i hi;omega,h.idle,λi hi=>⟨by have:=(h.fit i hi).1;omega,λp Z=>by have:=(h.fit i hi).2 p Z;omega⟩⟩
def ll.fits {y:jQ} (h:ll y D k)(hD:D<=1000000000000000)(hi:i<y.n):Fit (y.R i) k:=
 ⟨(h.fit i hi).1,by have:=h.drop i hi;omega,λp Z=>(h.fit i hi).2 p (by rw[(h.rn i hi).1]at Z;exact Z)⟩
def ll.kG {y:jQ} {D k:Nat} (h:ll y D k) {i:Nat} (hi:i<y.n) {r:jO} {D' k':Nat} (U:D<=D')(hk:k<=k')(V:r.n=3/\r.id=(i:Int)+1)(T:nh r)(hd:0<=r.drop/\r.drop<=D')(hf:Fit r k')
 (S:∀p<3,(∀c d,c<y.nc->d<2->(y.C c).e d≠(i,p))->Idle (r.P p)):ll (y.kG i r) D' k':=by
  have X:∀j,(y.kG i r).R j=if j=i then r else y.R j:=λj=>rfl
  refine⟨h.n1,h.n6,h.c9,h.en,h.ds,h.ms,λj Z=> ?_,λj Z=> ?_,λj Z=> ?_,h.ol,λj Z=>au (h.ib j Z) U,λj p Z Y hc=> ?_,λj Z=> ?_⟩;{rw[X];by_cases e:j=i;{rw[ag e];subst e;exact V};rw[af e];exact h.rn j Z};{rw[X];by_cases e:j=i;{rw[ag e];exact T};rw[af e];exact h.ok j Z};{rw[X];by_cases e:j=i;{rw[ag e];exact hd};rw[af e];have:=h.drop j Z;omega};{rw[X];by_cases e:j=i;{rw[ag e];subst e;exact S p Y hc};rw[af e];exact h.idle j p Z Y hc};rw[X];by_cases e:j=i;{rw[ag e];exact⟨hf.kA,λp Y=>hf.out p (by rw[V.1];exact Y)⟩};rw[af e];exact⟨by have:=(h.fit j Z).1;omega,λp Y=>by have:=(h.fit j Z).2 p Y;omega⟩
def ll.call {y:jQ} (h:ll y D k)(hi:i<y.n)(V:k<=k')(Z:kR (y.R i) r g)(U:nh r)(hf:Fit r k')
 (T:∀p<3,(∀c d,c<y.nc->d<2->(y.C c).e d≠(i,p))->Idle ((y.R i).P p)->Idle (r.P p)):ll (y.kG i r) (D+g) k':=by
  have Y:=h.rn i hi;have h2:=h.drop i hi;have h3:=Z.lo;have h4:=Z.hi;exact h.kG hi fC V ⟨Z.n.trans Y.1,Z.id.trans Y.2⟩ U fC hf (λp X hc=>T p X hc (h.idle i p hi X hc))
def ll.nj {y:jQ} {D k:Nat} (h:ll y D k) {c:Nat} {cb:sE} (Y:c<y.nc->cb.e=(y.C c).e)(hl:c<y.nc->∀d<2,(cb.on d).length<=2000):ll (y.nj c cb) D k:=by
 have hC:∀x<y.nc,((y.nj c cb).C x).e=(y.C x).e:=λx hx=>by
  show(if x=c then cb else y.C x).e=_;by_cases e:x=c;{rw[ag e];subst e;exact Y hx};rw[af e]
 refine⟨h.n1,h.n6,h.c9,λx d hx hd=>by rw[hC x hx];exact h.en x d hx hd,λx d x' d' hx hd Z V e=>by rw[hC x hx,hC x' Z]at e;exact h.ds x d x' d' hx hd Z V e,h.ms,h.rn,h.ok,h.drop,λx d hx hd=> ?_,h.ib,λi p hi X hc=>h.idle i p hi X (λx d hx hd=>by have:=hc x d hx hd;rwa [hC x hx]at this),h.fit⟩;show((if x=c then cb else y.C x).on d).length<=_;by_cases e:x=c;{rw[ag e];subst e;exact hl hx d hd};rw[af e];exact h.ol x d hx hd
def ll.j6 {y:jQ} (h:ll y D k)(Y:D<=1000000000000000)(hi:i<y.n):ll (y.kG i (y.R i).tick) D (k+6):=by
 have Z:=CH (h.ok i hi) (h.fits Y hi) (y.R i).n (aj _);rw[(h.rn i hi).1]at Z;have e:(y.R i).tick=(y.R i).j5 3:=by unfold jO.tick;rw[(h.rn i hi).1]
 rw[e];exact h.call hi fC (kR.j5 _ 3) Z.2.1 Z.2.2 (λp _ _ X=>Gv X 3)
def ll.aib {y:jQ} (h:ll y D k)(X:D<=1000000000000000)(hc:c<y.nc)(hd:d<2)(l:List UInt8)(hl:l.length<=2000):ll (y.kG ((y.C c).e d).1 ((y.R ((y.C c).e d).1).recv ((y.C c).e d).2 l)) (D+2000) (k+4000):=by
 obtain⟨hi,Y⟩:=h.en c d hc hd;have Z:=XX (h.ok _ hi) (h.fits X hi) ((y.C c).e d).2 l;exact h.call hi fC ((kR.recv _ _ l).mono hl) Z.1 (Z.2.mono fC) (λp _ V Y=>lJ.recv _ _ l p (λe=>V c d hc hd (by rw[e])) Y)
def ll.XZ {y:jQ} (h:ll y D k)(X:D<=1000000000000000)(hc:c<y.nc)(hd:d<2)(up:Bool):ll (y.oH c d up) D (k+1):=by
 obtain⟨hi,Y⟩:=h.en c d hc hd;have Z:=XY (h.ok _ hi) (h.fits X hi) ((y.C c).e d).2 up;exact h.call hi fC (kR.jT _ _ up) Z.1 Z.2 (λp _ V Y=>lJ.jT _ _ up p (λe=>V c d hc hd (by rw[e])) Y)
def ll.RC {y:jQ} (h:ll y D k)(Y:D<=1000000000000000)(hi:i<y.n)(t:Int)(tx:List UInt8):ll (y.kG i (lF (y.R i) t tx).1) (D+1) (k+1):=by
 have Z:=PT (h.ok i hi) (h.fits Y hi) t tx;exact h.call hi fC (kR.lF _ t tx) Z.1 Z.2 (λp _ _ X=>MY t tx X)
def Bt {m:Nat->Int} (Z:1<=id/\id<=6)(U:∀i<3,1<=m i/\m i<=20):nh (kZ id 3 m):=by
 refine⟨Z,U,λi _=>qe.nobody Z.1,⟨(1,[]),?_,?_⟩,λx hx=> ?_⟩;{show(if id=id then μ ((1,[]):PS)else ν)=_;rw[ag rfl]};{show qq id 1 [] =0;unfold qq;have X:¬id<1:=fC;have V:¬6<id:=fC;simp[X,V,sj]};have Y:(if x=id then μ ((1,[]):PS)else ν).isSome=true:=hx;by_cases e:x=id;{omega};rw[af e]at Y;simp at Y
def T6 {m:Nat->Int} (k:Nat):Fit (kZ id 3 m) k:=⟨aw _,⟨aZ _,by show(0:Int)<=_;omega⟩,λ_ _=>aw _⟩
def sU(id:Int)(m:Nat->Int)(p:Nat):Idle ((kZ id 3 m).P p):=⟨rfl,rfl,rfl⟩
def ll.mY {y:jQ} {D k:Nat} (h:ll y D k)(T:D<=1000000000000000) {c d:Nat} (hc:c<y.nc)(hd:d<2):ll (y.mY c d) D k:=by
 obtain⟨hi,X⟩:=h.en c d hc hd;unfold jQ.mY;have hf:=h.fits T hi;have Y:=h.ok _ hi
 have U:ll (y.kG ((y.C c).e d).1 ((y.R ((y.C c).e d).1).out ((y.C c).e d).2)) D k:=by
  refine h.kG hi (aj _) (aj _) (h.rn _ hi) (Y.jW _ _ rfl (λhi=>Y.pe _ hi)) (h.drop _ hi) (hf.jW _ _ (λ_=>aw _)) (λp X Z=> ?_);exact lJ.jW _ _ _ p (λe=>Z c d hc hd (by rw[e])) (h.idle _ p hi X Z)
 refine U.nj (λ_=> ?_) (λ_ d' V=> ?_);{unfold sE.put;split<;>rfl};unfold sE.put;split;{rename_i hx;show(kK (y.C c).on d _ d').length<=2000;by_cases e:d'=d;{subst e;rw[jd,aG];exact hx.2};rw[iw _ _ e];exact h.ol c d' hc V};exact h.ol c d' hc V
def oJ(y:jQ)(c d:Nat):(y.mY c d).n=y.n/\(y.mY c d).nc=y.nc/\(y.mY c d).ms=y.ms/\(y.mY c d).kA=y.kA/\∀x,((y.mY c d).C x).e=(y.C x).e/\((y.mY c d).C x).jU=(y.C x).jU:=by
 refine⟨rfl,rfl,rfl,rfl,λx=> ?_⟩;show(if x=c then(y.C c).put d _ else y.C x).e=_/\(if x=c then(y.C c).put d _ else y.C x).jU=_;by_cases e:x=c;{rw[ag e];subst e;unfold sE.put;split<;>exact⟨rfl,rfl⟩};rw[af e];exact⟨rfl,rfl⟩
def lI(y:jQ):∀k,(y.lH k).n=y.n/\(y.lH k).nc=y.nc/\(y.lH k).ms=y.ms/\(y.lH k).kA=y.kA/\∀x,((y.lH k).C x).e=(y.C x).e/\((y.lH k).C x).jU=(y.C x).jU
 |0=>⟨rfl,rfl,rfl,rfl,λ_=>⟨rfl,rfl⟩⟩
 |k+1=>by
  obtain⟨X,V,U,T,Z⟩:=lI y k;obtain⟨b1,b2,b3,b4,b5⟩:=oJ (y.lH k) k 0;obtain⟨c1,c2,c3,c4,Y⟩:=oJ ((y.lH k).mY k 0) k 1;exact⟨c1.trans (b1.trans X),c2.trans (b2.trans V),c3.trans (b3.trans U),c4.trans (b4.trans T),λx=>⟨(Y x).1.trans ((b5 x).1.trans (Z x).1),(Y x).2.trans ((b5 x).2.trans (Z x).2)⟩⟩
def ll.lH {y:jQ} {D k:Nat} (h:ll y D k)(Z:D<=1000000000000000):∀q≤y.nc,ll (y.lH q) D k
 |0,_=>h
 |q+1,hq=>by
  have X:=ll.lH h Z q fC;have Y:(y.lH q).nc=y.nc:=(lI y q).2.1;have V:=X.mY Z (c:=q) (d:=0) (by rw[Y];omega) fC;exact V.mY Z (c:=q) (d:=1) (by show q<(y.lH q).nc;rw[Y];omega) fC
def CK(y:jQ)(c d i p:Nat):((y.mY c d).R i).P p=if(y.C c).e d=(i,p)then {(y.R i).P p with out:=[] }else(y.R i).P p:=by
 show((kK y.R ((y.C c).e d).1 ((y.R ((y.C c).e d).1).out ((y.C c).e d).2)) i).P p=_;by_cases e:i=((y.C c).e d).1;{rw[e,jd];show m8 _ ((y.C c).e d).2 _ p=_;by_cases Z:p=((y.C c).e d).2;{rw[Z,kJ,ag rfl]};rw[kC _ _ Z,af (λh=>Z (by rw[h]))]};rw[iw _ _ e,af (λh=>e (by rw[h]))]
def yv {y:jQ} (c d i p:Nat)(h:(y.C c).e d=(i,p) \/((y.R i).P p).out=[]):(((y.mY c d).R i).P p).out=[] :=by
 rw[CK];obtain h|h:=h;{rw[ag h]};split;{rfl};exact h
def Gw {y:jQ} (i p:Nat):∀q,((y.R i).P p).out=[] \/(∃c d,c<q/\d<2/\(y.C c).e d=(i,p))->(((y.lH q).R i).P p).out=[]
 |0,h=>by
  obtain h|⟨c,_,hc,_⟩:=h;{exact h}
  ·omega
 |q+1,h=>by
  have hs:=lI y q;have U:=oJ (y.lH q) q 0;by_cases Z:((y.R i).P p).out=[] \/(∃c d,c<q/\d<2/\(y.C c).e d=(i,p));{have ih:=Gw i p q Z;exact yv _ _ _ _ (.inr (yv _ _ _ _ (.inr ih)))}
  ·obtain h|⟨c,d,hc,hd,X⟩:=h;{exact absurd (.inl h) Z}
   ·have Y:c=q:=by
     obtain V|V:=dw c q;{exact absurd (.inr ⟨c,d,V,hd,X⟩) Z};{omega}
    subst Y;have T:d=0 \/d=1:=fC;obtain rfl|rfl:=T;{exact yv _ _ _ _ (.inr (yv _ _ _ _ (.inl ((hs.2.2.2.2 c).1▸X))))};{refine yv _ _ _ _ (.inl ?_);rw[(U.2.2.2.2 c).1,(hs.2.2.2.2 c).1];exact X}
def ll.outs {y:jQ} (h:ll y D k) {p:Nat} (hi:i<y.n)(Z:p<3):(((y.lH y.nc).R i).P p).out=[] :=by
 by_cases hx:∃c d,c<y.nc/\d<2/\(y.C c).e d=(i,p)
 {exact Gw i p _ (.inr hx)};exact Gw i p _ (.inl (h.idle i p hi Z (λc d hc hd e=>hx ⟨c,d,hc,hd,e⟩)).out)
def pP(y:jQ):∀k,(y.oM k).n=y.n/\(y.oM k).nc=y.nc/\(y.oM k).ms=y.ms/\(y.oM k).C=y.C
 |0=>⟨rfl,rfl,rfl,rfl⟩
 |k+1=>pP y k
def yx(y:jQ)(i:Nat):∀k,(y.oM k).R i=(if i<k then {y.R i with kA:=[] }else y.R i)/\(y.oM k).kA i=if i<k then y.kA i++(y.R i).kA else y.kA i
 |0=>by simp[jQ.oM]
 |k+1=>by
  obtain⟨X,V⟩:=yx y i k;show kK (y.oM k).R k {(y.oM k).R k with kA:=[] } i=_/\kK (y.oM k).kA k ((y.oM k).kA k++((y.oM k).R k).kA) i=_;by_cases e:i=k;{subst e;rw[jd,jd,X,V,af (fh i),af (fh i),ag (eE i),ag (eE i)];exact⟨rfl,rfl⟩};{rw[iw _ _ e,iw _ _ e,X,V];by_cases Y:i<k;{have Z:i<k+1:=fC;rw[ag Y,ag Z,ag Y,ag Z];exact⟨rfl,rfl⟩};{have Z:¬i<k+1:=fC;rw[af Y,af Z,af Y,af Z];exact⟨rfl,rfl⟩}}
def ll.oM {y:jQ} {D k:Nat} (h:ll y D k)(q:Nat):ll (y.oM q) (D+k) k:=by
 obtain⟨Z,V,M,U⟩:=pP y q
 have Y:∀i,((y.oM q).R i).n=(y.R i).n/\((y.oM q).R i).id=(y.R i).id/\((y.oM q).R i).P=(y.R i).P/\((y.oM q).R i).drop=(y.R i).drop/\((y.oM q).R i).K=(y.R i).K/\((y.oM q).R i).kA.length<=(y.R i).kA.length:=λi=>by
  rw[(yx y i q).1];split;{exact⟨rfl,rfl,rfl,rfl,rfl,aw _⟩};exact⟨rfl,rfl,rfl,rfl,rfl,aj _⟩
 refine⟨by rw[Z];exact h.n1,by rw[Z];exact h.n6,by rw[V];exact h.c9,λc d hc hd=> ?_,λc d c' d' hc hd Q H=> ?_,λi p hi S=> ?_,λi hi=> ?_,λi hi=> ?_,λi hi=> ?_,λc d hc hd=> ?_,λi hi=> ?_,λi p hi S J=> ?_,λi hi=> ?_⟩;{rw[U,Z];rw[V]at hc;exact h.en c d hc hd};{rw[U];rw[V]at hc Q;exact h.ds c d c' d' hc hd Q H};{rw[M];rw[Z]at hi;exact h.ms i p hi S};{rw[Z]at hi;rw[(Y i).1,(Y i).2.1];exact h.rn i hi};{rw[Z]at hi;have X:=h.ok i hi;rw[(yx y i q).1];split;{exact⟨X.id,X.m,X.pe,X.own,X.Tt⟩};exact X};{rw[Z]at hi;rw[(Y i).2.2.2.1];have:=h.drop i hi;omega};{rw[U];rw[V]at hc;exact h.ol c d hc hd};{rw[Z]at hi;rw[(yx y i q).2];have T:=h.ib i hi;have h2:=(h.fit i hi).1;split;{rw[aG];omega};omega};{rw[Z]at hi;rw[(Y i).2.2.1];exact h.idle i p hi S (λc d hc hd=>by have:=J c d (by rw[V];exact hc) hd;rwa [U]at this)};rw[Z]at hi;have T:=h.fit i hi;rw[(Y i).2.2.1];exact⟨au (Y i).2.2.2.2.2 T.1,T.2⟩
def ll.gather {y:jQ} {D k:Nat} (h:ll y D k)(U:D<=1000000000000000):ll y.gather (D+k) 0:=by
 unfold jQ.gather;obtain⟨s1,s2,s3,s4,s5⟩:=lI y y.nc;have V:=h.lH U y.nc (aj _);have Z:=V.oM y.n;obtain⟨X,e2,e3,e4⟩:=pP (y.lH y.nc) y.n;refine⟨Z.n1,Z.n6,Z.c9,Z.en,Z.ds,Z.ms,Z.rn,Z.ok,Z.drop,Z.ol,Z.ib,Z.idle,λi hi=> ?_⟩;have Y:i<y.n:=by rw[X,s1]at hi;exact hi
 rw[(yx (y.lH y.nc) i y.n).1,ag Y];refine⟨aj _,λp T=> ?_⟩;show(((y.lH y.nc).R i).P p).out.length<=_;rw[h.outs Y T];exact aw _
def mB(y:jQ):y.gather.n=y.n/\y.gather.nc=y.nc/\y.gather.ms=y.ms/\∀x,(y.gather.C x).e=(y.C x).e/\(y.gather.C x).jU=(y.C x).jU:=by
 unfold jQ.gather;obtain⟨s1,U,s3,s4,T⟩:=lI y y.nc;obtain⟨Z,Y,X,V⟩:=pP (y.lH y.nc) y.n;exact⟨Z.trans s1,Y.trans U,X.trans s3,λx=>by rw[V];exact T x⟩
def ll.lD {y:jQ} {D k:Nat} (h:ll y D k)(Z:D<=1000000000000000) {c:Nat} (hc:c<y.nc)(up:Bool):ll (y.lD c up) D (k+2):=by
 unfold jQ.lD;have Y:ll (y.nj c {y.C c with jU:=up,on:=λ_=>[] }) D k:=h.nj (λ_=>rfl) (λ_ _ _=>aw _);exact(Y.XZ Z (c:=c) (d:=0) hc fC up).XZ Z (c:=c) (d:=1) hc fC up
def rB(y:jQ)(c:Nat)(up:Bool):(y.lD c up).n=y.n/\(y.lD c up).nc=y.nc/\(y.lD c up).ms=y.ms/\(y.lD c up).kA=y.kA/\∀x,((y.lD c up).C x).e=(y.C x).e/\((y.lD c up).C x).jU=if x=c then up else(y.C x).jU:=by
 refine⟨rfl,rfl,rfl,rfl,λx=> ?_⟩;show(if x=c then({y.C c with jU:=up,on:=λ_=>[] }:sE)else y.C x).e=_/\(if x=c then({y.C c with jU:=up,on:=λ_=>[] }:sE)else y.C x).jU=_;by_cases e:x=c;{rw[ag e,ag e];subst e;exact⟨rfl,rfl⟩};rw[af e,af e];exact⟨rfl,rfl⟩
def ll.kX {D:Nat} (Z:D<=1000000000000000)(up:Bool):∀(l:List Nat) {y:jQ} {k:Nat},ll y D k->(∀c∈l,c<y.nc)->ll (y.kX up l) D (k+2*l.length)
 |[],_,_,h,_=>h
 |c::l,y,k,h,hl=>by
  have Y:=h.lD Z (hl c gZ) up;have:=ll.kX Z up l Y (λx hx=>hl x (by simp[hx]));exact this.mono (aj _) (by simp;omega)
def oU(up:Bool):∀(l:List Nat) (y:jQ),(y.kX up l).n=y.n/\(y.kX up l).nc=y.nc/\(y.kX up l).ms=y.ms/\(y.kX up l).kA=y.kA/\∀x,((y.kX up l).C x).e=(y.C x).e
 |[],y=>⟨rfl,rfl,rfl,rfl,λ_=>rfl⟩
 |c::l,y=>by
  obtain⟨U,T,S,Q,M⟩:=oU up l (y.lD c up);obtain⟨g1,Z,Y,X,V⟩:=rB y c up;exact⟨U.trans g1,T.trans Z,S.trans Y,Q.trans X,λx=>(M x).trans (V x).1⟩
def ll.jT {y:jQ} {D:Nat} (h:ll y D 0)(Z:D<=1000000000000000)(i:Int)(up:Bool):ll (y.jT i up).1 (D+2) 0:=by
 unfold jQ.jT;split;{exact h.mono fC (aj _)};split;{exact h.mono fC (aj _)};exact(h.lD Z fC up).gather Z
def ll.tick {y:jQ} {D:Nat} (h:ll y D 0)(Z:D<=1000000000000000)(i:Int):ll (y.tick i).1 (D+6) 0:=by
 unfold jQ.tick;split;{exact h.mono fC (aj _)};exact(h.j6 Z fC).gather Z
def ll.ky {y:jQ} {D k:Nat} (h:ll y D k)(X:D<=1000000000000000) {c d q:Nat} (hc:c<y.nc)(hd:d<2):ll (y.ky c d q) (D+2000) (k+4000):=by
 have hl:((y.C c).on d).length<=2000:=h.ol c d hc hd;unfold jQ.ky;have Y:ll (y.nj c {y.C c with on:=kK (y.C c).on d (((y.C c).on d).drop q)}) D k:=h.nj (λ_=>rfl) (λ_ d' V=>by
  show(kK (y.C c).on d _ d').length<=_;by_cases e:d'=d;{subst e;rw[jd,eG];omega}
  ·rw[iw _ _ e];exact h.ol c d' hc V)
 have Z:=Y.aib X (c:=c) (d:=1-d) hc fC (((y.C c).on d).take q) (by rw[List.length_take];omega)
 have e:((y.nj c {y.C c with on:=kK (y.C c).on d (((y.C c).on d).drop q)}).C c).e=(y.C c).e:=by
  show(if c=c then _ else y.C c).e=_;rw[ag rfl]
 rw[e]at Z;exact Z
def ll.j7 {y:jQ} {D:Nat} (h:ll y D 0)(hD:D<=100000000000000)(i d many:Int):ll (y.j7 i d many).1 (D+6000) 0:=by
 unfold jQ.j7;split;{exact h.mono fC (aj _)};exact((h.ky fC fC fC).gather fC).mono fC (aj _)
def CL {y:jQ}:∀c∈y.nt k,c<y.nc:=λc hc=>by
 unfold jQ.nt at hc;exact aU.1 (List.mem_filter.1 hc).1
def Av(y:jQ)(k:Nat):(y.nt k).length<=y.nc:=by
 unfold jQ.nt;have:=cZ (λc=>(y.C c).jU&& (((y.C c).e 0).1==k||((y.C c).e 1).1==k)) (List.range y.nc);simpa using this
def ll.anew {y:jQ} (h:ll y D k)(i:Nat)(hi:i<y.n):ll (y.kG i (kZ ((i:Int)+1) 3 (y.ms i))) D k:=
 h.kG hi (aj _) (aj _) ⟨rfl,rfl⟩ (Bt (by have:=h.n6;omega) (λp Z=>h.ms i p hi Z)) ⟨aZ _,by show(0:Int)<=_;omega⟩ (T6 k) (λp _ _=>sU _ _ p)
def ll.restart {y:jQ} {D:Nat} (h:ll y D 0)(Z:D<=1000000000000000)(i:Int):ll (y.restart i).1 (D+36) 0:=by
 unfold jQ.restart;split;{exact h.mono fC (aj _)};have hl:=Av y (i-1).toNat;have h9:=h.c9;have X:=ll.kX Z false (y.nt (i-1).toNat) h CL;obtain⟨s1,U,s3,s4,s5⟩:=oU false (y.nt (i-1).toNat) y;have Y:=X.anew (i-1).toNat (by rw[s1];omega);have e:(((i-1).toNat:Nat):Int)+1=i:=fC;rw[e,s3]at Y;have V:=ll.kX Z true (y.nt (i-1).toNat) Y (λc hc=>by
  show c<(y.kX false (y.nt (i-1).toNat)).nc;rw[U];exact CL c hc)
 exact(V.gather Z).mono fC (aj _)
def ll.send {y:jQ} {D:Nat} (h:ll y D 0)(hD:D<=100000000000000)(f t:Int)(tx:List UInt8):ll (y.send f t tx).1 (D+2) 0:=by
 unfold jQ.send;split;{exact h.mono fC (aj _)};split;{exact h.mono fC (aj _)};exact(h.RC fC fC t tx).gather fC
def ll.inbox {y:jQ} {D:Nat} (h:ll y D 0)(Z:D<=1000000000000000)(i:Nat):ll (y.inbox i) D 0:=by
 unfold jQ.inbox;refine ll.gather (k:=0) ⟨h.n1,h.n6,h.c9,h.en,h.ds,h.ms,h.rn,h.ok,h.drop,h.ol,λj Y=> ?_,h.idle,h.fit⟩ Z;show(kK y.kA i [] j).length<=_;by_cases e:j=i;{subst e;rw[jd];exact aw _};rw[iw _ _ e];exact h.ib j Y
def kL.DC {n:jQ} (h:kL w y n)(Y:y.all n.n k):k<w.heap.size:=by
 obtain e|⟨j,Z,e⟩:=Y;{exact h.lt (.inl e)};exact h.Ap Z e
def kL.cbW {n:jQ} {cb:sE} {v':fB} (h:kL w y n)(hc:c<n.nc)(hd:d<2)(T:y.gC=μ g)(Z:Vt w w' g (c*7) d cb (y.ov c) v')(H:cb.e=(n.C c).e)(S:∀x,x≠d->cb.on x=(n.C c).on x)(hl:(cb.on d).length<=2000):jH w w' y (n.nj c cb) n.n:=by
 have Q:∀x<2,x≠d->∀k,(y.ov c x).ownBlock=μ k->v'.ownBlock≠μ k:=by
  intro x hx U k e e';obtain Y|Y:=Z.own k e';{have:=h.inj (.on c x) (.on c d) k e Y;injection this with _ X;exact U X};have:=h.uh (l:=.on c x) e;omega
 refine h.Rv hc T cb (kK (y.ov c) d v') Z.size Z.os Z.tape Z.output (λk V J X=>Z.block k V J (X d hd)) Z.cell Z.fz Z.yY (λx hx=> ?_) (λx hx=> ?_) H (λx k hx e=> ?_) (λk e=> ?_);{by_cases e:x=d;{subst e;rw[jd];exact Z.row};rw[iw _ _ e,S x e];refine(h.ob c x hc hx).keep Z.size (λk V=>Z.block k ((h.ob c x hc hx).lt k V) (λY=> ?_) (λY=> ?_));{exact h.wB (l:=.on c x) (l':=.C) V T (by intro e;cases e) Y};have:=h.inj (.on c x) (.on c d) k V Y;injection this with _ X;exact e X};{by_cases e:x=d;{subst e;exact hl};rw[S x e];exact h.ol c x hc hx};{by_cases ex:x=d;{subst ex;rw[jd]at e;exact Z.own k e};rw[iw _ _ ex]at e;exact .inl e};have M:d=0 \/d=1:=fC;obtain rfl|rfl:=M;{rw[jd]at e;rw[iw _ _ fF];exact λY=>Q 1 fC fF k Y e};rw[iw _ _ fF]at e;rw[jd];exact Q 0 fC fF k e
def kL.aic {n:jQ} (h:kL w y n)(Z:y.gC=μ g):(y.ov c d).ownBlock≠μ g:=λe=>h.wB (l:=.on c d) (l':=.C) e Z (by intro e;cases e) rfl
def X2(y:Yt)(n:jQ)(c d g:Nat)(s:ByteArray)(w:fA)(h:kL w y n)(hc:c<n.nc)(hd:d<2)(Z:y.gC=μ g)(hs:s.size<=1000000000):
 gb gg 161 #[π (μ ⟨g,c*7,ν⟩),ι κ (d:Int),.string s] w λe w'=>e=ρ (τ #[])/\jH w w' y (n.nj c ((n.C c).put d s.data.toList)) n.n:=by
  refine(XG g (c*7) d (n.C c) (y.ov c) s w hd (h.rc g Z c hc) (h.ob c d hc hd) (h.aic Z) (h.ol c d hc hd) hs).mono ?_;rintro e w1 ⟨rfl,v',Y⟩;refine⟨rfl,h.cbW hc hd Z Y ?_ (λx hx=> ?_) ?_⟩;{unfold sE.put;split<;>rfl};{unfold sE.put;split;{exact iw _ _ hx};rfl};unfold sE.put;split;{rename_i hx;show(kK (n.C c).on d _ d).length<=2000;rw[jd,aG];exact hx.2};exact h.ol c d hc hd
def X3(y:Yt)(n:jQ)(i p:Nat)(w:fA)(h:kL w y n)(hi:i<n.n)(hp:p<3):
 gb gg 29 #[π (μ ⟨(y.z i).R,0,ν⟩),ι κ (p:Int)] w λe w'=>e=ρ (τ #[.string ⟨((n.R i).P p).out.toArray⟩,η])/\jH w w' y (n.kG i ((n.R i).out p)) n.n:=by
  have Z:=(h.rn i hi).1;refine(XR (y.z i) (n.R i) p w (h.rt i hi) fC).mono ?_;rintro e w1 ⟨rfl,hw⟩;rw[Z]at hw;exact⟨rfl,h.Gh hi hw (h.rn i hi)⟩
def jQ.qS(y:jQ)(q d:Nat):jQ:=if d=0 then y.lH q else if d=1 then(y.lH q).mY q 0 else y.lH (q+1)
def DE(c:sE)(o:Nat->fB):Em c o 0=ι κ (((c.e 0).1:Int)+1)/\Em c o 1=ι κ ((c.e 0).2:Int)/\Em c o 2=ι κ (((c.e 1).1:Int)+1)/\Em c o 3=ι κ ((c.e 1).2:Int)/\Em c o 4=.bool c.jU:=⟨rfl,rfl,rfl,rfl,rfl⟩
def aeR(y:jQ)(q d x:Nat):((y.qS q d).C x).e=(y.C x).e:=by
 unfold jQ.qS;split;{exact((lI y q).2.2.2.2 x).1};split;{exact((oJ _ q 0).2.2.2.2 x).1.trans ((lI y q).2.2.2.2 x).1};exact((lI y (q+1)).2.2.2.2 x).1
def aeS(y:jQ)(q d:Nat):(y.qS q d).n=y.n/\(y.qS q d).nc=y.nc:=by
 unfold jQ.qS;split;{exact⟨(lI y q).1,(lI y q).2.1⟩};split;{exact⟨(lI y q).1,(lI y q).2.1⟩};exact⟨(lI y (q+1)).1,(lI y (q+1)).2.1⟩
def T7(y:jQ)(q d:Nat)(hd:d<2):y.qS q (d+1)=(y.qS q d).mY q d:=by
 have:d=0 \/d=1:=fC;obtain rfl|rfl:=this<;>rfl
def ll.qS {y:jQ} {D k:Nat} (h:ll y D k)(Z:D<=1000000000000000)(q d:Nat)(Y:q<y.nc):ll (y.qS q d) D k:=by
 unfold jQ.qS;split;{exact h.lH Z q fC};split;{exact(h.lH Z q fC).mY Z (by rw[(lI y q).2.1];exact Y) fC};exact h.lH Z (q+1) fC
def PW(w:fA)(y:Yt)(n:jQ)(D k q d g m:Nat)(h:ll n D k)(J:D<=1000000000000000)(hk:k<=100000)(U:q<n.nc)(hd:d<2)(hg:y.gC=μ g)(hm:n.n=m)(i p:Nat)(B7:(n.C q).e d=(i,p))(M Y:fA)(hW:jH w M y (n.qS q d) m)(hb:fP M Y)(E:Nat)(u v:fB)(hE:M.heap.size<=E)(hc:Y.cell? ⟨E,0,ν⟩=μ u/\Y.cell? ⟨E,1,ν⟩=μ v):
 gb gg 157 #[π (μ ⟨y.N,0,ν⟩),.agg #[ι κ ((i:Int)+1),ι κ (p:Int)]] Y λe w1=>∃R,e=ρ (π (μ ⟨R,0,ν⟩))/\(w1.cell? ⟨E,0,ν⟩=μ u/\w1.cell? ⟨E,1,ν⟩=μ v)/\
  gb gg 29 #[π (μ ⟨R,0,ν⟩),ι κ (p:Int)] w1 λe T=>∃s:ByteArray,e=ρ (τ #[.string s,η])/\(T.cell? ⟨E,0,ν⟩=μ u/\T.cell? ⟨E,1,ν⟩=μ v)/\
   ∀w3,fP T w3->gb gg 161 #[π (μ ⟨g,q*7,ν⟩),ι κ (d:Int),.string s] w3 λe S=>e=ρ (τ #[])/\jH w S y (n.qS q (d+1)) m:=by
  subst hm;obtain⟨hi,A⟩:=h.en q d U hd;rw[B7]at hi A;obtain⟨Z,gc⟩:=aeS n q d;obtain⟨Q,R0,s1,xP,AU⟩:=hW.ex;have R1:=R0.below hb;have X:E<Y.heap.size:=ai _ _ hc.1
  have G:¬Q.all n.n E:=λe=>by
   have:=R0.DC (k:=E) (by rw[Z];exact e);omega
  rw[<-s1.N];refine(PI Q _ i p Y R1 (by rw[Z];exact hi)).mono ?_;rintro e w1 ⟨rfl,b1⟩;refine⟨_,rfl,⟨(ak (a:=⟨E,0,ν⟩) (b1.block E X)).trans hc.1,(ak (a:=⟨E,1,ν⟩) (b1.block E X)).trans hc.2⟩,?_⟩;have H:E<w1.heap.size:=aq X b1.size;have R2:=R1.below b1;refine(X3 Q _ i p w1 R2 (by rw[Z];exact hi) A).mono ?_;rintro e T ⟨rfl,wV⟩;have tU:=wV.kept.block E H (by rw[Z];exact G);refine⟨_,rfl,⟨(ak (a:=⟨E,0,ν⟩) (tU.trans (b1.block E X))).trans hc.1,(ak (a:=⟨E,1,ν⟩) (tU.trans (b1.block E X))).trans hc.2⟩,λw3 b3=> ?_⟩;have V:=wV.below rfl b3;rw[Z]at V;have hF:=(h.qS J q d U).fits J (i:=i) (by rw[Z];exact hi);have ud:((((n.qS q d).R i).P p).out).length<=6000*k:=hF.out p (by rw[((h.qS J q d U).rn i (by rw[Z];exact hi)).1];exact A)
  have h4:gb gg 161 #[π (μ ⟨g,q*7,ν⟩),ι κ (d:Int),.string ⟨(((n.qS q d).R i).P p).out.toArray⟩] w3 λe S=>e=ρ (τ #[])/\jH w1 S Q (n.qS q (d+1)) n.n:=by
   refine V.call λy2 R3 s2=> ?_;have zv:y2.gC=μ g:=by rw[s2.gC,s1.gC];exact hg
   have hcc:q<(n.qS q d).nc:=by rw[gc];exact U
   have qb:=X2 y2 _ q d g ⟨(((n.qS q d).R i).P p).out.toArray⟩ w3 R3 hcc hd zv (by show Array.size _<=_;simp;omega)
   have e1:n.qS q (d+1)=((n.qS q d).kG i (((n.qS q d).R i).out p)).nj q (((n.qS q d).C q).put d ((((n.qS q d).R i).P p).out)):=by
    rw[T7 n q d hd];unfold jQ.mY;rw[aeR,B7]
   rw[e1];have e2:((n.qS q d).kG i (((n.qS q d).R i).out p)).n=n.n:=Z;rw[e2]at qb;have e3:(⟨(((n.qS q d).R i).P p).out.toArray⟩:ByteArray).data.toList=(((n.qS q d).R i).P p).out:=gZ;rw[e3]at qb;exact qb
  refine h4.mono ?_;rintro e S ⟨rfl,RD⟩;exact⟨rfl,jH.rY hW.kept s1 xP AU (jH.first (fQ hb b1) RD)⟩
def aeT(a b c d:Int)(w:fA):(jk 193 (.agg #[ι κ a,ι κ b,ι κ c,ι κ d]) (ι κ 0)).run gg w=.ok (.agg #[ι κ a,ι κ b]) w:=iV
def aeU(a b c d:Int)(w:fA):(jk 193 (.agg #[ι κ a,ι κ b,ι κ c,ι κ d]) (ι κ 1)).run gg w=.ok (.agg #[ι κ c,ι κ d]) w:=iV
section
variable {P:Program}
def rk(w:fA)(t ty e:TypeId)(i:TypeInfo)(Y:P.underlying t=μ (.slice e))(hi:P.info? e=μ i)(base ao:Option Addr)(n cap c:Nat)(Z:n<=cap):
 (iy #[t,t] ty #[σ base n cap,σ ao 0 c]).run P w=.ok (σ base n cap) w:=by
  cases base<;>cases ao<;>simp[iy,run_underlying Y,sizeOf,typeInfo,hi,Builtin.lenOf,Z,Builtin.firstCells,loadCells,loadCellsFrom,storeCells]
def wD {ops:Array Oper} {o:Oper} {a:Act} {K:Act->fA->Prop} {Q:Exit->Act->fA->Prop} {E:Prop}
 (H:o.guard=ν) (s x:Operand) (t:TypeId) (ho:o.op=.call {callee:=.builtin .append,args:= #[s,x],argTypes:= #[t,t] })
 (e:TypeId) (i:TypeInfo) (z:fB) (size bytes:Nat) (X:P.underlying t=μ (.slice e)) (hi:P.info? e=μ i) (hz:i.zero=μ z)
 (ub:i.size=size) (xN:i.bytes=bytes) (G:z.cells.size=size) (ud:0<size)
 (v:fB) (n:Nat) (xs:List fB) (hs:a.eval s=v) (Y:Row w size v n xs)
 (v2:fB) (m:Nat) (news:List fB) (hx:a.eval x=v2) (V:Row w size v2 m news) (A:∀u∈news,u.oneCell'=true)
 (U:n+m<=maxLen) (xO:(n+m)*bytes<=140737488355328)
 (h:∀v' w',Row w' size v' (n+m) (xs++news)->w.grownBy w' v.ownBlock->(v'.ownBlock=v.ownBlock \/ ∃k,v'.ownBlock=μ k/\w.heap.size<=k)->K (a.put o.dst v') w'):
 if fR o (yielded ops a.tmps)=true then Oper.wp P o a w K Q else E:=by
  have hw:fR o (yielded ops a.tmps)=true:=by simp[fR,H]
  rw[ag hw]
  have key:∃v' w',(iy #[t,t] o.type #[v,v2]).run P w=.ok v' w'/\Row w' size v' (n+m) (xs++news)/\w.grownBy w' v.ownBlock/\(v'.ownBlock=v.ownBlock \/ ∃k,v'.ownBlock=μ k/\w.heap.size<=k):=by
   by_cases hm:0<m;{obtain⟨_,e2⟩|⟨g,cap,rfl,M,Z,S,hcell,_⟩:=V.2;{omega};exact uE (P:=P) w t o.type e i z size bytes X hi hz ub xN G ud v n xs Y ⟨g,0,ν⟩ m cap news V.1 hm (λj u hu=>by rw[add_plain];exact hcell j u hu) A U xO};have T:m=0:=fC;subst T;have lR:news=[] :=aQ (by rw[V.1];simp);subst lR;have g0:w.grownBy w v.ownBlock:=⟨rfl,rfl,rfl,aj _,λ_ _ _=>rfl⟩
   obtain⟨rfl,_⟩|⟨g2,cap2,rfl,_⟩:=V.2;{obtain⟨rfl,rfl⟩|⟨g,cap,rfl,M,Z,S,hcell,J⟩:=Y.2;{exact⟨_,w,rk w t o.type e i X hi ν ν 0 0 0 (aj _),by simpa using Y,g0,.inl rfl⟩};exact⟨_,w,rk w t o.type e i X hi _ ν n cap 0 Z,by simpa using Y,g0,.inl rfl⟩};obtain⟨rfl,rfl⟩|⟨g,cap,rfl,M,Z,S,hcell,J⟩:=Y.2;{exact⟨_,w,rk w t o.type e i X hi ν _ 0 0 cap2 (aj _),by simpa using Y,g0,.inl rfl⟩};exact⟨_,w,rk w t o.type e i X hi _ _ n cap cap2 Z,by simpa using Y,g0,.inl rfl⟩
  obtain⟨v',w',hr,h2,h3,h4⟩:=key;unfold Oper.wp execOp;simp only[ho,resolve,invoke,builtin,Sem.run_bind,Sem.run_pure,Result.andThen_ok,List.map_toArray,List.map_cons,List.map_nil,hs,hx,hr];exact h v' w' h2 h3 h4
end
def X4(a b:List wK):rz (a++b)=rz a++rz b:=by simp[rz]
def MZ(l:List wK):∀u∈rz l,u.oneCell'=true:=by
 intro u hu;unfold rz at hu;obtain⟨t,_,Z⟩:=bh.1 hu;exact Ry _ _ _ u Z
def T8(w:fA)(y:Yt)(M:jQ)(m j:Nat)(W:fA)(hW:jH w W y M m)(hn:M.n=m)(U:j<m):∃R iv,W.cell? ⟨y.gR,j,ν⟩=μ (π (μ ⟨R,0,ν⟩))/\(∀V,fP W V->V.cell? ⟨y.gI,j,ν⟩=μ iv/\V.cell? ⟨y.N,1,ν⟩=μ (σ (μ ⟨y.gI,0,ν⟩) m y.Am)/\y.gI<V.heap.size)/\iv.ownBlock≠μ y.gI/\iv.ownBlock≠μ y.N/\y.N≠y.gI/\
 ∀V,fP W V->gb gg 32 #[π (μ ⟨R,0,ν⟩)] V λe w'=>∃v,e=ρ v/\Row w' 3 v (M.R j).kA.length (rz (M.R j).kA)/\Row w' 3 iv (M.kA j).length (rz (M.kA j))/\w'.cell? ⟨y.gI,j,ν⟩=μ iv/\w'.frozen? ⟨y.gI,j,ν⟩=false/\w'.cell? ⟨y.N,1,ν⟩=μ (σ (μ ⟨y.gI,0,ν⟩) m y.Am)/\
  ∀x1 v',Row x1 3 v' ((M.kA j).length+(M.R j).kA.length) (rz (M.kA j)++rz (M.R j).kA)->w'.grownBy x1 iv.ownBlock->(v'.ownBlock=iv.ownBlock \/ ∃k,v'.ownBlock=μ k/\w'.heap.size<=k)->jH w (x1.setCell ⟨y.gI,j,ν⟩ v') y (M.zL j) m:=by
  subst hn;obtain⟨Z,Q,s1,xP,AU⟩:=hW.ex;refine⟨(Z.z j).R,Z.iv j,?_,λV h=> ?_,λe=> ?_,λe=> ?_,λe=> ?_,λV h=> ?_⟩;{rw[<-s1.gR];exact Q.ptr U};{have X:=Q.below h;rw[<-s1.gI,<-s1.N,<-s1.Am];exact⟨X.XH U,X.k1,X.aaY⟩};{rw[<-s1.gI]at e;exact Q.wB (l:=.ib j) (l':=.I) e rfl (by intro e;cases e) rfl};{rw[<-s1.N]at e;exact Q.wB (l:=.ib j) (l':=.N) e rfl (by intro e;cases e) rfl};{rw[<-s1.gI,<-s1.N]at e;exact Q.wB (l:=.N) (l':=.I) rfl rfl (by intro e;cases e) e};have X:=Q.below h;have u:=(X.rn j U).1;refine(TX (Z.z j) (M.R j) V (X.rt j U)).mono ?_;rintro e w1 ⟨rfl,hr,si⟩;have hw:jy V w1 (Z.z j) {M.R j with kA:=[] } 3:=(congrArg (λt=>jy V w1 (Z.z j) ({M.R j with kA:=[] }:jO) t) u).mp si
  have ku:∀k,Z.own k->w1.heap[k]? =V.heap[k]? :=λk T=>by
   have hf:=X.KH U T;exact hw.kept.block k (X.lt (.inl T)) (λe=>hf (.inl e)) (λe=>hf (.inr (.inl e))) (λe=>hf (.inr (.inr e)))
  have hN:=X.Gh U hw (X.rn j U);have S:=ku Z.gI ⟨.I,rfl⟩;refine⟨_,rfl,hr,(X.ib j U).keep hw.kept.size (λk T=>ku k ⟨.ib j,T⟩),?_,?_,?_,λx1 v' j0 H A=> ?_⟩;{rw[<-s1.gI];exact(ak (a:=⟨Z.gI,j,ν⟩) S).trans (X.XH U)};{rw[<-s1.gI];have:=X.ri.fz j U;rw[aY]at this;exact(aV (a:=⟨Z.gI,j,ν⟩) S).trans this};{rw[<-s1.N,<-s1.gI,<-s1.Am];exact(ak (a:=⟨Z.N,1,ν⟩) (ku Z.N ⟨.N,rfl⟩)).trans X.k1}
  have vj:jH V (x1.setCell ⟨Z.gI,j,ν⟩ v') Z (M.zL j) M.n:=by
   refine hN.step λy2 E G=> ?_
   have Pp:y2.iv j=Z.iv j:=by
    have Y:=E.XH (i:=j) U;rw[G.gI,(ak (a:=⟨Z.gI,j,ν⟩) S).trans (X.XH U)]at Y;exact(aL Y).symm
   have kf:(Z.iv j).ownBlock≠μ Z.gI:=λe=>X.wB (l:=.ib j) (l':=.I) e rfl (by intro e;cases e) rfl
   have hvg:v'.ownBlock≠μ Z.gI:=λe=>by
    obtain Y|⟨k,Y,J⟩:=A;{exact kf (by rw[<-Y];exact e)};rw[e]at Y;have Ae:=aL Y;have h4:Z.gI<w1.heap.size:=by rw[<-G.gI];exact E.aaY
    omega
   have hx:x1.heap[Z.gI]? =w1.heap[Z.gI]? :=H.block Z.gI (by rw[<-G.gI];exact E.aaY) (λe=>kf e.symm);have sN:=E.box (i:=j) (w':=x1.setCell ⟨Z.gI,j,ν⟩ v') U v' (M.kA j++(M.R j).kA) (by simpa using H.size) H.os H.tape H.output (λk T Y J=> ?_) ?_ ?_ (λk T=> ?_);{exact sN};{rw[G.gI]at Y;rw[Pp]at J;rw[ax _ _ _ k Y];exact H.block k T (λe=>J e.symm)};{rw[G.gI];have Y:=E.ri;rw[G.gI]at Y;have J:=Y.keep hx;have u:=J.set j U v';rw[aY]at u;refine u.congr λx hx=> ?_;by_cases e:x=j;{subst e;rw[jd];unfold ui;simp};rw[iw _ _ e];unfold ui;simp[e]};{rw[X4,aG];exact j0.keep gZ (λk T=>ax _ _ _ k (λe=>hvg (by rw[T,e])))};obtain Y|⟨k',Y,J⟩:=A;{left;rw[Pp,<-Y];exact T};right;rw[T]at Y;have:=aL Y;omega
  rw[s1.gI]at vj;exact jH.rY hW.kept s1 xP AU (jH.first h vj)
def qz {x:fA} {b:Nat} {u:fB} (h:x.cell? ⟨b,k,ν⟩=μ u)(Z:b≠g):(x.setCell ⟨g,j,ν⟩ v).cell? ⟨b,k,ν⟩=μ u:=by
 rw[br _ _ _ _ (λe=>Z (congrArg Addr.block e).symm)];exact h
def sW(y:Yt)(n:jQ)(D k:Nat)(w:fA)(h:kL w y n)(jR:ll n D k)(hD:D<=1000000000)(hk:k<=100000):
 gb gg 111 #[π (μ ⟨y.N,0,ν⟩)] w λe w'=>e=ρ (τ #[])/\jH w w' y n.gather n.n:=by
  have c3:=h.k3;obtain⟨a,cp,x5,M3⟩:=h.cvs;rw[x5]at c3;have cl:=h.zz;have c9:=h.c9;have n6:=h.n6;obtain⟨nc,vt⟩:=fH (n.nc);obtain⟨m,hm⟩:=fH (n.n)
  have H0:Hid (jH w w y (n.lH 0) m):=by
   show jH _ _ _ _ _;rw[<-hm];exact jH.refl h
  have HK3:Hid (∀q W,jH w W y (n.lH q) m->W.cell? ⟨y.N,3,ν⟩=μ (σ a nc cp)/\y.N<W.heap.size):=by
   intro q W hw;have h1:=hw.k3;rw[(lI n q).2.1,x5,vt]at h1;exact⟨h1,hw.lt⟩
  have HGC:Hid (∀c<nc,∃g,y.gC=μ g/\a=μ ⟨g,0,ν⟩):=by
   show∀c,_->_;rw[<-vt];exact M3
  have aid:Hid (∀q W g,q<nc->y.gC=μ g->jH w W y (n.lH q) m->W.cell? ⟨g,q*7,ν⟩=μ (ι κ ((((n.C q).e 0).1:Int)+1))/\W.cell? ⟨g,q*7+1,ν⟩=μ (ι κ (((n.C q).e 0).2:Int))/\W.cell? ⟨g,q*7+2,ν⟩=μ (ι κ ((((n.C q).e 1).1:Int)+1))/\W.cell? ⟨g,q*7+2+1,ν⟩=μ (ι κ (((n.C q).e 1).2:Int))/\g<W.heap.size):=by
   intro q W g hq hg hw;obtain⟨ov,hC⟩:=hw.Rw (c:=q) (by rw[(lI n q).2.1,vt];exact hq) hg;have e1:=((lI n q).2.2.2.2 q).1;have h0:=hC.cell 0 fF;have h1:=hC.cell 1 fF;have h2:=hC.cell 2 fF;have h3:=hC.cell 3 fF;rw[(DE _ _).1,e1]at h0;rw[(DE _ _).2.1,e1]at h1;rw[(DE _ _).2.2.1,e1]at h2;rw[(DE _ _).2.2.2.1,e1]at h3;exact⟨h0,h1,h2,h3,hC.lt fF⟩
  have KO:Hid (∀(q d g i p:Nat) (J:fA),q<nc->d<2->y.gC=μ g->(n.C q).e d=(i,p)->jH w J y (n.qS q d) m->
   gb gg 157 #[π (μ ⟨y.N,0,ν⟩),.agg #[ι κ ((i:Int)+1),ι κ (p:Int)]] (J.alloc (γ #[ι κ ((i:Int)+1),ι κ (p:Int)] 192)).drew λe w1=>∃R,e=ρ (π (μ ⟨R,0,ν⟩))/\(w1.cell? ⟨J.heap.size,0,ν⟩=μ (ι κ ((i:Int)+1))/\w1.cell? ⟨J.heap.size,1,ν⟩=μ (ι κ (p:Int)))/\
   gb gg 29 #[π (μ ⟨R,0,ν⟩),ι κ (p:Int)] w1 λe w2=>∃s:ByteArray,e=ρ (τ #[.string s,η])/\(w2.cell? ⟨J.heap.size,0,ν⟩=μ (ι κ ((i:Int)+1))/\w2.cell? ⟨J.heap.size,1,ν⟩=μ (ι κ (p:Int)))/\
    ∀w3,fP w2 w3->gb gg 161 #[π (μ ⟨g,q*7,ν⟩),ι κ (d:Int),.string s] w3 λe w4=>e=ρ (τ #[])/\jH w w4 y (n.qS q (d+1)) m):=by
   intro q d g i p J hq hd hg B7 hw;have hb:=kN (gu J (γ #[ι κ ((i:Int)+1),ι κ (p:Int)] 192));have u:j2 (J.alloc (γ #[ι κ ((i:Int)+1),ι κ (p:Int)] 192)).drew J.heap.size #[ι κ ((i:Int)+1),ι κ (p:Int)] 192:=(j2.new J _ _).drew;exact PW w y n D k q d g m jR fC hk (by rw[vt];exact hq) hd hg hm i p B7 J _ hw hb J.heap.size _ _ (aj _) ⟨u.cell 0,u.cell 1⟩
  rw[vt]at c3 c9;rw[hm]at n6⊢;have Tk:Hid _:=jR;have HNC:Hid _:=vt;have HM:Hid _:=hm;clear h jR M3 x5 vt hm;go_in;go_wp2;go_loopw [15] (λx wr=>∃q:Nat,q<=nc/\x=ι κ q/\jH w wr y (n.lH q) m) (λx _=>nc-(gj x).toNat);(case atStart=>exact⟨0,aw _,rfl,H0.out⟩)
  case round=>
   obtain⟨q,hq,rfl,ur⟩:=hrel;obtain⟨V,rfl⟩:∃V,V=wr:=⟨_,rfl⟩
   by_cases lZ:q<nc
   ·have pE:(q:Int)<(nc:Int):=fC;have hq0:(0:Int)<=(q:Int):=fC;obtain⟨g,hg,rfl⟩:=HGC.out q lZ;obtain⟨d3,dl⟩:=HK3.out q V ur;obtain⟨e0,e1,e2,e3,gl⟩:=aid.out q V g lZ hg ur;obtain⟨i0,p0,M4⟩:∃i0 p0,(n.C q).e 0=(i0,p0):=⟨_,_,rfl⟩
    obtain⟨i1,p1,M6⟩:∃i1 p1,(n.C q).e 1=(i1,p1):=⟨_,_,rfl⟩
    rw[M4]at e0 e1;rw[M6]at e2 e3;have HD0:Hid _:=ur;have anm:Hid _:=M4;have ano:Hid _:=M6;have HG:Hid _:=hg;clear ur M4 M6 hg;go_wp2;go_loopw [28] (λx wr=>(x=ι κ 0/\jH w wr y (n.qS q 0) m) \/(x=ι κ 1/\jH w wr y (n.qS q 1) m) \/(x=ι κ 2/\jH w wr y (n.qS q 2) m)) (λx _=>2-(gj x).toNat);(case atStart=>exact .inl ⟨rfl,HD0.out⟩)
    case round=>
     obtain⟨rfl,EL⟩|⟨rfl,EL⟩|⟨rfl,EL⟩:=hrel
     ·have hix:=aeT ((i0:Int)+1) (p0:Int) ((i1:Int)+1) (p1:Int);have hE:=KO.out q 0 g i0 p0 wr lZ fF HG.out anm.out EL;obtain⟨W1,lK⟩:=fH (wr.alloc (γ #[ι κ ((i0:Int)+1),ι κ (p0:Int)] 192));obtain⟨E,wq⟩:=fH (wr.heap.size)
      have T:W1.drew.cell? ⟨E,0,ν⟩=μ (ι κ ((i0:Int)+1))/\W1.drew.cell? ⟨E,1,ν⟩=μ (ι κ (p0:Int)):=by
       have u:j2 (wr.alloc (γ #[ι κ ((i0:Int)+1),ι κ (p0:Int)] 192)).drew wr.heap.size #[ι κ ((i0:Int)+1),ι κ (p0:Int)] 192:=(j2.new wr _ _).drew;rw[lK,wq]at u;exact⟨u.cell 0,u.cell 1⟩
      have El:E<W1.drew.heap.size:=ai _ _ T.1;rw[lK,wq]at hE;have LC:Hid _:=lK;have XD:Hid _:=wq;clear EL lK wq;go_wp2_with fail;(try rw[LC.out]);(try rw[XD.out])
      go_region_held3(λx=>x.cell? ⟨E,0,ν⟩=μ (ι κ ((i0:Int)+1))/\x.cell? ⟨E,1,ν⟩=μ (ι κ (p0:Int)))
       (first|assumption|exact T|exact Y|exact Q)
       (first
        |(go_at_call 157;refine hE.mono ?_;rintro e w1 ⟨R,rfl,Y,hO⟩)
        |(go_at_call 29;refine hO.mono ?_;rintro e w2 ⟨sx,rfl,Q,hP⟩))
      all_goals(have hp:=hP _ (aC _ _);clear hE hO hP T Y Q El;go_wp2_with fail;refine hp.mono ?_;rintro e w4 ⟨rfl,RD⟩;have MU:Hid _:=RD;clear hp RD;go_wp2;go_roundw;(case rel=>exact .inr (.inl ⟨by go_num,MU.out⟩));(case measure=>simp[gj]))
     ·have hix:=aeU ((i0:Int)+1) (p0:Int) ((i1:Int)+1) (p1:Int);have hE:=KO.out q 1 g i1 p1 wr lZ fF HG.out ano.out EL;obtain⟨W1,lK⟩:=fH (wr.alloc (γ #[ι κ ((i1:Int)+1),ι κ (p1:Int)] 192));obtain⟨E,wq⟩:=fH (wr.heap.size)
      have T:W1.drew.cell? ⟨E,0,ν⟩=μ (ι κ ((i1:Int)+1))/\W1.drew.cell? ⟨E,1,ν⟩=μ (ι κ (p1:Int)):=by
       have u:j2 (wr.alloc (γ #[ι κ ((i1:Int)+1),ι κ (p1:Int)] 192)).drew wr.heap.size #[ι κ ((i1:Int)+1),ι κ (p1:Int)] 192:=(j2.new wr _ _).drew;rw[lK,wq]at u;exact⟨u.cell 0,u.cell 1⟩
      have El:E<W1.drew.heap.size:=ai _ _ T.1;rw[lK,wq]at hE;have LC:Hid _:=lK;have XD:Hid _:=wq;clear EL lK wq;go_wp2_with fail;(try rw[LC.out]);(try rw[XD.out])
      go_region_held3(λx=>x.cell? ⟨E,0,ν⟩=μ (ι κ ((i1:Int)+1))/\x.cell? ⟨E,1,ν⟩=μ (ι κ (p1:Int)))
       (first|assumption|exact T|exact Y|exact Q)
       (first
        |(go_at_call 157;refine hE.mono ?_;rintro e w1 ⟨R,rfl,Y,hO⟩)
        |(go_at_call 29;refine hO.mono ?_;rintro e w2 ⟨sx,rfl,Q,hP⟩))
      all_goals(have hp:=hP _ (aC _ _);clear hE hO hP T Y Q El;go_wp2_with fail;refine hp.mono ?_;rintro e w4 ⟨rfl,RD⟩;have MU:Hid _:=RD;clear hp RD;go_wp2;go_roundw;(case rel=>exact .inr (.inr ⟨by go_num,MU.out⟩));(case measure=>simp[gj]))
     have HQ:Hid _:=EL;clear EL;go_wp2;go_roundw;(case rel=>exact⟨q+1,fC,by go_num,HQ.out⟩);case measure=>simp[gj];omega
   have zD:¬(q:Int)<(nc:Int):=fC;obtain rfl:q=nc:=fC;have HI0:Hid _:=ur;have k0:=ur.k0;have kl:=ur.lt;rw[(lI n q).1]at k0;have k0':V.cell? ⟨y.N,0,ν⟩=μ (σ (μ ⟨y.gR,0,ν⟩) m y.vQ):=by rw[<-HM.out];exact k0
   obtain⟨i0,hi,pB,oR,oe⟩:=bu Rx
   have HE:Hid (n.gather=(n.lH q).oM m):=by
    show _=_;unfold jQ.gather;rw[HNC.out,HM.out]
   have HN2:Hid ((n.lH q).n=m):=by show _=_;rw[(lI n q).1,HM.out]
   have HK:Hid (∀j<m,(((n.lH q).oM j).kA j).length<=2000000000/\((((n.lH q).oM j).R j).kA).length<=2000000000):=by
    intro j hj;have h1:=(Tk.out.lH fC q (by rw[HNC.out];exact aj _)).oM j;have h2:=h1.ib j (by rw[(pP (n.lH q) j).1,HN2.out];exact hj);have h3:=(h1.fit j (by rw[(pP (n.lH q) j).1,HN2.out];exact hj)).1;omega
   clear ur k0 Tk HNC aid KO HK3 HGC;go_wp2;go_loopw [54] (λx wr=>∃j:Nat,j<=m/\x=ι κ j/\jH w wr y ((n.lH q).oM j) m) (λx _=>m-(gj x).toNat);(case atStart=>exact⟨0,aw _,rfl,HI0.out⟩)
   case round=>
    obtain⟨j,hj,rfl,hwj⟩:=hrel;by_cases hjl:j<m
    ·have anq:(j:Int)<(m:Int):=fC;have Aj:(0:Int)<=(j:Int):=fC;have hnM:((n.lH q).oM j).n=m:=by rw[(pP (n.lH q) j).1,HN2.out]
     obtain⟨l1,l2⟩:=HK.out j hjl;have HS:Hid ((n.lH q).oM (j+1)=((n.lH q).oM j).zL j):=rfl;obtain⟨R,iv,r0,sN,aih,aii,hNI,aa8⟩:=T8 w y _ m j wr hwj hnM hjl;have A5:Hid ((n.lH q).oM (j+1)=((n.lH q).oM j).zL j):=rfl;have HSS:∀x,jH w x y (((n.lH q).oM j).zL j) m=jH w x y ((n.lH q).oM (j+1)) m:=λx=>rfl;obtain⟨M,hM⟩:=fH ((n.lH q).oM j);rw[hM]at l1 l2 aa8 HSS;simp only[HSS]at aa8;have hIn:=aa8 wr.drew (j4 wr);obtain⟨c1,T,gIl⟩:=sN wr.drew (j4 wr);have rl:=ai _ _ r0;have aa9:Hid _:=aih;have aij:Hid _:=aii;have HNI:Hid _:=hNI;have Nl:=ai _ _ T;generalize y.N=YN at*;generalize y.gI=X at*;generalize y.Am=cI at*;clear hwj hM sN aa8 HSS HS A5 aih aii hNI;go_wp2_with fail;refine cR (S:=λx=>x.cell? ⟨YN,1,ν⟩=μ (σ (μ ⟨X,0,ν⟩) m cI)) iV T (λhHeld=> ?_);refine mU 0 (μ 59) (v:= ?_) ?_ j9 ?_;rotate_left;{intro G H;go_simp;try with_reducible rfl}
     go_frame
     refine mU 1 (μ 60) (v:= ?_) ?_ j9 ?_;rotate_left;{intro G H;go_simp;try with_reducible rfl}
     go_frame
     refine mU 2 (μ 61) (v:= ?_) ?_ j9 ?_;rotate_left;{intro G H;go_simp;try with_reducible rfl}
     go_frame
     refine mU 3 (μ 62) (v:= ?_) ?_ j9 ?_;rotate_left;{intro G H;go_simp;try with_reducible rfl}
     go_frame
     refine mU 4 (μ 63) (v:= ?_) ?_ j9 ?_;rotate_left;{intro G H;go_simp;try with_reducible rfl}
     go_frame
     refine mU 5 (μ 64) (v:= ?_) ?_ j9 ?_;rotate_left;{intro G H;go_simp;try with_reducible rfl}
     go_frame
     refine mU 6 (μ 65) (v:= ?_) ?_ j9 ?_;rotate_left;{intro G H;go_simp;try with_reducible rfl}
     go_frame
     refine mU 7 (μ 66) (v:= ?_) ?_ j9 ?_;rotate_left;{intro G H;go_simp;try with_reducible rfl}
     go_frame
     refine mU 8 (μ 67) (v:= ?_) ?_ j9 ?_;rotate_left;{intro G H;go_simp;try with_reducible rfl}
     go_frame
     refine mU 9 (μ 68) (v:= ?_) ?_ j9 ?_;rotate_left;{intro G H;go_simp;try with_reducible rfl}
     go_frame
     refine mU 10 (μ 69) (v:= ?_) ?_ j9 ?_;rotate_left;{intro G H;go_simp;try with_reducible rfl}
     go_frame
     refine mU 12 (μ 71) (v:= ?_) ?_ j9 ?_;rotate_left;{intro G H;go_simp;try with_reducible rfl}
     go_frame
     refine a8 (rs:=[11,13]) iV gZ ?_;refine aP (o:=_) rfl (λK Z=> ?_) (aP (o:=_) rfl (λK Z=> ?_) aX);{go_simp;(try go_wp2_with fail);refine Z.out _ _ (by exact T) (λhHeld=> ?_);clear Z K;refine a8 (rs:=[13]) iV gZ ?_;refine aP (o:=_) rfl (λK Z=> ?_) aX;go_simp;refine hIn.mono ?_;rintro e w1 ⟨v1,rfl,j0,Pp,b1,z1,Y,vj⟩;(try go_wp2_with fail);refine Z.out _ _ (by exact Y) (λhHeld=> ?_);clear Z K;have U:=ai _ _ b1;refine a8 (rs:=[14]) iV gZ ?_;refine aP (o:=_) rfl (λK Z=> ?_) aX;refine wD (by rfl) (.tmp 70) (.tmp 72) 53 (by rfl) 106 i0 (.agg #[ι κ 0,ι κ 0,.string ⟨#[]⟩]) 3 32 underlying53 hi pB oR oe (by rfl) fF iv (M.kA j).length (rz (M.kA j)) (by rfl) Pp v1 (M.R j).kA.length (rz (M.R j).kA) (by rfl) j0 (MZ _) (by unfold maxLen;omega) fC ?_;intro v2 x1 mQ A kO;have Q:x1.cell? ⟨YN,1,ν⟩=μ (σ (μ ⟨X,0,ν⟩) m cI):=(ak (a:=⟨YN,1,ν⟩) (A.block YN (ai _ _ Y) (λe=>aij.out e.symm))).trans Y;have b2:x1.cell? ⟨X,j,ν⟩=μ iv:=(ak (a:=⟨X,j,ν⟩) (A.block X U (λe=>aa9.out e.symm))).trans b1;have z2:x1.frozen? ⟨X,j,ν⟩=false:=(aV (a:=⟨X,j,ν⟩) (A.block X U (λe=>aa9.out e.symm))).trans z1;have gl2:=ai _ _ b2;obtain⟨a2,cp2,rfl⟩:=Row.shape mQ;refine Z.out _ _ (by exact Q) (λhHeld=> ?_);clear Z K;refine mU 15 (μ 74) (v:= ?_) ?_ j9 ?_;rotate_left;{intro G H;go_simp;try with_reducible rfl};simp only[jg,jh];refine a8 (rs:=[16]) iV gZ ?_;refine aP (o:=_) rfl (λK Z=> ?_) aX;go_simp;(try go_wp2_with fail);refine Z.out _ _ (by exact qz Q HNI.out) (λhHeld=> ?_);clear Z K;refine dk iV ?_ _;have HF:Hid _:=vj x1 _ mQ A kO;clear hIn j0 Pp b1 z1 T Y Q b2 z2 vj mQ A kO U gl2;go_wp2;go_roundw;(case rel=>exact⟨j+1,fC,by go_num,HF.out⟩);case measure=>simp[gj];omega};go_simp;refine hIn.mono ?_;rintro e w1 ⟨v1,rfl,j0,Pp,b1,z1,Y,vj⟩;(try go_wp2_with fail);refine Z.out _ _ (by exact Y) (λhHeld=> ?_);clear Z K;have U:=ai _ _ b1;refine a8 (rs:=[11]) iV gZ ?_;refine aP (o:=_) rfl (λK Z=> ?_) aX;go_simp;(try go_wp2_with fail);refine Z.out _ _ (by exact Y) (λhHeld=> ?_);clear Z K;refine a8 (rs:=[14]) iV gZ ?_;refine aP (o:=_) rfl (λK Z=> ?_) aX;refine wD (by rfl) (.tmp 70) (.tmp 72) 53 (by rfl) 106 i0 (.agg #[ι κ 0,ι κ 0,.string ⟨#[]⟩]) 3 32 underlying53 hi pB oR oe (by rfl) fF iv (M.kA j).length (rz (M.kA j)) (by rfl) Pp v1 (M.R j).kA.length (rz (M.R j).kA) (by rfl) j0 (MZ _) (by unfold maxLen;omega) fC ?_;intro v2 x1 mQ A kO;have Q:x1.cell? ⟨YN,1,ν⟩=μ (σ (μ ⟨X,0,ν⟩) m cI):=(ak (a:=⟨YN,1,ν⟩) (A.block YN (ai _ _ Y) (λe=>aij.out e.symm))).trans Y;have b2:x1.cell? ⟨X,j,ν⟩=μ iv:=(ak (a:=⟨X,j,ν⟩) (A.block X U (λe=>aa9.out e.symm))).trans b1;have z2:x1.frozen? ⟨X,j,ν⟩=false:=(aV (a:=⟨X,j,ν⟩) (A.block X U (λe=>aa9.out e.symm))).trans z1;have gl2:=ai _ _ b2;obtain⟨a2,cp2,rfl⟩:=Row.shape mQ;refine Z.out _ _ (by exact Q) (λhHeld=> ?_);clear Z K;refine mU 15 (μ 74) (v:= ?_) ?_ j9 ?_;rotate_left;{intro G H;go_simp;try with_reducible rfl};simp only[jg,jh];refine a8 (rs:=[16]) iV gZ ?_;refine aP (o:=_) rfl (λK Z=> ?_) aX;go_simp;(try go_wp2_with fail);refine Z.out _ _ (by exact qz Q HNI.out) (λhHeld=> ?_);clear Z K;refine dk iV ?_ _;have HF:Hid _:=vj x1 _ mQ A kO;clear hIn j0 Pp b1 z1 T Y Q b2 z2 vj mQ A kO U gl2;go_wp2;go_roundw;(case rel=>exact⟨j+1,fC,by go_num,HF.out⟩);case measure=>simp[gj];omega
    have hjm:¬(j:Int)<(m:Int):=fC;obtain rfl:j=m:=fC
    have HW:Hid (jH w wr y n.gather j):=by
     show jH _ _ _ _ _;rw[HE.out];exact hwj
    clear hwj;go_wp2_with fail;go_end0;exact⟨rfl,HW.out⟩
def kL.EM {n:jQ} (h:kL w y n)(hi:i<n.n)(Y:jy w w' (y.z i) r (n.R i).n)(X:r.n=(n.R i).n/\r.id=(n.R i).id):jH w w' y (n.kG i r) n.n:=by
 obtain⟨Z,V⟩:=h.rn i hi;rw[Z]at Y;exact h.Gh hi Y ⟨X.1.trans Z,X.2.trans V⟩
def T9(y:Yt)(n:jQ)(D k i:Nat)(w:fA)(h:kL w y n)(X:kd w)(Y:ll n D k)(hD:D<=1000000000)(V:k<=90000)(hi:i<n.n):
 gb gg 25 #[π (μ ⟨(y.z i).R,0,ν⟩)] w λe w'=>e=ρ (τ #[])/\jH w w' y (n.kG i (n.R i).tick) n.n:=by
  refine(TS (y.z i) (n.R i) k w (h.rt i hi) X (Y.ok i hi) (Y.fits fC hi) V).mono ?_;rintro e w1 ⟨rfl,hw⟩;have Z:=kR.j5 (n.R i) (n.R i).n;exact⟨rfl,h.EM hi hw ⟨Z.n,Z.id⟩⟩
def Ua(y:Yt)(n:jQ)(D k i:Nat)(t:Int)(tx:ByteArray)(w:fA)(h:kL w y n)(Y:ll n D k)(hD:D<=1000000000)(hk:k<=90000)(hi:i<n.n):
 gb gg 27 #[π (μ ⟨(y.z i).R,0,ν⟩),ι κ t,.string tx] w λe w'=>e=ρ (kr (lF (n.R i) t tx.data.toList).2)/\jH w w' y (n.kG i (lF (n.R i) t tx.data.toList).1) n.n:=by
  refine(TV (y.z i) (n.R i) k t tx w (h.rt i hi) (Y.ok i hi) (Y.fits fC hi) fC).mono ?_;rintro e w1 ⟨rfl,hw⟩;have Z:=kR.lF (n.R i) t tx.data.toList;exact⟨rfl,h.EM hi hw ⟨Z.n,Z.id⟩⟩
def zd {m:Nat} (h:k<m)(hm:m<=6):κ.wrap ((k:Int)+1-1)=(k:Int):=by
 have:(k:Int)+1-1=k:=fC;rw[this];exact bg _ ⟨fC,fC⟩
def M7(y:Yt)(n:jQ)(D:Nat)(i:Int)(w:fA)(h:kL w y n)(U:kd w)(Y:ll n D 0)(hD:D<=900000000):
 gb gg 56 #[π (μ ⟨y.N,0,ν⟩),ι κ i] w λe w'=>e=ρ (kr (n.tick i).2)/\jH w w' y (n.tick i).1 n.n:=by
  have hh:=qZ y n i w h;obtain⟨hn,hi⟩|⟨k,Z,rfl⟩:=Ar i n.n
  ·have V:n.tick i=(n,6):=by unfold jQ.tick;rw[ag hi]
   rw[V];rw[hn]at hh;have X:Hid _:=jH.refl h;clear h Y U;go_in;go_wp2_with fail;refine hh.mono ?_;rintro e w1 ⟨rfl,rfl⟩;clear hh;go_wp2;go_ret;exact⟨rfl,X.out⟩
  rw[yo Z]at hh
  have V:n.tick ((k:Int)+1)=((n.kG k (n.R k).tick).gather,0):=by
   unfold jQ.tick;have E:((k:Int)+1-1).toNat=k:=fC;rw[af fC,E]
  rw[V];have c0:=h.k0;have cl:=h.zz;have d0:=h.ptr Z;have dl:=h.TE;have n6:=h.n6;have hw:=zd Z n6;have mR:(k:Int)<(n.n:Int):=fC;have KB:(0:Int)<=(k:Int):=fC;have T:=T9 y n D 0 k w h U Y fC fC Z;have S:=Y.j6 fC Z
  have u:Hid (∀W,jH w W y (n.kG k (n.R k).tick) n.n->gb gg 111 #[π (μ ⟨y.N,0,ν⟩)] W λe w'=>e=ρ (τ #[])/\jH w w' y (n.kG k (n.R k).tick).gather n.n):=by
   intro W A;refine A.call λy1 H s1=> ?_;rw[<-s1.N];exact sW y1 _ D _ W H S fC fC
  have G:kr 0=η:=rfl;rw[G];clear h Y U S;go_in;go_wp2_with fail;refine hh.mono ?_;rintro e w1 ⟨rfl,rfl⟩;clear hh;go_wp2_with fail;refine T.mono ?_;rintro e w1 ⟨rfl,M⟩;have Q:=u.out _ M;clear T M;go_wp2_with fail;refine Q.mono ?_;rintro e w2 ⟨rfl,J⟩;have X:Hid _:=J;clear Q J;go_wp2;go_ret;exact⟨rfl,X.out⟩
def M8(y:Yt)(n:jQ)(D:Nat)(i t:Int)(tx:ByteArray)(w:fA)(h:kL w y n)(S:ll n D 0)(hD:D<=900000000):
 gb gg 53 #[π (μ ⟨y.N,0,ν⟩),ι κ i,ι κ t,.string tx] w λe w'=>e=ρ (kr (n.send i t tx.data.toList).2)/\jH w w' y (n.send i t tx.data.toList).1 n.n:=by
  have hh:=qZ y n i w h;obtain⟨hn,hi⟩|⟨k,U,rfl⟩:=Ar i n.n
  ·have V:n.send i t tx.data.toList=(n,6):=by unfold jQ.send;rw[ag hi]
   rw[V];rw[hn]at hh;have X:Hid _:=jH.refl h;clear h S;go_in;go_wp2_with fail;refine hh.mono ?_;rintro e w1 ⟨rfl,rfl⟩;clear hh;go_wp2;go_ret;exact⟨rfl,X.out⟩
  rw[yo U]at hh;have e1:((k:Int)+1-1).toNat=k:=fC;have c0:=h.k0;have cl:=h.zz;have d0:=h.ptr U;have dl:=h.TE;have n6:=h.n6;have hw:=zd U n6;have mR:(k:Int)<(n.n:Int):=fC;have KB:(0:Int)<=(k:Int):=fC;have Z:=Ua y n D 0 k t tx w h S fC fC U;have J:=S.RC fC U t tx.data.toList;obtain⟨q,T⟩:=fH (lF (n.R k) t tx.data.toList)
  have V:n.send ((k:Int)+1) t tx.data.toList=if q.2≠0 then(n,q.2)else((n.kG k q.1).gather,0):=by
   unfold jQ.send;rw[af fC,e1,T]
  rw[V];rw[T]at Z J
  have G:Hid (∀W,jH w W y (n.kG k q.1) n.n->gb gg 111 #[π (μ ⟨y.N,0,ν⟩)] W λe w'=>e=ρ (τ #[])/\jH w w' y (n.kG k q.1).gather n.n):=by
   intro W hW;refine hW.call λy1 u s1=> ?_;rw[<-s1.N];exact sW y1 _ _ _ W u J fC fC
  have H:q.2≠0->q.1=n.R k:=λM=>by
   rw[<-T]at M⊢;unfold Rt.lF at M⊢;split at M;{rename_i hc;rw[ag hc]};exact absurd rfl M
  have xm:n.kG k (n.R k)=n:=by
   unfold jQ.kG;rw[qv]
  by_cases Y:q.2=0;{rw[af (by simp[Y])];rw[Y]at Z;have e0:kr 0=η:=rfl;rw[e0]at Z⊢;clear h S J H V T Y;go_in;go_wp2_with fail;refine hh.mono ?_;rintro e w1 ⟨rfl,rfl⟩;clear hh;go_wp2_with fail;refine Z.mono ?_;rintro e w1 ⟨rfl,Q⟩;have E:=G.out _ Q;clear Z Q;go_wp2_with fail;refine E.mono ?_;rintro e w2 ⟨rfl,A⟩;have X:Hid _:=A;clear E A;go_wp2;go_ret;exact⟨rfl,X.out⟩};rw[ag Y];rw[H Y,xm]at Z;have ee:kr q.2=.iface 128 (ι κ (q.2:Int)):=by simp only[kr];rw[af Y]
  rw[ee]at Z⊢;clear h S J H V T G Y;go_in;go_wp2_with fail;refine hh.mono ?_;rintro e w1 ⟨rfl,rfl⟩;clear hh;go_wp2_with fail;refine Z.mono ?_;rintro e w1 ⟨rfl,Q⟩;have X:Hid _:=Q;clear Z Q;go_wp2;go_ret;exact⟨rfl,X.out⟩
