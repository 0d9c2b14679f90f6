import Derived.Test.YtieklnlbljejdaaGreatDoorT09
open Go.Value renaming int → ι, slice → σ, pointer → π, tuple → τ, nilIface → η
open Go.IntKind renaming i64 → κ
open Go.Ending renaming returned → ρ
open Go.Obj renaming cells → γ
open Option renaming none → ν, some → μ
open Go renaming World → dN, Calls → eM, Value → dO, wpList_next_ranges → fK
open Go.Proofs.Tryz renaming prog → eN
open Go.Value renaming int → dT, ownBlock → dQ
open Prod.mk renaming injEq → eR
open Go.Instr renaming entry → fL
open List.Pairwise renaming nil → fM
set_option maxRecDepth 100000
set_option maxHeartbeats 4000000
open Go.Proofs.Tryz
namespace Go.Proofs.YtieklnlbljejdaaGreatDoor
open Go.RowKit St
variable {b cap g n:Nat} {es:Int->List jv} {left:Lit->Bool} {m:FM} {v:Value} {w w' w1 w3 wr:World} {x:Int}
theorem Qu {c:Nat} (h:c≠0):iP c=.iface 128 (ι κ (c:Int)):=by rw[iP,ae h]
theorem Qv(B:Nat)(m:FM)(k:Nat)(kn:Int->Option SV)(ow:Nat->Int->Option SV)(p:Nat)(w:dN)(h:FB w B m k kn ow)(Q:p<m.bs.length):
 eM eN 124 #[π (μ ⟨B,0,ν⟩),ι κ (p:Int)] w λe w'=>e=ρ (τ #[])/\FB w' B m k kn (λi=>if i=p then λ_=>ν else ow i)/\jc w w' m:=by
 have hh:=Ai B m k kn ow (p:Int) w h;have hv:(decide (0<=(p:Int))&&decide ((p:Int)<(m.bs.length:Int)))=true:=by
  simp;omega
 rw[hv]at hh;clear hv;have Vq:(p:Int)<(m.bs.length:Int):=dP;have vR:=h.few;have Z:m.bs[p]? =μ m.bs[p] :=av Q;obtain⟨S,U,X,Y⟩:=(h.om p _ Z).clear 0;have V:=h.Jq Z Y X (Nat.le_refl _);have T:jc w S m:=jc.oz Y (.inr (aD _));have c1:w.cell? ⟨B,1,ν⟩=μ (σ (μ ⟨m.g,0,ν⟩) m.bs.length m.cap):=h.c1;have lB:=h.lt;have cp:=h.port p _ Z;have gl:m.g<w.heap.size:=af w _ cp;generalize m.bs[p] =bp at cp U;clear X Y Z
 go_in
 go_wp2_with(fail);refine hh.mono ?_;rintro e w1 ⟨rfl,rfl⟩;clear hh
 go_wp2
 first|go_end0|refine iq rfl rfl ?_
 exact⟨rfl,V,T⟩
theorem Xl(B:Nat)(m:FM)(k:Nat)(kn:Int->Option SV)(ow:Nat->Int->Option SV)(own seq:Int)(a:Option Addr)(n cap:Nat)(es:List jv)(w:dN)(h:FB w B m k kn ow)(u:qS own)(T:iK w a n es)(t:kd a cap)(y:k<=1000000)(hf:ox own seq es=0):
 eM eN 67 #[π (μ ⟨B,0,ν⟩),.agg #[ι κ own,ι κ seq,σ a n cap]] w λe w'=>e=ρ η/\∃s,EI w w' B m k kn ow own seq es s:=by
 have A:n<=1000000:=by have:=(jk hf).2.2.1;rw[T.1]at this;omega
 have hb:=gM w (γ #[ι κ own,ι κ seq,σ a n cap] 40);obtain⟨H,U⟩:=fP (w.alloc (γ #[ι κ own,ι κ seq,σ a n cap] 40));have S:H.heap[w.heap.size]? =μ (γ #[ι κ own,ι κ seq,σ a n cap] 40 (0,0)):=by rw[<-U];exact aS w _
 rw[U]at hb;have D:Hid _:=U;have M:=yi own seq a n cap es H (by unfold maxLen;omega) (T.below hb);have J:iP 0=η:=rfl;rw[hf,J]at M;clear U J hf
 go_in
 go_wp2_with(fail);rw[D.out];refine M.mono ?_;rintro e Y ⟨rfl,k2⟩;have b2:=gD hb k2;have Q:=(k2.block _ (au.1 S).1).trans S;have x0:Y.cell? ⟨w.heap.size,0,ν⟩=μ (ι κ own):=ar Y _ 0 _ _ (0,0) Q;have x1:Y.cell? ⟨w.heap.size,1,ν⟩=μ (ι κ seq):=ar Y _ 1 _ _ (0,0) Q;have x2:Y.cell? ⟨w.heap.size,2,ν⟩=μ (σ a n cap):=ar Y _ 2 _ _ (0,0) Q;have xl:w.heap.size<Y.heap.size:=af Y _ x0;have V:=Dt B m k kn ow own seq a n cap es Y (h.below b2) u (T.below b2) t A y;clear M S hb k2;go_wp2_with(fail);refine V.mono ?_;rintro e w4 ⟨rfl,s,Z⟩;have X:=b2.size;have E:Hid (∃s,EI w w4 B m k kn ow own seq es s):=⟨s,Z.so,Z.ss,Z.sn,Z.so2,Z.nil,λj G=>⟨Nat.le_trans X (Z.new j G).1,(Z.new j G).2⟩,Z.fb,(jc.iD m b2).trans Z.kept⟩
 clear V x0 x1 x2 xl Z X b2
 go_wp2
 go_ret;exact⟨rfl,E.out⟩
theorem JW(B:Nat)(m:FM)(k:Nat)(kn:Int->Option SV)(ow:Nat->Int->Option SV)(p:Nat)(own seq:Int)(a:Option Addr)(n cap:Nat)(es:List jv)(w:dN)(h:FB w B m k kn ow)(hr:qS own)(hp:p<m.bs.length)(ho:iK w a n es)(hn:n<=maxLen)(hf:ox own seq es=0)
 (y:∀W,dV w W->eM eN 217 #[π (μ ⟨B,0,ν⟩),.agg #[ι κ own,ι κ seq,σ a n cap]] W λe w'=>e=ρ (ι κ 0)/\dV W w'):
 eM eN 191 #[π (μ ⟨B,0,ν⟩),ι κ (p:Int),.agg #[ι κ own,ι κ seq,σ a n cap]] w λe w'=>e=ρ η/\FB w' B m k kn (λi=>if i=p then del (ow p) own else ow i)/\jc w w' m:=by
 have hb:=gM w (γ #[ι κ own,ι κ seq,σ a n cap] 40);obtain⟨D,V⟩:=fP (w.alloc (γ #[ι κ own,ι κ seq,σ a n cap] 40));have Q:D.heap[w.heap.size]? =μ (γ #[ι κ own,ι κ seq,σ a n cap] 40 (0,0)):=by rw[<-V];exact aS w _
 rw[V]at hb;have t:Hid _:=V;have M:=pv B m k kn ow (p:Int) own seq a n cap es D (h.below hb) hn (ho.below hb);have A:tN m.bs.length (p:Int) own seq es=0:=by rw[tN,ag dP,hf]
 have H:iP 0=η:=rfl;rw[A,H]at M;have PB:Hid _:=y;have Vq:(p:Int)<(m.bs.length:Int):=dP;have vR:=h.few;clear V A H y hf
 go_in
 go_wp2_with(fail);rw[t.out];refine M.mono ?_;rintro e Z ⟨rfl,k2⟩;have b2:=gD hb k2;have Y:=(k2.block _ (au.1 Q).1).trans Q;have x0:Z.cell? ⟨w.heap.size,0,ν⟩=μ (ι κ own):=ar Z _ 0 _ _ (0,0) Y;have x1:Z.cell? ⟨w.heap.size,1,ν⟩=μ (ι κ seq):=ar Z _ 1 _ _ (0,0) Y;have x2:Z.cell? ⟨w.heap.size,2,ν⟩=μ (σ a n cap):=ar Z _ 2 _ _ (0,0) Y;have J:w.heap.size<Z.heap.size:=af Z _ x0;clear M Q hb k2;go_wp2_with(fail);refine(PB.out Z b2).mono ?_;rintro e w3 ⟨rfl,k3⟩;have b3:=gD b2 k3;have ya:=(k3.block _ J).trans Y;clear x0 x1 x2 J Y;have x0:w3.cell? ⟨w.heap.size,0,ν⟩=μ (ι κ own):=ar w3 _ 0 _ _ (0,0) ya;have J:w.heap.size<w3.heap.size:=af w3 _ x0;have X:=h.below b3;have G:dV w w3.drew:=below_drewN b3 1;have T:=h.below G;have U:m.bs[p]? =μ m.bs[p] :=av hp;obtain⟨W5,j,E,S⟩:=(T.om p _ U).drop own hr 0;have u:=T.Jq U S E (Nat.le_refl _);have M5:jc w W5 m:=(jc.iD m G).trans (jc.oz S (.inr (aD _)));have c1:w3.cell? ⟨B,1,ν⟩=μ (σ (μ ⟨m.g,0,ν⟩) m.bs.length m.cap):=X.c1;have lB:=X.lt;have cp:=X.port p _ U;have gl:m.g<w3.heap.size:=af w3 _ cp;generalize m.bs[p] =bp at cp j;clear X T E S U k3
 go_wp2
 go_region
 all_goals
  go_wp2
  go_ret;exact⟨rfl,u,M5⟩
theorem Nc(B:Nat)(m:FM)(k:Nat)(kn:Int->Option SV)(ow:Nat->Int->Option SV)(p:Nat)(own seq:Int)(a:Option Addr)(n cap:Nat)(es:List jv)(w:dN)(h:FB w B m k kn ow)(hr:qS own)(hp:p<m.bs.length)(ho:iK w a n es)(hn:n<=maxLen)(hf:ox own seq es=0)
 (y:∀W,dV w W->eM eN 217 #[π (μ ⟨B,0,ν⟩),.agg #[ι κ own,ι κ seq,σ a n cap]] W λe w'=>e=ρ (ι κ 1)/\dV W w'):
 eM eN 191 #[π (μ ⟨B,0,ν⟩),ι κ (p:Int),.agg #[ι κ own,ι κ seq,σ a n cap]] w λe w'=>e=ρ η/\FB w' B m k kn (λi=>if i=p then del (ow p) own else ow i)/\jc w w' m:=by
 have hb:=gM w (γ #[ι κ own,ι κ seq,σ a n cap] 40);obtain⟨D,V⟩:=fP (w.alloc (γ #[ι κ own,ι κ seq,σ a n cap] 40));have Q:D.heap[w.heap.size]? =μ (γ #[ι κ own,ι κ seq,σ a n cap] 40 (0,0)):=by rw[<-V];exact aS w _
 rw[V]at hb;have t:Hid _:=V;have M:=pv B m k kn ow (p:Int) own seq a n cap es D (h.below hb) hn (ho.below hb);have A:tN m.bs.length (p:Int) own seq es=0:=by rw[tN,ag dP,hf]
 have H:iP 0=η:=rfl;rw[A,H]at M;have PB:Hid _:=y;have Vq:(p:Int)<(m.bs.length:Int):=dP;have vR:=h.few;clear V A H y hf
 go_in
 go_wp2_with(fail);rw[t.out];refine M.mono ?_;rintro e Z ⟨rfl,k2⟩;have b2:=gD hb k2;have Y:=(k2.block _ (au.1 Q).1).trans Q;have x0:Z.cell? ⟨w.heap.size,0,ν⟩=μ (ι κ own):=ar Z _ 0 _ _ (0,0) Y;have x1:Z.cell? ⟨w.heap.size,1,ν⟩=μ (ι κ seq):=ar Z _ 1 _ _ (0,0) Y;have x2:Z.cell? ⟨w.heap.size,2,ν⟩=μ (σ a n cap):=ar Z _ 2 _ _ (0,0) Y;have J:w.heap.size<Z.heap.size:=af Z _ x0;clear M Q hb k2;go_wp2_with(fail);refine(PB.out Z b2).mono ?_;rintro e w3 ⟨rfl,k3⟩;have b3:=gD b2 k3;have ya:=(k3.block _ J).trans Y;clear x0 x1 x2 J Y;have x0:w3.cell? ⟨w.heap.size,0,ν⟩=μ (ι κ own):=ar w3 _ 0 _ _ (0,0) ya;have J:w.heap.size<w3.heap.size:=af w3 _ x0;have X:=h.below b3;have G:dV w w3.drew:=below_drewN b3 1;have T:=h.below G;have U:m.bs[p]? =μ m.bs[p] :=av hp;obtain⟨W5,j,E,S⟩:=(T.om p _ U).drop own hr 0;have u:=T.Jq U S E (Nat.le_refl _);have M5:jc w W5 m:=(jc.iD m G).trans (jc.oz S (.inr (aD _)));have c1:w3.cell? ⟨B,1,ν⟩=μ (σ (μ ⟨m.g,0,ν⟩) m.bs.length m.cap):=X.c1;have lB:=X.lt;have cp:=X.port p _ U;have gl:m.g<w3.heap.size:=af w3 _ cp;generalize m.bs[p] =bp at cp j;clear X T E S U k3
 go_wp2
 go_region
 all_goals
  go_wp2
  go_ret;exact⟨rfl,u,M5⟩
theorem Nd(B:Nat)(m:FM)(k:Nat)(kn:Int->Option SV)(ow:Nat->Int->Option SV)(p:Nat)(own seq:Int)(a:Option Addr)(n cap:Nat)(es:List jv)(w:dN)(h:FB w B m k kn ow)(hp:p<m.bs.length)(D:iK w a n es)(E:n<=maxLen)(hf:ox own seq es=0)
 (M:∀W,dV w W->eM eN 217 #[π (μ ⟨B,0,ν⟩),.agg #[ι κ own,ι κ seq,σ a n cap]] W λe w'=>e=ρ (ι κ (-1))/\dV W w'):
 eM eN 191 #[π (μ ⟨B,0,ν⟩),ι κ (p:Int),.agg #[ι κ own,ι κ seq,σ a n cap]] w λe w'=>e=ρ η/\dV w w':=by
 have hb:=gM w (γ #[ι κ own,ι κ seq,σ a n cap] 40);obtain⟨S,X⟩:=fP (w.alloc (γ #[ι κ own,ι κ seq,σ a n cap] 40));have V:S.heap[w.heap.size]? =μ (γ #[ι κ own,ι κ seq,σ a n cap] 40 (0,0)):=by rw[<-X];exact aS w _
 rw[X]at hb;have H:Hid _:=X;have U:=pv B m k kn ow (p:Int) own seq a n cap es S (h.below hb) E (D.below hb);have Q:tN m.bs.length (p:Int) own seq es=0:=by rw[tN,ag dP,hf]
 have T:iP 0=η:=rfl;rw[Q,T]at U;have G:Hid _:=M;have Vq:(p:Int)<(m.bs.length:Int):=dP;have vR:=h.few;clear X Q T M hf
 go_in
 go_wp2_with(fail);rw[H.out];refine U.mono ?_;rintro e Z ⟨rfl,k2⟩;have b2:=gD hb k2;have Y:=(k2.block _ (au.1 V).1).trans V;have x0:Z.cell? ⟨w.heap.size,0,ν⟩=μ (ι κ own):=ar Z _ 0 _ _ (0,0) Y;have x1:Z.cell? ⟨w.heap.size,1,ν⟩=μ (ι κ seq):=ar Z _ 1 _ _ (0,0) Y;have x2:Z.cell? ⟨w.heap.size,2,ν⟩=μ (σ a n cap):=ar Z _ 2 _ _ (0,0) Y;have J:w.heap.size<Z.heap.size:=af Z _ x0;clear U V hb k2;go_wp2_with(fail);refine(G.out Z b2).mono ?_;rintro e w3 ⟨rfl,k3⟩;have b3:=gD b2 k3;have ya:=(k3.block _ J).trans Y;clear x0 x1 x2 J Y;clear k3
 go_wp2
 go_ret;exact⟨rfl,b3⟩
theorem LA(B:Nat)(m:FM)(k:Nat)(kn:Int->Option SV)(ow:Nat->Int->Option SV)(i:Int)(t:SV)(ok:Bool)(fs:List jv)(w:dN)(h:FB w B m k kn ow)(hr:qS i)(hd:(kn i).getD SV.zero=t)(hs:(kn i).isSome=ok)(M:iK w t.a t.n fs)(hn:t.n<=1000000)(jS:kd t.a t.cap):
 eM eN 177 #[π (μ ⟨B,0,ν⟩),ι κ i] w λe w'=>∃(a:Option Addr) (cap:Nat),e=ρ (τ #[.agg #[ι κ t.own,ι κ t.seq,σ a fs.length cap],.bool ok])/\iK w' a fs.length fs/\kd a cap/\dV w w':=by
 obtain⟨T,ts,ta,tn,S⟩:=t;simp only at M hn jS;have hz:=oy;have hb:=gM w (γ #[ι κ 0,ι κ 0,σ ν 0 0] 40);obtain⟨Y,U⟩:=fP (w.alloc (γ #[ι κ 0,ι κ 0,σ ν 0 0] 40));have nQ:Y.heap[w.heap.size]? =μ (γ #[ι κ 0,ι κ 0,σ ν 0 0] 40 (0,0)):=by rw[<-U];exact aS w _
 have G:Y.heap.size=w.heap.size+1:=by rw[<-U];simp
 rw[U]at hb;have HW:Hid _:=U;clear U;have X:=h.below hb;have qd:(Instr.lookup 211 (.map (μ m.bm)) (ι κ i) true).run eN Y=.ok (τ #[.agg #[ι κ T,ι κ ts,σ ta tn S],.bool ok]) Y:=by
  have:=X.km.look_ok i hr;rw[hd,hs]at this;exact this
 have c0:=X.c0;have hl:=X.lt;have J:dV w (Y.alloc (γ #[ι κ T,ι κ ts,σ ta tn S] 40)):=hb.alloc hb.size _;have H:=A4 T ts ta tn S fs _ hn jS (M.below J);have A:(Y.alloc (γ #[ι κ T,ι κ ts,σ ta tn S] 40)).heap[w.heap.size]? =μ (γ #[ι κ 0,ι κ 0,σ ν 0 0] 40 (0,0)):=by
  rw[aQ _ _ _ dP];exact nQ
 have HB:Hid _:=J;have D:Hid _:=A;have HS:Hid _:=G;clear h X hd hs M hb J A nQ G
 go_in
 go_upto_region 1 with fail
 rw[HW.out];go_wp2_with(fail);refine H.mono ?_;rintro e Z ⟨⟨Q,vc,rfl,vo,vn,vl,E⟩,k2⟩;clear H qd c0;have V:=(k2.block _ (au.1 D.out).1).trans D.out;have y0:Z.cell? ⟨w.heap.size,0,ν⟩=μ (ι κ 0):=ar Z _ 0 _ _ (0,0) V;have y1:Z.cell? ⟨w.heap.size,1,ν⟩=μ (ι κ 0):=ar Z _ 1 _ _ (0,0) V;have y2:Z.cell? ⟨w.heap.size,2,ν⟩=μ (σ ν 0 0):=ar Z _ 2 _ _ (0,0) V;have fy:=λj=>bh Z w.heap.size j _ _ V;have ly:w.heap.size<Z.heap.size:=af Z _ y0;have y:=gD HB.out k2;have HC:Hid (∀u v x:dO,iK (((Z.setCell ⟨w.heap.size,0,ν⟩ u).setCell ⟨w.heap.size,1,ν⟩ v).setCell ⟨w.heap.size,2,ν⟩ x) Q fs.length fs/\kd Q vc/\dV w (((Z.setCell ⟨w.heap.size,0,ν⟩ u).setCell ⟨w.heap.size,1,ν⟩ v).setCell ⟨w.heap.size,2,ν⟩ x)):=by
  intro u v x;refine⟨vo.kept (cap:=vc) (λj hj=> ?_),vn,((y.setCell (Nat.le_refl _) _).setCell (Nat.le_refl _) _).setCell (Nat.le_refl _) _⟩;have X:=(E j hj).1;have h2:=HS.out;have h3:w.heap.size+1<=j:=by simp at X;omega
  rw[ak _ _ _ _ (by show j≠w.heap.size;omega),ak _ _ _ _ (by show j≠w.heap.size;omega),ak _ _ _ _ (by show j≠w.heap.size;omega)]
 clear vo E k2 V y;go_wp2_with(fail);refine aA (v:=τ #[.agg #[ι κ T,ι κ ts,σ Q fs.length vc],.bool ok]) (by simp[results,results177,go_sem,y0,y1,y2]) rfl ?_;exact⟨Q,vc,rfl,HC.out _ _ _⟩
open Go.Maps (Keyed)
theorem yz(h:(Lit.int .i64 x).wf=true):qS x:=by
 simp[Lit.wf,IntKind.min,IntKind.max,IntKind.signed,IntKind.bits]at h;exact⟨dP,dP⟩
theorem pN(x y:Int):(Lit.int .i64 x).sameKey (.int .i64 y)=decide (x=y):=by simp[Lit.sameKey]
def mix(fd fs:Int->Option SV)(left:Lit->Bool):Int->Option SV:=λk=>if left (.int .i64 k)=false/\(fs k).isSome=true then fs k else fd k
theorem Qw {fd fs:Int->Option SV} {s:SV} (h:fs x=μ s):(λk=>if k=x then μ s else mix fd fs left k)=mix fd fs (λz=>left z&& !z.sameKey (.int .i64 x)):=by
 funext k
 by_cases e:k=x
 ·subst e;simp[mix,pN,h]
 ·simp[mix,pN,e]
def over(fd fs:Int->Option SV):Int->Option SV:=λk=>if(fs k).isSome=true then fs k else fd k
theorem TX {fd fs:Int->Option SV} (h:∀Z,left Z=false):mix fd fs left=over fd fs:=by
 funext k
 simp[mix,over,h]
theorem SMap.congr {f g:Int->Option SV} (h:SMap w b n f)(e:∀k,qS k->f k=g k):SMap w b n g:=by
 obtain⟨D,Y,X⟩:=h.own;exact⟨⟨D,Y,λk Z=>by rw[<-e k Z];exact X k Z⟩⟩
theorem Nf(bd bs nd ns:Nat)(fd fs:Int->Option SV)(w:dN)(hd:SMap w bd nd fd)(hs:SMap w bs ns fs)(jq:bd≠bs)(ahU:nd+ns<=2000000):
 eM eN 181 #[.map (μ bd),.map (μ bs)] w λe w'=>e=ρ (τ #[])/\SMap w' bd (nd+ns) (over fd fs)/\w.grownBy w' (μ bd):=by
 obtain⟨D,iY,u⟩:=hs.own;have pY:=iY.size_le;have kc:=hd.lt;have EY:=hs.lt;have hz:=oy;have H0:Hid (∀k,qS k->fs k=ν->∀z,D.atKey (.int .i64 k) z=z):=λk S e=>by have:=u k S;rw[e]at this;exact this
 have H1:Hid (∀k s,qS k->fs k=μ s->∀z,D.atKey (.int .i64 k) z=.held s):=λk s S e=>by have:=u k S;rw[e]at this;exact this
 clear u hs
 go_in
 go_wp2_with(first
  |(at_range;refine wpList_range_own _ rfl _ 211 rfl 3 40 sH underlying211 rb bs ns _ rfl iY ?_;intro w0 Qx t VH)
  |fail)
 go_frame
 go_loopw [8] (λ_ wr=>∃(left:Lit->Bool) (H:Nat),wr.ranges eN 3 rb bs w.heap.size ns D left H/\H<=ns/\SMap wr bd (nd+(ns-H)) (mix fd fs left)/\w.grownBy wr (μ bd))
  (λ_ wr=>wr.rangeLeft bs w.heap.size)
 case atStart=>
  refine⟨_,_,Qx,pY,((hd.kept t gN).mono dP).congr (λk S=> ?_),t.but _⟩;cases e:fs k with
  |none=>simp[mix,e]
  |some s=>simp[mix,Maps.has_true_of_atKey (H1.out k s S e)]
 case round=>
  clear Qx t VH iY hd;obtain⟨left,H,J,hcs,G,A⟩:=hrel;go_wp2_with(first
   |(at_next;refine fK _ rfl _ rfl 3 sH rb (dT .i64) SV.v (λkey kl E=>by obtain⟨x,rfl,_⟩:=cg underlying3 E;exact⟨x,rfl⟩) (λv y hv=>by obtain⟨s,rfl,_⟩:=uQ hv;exact⟨s,rfl⟩) bs w.heap.size ns _ _ _ rfl J ?_ ?_)
   |fail)
  ·intro pT vv;have HE:Hid (SMap wr bd (nd+ns) (over fd fs)):=by
    show SMap wr bd (nd+ns) (over fd fs);rw[<-TX vv];exact G.mono dP
   clear J G
   go_wp2
   first|go_end0|refine iq rfl rfl ?_
   exact⟨rfl,HE.out,A⟩
  ·intro x c kl yd yp w1 M E ZA hv hat Qy CY jZ Bf Ng;obtain⟨x',ex,rfl,Q⟩:=cg underlying3 E;cases ex;have TY:=yz Q;obtain⟨X,cs,ca,Y,Z⟩:=c;rw[w7]at hv;have hy:yd=.held ⟨X,cs,ca,Y,Z⟩:=by have:=Option.some.inj hv;simp only[eR]at this;exact this.1.symm
   have VL:fs x=μ ⟨X,cs,ca,Y,Z⟩:=by
    cases e:fs x with
    |none=>
     have U:=H0.out x TY e .nil;rw[hat,hy]at U;cases U
    |some s=>
     have U:=H1.out x s TY e .nil;rw[hat,hy]at U;cases U;rfl
   have VM:=(G.kept jZ (λe=>by have:=Option.some.inj e;omega)).alloc (γ #[ι κ X,ι κ cs,σ ca Y Z] 40);obtain⟨V,sv,h,T2⟩:=VM.store (by unfold maxLen;omega) x TY ⟨X,cs,ca,Y,Z⟩;have aj6:(Instr.mapUpdate 211 (.map (μ bd)) (ι κ x) (.agg #[ι κ X,ι κ cs,σ ca Y Z])).run eN (w1.alloc (γ #[ι κ X,ι κ cs,σ ca Y Z] 40))=.ok () V:=sv;rw[Qw VL]at h;have aaY:(fL (π (μ ⟨w.heap.size,0,ν⟩))).run eN w1=.ok (τ #[ι κ x,.agg #[ι κ X,ι κ cs,σ ca Y Z]]) w1:=Ng;have Xm:=(Qy.alloc (γ #[ι κ X,ι κ cs,σ ca Y Z] 40)).kept T2.grown (λe=>jq (Option.some.inj e).symm) (λe=>by have:=Option.some.inj e;omega);have y8:w.grownBy V (μ bd):=((A.andThen jZ (λj T=>.inl (by cases T;exact Nat.le_refl _))).andThen ((World.grownBy_alloc w1 (γ #[ι κ X,ι κ cs,σ ca Y Z] 40) ν).but (μ bd)) (λj T=>.inr T)).andThen T2.grown (λj T=>.inr T);have HR:Hid (V.ranges eN 3 rb bs w.heap.size ns D (λz=>left z&& !z.sameKey (.int .i64 x)) M/\M<=ns/\SMap V bd (nd+(ns-M)) (mix fd fs (λz=>left z&& !z.sameKey (.int .i64 x)))/\w.grownBy V (μ bd)):=⟨Xm,dP,h.mono dP,y8⟩
   have HM:Hid (V.rangeLeft bs w.heap.size<wr.rangeLeft bs w.heap.size):=by
    show _<_;rw[Xm.left_eq,J.left_eq];exact CY
   clear sv Ng h T2 VM G J Qy Xm jZ y8 A hat hy hv VL ZA E Q;go_wp2_with(fail)
   first|go_frame|skip
   go_roundw
   case rel=>exact⟨_,M,HR.out⟩
   case measure=>exact HM.out
theorem jc.Qz(g:w.grownBy w' (μ b))(hb:b=m.bm \/b∈m.bs):jc w w' m:=by
 refine⟨g.os,g.tape,g.output,g.size,λi hi Z Y=>g.block i hi (λe=> ?_)⟩;have:i=b:=by simpa using e
 subst this;rcases hb with hb|hb
 ·exact Z hb
 ·exact Y hb
theorem rm {x:Nat} (h:w.grownBy w' (μ b))(hx:x<w.heap.size)(Z:x≠b):w'.heap[x]? =w.heap[x]? :=h.block x hx (λe=>Z (by simpa using e))
theorem FB.afe {B:Nat} {n':Nat} {kn:Int->Option SV} {ow:Nat->Int->Option SV} {f:Int->Option SV} {i:Nat} (h:FB w B m n kn ow)(hi:m.bs[i]? =μ b)(Z:w.grownBy w' (μ b))(S:SMap w' b n' f)(X:n<=n'):FB w' B m n' kn (λj=>if j=i then f else ow j):=by
 have hb:=h.nB.2.2.2 b (bu hi);refine⟨(rm Z h.lt (λe=>hb.1 e.symm)).trans h.m9,h.row.keep Z.size (λk V=> ?_),(h.km.keep (rm Z h.km.lt (λe=>hb.2.2 e.symm))).mono X,λj c e=> ?_,h.few,h.nB,h.nd⟩
 ·have T:m.g=k:=by simpa[FM.sl,dQ]using V
  subst T;exact rm Z (h.row.lt _ V) (λe=>hb.2.1 e.symm)
 ·by_cases Y:j=i
  ·subst Y;rw[hi]at e;obtain rfl:=Option.some.inj e;simp only[if_true];exact S
  ·rw[ae Y];have Q:c≠b:=λU=>by
    subst U;exact Y ((List.getElem?_inj (aG.1 e).1 h.nd).1 (e.trans hi.symm))
   exact((h.om j c e).keep (rm Z (h.om j c e).lt Q)).mono X
theorem QA(B:Nat)(m:FM)(k:Nat)(kn:Int->Option SV)(ow:Nat->Int->Option SV)(p:Nat)(w:dN)(h:FB w B m k kn ow)(S:p<m.bs.length)(hk:k<=1000000):
 eM eN 126 #[π (μ ⟨B,0,ν⟩),ι κ (p:Int)] w λe w'=>e=ρ η/\FB w' B m (k+k) kn (λi=>if i=p then over (ow p) kn else ow i)/\jc w w' m:=by
 have hh:=Ai B m k kn ow (p:Int) w h;have hv:(decide (0<=(p:Int))&&decide ((p:Int)<(m.bs.length:Int)))=true:=by simp;omega
 rw[hv]at hh;clear hv;have Vq:(p:Int)<(m.bs.length:Int):=dP;have vR:=h.few;have X:m.bs[p]? =μ m.bs[p] :=av S;have bd:dV w w.drew:=below_drewN (aq _ _) 1;have Fd:=h.below bd;have V:=Nf m.bs[p] m.bm k k (ow p) kn w.drew (Fd.om p _ X) Fd.km (Fd.nB.2.2.2 _ (aD _)).2.2 dP;have U:Hid (∀w',SMap w' m.bs[p] (k+k) (over (ow p) kn)->w.drew.grownBy w' (μ m.bs[p])->FB w' B m (k+k) kn (λi=>if i=p then over (ow p) kn else ow i)/\jc w w' m):=λw' Y Z=>⟨Fd.afe X Z Y dP,(jc.iD m bd).trans (jc.Qz Z (.inr (aD _)))⟩
 have c0:=h.c0;have c1:w.cell? ⟨B,1,ν⟩=μ (σ (μ ⟨m.g,0,ν⟩) m.bs.length m.cap):=h.c1;have lB:=h.lt;have cp:=h.port p _ X;have gl:m.g<w.heap.size:=af w _ cp;generalize m.bs[p] =bp at cp V U;clear X Fd bd
 go_in
 go_wp2_with(fail);refine hh.mono ?_;rintro e w1 ⟨rfl,rfl⟩;clear hh
 go_upto_region 3 with fail
 go_region_with(first|(go_at_call 181;refine V.mono ?_;rintro e w2 ⟨rfl,Y,Z⟩)|fail)
 all_goals
  have T:Hid _:=U.out _ Y Z;clear Y Z
  go_wp2
  go_ret;exact⟨rfl,T.out⟩
def SV.cells(s:SV):List dO:=[ι κ s.own,ι κ s.seq,σ s.a s.n s.cap]
def Nh(ss:List SV):List dO:=ss.flatMap SV.cells
theorem QB(ss:List SV)(s:SV):Nh (ss++ [s])=Nh ss++ [ι κ s.own,ι κ s.seq,σ s.a s.n s.cap] :=by simp[Nh,SV.cells]
theorem LB:∀(ss:List SV) (j:Nat) (s:SV),ss[j]? =μ s->(Nh ss)[j*3]? =μ (ι κ s.own)/\(Nh ss)[j*3+1]? =μ (ι κ s.seq)/\(Nh ss)[j*3+2]? =μ (σ s.a s.n s.cap)
 |[],j,s,h=>by simp at h
 |x::l,0,s,h=>by
  have:x=s:=by simpa using h
  subst this;exact⟨rfl,rfl,rfl⟩
 |x::l,j+1,s,h=>by
  have V:l[j]? =μ s:=by simpa using h
  obtain⟨a,b,c⟩:=LB l j s V;have e:Nh (x::l)=ι κ x.own::ι κ x.seq::σ x.a x.n x.cap::Nh l:=rfl;have Z:(j+1)*3=j*3+3:=dP;have Y:(j+1)*3+1=j*3+1+3:=dP;have X:(j+1)*3+2=j*3+2+3:=dP;rw[e,Y,X,Z];simp only[List.getElem?_cons_succ];exact⟨a,b,c⟩
theorem Row.sr {ss:List SV} (h:Row w 3 (σ (μ ⟨g,0,ν⟩) ss.length cap) ss.length (Nh ss)):SR w g cap ss:=by
 rcases h.2 with⟨e,_⟩|⟨g',jd,e,_,Z,Y,_,hs⟩
 ·cases e
 ·cases e;refine⟨h.lt g rfl,λj s e=> ?_,hs,Z,Y⟩;obtain⟨a,b,c⟩:=LB ss j s e;exact⟨Row.cell h _ _ a,Row.cell h _ _ b,Row.cell h _ _ c⟩
theorem sM:∀(l m:List Int),l.Pairwise (· ≠·)->(∀x∈l,x∈m)->l.length<=m.length
 |[],_,_,_=>Nat.zero_le _
 |x::l,m,hp,hs=>by
  obtain⟨Z,Y⟩:=bZ.1 hp;have hx:=hs x gN;have:=sM l (m.erase x) Y (λy hy=>(List.mem_erase_of_ne (λe=>Z y hy e.symm)).2 (hs y (cU _ hy)));rw[List.length_erase_of_mem hx]at this;have hm:0<m.length:=List.length_pos_of_mem hx;simp only[List.length_cons];omega
structure Xn(w wr:dN)(f:Int->Option SV)(es:Int->List jv)(v:dO)(s:SV):Prop where
 at_:∃t,f s.own=μ t/\s.seq=t.seq
 inr:qS s.own
 n:s.n=(es s.own).length
 opt:iK wr s.a s.n (es s.own)
 nil:kd s.a s.cap
 new:∀j,dQ (σ s.a s.n s.cap)=μ j->w.heap.size<j/\j<wr.heap.size/\v.ownBlock≠μ j
structure QC(w wr:dN)(f:Int->Option SV)(es:Int->List jv)(left:Lit->Bool)(v:dO)(out:List SV):Prop where
 row:Row wr 3 v out.length (Nh out)
 own:∀g,v.ownBlock=μ g->w.heap.size<g
 el:∀s∈out,Xn w wr f es v s/\left (.int .i64 s.own)=false
 df:out.Pairwise (λx y=>x.own≠y.own)
 all:∀k,qS k->(f k).isSome=true->left (.int .i64 k)=false->∃s∈out,s.own=k
 nI:dV w wr
theorem QC.step {f:Int->Option SV} {v':dO} {out:List SV} {s t:SV} (h:QC w wr f es left v out)
 (Y:wr.grownBy w1 (μ w.heap.size)) (G:w1.grownBy w3 v.ownBlock) (A:Row w3 3 v' (out.length+1) (Nh out++ [ι κ s.own,ι κ s.seq,σ s.a s.n s.cap]))
 (hv:∀g,v'.ownBlock=μ g->v.ownBlock=μ g \/wr.heap.size<=g) (hw:w.heap.size<wr.heap.size) (y:∀j,dQ (σ s.a s.n s.cap)=μ j->wr.heap.size<=j/\j<w3.heap.size/\v'.ownBlock≠μ j)
 (hx:qS s.own) (Q:left (.int .i64 s.own)=true) (S:f s.own=μ t) (Z:s.seq=t.seq) (E:s.n=(es s.own).length) (D:iK w3 s.a s.n (es s.own)) (u:kd s.a s.cap):
 QC w w3 f es (λz=>left z&& !z.sameKey (.int .i64 s.own)) v' (out++ [s]):=by
 have pY:wr.heap.size<=w3.heap.size:=Nat.le_trans Y.size G.size;have T:∀i,i<wr.heap.size->i≠w.heap.size->v.ownBlock≠μ i->w3.heap[i]? =wr.heap[i]? :=λi hi V U=>
  (G.block i (Nat.lt_of_lt_of_le hi Y.size) (λe=>U e.symm)).trans (Y.block i hi (λe=>V (by simpa using e)))
 refine⟨?_,?_,?_,?_,?_,?_⟩
 ·rw[QB,ay];exact A
 ·intro g J;rcases hv g J with e|e
  ·exact h.own g e
  ·omega
 ·intro q Z;rcases aF.1 Z with Z|Z
  ·obtain⟨a,b⟩:=h.el q Z;refine⟨⟨a.at_,a.inr,a.n,a.opt.kept (cap:=q.cap) (λj X=> ?_),a.nil,λj X=> ?_⟩,by simp[b]⟩
   ·obtain⟨c1,c2,c3⟩:=a.new j X;exact T j c2 dP c3
   ·obtain⟨c1,c2,c3⟩:=a.new j X;refine⟨c1,dP,λe=> ?_⟩;rcases hv j e with e|e
    ·exact c3 e
    ·omega
  ·have:q=s:=by simpa using Z
   subst this;refine⟨⟨⟨t,S,iL⟩,hx,E,D,u,λj X=> ?_⟩,by simp[pN]⟩;obtain⟨c1,c2,c3⟩:=y j X;exact⟨dP,c2,c3⟩
 ·rw[aZ];refine⟨h.df,List.pairwise_singleton _ _,λa M b hb=> ?_⟩;have:b=s:=by simpa using hb
  subst this;intro e;have:=(h.el a M).2;rw[e,Q]at this;cases this
 ·intro k H hs hl;by_cases e:k=s.own
  ·exact⟨s,gN,e.symm⟩
  ·have:left (.int .i64 k)=false:=by simpa[pN,e]using hl
   obtain⟨q,V,U⟩:=h.all k H hs this;exact⟨q,by simp[V],U⟩
 ·refine⟨?_,?_,?_,?_,?_⟩
  ·exact G.os.trans (Y.os.trans h.nI.os)
  ·exact G.tape.trans (Y.tape.trans h.nI.tape)
  ·exact G.output.trans (Y.output.trans h.nI.output)
  ·exact Nat.le_trans h.nI.size pY
  ·intro i hi;refine(T i dP dP (λe=> ?_)).trans (h.nI.block i hi);have:=h.own i e;omega
theorem QC.few {f:Int->Option SV} {out:List SV} (h:QC w wr f es left v out)(hf:∀k s,qS k->f k=μ s->1<=k/\k<=6):out.length<=6:=by
 have Z:=sM (out.map SV.own) [1,2,3,4,5,6] (by rw[di];exact h.df) (λx hx=>by
  obtain⟨s,hs,rfl⟩:=bD.1 hx;obtain⟨t,Y,_⟩:=(h.el s hs).1.at_;have:=hf _ t (h.el s hs).1.inr Y;simp;omega)
 simpa using Z
theorem infoState:(eN.info? 40).map (λi=>(i.zero,i.size,i.bytes))=μ (μ (.agg #[ι κ 0,ι κ 0,σ ν 0 0]),3,40):=gJ
theorem Ha(w:dN)(x y z:dO)(t:TypeId)(g:Nat)(Z:w.heap.size=g):∀(j:Nat) (u:dO),[x,y,z][j]? =μ u->(w.alloc (γ #[x,y,z] t)).cell? ((⟨g,0,ν⟩:Addr).add j)=μ u:=by
 subst Z;intro j u Y;rw[add_plain,aj];simpa using Y
theorem Xo(x y:Int)(a:Option Addr)(n c:Nat):∀u∈ [dT .i64 x,dT .i64 y,Value.slice a n c],u.oneCell'=true:=by simp[Value.oneCell']
structure Bq(w w':dN)(f:Int->Option SV)(es:Int->List jv)(v:dO)(ts:List SV):Prop where
 shape:(v=σ ν 0 0/\ts=[]) \/ ∃g cap,v=σ (μ ⟨g,0,ν⟩) ts.length cap/\SR w' g cap ts/\w.heap.size<g
 el:∀s∈ts,Xn w w' f es v s
 Nb:JT ts
 all:∀k,qS k->(f k).isSome=true->∃s∈ts,s.own=k
 nI:dV w w'
theorem QC.Xp {f:Int->Option SV} {out:List SV} (h:QC w wr f es left v out)(hl:∀X,left X=false)(hv:v=σ ν 0 0):Bq w wr f es v [] /\out=[] :=by
 have Y:out=[] :=by
  rcases h.row.2 with⟨_,e⟩|⟨g,cap,e,_⟩
  ·exact aE e
  ·rw[hv]at e;cases e
 subst Y;exact⟨⟨.inl ⟨hv,rfl⟩,λs hs=>by simp at hs,fM,λk Z hs=>h.all k Z hs (hl _),h.nI⟩,rfl⟩
theorem QC.aaZ {f:Int->Option SV} {out ts:List SV} (h:QC w wr f es left (σ (μ ⟨g,0,ν⟩) out.length cap) out)(hl:∀H,left H=false)
 (hs:SR w' g cap ts) (X:ts.Perm out) (J:JT ts) (Z:wr.grownBy w' (μ g)):Bq w w' f es (σ (μ ⟨g,0,ν⟩) out.length cap) ts:=by
 have V:w.heap.size<g:=h.own g rfl;refine⟨.inr ⟨g,cap,by rw[X.length_eq],hs,V⟩,λs M=> ?_,J,λk Q U=> ?_,?_⟩
 ·have a:=(h.el s (X.mem_iff.1 M)).1;refine⟨a.at_,a.inr,a.n,a.opt.kept (cap:=s.cap) (λj Y=> ?_),a.nil,λj Y=> ?_⟩
  ·obtain⟨c1,c2,c3⟩:=a.new j Y;exact Z.block j c2 (λe=>c3 e.symm)
  ·obtain⟨c1,c2,c3⟩:=a.new j Y;exact⟨c1,Nat.lt_of_lt_of_le c2 Z.size,c3⟩
 ·obtain⟨s,T,S⟩:=h.all k Q U (hl _);exact⟨s,X.mem_iff.2 T,S⟩
 ·refine⟨Z.os.trans h.nI.os,Z.tape.trans h.nI.tape,Z.output.trans h.nI.output,Nat.le_trans h.nI.size Z.size,λi hi=>(Z.block i (Nat.lt_of_lt_of_le hi h.nI.size) (λe=> ?_)).trans (h.nI.block i hi)⟩;have:i=g:=by simpa using e
  omega
theorem QD(w:dN):eM eN 202 #[σ ν 0 0,.func (.func 203) #[] #[]] w λe w'=>e=ρ (τ #[])/\w=w':=by
 have Z:=Lz 0 dS w;have X:eM eN 232 #[σ ν 0 0,ι κ 0,ι κ 0,.func (.func 203) #[] #[]] w λe w'=>e=ρ (τ #[])/\w=w':=by
  go_in
  go_wp2_with(fail);refine bQ 1 ?_;rw[bH]
  go_wp2
  first|go_end0|refine iq rfl rfl ?_
  exact⟨rfl,rfl⟩
 have Y:∀L:Int,eM eN 220 #[σ ν 0 0,ι κ 0,ι κ 0,ι κ L,.func (.func 203) #[] #[]] w λe w'=>e=ρ (τ #[])/\w=w':=by
  intro L
  go_in
  go_wp2_with(fail);refine bQ 1 ?_;rw[bH];go_wp2_with(fail);refine X.mono ?_;rintro e w1 ⟨rfl,rfl⟩
  go_wp2
  first|go_end0|refine iq rfl rfl ?_
  exact⟨rfl,rfl⟩
 go_in
 go_wp2_with(fail);refine Z.mono ?_;rintro e w1 ⟨r,rfl,rfl⟩;go_wp2_with(fail);refine(Y r).mono ?_;rintro e w2 ⟨rfl,rfl⟩
 go_wp2
 first|go_end0|refine iq rfl rfl ?_
 exact⟨rfl,rfl⟩
theorem JY {w2:dN} {o o2:Obj} {row:Option Nat} (k2:Below (w1.alloc o).heap.size (w1.alloc o) w2)(Z:(w2.alloc o2).grownBy w3 row):w1.grownBy w3 row:=by
 have s1:(w1.alloc o).heap.size=w1.heap.size+1:=gN;have s2:(w2.alloc o2).heap.size=w2.heap.size+1:=gN;have hk:=k2.size;have b1:=gM w1 o;have b2:=gM w2 o2;refine⟨Z.os.trans (b2.os.trans (k2.os.trans b1.os)),Z.tape.trans (b2.tape.trans (k2.tape.trans b1.tape)),Z.output.trans (b2.output.trans (k2.output.trans b1.output)),by have:=Z.size;omega,λi hi Y=> ?_⟩;exact(Z.block i dP Y).trans ((b2.block i dP).trans ((k2.block i dP).trans (b1.block i hi)))
theorem Br(b n:Nat)(f:Int->Option SV)(es:Int->List jv)(w:dN)(h:SMap w b n f)
 (hf:∀k s,qS k->f k=μ s->(1<=k/\k<=6)/\s.own=k/\iK w s.a s.n (es k)/\kd s.a s.cap/\s.n<=1000000):
 eM eN 160 #[.map (μ b)] w λe w'=>∃v ts,e=ρ v/\Bq w w' f es v ts:=by
 obtain⟨i0,hi,nH,l8,mZ⟩:=aT infoState;obtain⟨D,iY,JX⟩:=h.own;have wQ:=h.lt;have hz:=oy;have H0:Hid (∀k,qS k->f k=ν->∀z,D.atKey (.int .i64 k) z=z):=λk Y e=>by have:=JX k Y;rw[e]at this;exact this
 have H1:Hid (∀k s,qS k->f k=μ s->∀z,D.atKey (.int .i64 k) z=.held s):=λk s Y e=>by have:=JX k Y;rw[e]at this;exact this
 have HF:Hid _:=hf;clear JX h hf
 go_in
 go_wp2_with(first
  |(at_range;refine wpList_range_own _ rfl _ 211 rfl 3 40 sH underlying211 rb b n _ rfl iY ?_;intro w0 Qx H VH)
  |fail)
 go_frame
 go_loopw [3] (λv wr=>∃(left:Lit->Bool) (VK:Nat) (out:List SV),wr.ranges eN 3 rb b w.heap.size n D left VK/\w.heap.size<wr.heap.size/\QC w wr f es left v out)
  (λ_ wr=>wr.rangeLeft b w.heap.size)
 case atStart=>
  refine⟨_,_,[],Qx,dP,⟨Row.nil _ 3,λg A=>by simp[dQ]at A,λs hs=>by simp at hs,fM,λk Y S h2=> ?_,⟨H.os,H.tape,H.output,H.size,λi hi=>H.block i hi gN⟩⟩⟩;cases e:f k with
  |none=>rw[e]at S;cases S
  |some s=>
   rw[dC (H1.out k s Y e)]at h2;cases h2
 case round=>
  clear Qx H VH iY;obtain⟨left,VK,out,Gv,hww,hC⟩:=hrel;go_wp2_with(first
   |(at_next;refine fK _ rfl _ rfl 3 sH rb (dT .i64) SV.v (λkey kl wi=>by obtain⟨x,rfl,_⟩:=cg underlying3 wi;exact⟨x,rfl⟩) (λv y hv=>by obtain⟨s,rfl,_⟩:=uQ hv;exact⟨s,rfl⟩) b w.heap.size n _ _ _ rfl Gv ?_ ?_)
   |fail)
  ·intro pT vv;have E:=hC.few (λk s Y e=>(HF.out k s Y e).1);rcases hC.row.2 with⟨hv,QE⟩|⟨g,cap,hv,_⟩
   ·subst hv;have J:Hid _:=(hC.Xp vv rfl).1;have WL:=QD wr;clear hC Gv vv QE E;go_wp2_with(fail);refine WL.mono ?_;rintro e u ⟨rfl,rfl⟩;clear WL
    go_wp2
    go_ret;exact⟨_,_,rfl,J.out⟩
   ·subst hv;have WL:=Qs g out.length cap out wr hC.row.sr rfl E hC.df;have T:Hid _:=hC;have HL:Hid _:=vv;clear hC Gv vv E;go_wp2_with(fail);refine WL.mono ?_;rintro e u ⟨rfl,ts,hS,hp,hr,A⟩;have J:Hid _:=T.out.aaZ HL.out hS hp hr A;clear WL hS hp hr A
    go_wp2
    go_ret;exact⟨_,_,rfl,J.out⟩
  ·intro x c kl yd yp w1 G9 wi ZA hv hat Qy CY M Bf Ng;obtain⟨x',ex,rfl,hwx⟩:=cg underlying3 wi;cases ex;have TY:=yz hwx;obtain⟨Z,cs,ca,V,X⟩:=c;rw[w7]at hv;have hy:yd=.held ⟨Z,cs,ca,V,X⟩:=by have:=Option.some.inj hv;simp only[eR]at this;exact this.1.symm
   have VL:f x=μ ⟨Z,cs,ca,V,X⟩:=by
    cases e:f x with
    |none=>
     have S:=H0.out x TY e .nil;rw[hat,hy]at S;cases S
    |some s=>
     have S:=H1.out x s TY e .nil;rw[hat,hy]at S;cases S;rfl
   obtain⟨hx6,hxo,vQ,jS,Q⟩:=HF.out x _ TY VL;simp only at hxo vQ jS Q;subst hxo;have E:=hC.few (λk s Y e=>(HF.out k s Y e).1);have aaY:(fL (π (μ ⟨w.heap.size,0,ν⟩))).run eN w1=.ok (τ #[ι κ Z,.agg #[ι κ Z,ι κ cs,σ ca V X]]) w1:=Ng;have jV:dV w w1:=⟨M.os.trans hC.nI.os,M.tape.trans hC.nI.tape,M.output.trans hC.nI.output,Nat.le_trans hC.nI.size M.size,λi hi=>(M.block i dP (λe=>by simp at e;omega)).trans (hC.nI.block i hi)⟩
   have Aj:=A4 Z cs ca V X (es Z) (w1.alloc (γ #[ι κ Z,ι κ cs,σ ca V X] 40)) Q jS (vQ.below (jV.alloc jV.size _));have T:Hid _:=hC;have HX:Hid (left (.int .i64 Z)=true/\qS Z/\f Z=μ ⟨Z,cs,ca,V,X⟩/\wr.grownBy w1 (μ w.heap.size)/\w1.heap.size=wr.heap.size/\w.heap.size<wr.heap.size/\out.length<=6):=⟨ZA,TY,VL,M,Bf,hww,E⟩
   have HG:Hid (w1.ranges eN 3 rb b w.heap.size n D (λz=>left z&& !z.sameKey (.int .i64 Z)) G9):=Qy;have HM:Hid _:=CY;have HO:Hid (wr.rangeLeft b w.heap.size=VK):=Gv.left_eq;clear hC ZA TY VL M Bf hww E Qy CY Gv Ng hat hy hv wi hwx hx6 vQ jS Q jV;go_wp2_with(fail);refine Aj.mono ?_;rintro e u ⟨⟨va,vc,rfl,vo,vn,vl,CQ⟩,k2⟩;clear Aj aaY;have tS:Row u 3 u3 out.length (Nh out):=by
    obtain⟨q1,q2,q3,q4,q5,q6,q7⟩:=HX.out;have s1:(w1.alloc (γ #[ι κ Z,ι κ cs,σ ca V X] 40)).heap.size=w1.heap.size+1:=gN;refine T.out.row.keep (by have:=k2.size;omega) (λk Y=> ?_);have SQ:=T.out.row.lt k Y;have rD:=T.out.own k Y;exact(k2.block k dP).trans (((gM w1 _).block k dP).trans (q4.block k SQ (λe=>by simp at e;omega)))
   have h7:out.length<=6:=HX.out.2.2.2.2.2.2;obtain⟨m,hm⟩:=fP (out.length);rw[hm]at tS h7;have HN:Hid _:=hm;clear hm;go_wp2_with(at_builtin;go_must(refine iu _ rfl (.tmp 12) (.tmp 15) 91 rfl 40 i0 (.agg #[ι κ 0,ι κ 0,σ ν 0 0]) 3 40 underlying91 hi nH l8 mZ rfl dS u3 m (Nh out) rfl (tS.alloc _) _ 1 1 [ι κ Z,ι κ cs,σ va (es Z).length vc] rfl rfl dS (Ha _ _ _ _ _ _ gN) (Xo _ _ _ _ _) (by unfold maxLen;omega) dP ?_));intro g' jd w3 rP sA ti;have J:Hid (w3.ranges eN 3 rb b w.heap.size n D (λz=>left z&& !z.sameKey (.int .i64 Z)) G9/\w.heap.size<w3.heap.size/\QC w w3 f es (λz=>left z&& !z.sameKey (.int .i64 Z)) (σ (μ ⟨g',0,ν⟩) (m+1) jd) (out++ [⟨Z,cs,va,(es Z).length,vc⟩])):=by
    obtain⟨q1,q2,q3,q4,q5,q6,q7⟩:=HX.out;have G:=JY k2 sA;have s1:(w1.alloc (γ #[ι κ Z,ι κ cs,σ ca V X] 40)).heap.size=w1.heap.size+1:=gN;have s2:(u.alloc (γ #[ι κ Z,ι κ cs,σ va (es Z).length vc] 40)).heap.size=u.heap.size+1:=gN;have k2s:=k2.size;have g3s:=sA.size;have U:∀k,u3.ownBlock=μ k->w.heap.size<k/\k<wr.heap.size:=λk Y=>⟨T.out.own k Y,T.out.row.lt k Y⟩
    refine⟨World.ranges.kept HG.out G (λe=>by have:=U b e.symm;omega) (λe=>by have:=U _ e.symm;omega),dP,?_⟩;refine T.out.step (s:=⟨Z,cs,va,(es Z).length,vc⟩) (t:=⟨Z,cs,ca,V,X⟩) q4 G (by rw[HN.out];exact rP) (λg A=> ?_) q6 (λj hj=> ?_) q2 q1 q3 rfl rfl (vo.kept (cap:=vc) (λj hj=> ?_)) vn
    ·have Pt:g'=g:=by simpa[dQ]using A
     subst Pt;rcases ti with e|e
     ·exact .inl e
     ·right;omega
    ·obtain⟨c1,c2⟩:=CQ j hj;refine⟨dP,dP,λe=> ?_⟩;have Pt:g'=j:=by simpa[dQ]using e
     subst Pt;rcases ti with e|e
     ·have:=U _ e;omega
     ·omega
    ·obtain⟨c1,c2⟩:=CQ j hj;exact(sA.block j dP (λe=>by have:=U j e.symm;omega)).trans ((gM u _).block j c2)
   have Ni:Hid (w3.rangeLeft b w.heap.size<wr.rangeLeft b w.heap.size):=by
    show _<_;rw[World.ranges.left_eq J.out.1,HO.out];exact HM.out
   clear rP sA ti k2 vo CQ tS HO
   go_wp2
   go_roundw
   case rel=>exact⟨_,G9,_,J.out⟩
   case measure=>exact Ni.out
