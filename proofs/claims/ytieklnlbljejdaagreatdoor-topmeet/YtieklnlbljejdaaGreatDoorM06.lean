import Derived.Test.YtieklnlbljejdaaGreatDoorM01
open Go.Value renaming int → ι, slice → σ, pointer → π, tuple → τ, nilIface → η
open Go.IntKind renaming i64 → κ
open Go.Ending renaming returned → ρ
open Go.Obj renaming cells → γ
open Option renaming none → ν, some → μ
open Go renaming World → dY, Value → dZ, Addr → dX, Calls → eW, wpList_next_ranges → fZ
open Go.Proofs.Tryz renaming prog → eX
open Go.Instr renaming lookup → fe, entry → ga
open Go.Value renaming ownBlock → eu, int → eB
open Prod.mk renaming injEq → e7
open List renaming length_nil → eQ
open Go.IntKind renaming i64 → ft
open List.Pairwise renaming nil → gb
set_option maxRecDepth 100000
set_option maxHeartbeats 8000000
open Go.Proofs.Tryz
namespace Go.Proofs.YtieklnlbljejdaaGreatDoor
open Go.RowKit St
variable {B C b c cap g n:Nat} {a w w' w1 w3 wr:World} {es:Int->List jE} {left:Lit->Bool} {m:FM} {v:Value} {x:Int}
def del(f:Int->Option SV)(k:Int):Int->Option SV:=λx=>if x=k then ν else f x
theorem FB.mlt {kn:Int->Option SV} {ow:Nat->Int->Option SV} (h:FB w B m n kn ow):∀x,x=m.bm \/x∈m.bs->x<w.heap.size:=by
 intro x hx;rcases hx with rfl|hx
 ·exact h.km.lt
 ·obtain⟨i,hi⟩:=List.getElem?_of_mem hx;exact(h.om i x hi).lt
theorem FB.mono {w:dY} {B:Nat} {m:FM} {n n':Nat} {kn:Int->Option SV} {ow:Nat->Int->Option SV} (h:FB w B m n kn ow)(Z:n<=n'):FB w B m n' kn ow:=⟨h.oe,h.row,h.km.mono Z,λi b e=>(h.om i b e).mono Z,h.few,h.nB,h.nd⟩
theorem Uw {W V:dY} {kn:Int->Option SV} {ow:Nat->Int->Option SV} {C:Array dZ} (h:FB w B m n kn ow)(Z:W.heap[w.heap.size]? =μ (γ C 40 (0,0)))(Y:jC W V m):V.heap[w.heap.size]? =μ (γ C 40 (0,0)):=
 (Y.block w.heap.size (ay.1 Z).1 (λe=>by have:=h.mlt m.bm (.inl rfl);omega) (λe=>by have:=h.mlt _ (.inr e);omega)).trans Z
theorem take_zero(B:Nat)(m:FM)(k:Nat)(kn:Int->Option SV)(ow:Nat->Int->Option SV)(p:Nat)(own seq:Int)(a:Option dX)(n cap:Nat)(es:List jE)(w:dY)(h:FB w B m k kn ow)(j:sY own)(hp:p<m.bs.length)(ho:jc w a n es)(hn:n<=maxLen)(hf:oy own seq es=0)
 (G:∀W,eE w W->eW eX 217 #[π (μ ⟨B,0,ν⟩),.agg #[ι κ own,ι κ seq,σ a n cap]] W λe w'=>e=ρ (ι κ 0)/\eE W w'):
 eW eX 190 #[π (μ ⟨B,0,ν⟩),ι κ (p:Int),.agg #[ι κ own,ι κ seq,σ a n cap]] w λe w'=>e=ρ (τ #[ι κ 0,η])/\FB w' B m k kn (λi=>if i=p then del (ow p) own else ow i)/\jC w w' m:=by
 have hb:=gW w (γ #[ι κ own,ι κ seq,σ a n cap] 40);obtain⟨D,V⟩:=gg (w.alloc (γ #[ι κ own,ι κ seq,σ a n cap] 40));have M:D.heap[w.heap.size]? =μ (γ #[ι κ own,ι κ seq,σ a n cap] 40 (0,0)):=by rw[<-V];exact aZ w _
 rw[V]at hb;have HW:Hid _:=V;have Q:=qI B m k kn ow (p:Int) own seq a n cap es D (h.below hb) hn (ho.below hb);have H:vO m.bs.length (p:Int) own seq es=0:=by rw[vO,ai eh,hf]
 have A:jm 0=η:=rfl;rw[H,A]at Q;have u:Hid _:=G;have Z9:(p:Int)<(m.bs.length:Int):=eh;have yn:=h.few;clear V H A G hf
 go_in
 go_wp2_with(fail);rw[HW.out];refine Q.mono ?_;rintro e Z ⟨rfl,k2⟩;have b2:=gk hb k2;have Y:=(k2.block _ (ay.1 M).1).trans M;have x0:Z.cell? ⟨w.heap.size,0,ν⟩=μ (ι κ own):=ax Z _ 0 _ _ (0,0) Y;have x1:Z.cell? ⟨w.heap.size,1,ν⟩=μ (ι κ seq):=ax Z _ 1 _ _ (0,0) Y;have x2:Z.cell? ⟨w.heap.size,2,ν⟩=μ (σ a n cap):=ax Z _ 2 _ _ (0,0) Y;have S:w.heap.size<Z.heap.size:=ag Z _ x0;clear Q M hb k2;go_wp2_with(fail);refine(u.out Z b2).mono ?_;rintro e w3 ⟨rfl,k3⟩;have b3:=gk b2 k3;have ym:=(k3.block _ S).trans Y;clear x0 x1 x2 S Y;have x0:w3.cell? ⟨w.heap.size,0,ν⟩=μ (ι κ own):=ax w3 _ 0 _ _ (0,0) ym;have S:w.heap.size<w3.heap.size:=ag w3 _ x0;have X:=h.below b3;have E:eE w w3.drew:=below_drewN b3 1;have J:=h.below E;have U:m.bs[p]? =μ m.bs[p] :=az hp;obtain⟨W5,MK,y,T⟩:=(J.om p _ U).drop own j 0;have F5:=J.MJ U T y (Nat.le_refl _);have M5:jC w W5 m:=(jC.iT m E).trans (jC.pK T (.inr (aG _)));have c1:w3.cell? ⟨B,1,ν⟩=μ (σ (μ ⟨m.g,0,ν⟩) m.bs.length m.cap):=X.c1;have lB:=X.lt;have cp:=X.port p _ U;have gl:m.g<w3.heap.size:=ag w3 _ cp;generalize m.bs[p] =bp at cp MK;clear X J y T U k3
 go_wp2
 go_region
 all_goals
  go_wp2
  go_ret2
  exact⟨rfl,F5,M5⟩
theorem Uy(B:Nat)(m:FM)(k:Nat)(kn:Int->Option SV)(ow:Nat->Int->Option SV)(p:Nat)(own seq:Int)(a:Option dX)(n cap:Nat)(es:List jE)(w:dY)(h:FB w B m k kn ow)(G:sY own)(hp:p<m.bs.length)(ho:jc w a n es)(hn:n<=maxLen)(hf:oy own seq es=0)(t:SV)(j:kn own=μ t)(hk:k<=1000000)
 (E:∀W,eE w W->eW eX 217 #[π (μ ⟨B,0,ν⟩),.agg #[ι κ own,ι κ seq,σ a n cap]] W λe w'=>e=ρ (ι κ (-1))/\eE W w'):
 eW eX 190 #[π (μ ⟨B,0,ν⟩),ι κ (p:Int),.agg #[ι κ own,ι κ seq,σ a n cap]] w λe w'=>e=ρ (τ #[ι κ (-1),η])/\FB w' B m (k+1) kn (λi=>if i=p then tL (ow p) own t else ow i)/\jC w w' m:=by
 have hb:=gW w (γ #[ι κ own,ι κ seq,σ a n cap] 40);obtain⟨y,V⟩:=gg (w.alloc (γ #[ι κ own,ι κ seq,σ a n cap] 40));have J:y.heap[w.heap.size]? =μ (γ #[ι κ own,ι κ seq,σ a n cap] 40 (0,0)):=by rw[<-V];exact aZ w _
 rw[V]at hb;have HW:Hid _:=V;have M:=qI B m k kn ow (p:Int) own seq a n cap es y (h.below hb) hn (ho.below hb);have H:vO m.bs.length (p:Int) own seq es=0:=by rw[vO,ai eh,hf]
 have u:jm 0=η:=rfl;rw[H,u]at M;have Ux:Hid _:=E;have Z9:(p:Int)<(m.bs.length:Int):=eh;have yn:=h.few;clear V H u E hf
 go_in
 go_wp2_with(fail);rw[HW.out];refine M.mono ?_;rintro e Z ⟨rfl,k2⟩;have b2:=gk hb k2;have X:=(k2.block _ (ay.1 J).1).trans J;have x0:Z.cell? ⟨w.heap.size,0,ν⟩=μ (ι κ own):=ax Z _ 0 _ _ (0,0) X;have x1:Z.cell? ⟨w.heap.size,1,ν⟩=μ (ι κ seq):=ax Z _ 1 _ _ (0,0) X;have x2:Z.cell? ⟨w.heap.size,2,ν⟩=μ (σ a n cap):=ax Z _ 2 _ _ (0,0) X;have Q:w.heap.size<Z.heap.size:=ag Z _ x0;clear M J hb k2;go_wp2_with(fail);refine(Ux.out Z b2).mono ?_;rintro e w3 ⟨rfl,k3⟩;have b3:=gk b2 k3;have ym:=(k3.block _ Q).trans X;clear x0 x1 x2 Q X;have x0:w3.cell? ⟨w.heap.size,0,ν⟩=μ (ι κ own):=ax w3 _ 0 _ _ (0,0) ym;have Q:w.heap.size<w3.heap.size:=ag w3 _ x0;have Y:=h.below b3;have A:eE w w3.drew:=below_drewN b3 1;have U:=h.below A;have T:m.bs[p]? =μ m.bs[p] :=az hp;have pB:(fe 211 (.map (μ m.bm)) (ι κ own) false).run eX w3.drew=.ok t.v w3.drew:=by
  have:=U.km.look own G;rw[j]at this;exact this
 obtain⟨W5,D,S5,S⟩:=(U.om p _ T).store (by unfold maxLen;omega) own G t;have F5:=U.MJ T S S5 (Nat.le_succ _);have M5:jC w W5 m:=(jC.iT m A).trans (jC.pK S (.inr (aG _)));have c0:=Y.c0;have c1:w3.cell? ⟨B,1,ν⟩=μ (σ (μ ⟨m.g,0,ν⟩) m.bs.length m.cap):=Y.c1;have lB:=Y.lt;have cp:=Y.port p _ T;have gl:m.g<w3.heap.size:=ag w3 _ cp;generalize m.bs[p] =bp at cp D;generalize t.v=tv at pB D;clear Y U S5 S T k3 j
 go_wp2
 go_region
 all_goals
  go_wp2
  go_ret2
  exact⟨rfl,F5,M5⟩
structure afb(w w':dY)(B:Nat)(m:FM)(n:Nat)(kn:Int->Option SV)(ow:Nat->Int->Option SV)(p:Nat)(own seq:Int)(es:List jE)(s:SV):Prop where
 so:s.own=own
 ss:s.seq=seq
 sn:s.n=es.length
 so2:jc w' s.a s.n es
 nil:kI s.a s.cap
 new:∀j,eu (σ s.a s.n s.cap)=μ j->w.heap.size<=j/\j<w'.heap.size
 fb:FB w' B m (n+1+m.bs.length) (tL kn own s) (λi=>if i=p then del (tL (ow p) own s) own else if i<m.bs.length then tL (ow i) own s else ow i)
 kept:jC w w' m
theorem Uz(B:Nat)(m:FM)(k:Nat)(kn:Int->Option SV)(ow:Nat->Int->Option SV)(p:Nat)(own seq:Int)(a:Option dX)(n cap:Nat)(es:List jE)(w:dY)(h:FB w B m k kn ow)(hr:sY own)(hp:p<m.bs.length)(ho:jc w a n es)(hn:n<=maxLen)(kh:kI a cap)(hk:k<=1000000)(hf:oy own seq es=0)
 (sU:∀W,eE w W->eW eX 217 #[π (μ ⟨B,0,ν⟩),.agg #[ι κ own,ι κ seq,σ a n cap]] W λe w'=>e=ρ (ι κ 1)/\eE W w'):
 eW eX 190 #[π (μ ⟨B,0,ν⟩),ι κ (p:Int),.agg #[ι κ own,ι κ seq,σ a n cap]] w λe w'=>e=ρ (τ #[ι κ 1,η])/\∃s,afb w w' B m k kn ow p own seq es s:=by
 have hb:=gW w (γ #[ι κ own,ι κ seq,σ a n cap] 40);obtain⟨W1,H⟩:=gg (w.alloc (γ #[ι κ own,ι κ seq,σ a n cap] 40));have pV:W1.heap[w.heap.size]? =μ (γ #[ι κ own,ι κ seq,σ a n cap] 40 (0,0)):=by rw[<-H];exact aZ w _
 rw[H]at hb;have HW:Hid _:=H;have u:=qI B m k kn ow (p:Int) own seq a n cap es W1 (h.below hb) hn (ho.below hb);have rF:vO m.bs.length (p:Int) own seq es=0:=by rw[vO,ai eh,hf]
 have E0:jm 0=η:=rfl;rw[rF,E0]at u;have Ux:Hid _:=sU;have HN:Hid (n<=6):=by show n<=6;have:=(jt hf).2.2.1;rw[ho.1]at this;exact this
 have Z9:(p:Int)<(m.bs.length:Int):=eh;have yn:=h.few;clear H rF E0 sU hf
 go_in
 go_wp2_with(fail);rw[HW.out];refine u.mono ?_;rintro e X ⟨rfl,k2⟩;have b2:=gk hb k2;have M:=(k2.block _ (ay.1 pV).1).trans pV;have x0:X.cell? ⟨w.heap.size,0,ν⟩=μ (ι κ own):=ax X _ 0 _ _ (0,0) M;have x1:X.cell? ⟨w.heap.size,1,ν⟩=μ (ι κ seq):=ax X _ 1 _ _ (0,0) M;have x2:X.cell? ⟨w.heap.size,2,ν⟩=μ (σ a n cap):=ax X _ 2 _ _ (0,0) M;have Q:w.heap.size<X.heap.size:=ag X _ x0;clear u pV hb k2;go_wp2_with(fail);refine(Ux.out X b2).mono ?_;rintro e w3 ⟨rfl,k3⟩;have b3:=gk b2 k3;have G:=(k3.block _ Q).trans M;clear x0 x1 x2 Q M;have x0:w3.cell? ⟨w.heap.size,0,ν⟩=μ (ι κ own):=ax w3 _ 0 _ _ (0,0) G;have Q:w.heap.size<w3.heap.size:=ag w3 _ x0;have x1:w3.cell? ⟨w.heap.size,1,ν⟩=μ (ι κ seq):=ax w3 _ 1 _ _ (0,0) G;have x2:w3.cell? ⟨w.heap.size,2,ν⟩=μ (σ a n cap):=ax w3 _ 2 _ _ (0,0) G;have F3:=h.below b3;have y:n<=1000000:=by have:=HN.out;omega
 have S:=GR B m k kn ow own seq a n cap es w3 F3 hr (ho.below b3) kh y hk;clear k3;go_wp2_with(fail);refine S.mono ?_;rintro e Z ⟨rfl,s,Y⟩;clear S x0 x1 x2 Q;have A:=Uw h G Y.kept;have x0:Z.cell? ⟨w.heap.size,0,ν⟩=μ (ι κ own):=ax Z _ 0 _ _ (0,0) A;have Q:w.heap.size<Z.heap.size:=ag Z _ x0;have T:=Y.fb;have U:=T.below (show eE Z Z.drew from below_drewN (av _ _) 1);have E:m.bs[p]? =μ m.bs[p] :=az hp;obtain⟨W5,MK,S5,D⟩:=(U.om p _ E).drop own hr 0;have F5:=U.MJ E D S5 (Nat.le_refl _);have V:jC Z W5 m:=(jC.iT m (show eE Z Z.drew from below_drewN (av _ _) 1)).trans (jC.pK D (.inr (aG _)));have hT:Hid (afb w W5 B m k kn ow p own seq es s):=by
  have uK:∀x,eu (σ s.a s.n s.cap)=μ x->x≠m.bm/\x∉m.bs:=λx hx=>by
   have J:=(Y.new x hx).1;have h2:=b3.size;exact⟨λe=>by have:=h.mlt m.bm (.inl rfl);omega,λe=>by have:=h.mlt x (.inr e);omega⟩
  refine⟨Y.so,Y.ss,Y.sn,Y.so2.TG (cap:=s.cap) V uK,Y.nil,λj hj=> ?_,?_,((jC.iT m b3).trans Y.kept).trans V⟩
  ·have:=Y.new j hj;have h2:=b3.size;have h3:=V.size;omega
  ·have e:(λi=>if i=p then del (tL (ow p) own s) own else if i<m.bs.length then tL (ow i) own s else ow i)=(λj=>if j=p then(λx=>if x=own then ν else(λi=>if i<m.bs.length then tL (ow i) own s else ow i) p x)else(λi=>if i<m.bs.length then tL (ow i) own s else ow i) j):=by
    funext i
    by_cases J:i=p
    ·rw[ai J,ai J]
     funext x
     simp only[del,if_pos hp]
    ·rw[af J,af J]
   rw[e];exact F5
 have c1:Z.cell? ⟨B,1,ν⟩=μ (σ (μ ⟨m.g,0,ν⟩) m.bs.length m.cap):=T.c1;have lB:=T.lt;have cp:=T.port p _ E;have gl:m.g<Z.heap.size:=ag Z _ cp;generalize m.bs[p] =bp at cp MK;clear F3 T U S5 D E Y F5 V
 go_wp2
 go_region
 all_goals
  go_wp2
  go_ret2
  exact⟨rfl,s,hT.out⟩
theorem UA(h:c≠0):jm c=.iface 128 (ι κ (c:Int)):=by rw[jm,af h]
theorem UB(B:Nat)(m:FM)(k:Nat)(kn:Int->Option SV)(ow:Nat->Int->Option SV)(p:Nat)(w:dY)(h:FB w B m k kn ow)(S:p<m.bs.length):
 eW eX 124 #[π (μ ⟨B,0,ν⟩),ι κ (p:Int)] w λe w'=>e=ρ (τ #[])/\FB w' B m k kn (λi=>if i=p then λ_=>ν else ow i)/\jC w w' m:=by
 have hh:=C9 B m k kn ow (p:Int) w h;have hv:(decide (0<=(p:Int))&&decide ((p:Int)<(m.bs.length:Int)))=true:=by
  simp;omega
 rw[hv]at hh;clear hv;have Z9:(p:Int)<(m.bs.length:Int):=eh;have yn:=h.few;have Z:m.bs[p]? =μ m.bs[p] :=az S;obtain⟨Q,T,X,Y⟩:=(h.om p _ Z).clear 0;have V:=h.MJ Z Y X (Nat.le_refl _);have U:jC w Q m:=jC.pK Y (.inr (aG _));have c1:w.cell? ⟨B,1,ν⟩=μ (σ (μ ⟨m.g,0,ν⟩) m.bs.length m.cap):=h.c1;have lB:=h.lt;have cp:=h.port p _ Z;have gl:m.g<w.heap.size:=ag w _ cp;generalize m.bs[p] =bp at cp T;clear X Y Z
 go_in
 go_wp2_with(fail);refine hh.mono ?_;rintro e w1 ⟨rfl,rfl⟩;clear hh
 go_wp2
 first|go_end0|refine iJ rfl rfl ?_
 exact⟨rfl,V,U⟩
theorem abK(B:Nat)(m:FM)(k:Nat)(kn:Int->Option SV)(ow:Nat->Int->Option SV)(own seq:Int)(a:Option dX)(n cap:Nat)(es:List jE)(w:dY)(h:FB w B m k kn ow)(A:sY own)(J:jc w a n es)(kh:kI a cap)(y:k<=1000000)(hf:oy own seq es=0):
 eW eX 67 #[π (μ ⟨B,0,ν⟩),.agg #[ι κ own,ι κ seq,σ a n cap]] w λe w'=>e=ρ η/\∃s,IJ w w' B m k kn ow own seq es s:=by
 have T:n<=1000000:=by have:=(jt hf).2.2.1;rw[J.1]at this;omega
 have hb:=gW w (γ #[ι κ own,ι κ seq,σ a n cap] 40);obtain⟨H,U⟩:=gg (w.alloc (γ #[ι κ own,ι κ seq,σ a n cap] 40));have M:H.heap[w.heap.size]? =μ (γ #[ι κ own,ι κ seq,σ a n cap] 40 (0,0)):=by rw[<-U];exact aZ w _
 rw[U]at hb;have u:Hid _:=U;have S:=Az own seq a n cap es H (by unfold maxLen;omega) (J.below hb);have G:jm 0=η:=rfl;rw[hf,G]at S;clear U G hf
 go_in
 go_wp2_with(fail);rw[u.out];refine S.mono ?_;rintro e Y ⟨rfl,k2⟩;have b2:=gk hb k2;have Q:=(k2.block _ (ay.1 M).1).trans M;have x0:Y.cell? ⟨w.heap.size,0,ν⟩=μ (ι κ own):=ax Y _ 0 _ _ (0,0) Q;have x1:Y.cell? ⟨w.heap.size,1,ν⟩=μ (ι κ seq):=ax Y _ 1 _ _ (0,0) Q;have x2:Y.cell? ⟨w.heap.size,2,ν⟩=μ (σ a n cap):=ax Y _ 2 _ _ (0,0) Q;have xl:w.heap.size<Y.heap.size:=ag Y _ x0;have X:=GR B m k kn ow own seq a n cap es Y (h.below b2) A (J.below b2) kh T y;clear S M hb k2;go_wp2_with(fail);refine X.mono ?_;rintro e w4 ⟨rfl,s,Z⟩;have V:=b2.size;have D:Hid (∃s,IJ w w4 B m k kn ow own seq es s):=⟨s,Z.so,Z.ss,Z.sn,Z.so2,Z.nil,λj E=>⟨Nat.le_trans V (Z.new j E).1,(Z.new j E).2⟩,Z.fb,(jC.iT m b2).trans Z.kept⟩
 clear X x0 x1 x2 xl Z V b2
 go_wp2
 go_ret;exact⟨rfl,D.out⟩
theorem Np(B:Nat)(m:FM)(k:Nat)(kn:Int->Option SV)(ow:Nat->Int->Option SV)(p:Nat)(own seq:Int)(a:Option dX)(n cap:Nat)(es:List jE)(w:dY)(h:FB w B m k kn ow)(j:sY own)(hp:p<m.bs.length)(ho:jc w a n es)(hn:n<=maxLen)(hf:oy own seq es=0)
 (G:∀W,eE w W->eW eX 217 #[π (μ ⟨B,0,ν⟩),.agg #[ι κ own,ι κ seq,σ a n cap]] W λe w'=>e=ρ (ι κ 0)/\eE W w'):
 eW eX 191 #[π (μ ⟨B,0,ν⟩),ι κ (p:Int),.agg #[ι κ own,ι κ seq,σ a n cap]] w λe w'=>e=ρ η/\FB w' B m k kn (λi=>if i=p then del (ow p) own else ow i)/\jC w w' m:=by
 have hb:=gW w (γ #[ι κ own,ι κ seq,σ a n cap] 40);obtain⟨D,V⟩:=gg (w.alloc (γ #[ι κ own,ι κ seq,σ a n cap] 40));have M:D.heap[w.heap.size]? =μ (γ #[ι κ own,ι κ seq,σ a n cap] 40 (0,0)):=by rw[<-V];exact aZ w _
 rw[V]at hb;have HW:Hid _:=V;have Q:=qI B m k kn ow (p:Int) own seq a n cap es D (h.below hb) hn (ho.below hb);have H:vO m.bs.length (p:Int) own seq es=0:=by rw[vO,ai eh,hf]
 have A:jm 0=η:=rfl;rw[H,A]at Q;have u:Hid _:=G;have Z9:(p:Int)<(m.bs.length:Int):=eh;have yn:=h.few;clear V H A G hf
 go_in
 go_wp2_with(fail);rw[HW.out];refine Q.mono ?_;rintro e Z ⟨rfl,k2⟩;have b2:=gk hb k2;have Y:=(k2.block _ (ay.1 M).1).trans M;have x0:Z.cell? ⟨w.heap.size,0,ν⟩=μ (ι κ own):=ax Z _ 0 _ _ (0,0) Y;have x1:Z.cell? ⟨w.heap.size,1,ν⟩=μ (ι κ seq):=ax Z _ 1 _ _ (0,0) Y;have x2:Z.cell? ⟨w.heap.size,2,ν⟩=μ (σ a n cap):=ax Z _ 2 _ _ (0,0) Y;have S:w.heap.size<Z.heap.size:=ag Z _ x0;clear Q M hb k2;go_wp2_with(fail);refine(u.out Z b2).mono ?_;rintro e w3 ⟨rfl,k3⟩;have b3:=gk b2 k3;have ym:=(k3.block _ S).trans Y;clear x0 x1 x2 S Y;have x0:w3.cell? ⟨w.heap.size,0,ν⟩=μ (ι κ own):=ax w3 _ 0 _ _ (0,0) ym;have S:w.heap.size<w3.heap.size:=ag w3 _ x0;have X:=h.below b3;have E:eE w w3.drew:=below_drewN b3 1;have J:=h.below E;have U:m.bs[p]? =μ m.bs[p] :=az hp;obtain⟨W5,MK,y,T⟩:=(J.om p _ U).drop own j 0;have F5:=J.MJ U T y (Nat.le_refl _);have M5:jC w W5 m:=(jC.iT m E).trans (jC.pK T (.inr (aG _)));have c1:w3.cell? ⟨B,1,ν⟩=μ (σ (μ ⟨m.g,0,ν⟩) m.bs.length m.cap):=X.c1;have lB:=X.lt;have cp:=X.port p _ U;have gl:m.g<w3.heap.size:=ag w3 _ cp;generalize m.bs[p] =bp at cp MK;clear X J y T U k3
 go_wp2
 go_region
 all_goals
  go_wp2
  go_ret;exact⟨rfl,F5,M5⟩
theorem QN(B:Nat)(m:FM)(k:Nat)(kn:Int->Option SV)(ow:Nat->Int->Option SV)(p:Nat)(own seq:Int)(a:Option dX)(n cap:Nat)(es:List jE)(w:dY)(h:FB w B m k kn ow)(j:sY own)(hp:p<m.bs.length)(ho:jc w a n es)(hn:n<=maxLen)(hf:oy own seq es=0)
 (G:∀W,eE w W->eW eX 217 #[π (μ ⟨B,0,ν⟩),.agg #[ι κ own,ι κ seq,σ a n cap]] W λe w'=>e=ρ (ι κ 1)/\eE W w'):
 eW eX 191 #[π (μ ⟨B,0,ν⟩),ι κ (p:Int),.agg #[ι κ own,ι κ seq,σ a n cap]] w λe w'=>e=ρ η/\FB w' B m k kn (λi=>if i=p then del (ow p) own else ow i)/\jC w w' m:=by
 have hb:=gW w (γ #[ι κ own,ι κ seq,σ a n cap] 40);obtain⟨D,V⟩:=gg (w.alloc (γ #[ι κ own,ι κ seq,σ a n cap] 40));have M:D.heap[w.heap.size]? =μ (γ #[ι κ own,ι κ seq,σ a n cap] 40 (0,0)):=by rw[<-V];exact aZ w _
 rw[V]at hb;have HW:Hid _:=V;have Q:=qI B m k kn ow (p:Int) own seq a n cap es D (h.below hb) hn (ho.below hb);have H:vO m.bs.length (p:Int) own seq es=0:=by rw[vO,ai eh,hf]
 have A:jm 0=η:=rfl;rw[H,A]at Q;have u:Hid _:=G;have Z9:(p:Int)<(m.bs.length:Int):=eh;have yn:=h.few;clear V H A G hf
 go_in
 go_wp2_with(fail);rw[HW.out];refine Q.mono ?_;rintro e Z ⟨rfl,k2⟩;have b2:=gk hb k2;have Y:=(k2.block _ (ay.1 M).1).trans M;have x0:Z.cell? ⟨w.heap.size,0,ν⟩=μ (ι κ own):=ax Z _ 0 _ _ (0,0) Y;have x1:Z.cell? ⟨w.heap.size,1,ν⟩=μ (ι κ seq):=ax Z _ 1 _ _ (0,0) Y;have x2:Z.cell? ⟨w.heap.size,2,ν⟩=μ (σ a n cap):=ax Z _ 2 _ _ (0,0) Y;have S:w.heap.size<Z.heap.size:=ag Z _ x0;clear Q M hb k2;go_wp2_with(fail);refine(u.out Z b2).mono ?_;rintro e w3 ⟨rfl,k3⟩;have b3:=gk b2 k3;have ym:=(k3.block _ S).trans Y;clear x0 x1 x2 S Y;have x0:w3.cell? ⟨w.heap.size,0,ν⟩=μ (ι κ own):=ax w3 _ 0 _ _ (0,0) ym;have S:w.heap.size<w3.heap.size:=ag w3 _ x0;have X:=h.below b3;have E:eE w w3.drew:=below_drewN b3 1;have J:=h.below E;have U:m.bs[p]? =μ m.bs[p] :=az hp;obtain⟨W5,MK,y,T⟩:=(J.om p _ U).drop own j 0;have F5:=J.MJ U T y (Nat.le_refl _);have M5:jC w W5 m:=(jC.iT m E).trans (jC.pK T (.inr (aG _)));have c1:w3.cell? ⟨B,1,ν⟩=μ (σ (μ ⟨m.g,0,ν⟩) m.bs.length m.cap):=X.c1;have lB:=X.lt;have cp:=X.port p _ U;have gl:m.g<w3.heap.size:=ag w3 _ cp;generalize m.bs[p] =bp at cp MK;clear X J y T U k3
 go_wp2
 go_region
 all_goals
  go_wp2
  go_ret;exact⟨rfl,F5,M5⟩
theorem QO(B:Nat)(m:FM)(k:Nat)(kn:Int->Option SV)(ow:Nat->Int->Option SV)(p:Nat)(own seq:Int)(a:Option dX)(n cap:Nat)(es:List jE)(w:dY)(h:FB w B m k kn ow)(hp:p<m.bs.length)(E:jc w a n es)(G:n<=maxLen)(hf:oy own seq es=0)
 (J:∀W,eE w W->eW eX 217 #[π (μ ⟨B,0,ν⟩),.agg #[ι κ own,ι κ seq,σ a n cap]] W λe w'=>e=ρ (ι κ (-1))/\eE W w'):
 eW eX 191 #[π (μ ⟨B,0,ν⟩),ι κ (p:Int),.agg #[ι κ own,ι κ seq,σ a n cap]] w λe w'=>e=ρ η/\eE w w':=by
 have hb:=gW w (γ #[ι κ own,ι κ seq,σ a n cap] 40);obtain⟨Q,X⟩:=gg (w.alloc (γ #[ι κ own,ι κ seq,σ a n cap] 40));have U:Q.heap[w.heap.size]? =μ (γ #[ι κ own,ι κ seq,σ a n cap] 40 (0,0)):=by rw[<-X];exact aZ w _
 rw[X]at hb;have D:Hid _:=X;have V:=qI B m k kn ow (p:Int) own seq a n cap es Q (h.below hb) G (E.below hb);have S:vO m.bs.length (p:Int) own seq es=0:=by rw[vO,ai eh,hf]
 have M:jm 0=η:=rfl;rw[S,M]at V;have H:Hid _:=J;have Z9:(p:Int)<(m.bs.length:Int):=eh;have yn:=h.few;clear X S M J hf
 go_in
 go_wp2_with(fail);rw[D.out];refine V.mono ?_;rintro e Z ⟨rfl,k2⟩;have b2:=gk hb k2;have Y:=(k2.block _ (ay.1 U).1).trans U;have x0:Z.cell? ⟨w.heap.size,0,ν⟩=μ (ι κ own):=ax Z _ 0 _ _ (0,0) Y;have x1:Z.cell? ⟨w.heap.size,1,ν⟩=μ (ι κ seq):=ax Z _ 1 _ _ (0,0) Y;have x2:Z.cell? ⟨w.heap.size,2,ν⟩=μ (σ a n cap):=ax Z _ 2 _ _ (0,0) Y;have T:w.heap.size<Z.heap.size:=ag Z _ x0;clear V U hb k2;go_wp2_with(fail);refine(H.out Z b2).mono ?_;rintro e w3 ⟨rfl,k3⟩;have b3:=gk b2 k3;have ym:=(k3.block _ T).trans Y;clear x0 x1 x2 T Y;clear k3
 go_wp2
 go_ret;exact⟨rfl,b3⟩
theorem Pb(B:Nat)(m:FM)(k:Nat)(kn:Int->Option SV)(ow:Nat->Int->Option SV)(i:Int)(t:SV)(ok:Bool)(fs:List jE)(w:dY)(h:FB w B m k kn ow)(hr:sY i)(hd:(kn i).getD SV.zero=t)(hs:(kn i).isSome=ok)(J:jc w t.a t.n fs)(D:t.n<=1000000)(y:kI t.a t.cap):
 eW eX 177 #[π (μ ⟨B,0,ν⟩),ι κ i] w λe w'=>∃(a:Option dX) (cap:Nat),e=ρ (τ #[.agg #[ι κ t.own,ι κ t.seq,σ a fs.length cap],.bool ok])/\jc w' a fs.length fs/\kI a cap/\eE w w':=by
 obtain⟨T,ts,ta,tn,Q⟩:=t;simp only at J D y;have hz:=pJ;have hb:=gW w (γ #[ι κ 0,ι κ 0,σ ν 0 0] 40);obtain⟨Y,U⟩:=gg (w.alloc (γ #[ι κ 0,ι κ 0,σ ν 0 0] 40));have pV:Y.heap[w.heap.size]? =μ (γ #[ι κ 0,ι κ 0,σ ν 0 0] 40 (0,0)):=by rw[<-U];exact aZ w _
 have A:Y.heap.size=w.heap.size+1:=by rw[<-U];simp
 rw[U]at hb;have HW:Hid _:=U;clear U;have X:=h.below hb;have pB:(fe 211 (.map (μ m.bm)) (ι κ i) true).run eX Y=.ok (τ #[.agg #[ι κ T,ι κ ts,σ ta tn Q],.bool ok]) Y:=by
  have:=X.km.look_ok i hr;rw[hd,hs]at this;exact this
 have c0:=X.c0;have hl:=X.lt;have M:eE w (Y.alloc (γ #[ι κ T,ι κ ts,σ ta tn Q] 40)):=hb.alloc hb.size _;have E:=DN T ts ta tn Q fs _ D y (J.below M);have G:(Y.alloc (γ #[ι κ T,ι κ ts,σ ta tn Q] 40)).heap[w.heap.size]? =μ (γ #[ι κ 0,ι κ 0,σ ν 0 0] 40 (0,0)):=by
  rw[aU _ _ _ eh];exact pV
 have HB:Hid _:=M;have HY:Hid _:=G;have HS:Hid _:=A;clear h X hd hs J hb M G pV A
 go_in
 go_upto_region 1 with fail
 rw[HW.out];go_wp2_with(fail);refine E.mono ?_;rintro e Z ⟨⟨S,vc,rfl,vo,vn,vl,F9⟩,k2⟩;clear E pB c0;have V:=(k2.block _ (ay.1 HY.out).1).trans HY.out;have y0:Z.cell? ⟨w.heap.size,0,ν⟩=μ (ι κ 0):=ax Z _ 0 _ _ (0,0) V;have y1:Z.cell? ⟨w.heap.size,1,ν⟩=μ (ι κ 0):=ax Z _ 1 _ _ (0,0) V;have y2:Z.cell? ⟨w.heap.size,2,ν⟩=μ (σ ν 0 0):=ax Z _ 2 _ _ (0,0) V;have fy:=λj=>bE Z w.heap.size j _ _ V;have ly:w.heap.size<Z.heap.size:=ag Z _ y0;have H:=gk HB.out k2;have HC:Hid (∀u v x:dZ,jc (((Z.setCell ⟨w.heap.size,0,ν⟩ u).setCell ⟨w.heap.size,1,ν⟩ v).setCell ⟨w.heap.size,2,ν⟩ x) S fs.length fs/\kI S vc/\eE w (((Z.setCell ⟨w.heap.size,0,ν⟩ u).setCell ⟨w.heap.size,1,ν⟩ v).setCell ⟨w.heap.size,2,ν⟩ x)):=by
  intro u v x;refine⟨vo.kept (cap:=vc) (λj hj=> ?_),vn,((H.setCell (Nat.le_refl _) _).setCell (Nat.le_refl _) _).setCell (Nat.le_refl _) _⟩;have X:=(F9 j hj).1;have h2:=HS.out;have h3:w.heap.size+1<=j:=by simp at X;omega
  rw[aq _ _ _ _ (by show j≠w.heap.size;omega),aq _ _ _ _ (by show j≠w.heap.size;omega),aq _ _ _ _ (by show j≠w.heap.size;omega)]
 clear vo F9 k2 V H;go_wp2_with(fail);refine aF (v:=τ #[.agg #[ι κ T,ι κ ts,σ S fs.length vc],.bool ok]) (by simp[results,results177,go_sem,y0,y1,y2]) rfl ?_;exact⟨S,vc,rfl,HC.out _ _ _⟩
open Go.Maps (Keyed)
theorem AX(h:(Lit.int .i64 x).wf=true):sY x:=by
 simp[Lit.wf,IntKind.min,IntKind.max,IntKind.signed,IntKind.bits]at h;exact⟨eh,eh⟩
theorem rm(x y:Int):(Lit.int .i64 x).sameKey (.int .i64 y)=decide (x=y):=by simp[Lit.sameKey]
def mix(fd fs:Int->Option SV)(left:Lit->Bool):Int->Option SV:=λk=>if left (.int .i64 k)=false/\(fs k).isSome=true then fs k else fd k
theorem UC {fd fs:Int->Option SV} {s:SV} (h:fs x=μ s):(λk=>if k=x then μ s else mix fd fs left k)=mix fd fs (λz=>left z&& !z.sameKey (.int .i64 x)):=by
 funext k
 by_cases e:k=x
 ·subst e;simp[mix,rm,h]
 ·simp[mix,rm,e]
def over(fd fs:Int->Option SV):Int->Option SV:=λk=>if(fs k).isSome=true then fs k else fd k
theorem Yd {fd fs:Int->Option SV} (h:∀Z,left Z=false):mix fd fs left=over fd fs:=by
 funext k
 simp[mix,over,h]
theorem SMap.congr {f g:Int->Option SV} (h:SMap w b n f)(e:∀k,sY k->f k=g k):SMap w b n g:=by
 obtain⟨D,Y,X⟩:=h.own;exact⟨⟨D,Y,λk Z=>by rw[<-e k Z];exact X k Z⟩⟩
theorem QP(bd bs nd ns:Nat)(fd fs:Int->Option SV)(w:dY)(hd:SMap w bd nd fd)(hs:SMap w bs ns fs)(ju:bd≠bs)(aad:nd+ns<=2000000):
 eW eX 181 #[.map (μ bd),.map (μ bs)] w λe w'=>e=ρ (τ #[])/\SMap w' bd (nd+ns) (over fd fs)/\w.grownBy w' (μ bd):=by
 obtain⟨D,jl,Nq⟩:=hs.own;have rQ:=jl.size_le;have kB:=hd.lt;have FQ:=hs.lt;have hz:=pJ;have H0:Hid (∀k,sY k->fs k=ν->∀z,D.atKey (.int .i64 k) z=z):=λk S e=>by have:=Nq k S;rw[e]at this;exact this
 have H1:Hid (∀k s,sY k->fs k=μ s->∀z,D.atKey (.int .i64 k) z=.held s):=λk s S e=>by have:=Nq k S;rw[e]at this;exact this
 clear Nq hs
 go_in
 go_wp2_with(first
  |(at_range;refine wpList_range_own _ rfl _ 211 rfl 3 40 uJ underlying211 tq bs ns _ rfl jl ?_;intro w0 UD Tb ZT)
  |fail)
 go_frame
 go_loopw [8] (λ_ wr=>∃(left:Lit->Bool) (X:Nat),wr.ranges eX 3 tq bs w.heap.size ns D left X/\X<=ns/\SMap wr bd (nd+(ns-X)) (mix fd fs left)/\w.grownBy wr (μ bd))
  (λ_ wr=>wr.rangeLeft bs w.heap.size)
 case atStart=>
  refine⟨_,_,UD,rQ,((hd.kept Tb gY).mono eh).congr (λk S=> ?_),Tb.but _⟩;cases e:fs k with
  |none=>simp[mix,e]
  |some s=>simp[mix,Maps.has_true_of_atKey (H1.out k s S e)]
 case round=>
  clear UD Tb ZT jl hd;obtain⟨left,X,E,hcs,h,J5⟩:=hrel;go_wp2_with(first
   |(at_next;refine fZ _ rfl _ rfl 3 uJ tq (eB .i64) SV.v (λkey kl u=>by obtain⟨x,rfl,_⟩:=cB underlying3 u;exact⟨x,rfl⟩) (λv y hv=>by obtain⟨s,rfl,_⟩:=wZ hv;exact⟨s,rfl⟩) bs w.heap.size ns _ _ _ rfl E ?_ ?_)
   |fail)
  ·intro rF vN;have HE:Hid (SMap wr bd (nd+ns) (over fd fs)):=by
    show SMap wr bd (nd+ns) (over fd fs);rw[<-Yd vN];exact h.mono eh
   clear E h
   go_wp2
   first|go_end0|refine iJ rfl rfl ?_
   exact⟨rfl,HE.out,J5⟩
  ·intro x c kl yd yp w1 A u hlx hv hat UE Gb kE D7 Aq;obtain⟨x',ex,rfl,J⟩:=cB underlying3 u;cases ex;have zy:=AX J;obtain⟨Z,cs,ca,Y,V⟩:=c;rw[zj]at hv;have hy:yd=.held ⟨Z,cs,ca,Y,V⟩:=by have:=Option.some.inj hv;simp only[e7]at this;exact this.1.symm
   have M:fs x=μ ⟨Z,cs,ca,Y,V⟩:=by
    cases e:fs x with
    |none=>
     have H:=H0.out x zy e .nil;rw[hat,hy]at H;cases H
    |some s=>
     have H:=H1.out x s zy e .nil;rw[hat,hy]at H;cases H;rfl
   have Q:=(h.kept kE (λe=>by have:=Option.some.inj e;omega)).alloc (γ #[ι κ Z,ι κ cs,σ ca Y V] 40);obtain⟨T,sT,S2,T2⟩:=Q.store (by unfold maxLen;omega) x zy ⟨Z,cs,ca,Y,V⟩;have ao3:(Instr.mapUpdate 211 (.map (μ bd)) (ι κ x) (.agg #[ι κ Z,ι κ cs,σ ca Y V])).run eX (w1.alloc (γ #[ι κ Z,ι κ cs,σ ca Y V] 40))=.ok () T:=sT;rw[UC M]at S2;have afd:(ga (π (μ ⟨w.heap.size,0,ν⟩))).run eX w1=.ok (τ #[ι κ x,.agg #[ι κ Z,ι κ cs,σ ca Y V]]) w1:=Aq;have U:=(UE.alloc (γ #[ι κ Z,ι κ cs,σ ca Y V] 40)).kept T2.grown (λe=>ju (Option.some.inj e).symm) (λe=>by have:=Option.some.inj e;omega);have BF:w.grownBy T (μ bd):=((J5.andThen kE (λj G=>.inl (by cases G;exact Nat.le_refl _))).andThen ((World.grownBy_alloc w1 (γ #[ι κ Z,ι κ cs,σ ca Y V] 40) ν).but (μ bd)) (λj G=>.inr G)).andThen T2.grown (λj G=>.inr G);have HR:Hid (T.ranges eX 3 tq bs w.heap.size ns D (λz=>left z&& !z.sameKey (.int .i64 x)) A/\A<=ns/\SMap T bd (nd+(ns-A)) (mix fd fs (λz=>left z&& !z.sameKey (.int .i64 x)))/\w.grownBy T (μ bd)):=⟨U,eh,S2.mono eh,BF⟩
   have HM:Hid (T.rangeLeft bs w.heap.size<wr.rangeLeft bs w.heap.size):=by
    show _<_;rw[U.left_eq,E.left_eq];exact Gb
   clear sT Aq S2 T2 Q h E UE U kE BF J5 hat hy hv M hlx u J;go_wp2_with(fail)
   first|go_frame|skip
   go_roundw
   case rel=>exact⟨_,A,HR.out⟩
   case measure=>exact HM.out
theorem jC.UF(g:w.grownBy w' (μ b))(hb:b=m.bm \/b∈m.bs):jC w w' m:=by
 refine⟨g.os,g.tape,g.output,g.size,λi hi Z Y=>g.block i hi (λe=> ?_)⟩;have:i=b:=by simpa using e
 subst this;rcases hb with hb|hb
 ·exact Z hb
 ·exact Y hb
theorem tD {x:Nat} (h:w.grownBy w' (μ b))(hx:x<w.heap.size)(Z:x≠b):w'.heap[x]? =w.heap[x]? :=h.block x hx (λe=>Z (by simpa using e))
theorem FB.ajU {n':Nat} {kn:Int->Option SV} {ow:Nat->Int->Option SV} {f:Int->Option SV} {i:Nat} (h:FB w B m n kn ow)(hi:m.bs[i]? =μ b)(Z:w.grownBy w' (μ b))(Q:SMap w' b n' f)(X:n<=n'):FB w' B m n' kn (λj=>if j=i then f else ow j):=by
 have hb:=h.nB.2.2.2 b (bK hi);refine⟨(tD Z h.lt (λe=>hb.1 e.symm)).trans h.oe,h.row.keep Z.size (λk V=> ?_),(h.km.keep (tD Z h.km.lt (λe=>hb.2.2 e.symm))).mono X,λj c e=> ?_,h.few,h.nB,h.nd⟩
 ·have T:m.g=k:=by simpa[FM.sl,eu]using V
  subst T;exact tD Z (h.row.lt _ V) (λe=>hb.2.1 e.symm)
 ·by_cases Y:j=i
  ·subst Y;rw[hi]at e;obtain rfl:=Option.some.inj e;simp only[if_true];exact Q
  ·rw[af Y];have U:c≠b:=λS=>by
    subst S;exact Y ((List.getElem?_inj (aL.1 e).1 h.nd).1 (e.trans hi.symm))
   exact((h.om j c e).keep (tD Z (h.om j c e).lt U)).mono X
theorem UG(B:Nat)(m:FM)(k:Nat)(kn:Int->Option SV)(ow:Nat->Int->Option SV)(p:Nat)(w:dY)(h:FB w B m k kn ow)(S:p<m.bs.length)(hk:k<=1000000):
 eW eX 126 #[π (μ ⟨B,0,ν⟩),ι κ (p:Int)] w λe w'=>e=ρ η/\FB w' B m (k+k) kn (λi=>if i=p then over (ow p) kn else ow i)/\jC w w' m:=by
 have hh:=C9 B m k kn ow (p:Int) w h;have hv:(decide (0<=(p:Int))&&decide ((p:Int)<(m.bs.length:Int)))=true:=by simp;omega
 rw[hv]at hh;clear hv;have Z9:(p:Int)<(m.bs.length:Int):=eh;have yn:=h.few;have X:m.bs[p]? =μ m.bs[p] :=az S;have bd:eE w w.drew:=below_drewN (av _ _) 1;have Fd:=h.below bd;have V:=QP m.bs[p] m.bm k k (ow p) kn w.drew (Fd.om p _ X) Fd.km (Fd.nB.2.2.2 _ (aG _)).2.2 eh;have U:Hid (∀w',SMap w' m.bs[p] (k+k) (over (ow p) kn)->w.drew.grownBy w' (μ m.bs[p])->FB w' B m (k+k) kn (λi=>if i=p then over (ow p) kn else ow i)/\jC w w' m):=λw' Y Z=>⟨Fd.ajU X Z Y eh,(jC.iT m bd).trans (jC.UF Z (.inr (aG _)))⟩
 have c0:=h.c0;have c1:w.cell? ⟨B,1,ν⟩=μ (σ (μ ⟨m.g,0,ν⟩) m.bs.length m.cap):=h.c1;have lB:=h.lt;have cp:=h.port p _ X;have gl:m.g<w.heap.size:=ag w _ cp;generalize m.bs[p] =bp at cp V U;clear X Fd bd
 go_in
 go_wp2_with(fail);refine hh.mono ?_;rintro e w1 ⟨rfl,rfl⟩;clear hh
 go_upto_region 3 with fail
 go_region_with(first|(go_at_call 181;refine V.mono ?_;rintro e w2 ⟨rfl,Y,Z⟩)|fail)
 all_goals
  have T:Hid _:=U.out _ Y Z;clear Y Z
  go_wp2
  go_ret;exact⟨rfl,T.out⟩
structure SR(w:dY)(g C:Nat)(ss:List SV):Prop where
 lt:g<w.heap.size
 cell:∀j s,ss[j]? =μ s->w.cell? ⟨g,j*3,ν⟩=μ (ι κ s.own)/\w.cell? ⟨g,j*3+1,ν⟩=μ (ι κ s.seq)/\w.cell? ⟨g,j*3+2,ν⟩=μ (σ s.a s.n s.cap)
 sp:∀j,j<C*3->(w.cell? ⟨g,j,ν⟩).isSome=true/\w.frozen? ⟨g,j,ν⟩=false
 le:ss.length<=C
 cm:C<=maxLen
theorem SR.fz {ss:List SV} (h:SR w g C ss)(j:Nat)(hj:j<ss.length*3):w.frozen? ⟨g,j,ν⟩=false:=(h.sp j (by have:=h.le;omega)).2
theorem SR.below {ss:List SV} (h:SR w g C ss)(hb:eE w w'):SR w' g C ss:=
 ⟨Nat.lt_of_lt_of_le h.lt hb.size,λj s e=>by
  obtain⟨c0,c1,c2⟩:=h.cell j s e;exact⟨(hb.cell (p:=⟨g,j*3,ν⟩) h.lt).trans c0,(hb.cell (p:=⟨g,j*3+1,ν⟩) h.lt).trans c1,(hb.cell (p:=⟨g,j*3+2,ν⟩) h.lt).trans c2⟩,λj Z=>⟨by rw[hb.cell (p:=⟨g,j,ν⟩) h.lt];exact(h.sp j Z).1,(hb.frozen (p:=⟨g,j,ν⟩) h.lt).trans (h.sp j Z).2⟩,h.le,h.cm⟩
theorem SR.drewN {w:dY} {g C:Nat} {ss:List SV} (h:SR w g C ss)(n:Nat):SR (w.drewN n) g C ss:=h.below (below_drewN (av _ _) n)
def Nr(w:dY)(g k:Nat)(s:SV):dY:=((w.setCell ⟨g,k*3,ν⟩ (ι κ s.own)).setCell ⟨g,k*3+1,ν⟩ (ι κ s.seq)).setCell ⟨g,k*3+2,ν⟩ (σ s.a s.n s.cap)
theorem SR.put {ss:List SV} (h:SR w g C ss)(k:Nat)(S:k<ss.length)(s:SV):SR (Nr w g k s) g C (ss.set k s):=by
 have U:∀j,j<ss.length*3->(w.cell? ⟨g,j,ν⟩).isSome=true:=by
  intro j Z;have hl:j/3<ss.length:=eh;obtain⟨c0,c1,c2⟩:=h.cell (j/3) ss[j/3] (az hl);rcases(show j=j/3*3 \/j=j/3*3+1 \/j=j/3*3+2 by omega)with e|e|e
  ·rw[e,c0];rfl
  ·rw[e,c1];rfl
  ·rw[e,c2];rfl
 have V:Nr w g k s=w.setCells g (k*3) [ι κ s.own,ι κ s.seq,σ s.a s.n s.cap] :=rfl;have Y:=bL g [ι κ s.own,ι κ s.seq,σ s.a s.n s.cap] (k*3) w (λj Z=>U _ (by simp at Z;omega));refine⟨by unfold Nr;simpa using h.lt,λj s' e=> ?_,λj Z=> ?_,by simpa using h.le,h.cm⟩
 ·by_cases T:j=k
  ·subst T;rw[List.getElem?_set_self S]at e;obtain rfl:=Option.some.inj e;rw[V];exact⟨Y 0 gY,Y 1 gY,Y 2 gY⟩
  ·rw[List.getElem?_set_ne (λe=>T e.symm)]at e;obtain⟨c0,c1,c2⟩:=h.cell j s' e;have X:∀o,o<3->(w.setCells g (k*3) [ι κ s.own,ι κ s.seq,σ s.a s.n s.cap]).cell? ⟨g,j*3+o,ν⟩=w.cell? ⟨g,j*3+o,ν⟩:=λo ho=>bD g _ _ _ _ (λ_ _=>by show j*3+o<k*3 \/k*3+3<=j*3+o;omega);rw[V];exact⟨(X 0 eA).trans c0,(X 1 eA).trans c1,(X 2 eA).trans c2⟩
 ·rw[V,bY];refine⟨?_,(h.sp j Z).2⟩;by_cases hq:k*3<=j/\j<k*3+3
  ·have:=Y (j-k*3) (by simp;omega);rw[show k*3+(j-k*3)=j by omega]at this;rw[this];rfl
  ·rw[bD g _ _ _ _ (λ_ _=>by show j<k*3 \/k*3+3<=j;omega)];exact(h.sp j Z).1
theorem Hh(w:dY)(g k:Nat)(s:SV):w.grownBy (Nr w g k s) (μ g):=by
 unfold Nr;exact kO (kO (kO ⟨rfl,rfl,rfl,Nat.le_refl _,λ_ _ _=>rfl⟩ _ _) _ _) _ _
def Ns(l:List SV):Prop:=l.Pairwise (λx y=>x.own<y.own)
theorem UH(x y:SV)(w:dY):eW eX 203 #[.agg #[ι κ x.own,ι κ x.seq,σ x.a x.n x.cap],.agg #[ι κ y.own,ι κ y.seq,σ y.a y.n y.cap]] w λe w'=>e=ρ (ι κ (lW x.own y.own))/\eE w w':=by
 have Z:eE w ((w.alloc (γ #[ι κ x.own,ι κ x.seq,σ x.a x.n x.cap] 40)).alloc (γ #[ι κ y.own,ι κ y.seq,σ y.a y.n y.cap] 40)):=(gW _ _).alloc gY _;have Y:=tj x.own y.own ((w.alloc (γ #[ι κ x.own,ι κ x.seq,σ x.a x.n x.cap] 40)).alloc (γ #[ι κ y.own,ι κ y.seq,σ y.a y.n y.cap] 40))
 go_in
 go_wp2_with(fail);refine Y.mono ?_;rintro e w1 ⟨rfl,rfl⟩
 go_wp2
 go_ret;exact⟨rfl,Z⟩
structure Down(w wr:dY)(g cap n i:Nat)(ss pre mid post:List SV)(x:SV):Prop where
 sr:SR wr g cap (pre++x::(mid++post))
 perm:(pre++x::(mid++post)).Perm ss
 Tc:Ns (pre++mid)
 low:∀y∈mid,x.own<y.own
 len:pre.length+mid.length=i
 grown:w.grownBy wr (μ g)
theorem Pc {pre mid:List SV} {x:SV} (h:Ns (pre++mid))(X:∀y∈pre,y.own<x.own)(Y:∀y∈mid,x.own<y.own):Ns (pre++x::mid):=by
 unfold Ns at*;rw[bu]at h⊢;refine⟨h.1,cC.2 ⟨Y,h.2.1⟩,λa Z b hb=> ?_⟩;rcases aP.1 hb with rfl|hb
 ·exact X a Z
 ·exact h.2.2 a Z b hb
theorem UI {pre:List SV} {y x:SV} (h:Ns (pre++ [y]))(hy:y.own<x.own):∀z∈pre++ [y],z.own<x.own:=by
 intro z Z;rcases aw.1 Z with Z|Z
 ·have:=(bu.1 h).2.2 z Z y gY;omega
 ·have:z=y:=by simpa using Z
  rw[this];exact hy
theorem tE {b:dY} (h:w.grownBy a (μ g))(k:eE a b):w.grownBy b (μ g):=
 ⟨k.os.trans h.os,k.tape.trans h.tape,k.output.trans h.output,Nat.le_trans h.size k.size,λi hi Z=>(k.block i (Nat.lt_of_lt_of_le hi h.size)).trans (h.block i hi Z)⟩
theorem BS {b:dY} (h:w.grownBy a (μ g))(k:a.grownBy b (μ g)):w.grownBy b (μ g):=
 ⟨k.os.trans h.os,k.tape.trans h.tape,k.output.trans h.output,Nat.le_trans h.size k.size,λi hi Z=>(k.block i (Nat.lt_of_lt_of_le hi h.size) Z).trans (h.block i hi Z)⟩
theorem aff {a d e f:Nat} {u0 u1 u2 u3 u4 u5:dZ} (k:eE w w')(gl:g<w.heap.size)
 (h:w.cell? ⟨g,a,ν⟩=μ u0/\w.cell? ⟨g,b,ν⟩=μ u1/\w.cell? ⟨g,c,ν⟩=μ u2/\w.cell? ⟨g,d,ν⟩=μ u3/\w.cell? ⟨g,e,ν⟩=μ u4/\w.cell? ⟨g,f,ν⟩=μ u5):
 w'.cell? ⟨g,a,ν⟩=μ u0/\w'.cell? ⟨g,b,ν⟩=μ u1/\w'.cell? ⟨g,c,ν⟩=μ u2/\w'.cell? ⟨g,d,ν⟩=μ u3/\w'.cell? ⟨g,e,ν⟩=μ u4/\w'.cell? ⟨g,f,ν⟩=μ u5:=
 ⟨(k.cell (p:=⟨g,a,ν⟩) gl).trans h.1,(k.cell (p:=⟨g,b,ν⟩) gl).trans h.2.1,(k.cell (p:=⟨g,c,ν⟩) gl).trans h.2.2.1,(k.cell (p:=⟨g,d,ν⟩) gl).trans h.2.2.2.1,(k.cell (p:=⟨g,e,ν⟩) gl).trans h.2.2.2.2.1,(k.cell (p:=⟨g,f,ν⟩) gl).trans h.2.2.2.2.2⟩
theorem Nt(g n cap:Nat)(ss:List SV)(w:dY)(h:SR w g cap ss)(hl:ss.length=n)(hn:n<=12)(hd:ss.Pairwise (λx y=>x.own≠y.own)):
 eW eX 232 #[σ (μ ⟨g,0,ν⟩) n cap,ι κ 0,ι κ (n:Int),.func (.func 203) #[] #[]] w λe w'=>e=ρ (τ #[])/\∃ts,SR w' g cap ts/\ts.Perm ss/\Ns ts/\w.grownBy w' (μ g):=by
 go_in
 go_wp2
 go_loopw [8] (λi wr=>∃(k:Nat) (ts:List SV),1<=k/\(k<=n \/k=1)/\i=ι κ k/\SR wr g cap ts/\ts.Perm ss/\Ns (ts.take k)/\w.grownBy wr (μ g)) (λi _=>n-(intOf i).toNat)
 case atStart=>exact⟨1,ss,Nat.le_refl _,.inr rfl,rfl,h,List.Perm.refl _,by unfold Ns;cases ss<;>simp,⟨rfl,rfl,rfl,Nat.le_refl _,λ_ _ _=>rfl⟩⟩
 case round=>
  obtain⟨k,ts,Xe,AK,rfl,hS,U,hR,hG⟩:=hrel;have htl:ts.length=n:=by rw[U.length_eq,hl]
  by_cases kB:k<n
  ·have nQ:(k:Int)<(n:Int):=eh;have G:Hid (Down w wr g cap n k ss (ts.take k) [] (ts.drop (k+1)) (ts[k]'(by omega))):=by
    have e:ts.take k++(ts[k]'(by omega))::([] ++ts.drop (k+1))=ts:=by
     rw[bW,<-aS eh,cK]
    refine⟨by rw[e];exact hS,by rw[e];exact U,by rw[aC];exact hR,gY,by simp;omega,hG⟩
   obtain⟨wo,rfl⟩:∃wo,wo=wr:=⟨_,rfl⟩
   clear hS U hR hG
   go_wp2
   go_loopw [9] (λj wr=>∃(pre mid post:List SV) (x:SV),j=ι κ (pre.length:Int)/\Down w wr g cap n k ss pre mid post x) (λj _=>(intOf j).toNat)
   case atStart=>exact⟨_,_,_,_,by simp;omega,G.out⟩
   case round=>
    clear G;obtain⟨pre,mid,post,x,rfl,Y⟩:=hrel;have hlen:pre.length+mid.length+post.length+1=n:=by
     have:=Y.perm.length_eq;simp at this;omega
    rcases cL pre with rfl|⟨Z,y,oP⟩
    ·have A:Hid (∃ts:List SV,SR wr g cap ts/\ts.Perm ss/\Ns (ts.take (k+1))/\w.grownBy wr (μ g)):=by
      refine⟨_,Y.sr,Y.perm,?_,Y.grown⟩;have hm:=Y.len;simp only[List.nil_append,eQ,Nat.zero_add]at hm⊢;have e:(x::(mid++post)).take (k+1)=x::mid:=by
       rw[List.take_succ_cons,<-hm,List.take_left]
      rw[e];exact Pc (pre:=[]) Y.Tc gY Y.low
     clear Y;simp only[eQ,Int.natCast_zero]
     go_wp2
     go_quiet(fail)
     go_wp2
     go_roundw
     case rel=>
      obtain⟨us,q1,q2,q3,q4⟩:=A.out;exact⟨k+1,us,eh,.inl eh,by go_num,SR.drewN q1 _,q2,q3,tE q4 (below_drewN (av _ _) _)⟩
     case measure=>simp[intOf];omega
    ·rw[cM]at oP;subst oP;obtain⟨P,U⟩:=gg (Z.length);have T:(Z++ [y]).length=P+1:=by simp[U]
     have gx:((Z++ [y])++x::(mid++post))[P+1]? =μ x:=by rw[<-T];simp
     have gy:((Z++ [y])++x::(mid++post))[P]? =μ y:=by rw[<-U];simp
     obtain⟨x0,x1,x2⟩:=Y.sr.cell _ _ gx;obtain⟨y0,y1,y2⟩:=Y.sr.cell _ _ gy;have gl:=Y.sr.lt;have hPn:P+1<n:=by
      rw[T]at hlen;omega
     have b0:(0:Int)<=(P:Int):=eh;have b1:(P:Int)<(n:Int):=eh;have b2:(P:Int)+1<(n:Int):=eh;have b3:(0:Int)<=(P:Int)+1:=eh;have b4:(0:Int)<(P:Int)+1:=eh;have b5:ft.wrap ((P:Int)+1-1)=(P:Int):=by rw[show(P:Int)+1-1=(P:Int) by omega];exact aX _ ⟨eh,eh⟩
     have b6:ft.wrap (P:Int)=(P:Int):=aX _ ⟨eh,eh⟩;have D:¬x.own=y.own:=by
      have Pf:=(Y.perm.pairwise_iff (λ{a b} (De:a.own≠b.own)=>λe=>De e.symm)).2 hd;have h3:=(bu.1 Pf).2.2 y gY x gY;exact λe=>h3 e.symm
     have eJ:(((Z++ [y]).length:Nat):Int)=(P:Int)+1:=by rw[T];rfl
     rw[eJ];have HD:Hid _:=Y;have HP:Hid _:=U;have HN:Hid _:=D;clear Y U D eJ T gx gy hlen;have H:wr.drew.cell? ⟨g,(P+1)*3,ν⟩=μ (ι κ x.own)/\wr.drew.cell? ⟨g,(P+1)*3+1,ν⟩=μ (ι κ x.seq)/\wr.drew.cell? ⟨g,(P+1)*3+2,ν⟩=μ (σ x.a x.n x.cap)/\wr.drew.cell? ⟨g,P*3,ν⟩=μ (ι κ y.own)/\wr.drew.cell? ⟨g,P*3+1,ν⟩=μ (ι κ y.seq)/\wr.drew.cell? ⟨g,P*3+2,ν⟩=μ (σ y.a y.n y.cap):=⟨x0,x1,x2,y0,y1,y2⟩
     have E:=UH x y wr.drew;obtain⟨cx,V⟩:=gg (lW x.own y.own);rw[V]at E;by_cases UJ:x.own<y.own
     ·have M:cx= -1:=by rw[<-V,lW,ai UJ]
      subst M;clear V
      go_wp2
      go_region_held3(λv=>v.cell? ⟨g,(P+1)*3,ν⟩=μ (ι κ x.own)/\v.cell? ⟨g,(P+1)*3+1,ν⟩=μ (ι κ x.seq)/\v.cell? ⟨g,(P+1)*3+2,ν⟩=μ (σ x.a x.n x.cap)/\v.cell? ⟨g,P*3,ν⟩=μ (ι κ y.own)/\v.cell? ⟨g,P*3+1,ν⟩=μ (ι κ y.seq)/\v.cell? ⟨g,P*3+2,ν⟩=μ (σ y.a y.n y.cap))
       (first|assumption|exact H|exact u)
       ((go_at_call 203;refine E.mono ?_;rintro e J ⟨rfl,S⟩;have u:=aff S gl H))
      have X:eE wr J:=gk (below_drewN (av _ _) 1) S;have S5:=HD.out.sr.below X;obtain⟨z0,z1,z2,z3,z4,z5⟩:=u;have gl5:=S5.lt;have Q:∀o,o<(P+2)*3->J.frozen? ⟨g,o,ν⟩=false:=λo ho=>S5.fz o (by have:=HP.out;simp;omega);have f0:=Q ((P+1)*3) eh;have f1:=Q ((P+1)*3+1) eh;have f2:=Q ((P+1)*3+2) eh;have f3:=Q (P*3) eh;have f4:=Q (P*3+1) eh;have f5:=Q (P*3+2) eh;clear Q E H x0 x1 x2 y0 y1 y2 S;have hD6:Hid (Down w (Nr (Nr J g (P+1) y) g P x).drew g cap n k ss Z (y::mid) post x):=by
       have hd:=HD.out;have hp:=HP.out;have UK:((((Z++ [y])++x::(mid++post)).set (P+1) y).set P x)=Z++x::((y::mid)++post):=by
        subst hp;rw[aE,dT _ _ eh,show Z.length+1-Z.length=1 by omega];simp only[List.singleton_append,List.set_cons_succ,List.set_cons_zero];rw[dT _ _ eh,Nat.sub_self];rfl
       have hlen:((Z++ [y])++x::(mid++post)).length=Z.length+mid.length+post.length+2:=by simp;omega
       have s6:=((S5.put (P+1) (by rw[hlen];omega) y).put P (by rw[List.length_set,hlen];omega) x).drewN 1;rw[UK]at s6;refine⟨s6,?_,?_,?_,?_,?_⟩
       ·refine List.Perm.trans ?_ hd.perm;rw[aE];exact List.Perm.append_left Z (by simpa using List.Perm.swap y x (mid++post))
       ·have:=hd.Tc;rw[aE]at this;exact this
       ·intro z hz;rcases aP.1 hz with rfl|hz
        ·exact UJ
        ·exact hd.low z hz
       ·have:=hd.len;simp at this⊢;omega
       ·exact tE (BS (BS (tE hd.grown X) (Hh _ g (P+1) y)) (Hh _ g P x)) (below_drewN (av _ _) 1)
      go_wp2
      go_region
      go_wp2_with(fail);refine⟨⟨Z,y::mid,post,x,?_,?_⟩,?_⟩
      ·rw[HP.out]
      ·exact hD6.out
      ·simp[intOf]
     ·have hhi:y.own<x.own:=by
       have h9:¬x.own=y.own:=HN.out;omega
      have M:cx=1:=by rw[<-V,lW,af UJ,ai hhi]
      subst M;clear V
      go_wp2
      go_region_held3(λv=>v.cell? ⟨g,(P+1)*3,ν⟩=μ (ι κ x.own)/\v.cell? ⟨g,(P+1)*3+1,ν⟩=μ (ι κ x.seq)/\v.cell? ⟨g,(P+1)*3+2,ν⟩=μ (σ x.a x.n x.cap)/\v.cell? ⟨g,P*3,ν⟩=μ (ι κ y.own)/\v.cell? ⟨g,P*3+1,ν⟩=μ (ι κ y.seq)/\v.cell? ⟨g,P*3+2,ν⟩=μ (σ y.a y.n y.cap))
       (first|assumption|exact H|exact u)
       ((go_at_call 203;refine E.mono ?_;rintro e J ⟨rfl,S⟩;have u:=aff S gl H))
      have X:eE wr J:=gk (below_drewN (av _ _) 1) S;have A:Hid (∃ts:List SV,SR J g cap ts/\ts.Perm ss/\Ns (ts.take (k+1))/\w.grownBy J (μ g)):=by
       have hd:=HD.out;refine⟨_,hd.sr.below X,hd.perm,?_,tE hd.grown X⟩;have hm:=hd.len;have e:((Z++ [y])++x::(mid++post)).take (k+1)=(Z++ [y])++x::mid:=by
        rw[show(Z++ [y])++x::(mid++post)=((Z++ [y])++x::mid)++post by simp];rw[List.take_left' (by simp at hm⊢;omega)]
       rw[e];exact Pc hd.Tc (UI (bu.1 hd.Tc).1 hhi) hd.low
      clear E H u x0 x1 x2 y0 y1 y2 S
      go_wp2
      go_roundw
      case rel=>
       obtain⟨us,q1,q2,q3,q4⟩:=A.out;exact⟨k+1,us,eh,.inl eh,by go_num,q1,q2,q3,q4⟩
      case measure=>simp[intOf];omega
  ·have A:Hid (∃ts,SR wr g cap ts/\ts.Perm ss/\Ns ts/\w.grownBy wr (μ g)):=by
    refine⟨ts,hS,U,?_,hG⟩;have:ts.take k=ts:=aJ eh
    rwa [this]at hR
   clear hS U hR hG;have xP:¬(k:Int)<(n:Int):=eh
   go_wp2
   first|go_end0|refine iJ rfl rfl ?_
   exact⟨rfl,A.out⟩
theorem Pg(n:Nat)(hn:n<=6)(w:dY):eW eX 221 #[.int .u64 (n:Int)] w λe w'=>∃r:Int,e=ρ (ι κ r)/\w=w':=by
 have Z:∀W:dY,eW eX 241 #[.int .u64 (n:Int)] W λe w'=>∃r:Int,e=ρ (ι κ r)/\W=w':=by
  intro W;rcases(show n=0 \/n=1 \/n=2 \/n=3 \/n=4 \/n=5 \/n=6 by omega)with rfl|rfl|rfl|rfl|rfl|rfl|rfl
  all_goals
   go_in
   go_wp2
   go_ret;exact⟨_,rfl,rfl⟩
 go_in
 go_wp2_with(fail);refine(Z _).mono ?_;rintro e w1 ⟨r,rfl,rfl⟩
 go_wp2
 go_ret;exact⟨_,rfl,rfl⟩
theorem Ye(g n cap:Nat)(L:Int)(ss:List SV)(w:dY)(h:SR w g cap ss)(hl:ss.length=n)(X:n<=12)(hd:ss.Pairwise (λx y=>x.own≠y.own)):
 eW eX 220 #[σ (μ ⟨g,0,ν⟩) n cap,ι κ 0,ι κ (n:Int),ι κ L,.func (.func 203) #[] #[]] w λe w'=>e=ρ (τ #[])/\∃ts,SR w' g cap ts/\ts.Perm ss/\Ns ts/\w.grownBy w' (μ g):=by
 have hc:=Nt g n cap ss w h hl X hd;have h12:(n:Int)<=12:=eh
 go_in
 go_wp2_with(fail);refine cg 1 ?_;rw[bT];go_wp2_with(fail);refine hc.mono ?_;rintro e w1 ⟨rfl,Z⟩;have Y:Hid _:=Z;clear Z hc
 go_wp2
 first|go_end0|refine iJ rfl rfl ?_
 exact⟨rfl,Y.out⟩
theorem UL(g n cap:Nat)(ss:List SV)(w:dY)(h:SR w g cap ss)(hl:ss.length=n)(X:n<=6)(hd:ss.Pairwise (λx y=>x.own≠y.own)):
 eW eX 202 #[σ (μ ⟨g,0,ν⟩) n cap,.func (.func 203) #[] #[]] w λe w'=>e=ρ (τ #[])/\∃ts,SR w' g cap ts/\ts.Perm ss/\Ns ts/\w.grownBy w' (μ g):=by
 have Z:=Pg n X w;have h12:(n:Int)<=6:=eh
 go_in
 go_wp2_with(fail);refine Z.mono ?_;rintro e w1 ⟨r,rfl,rfl⟩;go_wp2_with(fail);refine(Ye g n cap r ss w h hl eh hd).mono ?_;rintro e w2 ⟨rfl,Y⟩;have V:Hid _:=Y;clear Y Z
 go_wp2
 first|go_end0|refine iJ rfl rfl ?_
 exact⟨rfl,V.out⟩
def SV.cells(s:SV):List dZ:=[ι κ s.own,ι κ s.seq,σ s.a s.n s.cap]
def KS(ss:List SV):List dZ:=ss.flatMap SV.cells
theorem KT(ss:List SV)(s:SV):KS (ss++ [s])=KS ss++ [ι κ s.own,ι κ s.seq,σ s.a s.n s.cap] :=by simp[KS,SV.cells]
theorem I6:∀(ss:List SV) (j:Nat) (s:SV),ss[j]? =μ s->(KS ss)[j*3]? =μ (ι κ s.own)/\(KS ss)[j*3+1]? =μ (ι κ s.seq)/\(KS ss)[j*3+2]? =μ (σ s.a s.n s.cap)
 |[],j,s,h=>by simp at h
 |x::l,0,s,h=>by
  have:x=s:=by simpa using h
  subst this;exact⟨rfl,rfl,rfl⟩
 |x::l,j+1,s,h=>by
  have Z:l[j]? =μ s:=by simpa using h
  obtain⟨a,b,c⟩:=I6 l j s Z;have e:KS (x::l)=ι κ x.own::ι κ x.seq::σ x.a x.n x.cap::KS l:=rfl;have X:(j+1)*3=j*3+3:=eh;have Y:(j+1)*3+1=j*3+1+3:=eh;have V:(j+1)*3+2=j*3+2+3:=eh;rw[e,Y,V,X];simp only[List.getElem?_cons_succ];exact⟨a,b,c⟩
theorem Row.sr {ss:List SV} (h:Row w 3 (σ (μ ⟨g,0,ν⟩) ss.length cap) ss.length (KS ss)):SR w g cap ss:=by
 rcases h.2 with⟨e,_⟩|⟨g',jr,e,_,Z,Y,_,hs⟩
 ·cases e
 ·cases e;refine⟨h.lt g rfl,λj s e=> ?_,hs,Z,Y⟩;obtain⟨a,b,c⟩:=I6 ss j s e;exact⟨Row.cell h _ _ a,Row.cell h _ _ b,Row.cell h _ _ c⟩
theorem uN:∀(l m:List Int),l.Pairwise (· ≠·)->(∀x∈l,x∈m)->l.length<=m.length
 |[],_,_,_=>Nat.zero_le _
 |x::l,m,hp,hs=>by
  obtain⟨Z,Y⟩:=cC.1 hp;have hx:=hs x gY;have:=uN l (m.erase x) Y (λy hy=>(de (λe=>Z y hy e.symm)).2 (hs y (cQ _ hy)));rw[cX hx]at this;have hm:0<m.length:=dN hx;simp only[List.length_cons];omega
structure abM(w wr:dY)(f:Int->Option SV)(es:Int->List jE)(v:dZ)(s:SV):Prop where
 at_:∃t,f s.own=μ t/\s.seq=t.seq
 inr:sY s.own
 n:s.n=(es s.own).length
 opt:jc wr s.a s.n (es s.own)
 nil:kI s.a s.cap
 new:∀j,eu (σ s.a s.n s.cap)=μ j->w.heap.size<j/\j<wr.heap.size/\v.ownBlock≠μ j
structure UM(w wr:dY)(f:Int->Option SV)(es:Int->List jE)(left:Lit->Bool)(v:dZ)(out:List SV):Prop where
 row:Row wr 3 v out.length (KS out)
 own:∀g,v.ownBlock=μ g->w.heap.size<g
 el:∀s∈out,abM w wr f es v s/\left (.int .i64 s.own)=false
 df:out.Pairwise (λx y=>x.own≠y.own)
 all:∀k,sY k->(f k).isSome=true->left (.int .i64 k)=false->∃s∈out,s.own=k
 nT:eE w wr
theorem UM.step {f:Int->Option SV} {v':dZ} {out:List SV} {s t:SV} (h:UM w wr f es left v out)
 (Z:wr.grownBy w1 (μ w.heap.size)) (G:w1.grownBy w3 v.ownBlock) (u:Row w3 3 v' (out.length+1) (KS out++ [ι κ s.own,ι κ s.seq,σ s.a s.n s.cap]))
 (hv:∀g,v'.ownBlock=μ g->v.ownBlock=μ g \/wr.heap.size<=g) (hw:w.heap.size<wr.heap.size) (J:∀j,eu (σ s.a s.n s.cap)=μ j->wr.heap.size<=j/\j<w3.heap.size/\v'.ownBlock≠μ j)
 (hx:sY s.own) (V:left (.int .i64 s.own)=true) (S:f s.own=μ t) (Y:s.seq=t.seq) (D:s.n=(es s.own).length) (y:jc w3 s.a s.n (es s.own)) (E:kI s.a s.cap):
 UM w w3 f es (λz=>left z&& !z.sameKey (.int .i64 s.own)) v' (out++ [s]):=by
 have M:wr.heap.size<=w3.heap.size:=Nat.le_trans Z.size G.size;have Q:∀i,i<wr.heap.size->i≠w.heap.size->v.ownBlock≠μ i->w3.heap[i]? =wr.heap[i]? :=λi hi U T=>
  (G.block i (Nat.lt_of_lt_of_le hi Z.size) (λe=>T e.symm)).trans (Z.block i hi (λe=>U (by simpa using e)))
 refine⟨?_,?_,?_,?_,?_,?_⟩
 ·rw[KT,aA];exact u
 ·intro g H;rcases hv g H with e|e
  ·exact h.own g e
  ·omega
 ·intro q Y;rcases aw.1 Y with Y|Y
  ·obtain⟨a,b⟩:=h.el q Y;refine⟨⟨a.at_,a.inr,a.n,a.opt.kept (cap:=q.cap) (λj X=> ?_),a.nil,λj X=> ?_⟩,by simp[b]⟩
   ·obtain⟨c1,c2,c3⟩:=a.new j X;exact Q j c2 eh c3
   ·obtain⟨c1,c2,c3⟩:=a.new j X;refine⟨c1,eh,λe=> ?_⟩;rcases hv j e with e|e
    ·exact c3 e
    ·omega
  ·have:q=s:=by simpa using Y
   subst this;refine⟨⟨⟨t,S,je⟩,hx,D,y,E,λj X=> ?_⟩,by simp[rm]⟩;obtain⟨c1,c2,c3⟩:=J j X;exact⟨eh,c2,c3⟩
 ·rw[bu];refine⟨h.df,List.pairwise_singleton _ _,λa A b hb=> ?_⟩;have:b=s:=by simpa using hb
  subst this;intro e;have:=(h.el a A).2;rw[e,V]at this;cases this
 ·intro k hk hs hl;by_cases e:k=s.own
  ·exact⟨s,gY,e.symm⟩
  ·have:left (.int .i64 k)=false:=by simpa[rm,e]using hl
   obtain⟨q,U,T⟩:=h.all k hk hs this;exact⟨q,by simp[U],T⟩
 ·refine⟨?_,?_,?_,?_,?_⟩
  ·exact G.os.trans (Z.os.trans h.nT.os)
  ·exact G.tape.trans (Z.tape.trans h.nT.tape)
  ·exact G.output.trans (Z.output.trans h.nT.output)
  ·exact Nat.le_trans h.nT.size M
  ·intro i hi;refine(Q i eh eh (λe=> ?_)).trans (h.nT.block i hi);have:=h.own i e;omega
theorem UM.few {f:Int->Option SV} {out:List SV} (h:UM w wr f es left v out)(hf:∀k s,sY k->f k=μ s->1<=k/\k<=6):out.length<=6:=by
 have Y:=uN (out.map SV.own) [1,2,3,4,5,6] (by rw[dy];exact h.df) (λx hx=>by
  obtain⟨s,hs,rfl⟩:=bJ.1 hx;obtain⟨t,Z,_⟩:=(h.el s hs).1.at_;have:=hf _ t (h.el s hs).1.inr Z;simp;omega)
 simpa using Y
theorem infoState:(eX.info? 40).map (λi=>(i.zero,i.size,i.bytes))=μ (μ (.agg #[ι κ 0,ι κ 0,σ ν 0 0]),3,40):=gq
theorem BU(w:dY)(x y z:dZ)(t:TypeId)(g:Nat)(Z:w.heap.size=g):∀(j:Nat) (u:dZ),[x,y,z][j]? =μ u->(w.alloc (γ #[x,y,z] t)).cell? ((⟨g,0,ν⟩:dX).add j)=μ u:=by
 subst Z;intro j u Y;rw[add_plain,ar];simpa using Y
theorem UN(x y:Int)(a:Option dX)(n c:Nat):∀u∈ [eB .i64 x,eB .i64 y,Value.slice a n c],u.oneCell'=true:=by simp[Value.oneCell']
structure Eh(w w':dY)(f:Int->Option SV)(es:Int->List jE)(v:dZ)(ts:List SV):Prop where
 shape:(v=σ ν 0 0/\ts=[]) \/ ∃g cap,v=σ (μ ⟨g,0,ν⟩) ts.length cap/\SR w' g cap ts/\w.heap.size<g
 el:∀s∈ts,abM w w' f es v s
 Tc:Ns ts
 all:∀k,sY k->(f k).isSome=true->∃s∈ts,s.own=k
 nT:eE w w'
theorem UM.abN {f:Int->Option SV} {out:List SV} (h:UM w wr f es left v out)(hl:∀Y,left Y=false)(hv:v=σ ν 0 0):Eh w wr f es v [] /\out=[] :=by
 have X:out=[] :=by
  rcases h.row.2 with⟨_,e⟩|⟨g,cap,e,_⟩
  ·exact aI e
  ·rw[hv]at e;cases e
 subst X;exact⟨⟨.inl ⟨hv,rfl⟩,λs hs=>by simp at hs,gb,λk Z hs=>h.all k Z hs (hl _),h.nT⟩,rfl⟩
theorem UM.afj {f:Int->Option SV} {out ts:List SV} (h:UM w wr f es left (σ (μ ⟨g,0,ν⟩) out.length cap) out)(hl:∀H,left H=false)
 (hs:SR w' g cap ts) (Y:ts.Perm out) (M:Ns ts) (Z:wr.grownBy w' (μ g)):Eh w w' f es (σ (μ ⟨g,0,ν⟩) out.length cap) ts:=by
 have S:w.heap.size<g:=h.own g rfl;refine⟨.inr ⟨g,cap,by rw[Y.length_eq],hs,S⟩,λs Q=> ?_,M,λk J U=> ?_,?_⟩
 ·have a:=(h.el s (Y.mem_iff.1 Q)).1;refine⟨a.at_,a.inr,a.n,a.opt.kept (cap:=s.cap) (λj X=> ?_),a.nil,λj X=> ?_⟩
  ·obtain⟨c1,c2,c3⟩:=a.new j X;exact Z.block j c2 (λe=>c3 e.symm)
  ·obtain⟨c1,c2,c3⟩:=a.new j X;exact⟨c1,Nat.lt_of_lt_of_le c2 Z.size,c3⟩
 ·obtain⟨s,T,V⟩:=h.all k J U (hl _);exact⟨s,Y.mem_iff.2 T,V⟩
 ·refine⟨Z.os.trans h.nT.os,Z.tape.trans h.nT.tape,Z.output.trans h.nT.output,Nat.le_trans h.nT.size Z.size,λi hi=>(Z.block i (Nat.lt_of_lt_of_le hi h.nT.size) (λe=> ?_)).trans (h.nT.block i hi)⟩;have:i=g:=by simpa using e
  omega
theorem UO(w:dY):eW eX 202 #[σ ν 0 0,.func (.func 203) #[] #[]] w λe w'=>e=ρ (τ #[])/\w=w':=by
 have Y:=Pg 0 eA w;have X:eW eX 232 #[σ ν 0 0,ι κ 0,ι κ 0,.func (.func 203) #[] #[]] w λe w'=>e=ρ (τ #[])/\w=w':=by
  go_in
  go_wp2_with(fail);refine cg 1 ?_;rw[bT]
  go_wp2
  first|go_end0|refine iJ rfl rfl ?_
  exact⟨rfl,rfl⟩
 have Z:∀L:Int,eW eX 220 #[σ ν 0 0,ι κ 0,ι κ 0,ι κ L,.func (.func 203) #[] #[]] w λe w'=>e=ρ (τ #[])/\w=w':=by
  intro L
  go_in
  go_wp2_with(fail);refine cg 1 ?_;rw[bT];go_wp2_with(fail);refine X.mono ?_;rintro e w1 ⟨rfl,rfl⟩
  go_wp2
  first|go_end0|refine iJ rfl rfl ?_
  exact⟨rfl,rfl⟩
 go_in
 go_wp2_with(fail);refine Y.mono ?_;rintro e w1 ⟨r,rfl,rfl⟩;go_wp2_with(fail);refine(Z r).mono ?_;rintro e w2 ⟨rfl,rfl⟩
 go_wp2
 first|go_end0|refine iJ rfl rfl ?_
 exact⟨rfl,rfl⟩
theorem Nu {w2:dY} {o o2:Obj} {row:Option Nat} (k2:Below (w1.alloc o).heap.size (w1.alloc o) w2)(Z:(w2.alloc o2).grownBy w3 row):w1.grownBy w3 row:=by
 have s1:(w1.alloc o).heap.size=w1.heap.size+1:=gY;have s2:(w2.alloc o2).heap.size=w2.heap.size+1:=gY;have hk:=k2.size;have b1:=gW w1 o;have b2:=gW w2 o2;refine⟨Z.os.trans (b2.os.trans (k2.os.trans b1.os)),Z.tape.trans (b2.tape.trans (k2.tape.trans b1.tape)),Z.output.trans (b2.output.trans (k2.output.trans b1.output)),by have:=Z.size;omega,λi hi Y=> ?_⟩;exact(Z.block i eh Y).trans ((b2.block i eh).trans ((k2.block i eh).trans (b1.block i hi)))
theorem Ei(b n:Nat)(f:Int->Option SV)(es:Int->List jE)(w:dY)(h:SMap w b n f)
 (hf:∀k s,sY k->f k=μ s->(1<=k/\k<=6)/\s.own=k/\jc w s.a s.n (es k)/\kI s.a s.cap/\s.n<=1000000):
 eW eX 160 #[.map (μ b)] w λe w'=>∃v ts,e=ρ v/\Eh w w' f es v ts:=by
 obtain⟨i0,hi,ox,nh,mO⟩:=aY infoState;obtain⟨D,jl,Nq⟩:=h.own;have Aw:=h.lt;have hz:=pJ;have H0:Hid (∀k,sY k->f k=ν->∀z,D.atKey (.int .i64 k) z=z):=λk Y e=>by have:=Nq k Y;rw[e]at this;exact this
 have H1:Hid (∀k s,sY k->f k=μ s->∀z,D.atKey (.int .i64 k) z=.held s):=λk s Y e=>by have:=Nq k Y;rw[e]at this;exact this
 have HF:Hid _:=hf;clear Nq h hf
 go_in
 go_wp2_with(first
  |(at_range;refine wpList_range_own _ rfl _ 211 rfl 3 40 uJ underlying211 tq b n _ rfl jl ?_;intro w0 UD A ZT)
  |fail)
 go_frame
 go_loopw [3] (λv wr=>∃(left:Lit->Bool) (H:Nat) (out:List SV),wr.ranges eX 3 tq b w.heap.size n D left H/\w.heap.size<wr.heap.size/\UM w wr f es left v out)
  (λ_ wr=>wr.rangeLeft b w.heap.size)
 case atStart=>
  refine⟨_,_,[],UD,eh,⟨Row.nil _ 3,λg hg=>by simp[eu]at hg,λs hs=>by simp at hs,gb,λk Y S h2=> ?_,⟨A.os,A.tape,A.output,A.size,λi hi=>A.block i hi gY⟩⟩⟩;cases e:f k with
  |none=>rw[e]at S;cases S
  |some s=>
   rw[dM (H1.out k s Y e)]at h2;cases h2
 case round=>
  clear UD A ZT jl;obtain⟨left,H,out,G4,hww,hC⟩:=hrel;go_wp2_with(first
   |(at_next;refine fZ _ rfl _ rfl 3 uJ tq (eB .i64) SV.v (λkey kl yy=>by obtain⟨x,rfl,_⟩:=cB underlying3 yy;exact⟨x,rfl⟩) (λv y hv=>by obtain⟨s,rfl,_⟩:=wZ hv;exact⟨s,rfl⟩) b w.heap.size n _ _ _ rfl G4 ?_ ?_)
   |fail)
  ·intro rF vN;have h6:=hC.few (λk s Y e=>(HF.out k s Y e).1);rcases hC.row.2 with⟨hv,UQ⟩|⟨g,cap,hv,_⟩
   ·subst hv;have u:Hid _:=(hC.abN vN rfl).1;have XO:=UO wr;clear hC G4 vN UQ h6;go_wp2_with(fail);refine XO.mono ?_;rintro e E ⟨rfl,rfl⟩;clear XO
    go_wp2
    go_ret;exact⟨_,_,rfl,u.out⟩
   ·subst hv;have XO:=UL g out.length cap out wr hC.row.sr rfl h6 hC.df;have T:Hid _:=hC;have HL:Hid _:=vN;clear hC G4 vN h6;go_wp2_with(fail);refine XO.mono ?_;rintro e E ⟨rfl,ts,hS,hp,hr,hg⟩;have u:Hid _:=T.out.afj HL.out hS hp hr hg;clear XO hS hp hr hg
    go_wp2
    go_ret;exact⟨_,_,rfl,u.out⟩
  ·intro x c kl yd yp w1 KR yy hlx hv hat UE Gb M D7 Aq;obtain⟨x',ex,rfl,hwx⟩:=cB underlying3 yy;cases ex;have zy:=AX hwx;obtain⟨Z,cs,ca,V,U⟩:=c;rw[zj]at hv;have hy:yd=.held ⟨Z,cs,ca,V,U⟩:=by have:=Option.some.inj hv;simp only[e7]at this;exact this.1.symm
   have Q:f x=μ ⟨Z,cs,ca,V,U⟩:=by
    cases e:f x with
    |none=>
     have S:=H0.out x zy e .nil;rw[hat,hy]at S;cases S
    |some s=>
     have S:=H1.out x s zy e .nil;rw[hat,hy]at S;cases S;rfl
   obtain⟨hx6,hxo,CG,kh,J⟩:=HF.out x _ zy Q;simp only at hxo CG kh J;subst hxo;have h6:=hC.few (λk s Y e=>(HF.out k s Y e).1);have afd:(ga (π (μ ⟨w.heap.size,0,ν⟩))).run eX w1=.ok (τ #[ι κ Z,.agg #[ι κ Z,ι κ cs,σ ca V U]]) w1:=Aq;have kA:eE w w1:=⟨M.os.trans hC.nT.os,M.tape.trans hC.nT.tape,M.output.trans hC.nT.output,Nat.le_trans hC.nT.size M.size,λi hi=>(M.block i eh (λe=>by simp at e;omega)).trans (hC.nT.block i hi)⟩
   have Da:=DN Z cs ca V U (es Z) (w1.alloc (γ #[ι κ Z,ι κ cs,σ ca V U] 40)) J kh (CG.below (kA.alloc kA.size _));have T:Hid _:=hC;have HX:Hid (left (.int .i64 Z)=true/\sY Z/\f Z=μ ⟨Z,cs,ca,V,U⟩/\wr.grownBy w1 (μ w.heap.size)/\w1.heap.size=wr.heap.size/\w.heap.size<wr.heap.size/\out.length<=6):=⟨hlx,zy,Q,M,D7,hww,h6⟩
   have HG:Hid (w1.ranges eX 3 tq b w.heap.size n D (λz=>left z&& !z.sameKey (.int .i64 Z)) KR):=UE;have HM:Hid _:=Gb;have HO:Hid (wr.rangeLeft b w.heap.size=H):=G4.left_eq;clear hC hlx zy Q M D7 hww h6 UE Gb G4 Aq hat hy hv yy hwx hx6 CG kh J kA;go_wp2_with(fail);refine Da.mono ?_;rintro e E ⟨⟨va,vc,rfl,vo,vn,vl,F9⟩,k2⟩;clear Da afd;have vY:Row E 3 u3 out.length (KS out):=by
    obtain⟨q1,q2,q3,q4,q5,q6,q7⟩:=HX.out;have s1:(w1.alloc (γ #[ι κ Z,ι κ cs,σ ca V U] 40)).heap.size=w1.heap.size+1:=gY;refine T.out.row.keep (by have:=k2.size;omega) (λk Y=> ?_);have Xe:=T.out.row.lt k Y;have rJ:=T.out.own k Y;exact(k2.block k eh).trans (((gW w1 _).block k eh).trans (q4.block k Xe (λe=>by simp at e;omega)))
   have h7:out.length<=6:=HX.out.2.2.2.2.2.2;obtain⟨m,hm⟩:=gg (out.length);rw[hm]at vY h7;have HN:Hid _:=hm;clear hm;go_wp2_with(at_builtin;go_must(refine iG _ rfl (.tmp 12) (.tmp 15) 91 rfl 40 i0 (.agg #[ι κ 0,ι κ 0,σ ν 0 0]) 3 40 underlying91 hi ox nh mO rfl eA u3 m (KS out) rfl (vY.alloc _) _ 1 1 [ι κ Z,ι κ cs,σ va (es Z).length vc] rfl rfl eA (BU _ _ _ _ _ _ gY) (UN _ _ _ _ _) (by unfold maxLen;omega) eh ?_));intro g' jr w3 sA sE sy;have u:Hid (w3.ranges eX 3 tq b w.heap.size n D (λz=>left z&& !z.sameKey (.int .i64 Z)) KR/\w.heap.size<w3.heap.size/\UM w w3 f es (λz=>left z&& !z.sameKey (.int .i64 Z)) (σ (μ ⟨g',0,ν⟩) (m+1) jr) (out++ [⟨Z,cs,va,(es Z).length,vc⟩])):=by
    obtain⟨q1,q2,q3,q4,q5,q6,q7⟩:=HX.out;have G:=Nu k2 sE;have s1:(w1.alloc (γ #[ι κ Z,ι κ cs,σ ca V U] 40)).heap.size=w1.heap.size+1:=gY;have s2:(E.alloc (γ #[ι κ Z,ι κ cs,σ va (es Z).length vc] 40)).heap.size=E.heap.size+1:=gY;have k2s:=k2.size;have g3s:=sE.size;have X:∀k,u3.ownBlock=μ k->w.heap.size<k/\k<wr.heap.size:=λk Y=>⟨T.out.own k Y,T.out.row.lt k Y⟩
    refine⟨World.ranges.kept HG.out G (λe=>by have:=X b e.symm;omega) (λe=>by have:=X _ e.symm;omega),eh,?_⟩;refine T.out.step (s:=⟨Z,cs,va,(es Z).length,vc⟩) (t:=⟨Z,cs,ca,V,U⟩) q4 G (by rw[HN.out];exact sA) (λg hg=> ?_) q6 (λj hj=> ?_) q2 q1 q3 rfl rfl (vo.kept (cap:=vc) (λj hj=> ?_)) vn
    ·have QB:g'=g:=by simpa[eu]using hg
     subst QB;rcases sy with e|e
     ·exact .inl e
     ·right;omega
    ·obtain⟨c1,c2⟩:=F9 j hj;refine⟨eh,eh,λe=> ?_⟩;have QB:g'=j:=by simpa[eu]using e
     subst QB;rcases sy with e|e
     ·have:=X _ e;omega
     ·omega
    ·obtain⟨c1,c2⟩:=F9 j hj;exact(sE.block j eh (λe=>by have:=X j e.symm;omega)).trans ((gW E _).block j c2)
   have G5:Hid (w3.rangeLeft b w.heap.size<wr.rangeLeft b w.heap.size):=by
    show _<_;rw[World.ranges.left_eq u.out.1,HO.out];exact HM.out
   clear sA sE sy k2 vo F9 vY HO
   go_wp2
   go_roundw
   case rel=>exact⟨_,KR,_,u.out⟩
   case measure=>exact G5.out
