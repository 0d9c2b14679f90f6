import Derived.Test.YtieklnlbljejdaaGreatDoorG04
open Go.Value renaming int → ι, slice → σ, pointer → π, tuple → τ, nilIface → η
open Go.IntKind renaming i64 → κ
open Go.Ending renaming returned → ρ
open Go.Obj renaming cells → γ
open Option renaming none → ν, some → μ
open Go renaming World → eB, Calls → fj
open Go.Proofs.Tryz renaming prog → fk
open Go.Instr renaming lookup → fI
open Go.Value renaming ownBlock → eF
set_option maxRecDepth 100000
set_option maxHeartbeats 4000000
namespace Go.Proofs.YtieklnlbljejdaaGreatDoor
open Go.RowKit St
variable {B b n:Nat} {f fd fs kn:Int->Option SV} {left:Lit->Bool} {m:FM} {ow:Nat->Int->Option SV} {w w':World} {x:Int}
def del(f:Int->Option SV)(k:Int):Int->Option SV:=λx=>if x=k then ν else f x
theorem FB.mlt(h:FB w B m n kn ow):∀x,x=m.bm \/x∈m.bs->x<w.heap.size:=by
 intro x hx;rcases hx with rfl|hx
 ·exact h.km.lt
 ·obtain⟨i,hi⟩:=List.getElem?_of_mem hx;exact(h.om i x hi).lt
theorem FB.mono {w:eB} {B:Nat} {m:FM} {n n':Nat} {kn:Int->Option SV} {ow:Nat->Int->Option SV} (h:FB w B m n kn ow)(hn:n<=n'):FB w B m n' kn ow:=⟨h.nN,h.row,h.km.mono hn,λi b e=>(h.om i b e).mono hn,h.few,h.nB,h.nd⟩
theorem Ri {W V:eB} {C:Array Value} (h:FB w B m n kn ow)(hX:W.heap[w.heap.size]? =μ (γ C 40 (0,0)))(hV:jN W V m):V.heap[w.heap.size]? =μ (γ C 40 (0,0)):=
 (hV.block w.heap.size (aw.1 hX).1 (λe=>by have:=h.mlt m.bm (.inl rfl);omega) (λe=>by have:=h.mlt _ (.inr e);omega)).trans hX
theorem take_zero(B:Nat)(m:FM)(k:Nat)(kn:Int->Option SV)(ow:Nat->Int->Option SV)(p:Nat)(own seq:Int)(a:Option Addr)(n cap:Nat)(es:List j2)(w:eB)(h:FB w B m k kn ow)(hr:rS own)(hp:p<m.bs.length)(ho:jm w a n es)(hn:n<=maxLen)(hf:pj own seq es=0)
 (rM:∀W,eN w W->fj fk 217 #[π (μ ⟨B,0,ν⟩),.agg #[ι κ own,ι κ seq,σ a n cap]] W λe w'=>e=ρ (ι κ 0)/\eN W w'):
 fj fk 190 #[π (μ ⟨B,0,ν⟩),ι κ (p:Int),.agg #[ι κ own,ι κ seq,σ a n cap]] w λe w'=>e=ρ (τ #[ι κ 0,η])/\FB w' B m k kn (λi=>if i=p then del (ow p) own else ow i)/\jN w w' m:=by
 have hb:=iB w (γ #[ι κ own,ι κ seq,σ a n cap] 40);obtain⟨W1,ke⟩:=gH (w.alloc (γ #[ι κ own,ι κ seq,σ a n cap] 40));have pO:W1.heap[w.heap.size]? =μ (γ #[ι κ own,ι κ seq,σ a n cap] 40 (0,0)):=by rw[<-ke];exact aV w _
 rw[ke]at hb;have HW:Hid _:=ke;have rv:=pV B m k kn ow (p:Int) own seq a n cap es W1 (h.below hb) hn (ho.below hb);have qD:uC m.bs.length (p:Int) own seq es=0:=by rw[uC,ag eE,hf]
 have E0:jy 0=η:=rfl;rw[qD,E0]at rv;have Rj:Hid _:=rM;have WS:(p:Int)<(m.bs.length:Int):=eE;have uo:=h.few;clear ke qD E0 rM hf
 go_in
 go_wp2_with(fail);rw[HW.out];refine rv.mono ?_;rintro e w2 ⟨rfl,k2⟩;have b2:=iA hb k2;have qE:=(k2.block _ (aw.1 pO).1).trans pO;have x0:w2.cell? ⟨w.heap.size,0,ν⟩=μ (ι κ own):=av w2 _ 0 _ _ (0,0) qE;have x1:w2.cell? ⟨w.heap.size,1,ν⟩=μ (ι κ seq):=av w2 _ 1 _ _ (0,0) qE;have x2:w2.cell? ⟨w.heap.size,2,ν⟩=μ (σ a n cap):=av w2 _ 2 _ _ (0,0) qE;have xl:w.heap.size<w2.heap.size:=af w2 _ x0;clear rv pO hb k2;go_wp2_with(fail);refine(Rj.out w2 b2).mono ?_;rintro e w3 ⟨rfl,k3⟩;have b3:=iA b2 k3;have xG:=(k3.block _ xl).trans qE;clear x0 x1 x2 xl qE;have x0:w3.cell? ⟨w.heap.size,0,ν⟩=μ (ι κ own):=av w3 _ 0 _ _ (0,0) xG;have xl:w.heap.size<w3.heap.size:=af w3 _ x0;have F3:=h.below b3;have Mt:eN w w3.drew:=below_drewN b3 1;have JW:=h.below Mt;have ui:m.bs[p]? =μ m.bs[p] :=ay hp;obtain⟨W5,FI,S5,T5⟩:=(JW.om p _ ui).drop own hr 0;have F5:=JW.Kh ui T5 S5 (Nat.le_refl _);have M5:jN w W5 m:=(jN.je m Mt).trans (jN.oU T5 (.inr (aE _)));have c1:w3.cell? ⟨B,1,ν⟩=μ (σ (μ ⟨m.g,0,ν⟩) m.bs.length m.cap):=F3.c1;have lB:=F3.lt;have cp:=F3.port p _ ui;have gl:m.g<w3.heap.size:=af w3 _ cp;generalize m.bs[p] =bp at cp FI;clear F3 JW S5 T5 ui k3
 go_wp2
 go_region
 all_goals
  go_wp2
  go_ret2
  exact⟨rfl,F5,M5⟩
theorem Rl(B:Nat)(m:FM)(k:Nat)(kn:Int->Option SV)(ow:Nat->Int->Option SV)(p:Nat)(own seq:Int)(a:Option Addr)(n cap:Nat)(es:List j2)(w:eB)(h:FB w B m k kn ow)(hr:rS own)(hp:p<m.bs.length)(ho:jm w a n es)(hn:n<=maxLen)(hf:pj own seq es=0)(t:SV)(ht:kn own=μ t)(hk:k<=1000000)
 (rM:∀W,eN w W->fj fk 217 #[π (μ ⟨B,0,ν⟩),.agg #[ι κ own,ι κ seq,σ a n cap]] W λe w'=>e=ρ (ι κ (-1))/\eN W w'):
 fj fk 190 #[π (μ ⟨B,0,ν⟩),ι κ (p:Int),.agg #[ι κ own,ι κ seq,σ a n cap]] w λe w'=>e=ρ (τ #[ι κ (-1),η])/\FB w' B m (k+1) kn (λi=>if i=p then wv (ow p) own t else ow i)/\jN w w' m:=by
 have hb:=iB w (γ #[ι κ own,ι κ seq,σ a n cap] 40);obtain⟨W1,ke⟩:=gH (w.alloc (γ #[ι κ own,ι κ seq,σ a n cap] 40));have pO:W1.heap[w.heap.size]? =μ (γ #[ι κ own,ι κ seq,σ a n cap] 40 (0,0)):=by rw[<-ke];exact aV w _
 rw[ke]at hb;have HW:Hid _:=ke;have rv:=pV B m k kn ow (p:Int) own seq a n cap es W1 (h.below hb) hn (ho.below hb);have qD:uC m.bs.length (p:Int) own seq es=0:=by rw[uC,ag eE,hf]
 have E0:jy 0=η:=rfl;rw[qD,E0]at rv;have Rj:Hid _:=rM;have WS:(p:Int)<(m.bs.length:Int):=eE;have uo:=h.few;clear ke qD E0 rM hf
 go_in
 go_wp2_with(fail);rw[HW.out];refine rv.mono ?_;rintro e w2 ⟨rfl,k2⟩;have b2:=iA hb k2;have qE:=(k2.block _ (aw.1 pO).1).trans pO;have x0:w2.cell? ⟨w.heap.size,0,ν⟩=μ (ι κ own):=av w2 _ 0 _ _ (0,0) qE;have x1:w2.cell? ⟨w.heap.size,1,ν⟩=μ (ι κ seq):=av w2 _ 1 _ _ (0,0) qE;have x2:w2.cell? ⟨w.heap.size,2,ν⟩=μ (σ a n cap):=av w2 _ 2 _ _ (0,0) qE;have xl:w.heap.size<w2.heap.size:=af w2 _ x0;clear rv pO hb k2;go_wp2_with(fail);refine(Rj.out w2 b2).mono ?_;rintro e w3 ⟨rfl,k3⟩;have b3:=iA b2 k3;have xG:=(k3.block _ xl).trans qE;clear x0 x1 x2 xl qE;have x0:w3.cell? ⟨w.heap.size,0,ν⟩=μ (ι κ own):=av w3 _ 0 _ _ (0,0) xG;have xl:w.heap.size<w3.heap.size:=af w3 _ x0;have F3:=h.below b3;have Mt:eN w w3.drew:=below_drewN b3 1;have JW:=h.below Mt;have ui:m.bs[p]? =μ m.bs[p] :=ay hp;have qN:(fI 211 (.map (μ m.bm)) (ι κ own) false).run fk w3.drew=.ok t.v w3.drew:=by
  have:=JW.km.look own hr;rw[ht]at this;exact this
 obtain⟨W5,FI,S5,T5⟩:=(JW.om p _ ui).store (by unfold maxLen;omega) own hr t;have F5:=JW.Kh ui T5 S5 (Nat.le_succ _);have M5:jN w W5 m:=(jN.je m Mt).trans (jN.oU T5 (.inr (aE _)));have c0:=F3.c0;have c1:w3.cell? ⟨B,1,ν⟩=μ (σ (μ ⟨m.g,0,ν⟩) m.bs.length m.cap):=F3.c1;have lB:=F3.lt;have cp:=F3.port p _ ui;have gl:m.g<w3.heap.size:=af w3 _ cp;generalize m.bs[p] =bp at cp FI;generalize t.v=tv at qN FI;clear F3 JW S5 T5 ui k3 ht
 go_wp2
 go_region
 all_goals
  go_wp2
  go_ret2
  exact⟨rfl,F5,M5⟩
structure abE(w w':eB)(B:Nat)(m:FM)(n:Nat)(kn:Int->Option SV)(ow:Nat->Int->Option SV)(p:Nat)(own seq:Int)(es:List j2)(s:SV):Prop where
 so:s.own=own
 ss:s.seq=seq
 sn:s.n=es.length
 so2:jm w' s.a s.n es
 nil:kM s.a s.cap
 new:∀j,eF (σ s.a s.n s.cap)=μ j->w.heap.size<=j/\j<w'.heap.size
 fb:FB w' B m (n+1+m.bs.length) (wv kn own s) (λi=>if i=p then del (wv (ow p) own s) own else if i<m.bs.length then wv (ow i) own s else ow i)
 kept:jN w w' m
theorem Rm(B:Nat)(m:FM)(k:Nat)(kn:Int->Option SV)(ow:Nat->Int->Option SV)(p:Nat)(own seq:Int)(a:Option Addr)(n cap:Nat)(es:List j2)(w:eB)(h:FB w B m k kn ow)(hr:rS own)(hp:p<m.bs.length)(ho:jm w a n es)(hn:n<=maxLen)(kj:kM a cap)(hk:k<=1000000)(hf:pj own seq es=0)
 (rM:∀W,eN w W->fj fk 217 #[π (μ ⟨B,0,ν⟩),.agg #[ι κ own,ι κ seq,σ a n cap]] W λe w'=>e=ρ (ι κ 1)/\eN W w'):
 fj fk 190 #[π (μ ⟨B,0,ν⟩),ι κ (p:Int),.agg #[ι κ own,ι κ seq,σ a n cap]] w λe w'=>e=ρ (τ #[ι κ 1,η])/\∃s,abE w w' B m k kn ow p own seq es s:=by
 have hb:=iB w (γ #[ι κ own,ι κ seq,σ a n cap] 40);obtain⟨W1,ke⟩:=gH (w.alloc (γ #[ι κ own,ι κ seq,σ a n cap] 40));have pO:W1.heap[w.heap.size]? =μ (γ #[ι κ own,ι κ seq,σ a n cap] 40 (0,0)):=by rw[<-ke];exact aV w _
 rw[ke]at hb;have HW:Hid _:=ke;have rv:=pV B m k kn ow (p:Int) own seq a n cap es W1 (h.below hb) hn (ho.below hb);have qD:uC m.bs.length (p:Int) own seq es=0:=by rw[uC,ag eE,hf]
 have E0:jy 0=η:=rfl;rw[qD,E0]at rv;have Rj:Hid _:=rM;have HN:Hid (n<=6):=by show n<=6;have:=(jT hf).2.2.1;rw[ho.1]at this;exact this
 have WS:(p:Int)<(m.bs.length:Int):=eE;have uo:=h.few;clear ke qD E0 rM hf
 go_in
 go_wp2_with(fail);rw[HW.out];refine rv.mono ?_;rintro e w2 ⟨rfl,k2⟩;have b2:=iA hb k2;have qE:=(k2.block _ (aw.1 pO).1).trans pO;have x0:w2.cell? ⟨w.heap.size,0,ν⟩=μ (ι κ own):=av w2 _ 0 _ _ (0,0) qE;have x1:w2.cell? ⟨w.heap.size,1,ν⟩=μ (ι κ seq):=av w2 _ 1 _ _ (0,0) qE;have x2:w2.cell? ⟨w.heap.size,2,ν⟩=μ (σ a n cap):=av w2 _ 2 _ _ (0,0) qE;have xl:w.heap.size<w2.heap.size:=af w2 _ x0;clear rv pO hb k2;go_wp2_with(fail);refine(Rj.out w2 b2).mono ?_;rintro e w3 ⟨rfl,k3⟩;have b3:=iA b2 k3;have xG:=(k3.block _ xl).trans qE;clear x0 x1 x2 xl qE;have x0:w3.cell? ⟨w.heap.size,0,ν⟩=μ (ι κ own):=av w3 _ 0 _ _ (0,0) xG;have xl:w.heap.size<w3.heap.size:=af w3 _ x0;have x1:w3.cell? ⟨w.heap.size,1,ν⟩=μ (ι κ seq):=av w3 _ 1 _ _ (0,0) xG;have x2:w3.cell? ⟨w.heap.size,2,ν⟩=μ (σ a n cap):=av w3 _ 2 _ _ (0,0) xG;have F3:=h.below b3;have hn6:n<=1000000:=by have:=HN.out;omega
 have hle:=Eo B m k kn ow own seq a n cap es w3 F3 hr (ho.below b3) kj hn6 hk;clear k3;go_wp2_with(fail);refine hle.mono ?_;rintro e w4 ⟨rfl,s,hL⟩;clear hle x0 x1 x2 xl;have hX4:=Ri h xG hL.kept;have x0:w4.cell? ⟨w.heap.size,0,ν⟩=μ (ι κ own):=av w4 _ 0 _ _ (0,0) hX4;have xl:w.heap.size<w4.heap.size:=af w4 _ x0;have F4:=hL.fb;have F4d:=F4.below (show eN w4 w4.drew from below_drewN (au _ _) 1);have ui:m.bs[p]? =μ m.bs[p] :=ay hp;obtain⟨W5,FI,S5,T5⟩:=(F4d.om p _ ui).drop own hr 0;have F5:=F4d.Kh ui T5 S5 (Nat.le_refl _);have M45:jN w4 W5 m:=(jN.je m (show eN w4 w4.drew from below_drewN (au _ _) 1)).trans (jN.oU T5 (.inr (aE _)));have hT:Hid (abE w W5 B m k kn ow p own seq es s):=by
  have tQ:∀x,eF (σ s.a s.n s.cap)=μ x->x≠m.bm/\x∉m.bs:=λx hx=>by
   have h1:=(hL.new x hx).1;have h2:=b3.size;exact⟨λe=>by have:=h.mlt m.bm (.inl rfl);omega,λe=>by have:=h.mlt x (.inr e);omega⟩
  refine⟨hL.so,hL.ss,hL.sn,hL.so2.QE (cap:=s.cap) M45 tQ,hL.nil,λj hj=> ?_,?_,((jN.je m b3).trans hL.kept).trans M45⟩
  ·have:=hL.new j hj;have h2:=b3.size;have h3:=M45.size;omega
  ·have e:(λi=>if i=p then del (wv (ow p) own s) own else if i<m.bs.length then wv (ow i) own s else ow i)=(λj=>if j=p then(λx=>if x=own then ν else(λi=>if i<m.bs.length then wv (ow i) own s else ow i) p x)else(λi=>if i<m.bs.length then wv (ow i) own s else ow i) j):=by
    funext i
    by_cases h1:i=p
    ·rw[ag h1,ag h1]
     funext x
     simp only[del,if_pos hp]
    ·rw[ae h1,ae h1]
   rw[e];exact F5
 have c1:w4.cell? ⟨B,1,ν⟩=μ (σ (μ ⟨m.g,0,ν⟩) m.bs.length m.cap):=F4.c1;have lB:=F4.lt;have cp:=F4.port p _ ui;have gl:m.g<w4.heap.size:=af w4 _ cp;generalize m.bs[p] =bp at cp FI;clear F3 F4 F4d S5 T5 ui hL F5 M45
 go_wp2
 go_region
 all_goals
  go_wp2
  go_ret2
  exact⟨rfl,s,hT.out⟩
theorem Rn {c:Nat} (h:c≠0):jy c=.iface 128 (ι κ (c:Int)):=by rw[jy,ae h]
theorem Ro(B:Nat)(m:FM)(k:Nat)(kn:Int->Option SV)(ow:Nat->Int->Option SV)(p:Nat)(w:eB)(h:FB w B m k kn ow)(hp:p<m.bs.length):
 fj fk 124 #[π (μ ⟨B,0,ν⟩),ι κ (p:Int)] w λe w'=>e=ρ (τ #[])/\FB w' B m k kn (λi=>if i=p then λ_=>ν else ow i)/\jN w w' m:=by
 have hh:=A5 B m k kn ow (p:Int) w h;have hv:(decide (0<=(p:Int))&&decide ((p:Int)<(m.bs.length:Int)))=true:=by
  simp;omega
 rw[hv]at hh;clear hv;have WS:(p:Int)<(m.bs.length:Int):=eE;have uo:=h.few;have ui:m.bs[p]? =μ m.bs[p] :=ay hp;obtain⟨W5,FI,S5,T5⟩:=(h.om p _ ui).clear 0;have F5:=h.Kh ui T5 S5 (Nat.le_refl _);have M5:jN w W5 m:=jN.oU T5 (.inr (aE _));have c1:w.cell? ⟨B,1,ν⟩=μ (σ (μ ⟨m.g,0,ν⟩) m.bs.length m.cap):=h.c1;have lB:=h.lt;have cp:=h.port p _ ui;have gl:m.g<w.heap.size:=af w _ cp;generalize m.bs[p] =bp at cp FI;clear S5 T5 ui
 go_in
 go_wp2_with(fail);refine hh.mono ?_;rintro e w1 ⟨rfl,rfl⟩;clear hh
 go_wp2
 first|go_end0|refine aj (ar rfl _ _ _) rfl ?_
 exact⟨rfl,F5,M5⟩
theorem Yw(B:Nat)(m:FM)(k:Nat)(kn:Int->Option SV)(ow:Nat->Int->Option SV)(own seq:Int)(a:Option Addr)(n cap:Nat)(es:List j2)(w:eB)(h:FB w B m k kn ow)(hr:rS own)(ho:jm w a n es)(kj:kM a cap)(hk:k<=1000000)(hf:pj own seq es=0):
 fj fk 67 #[π (μ ⟨B,0,ν⟩),.agg #[ι κ own,ι κ seq,σ a n cap]] w λe w'=>e=ρ η/\∃s,FH w w' B m k kn ow own seq es s:=by
 have hn6:n<=1000000:=by have:=(jT hf).2.2.1;rw[ho.1]at this;omega
 have hb:=iB w (γ #[ι κ own,ι κ seq,σ a n cap] 40);obtain⟨W1,ke⟩:=gH (w.alloc (γ #[ι κ own,ι κ seq,σ a n cap] 40));have pO:W1.heap[w.heap.size]? =μ (γ #[ι κ own,ι κ seq,σ a n cap] 40 (0,0)):=by rw[<-ke];exact aV w _
 rw[ke]at hb;have HW:Hid _:=ke;have rv:=yN own seq a n cap es W1 (by unfold maxLen;omega) (ho.below hb);have E0:jy 0=η:=rfl;rw[hf,E0]at rv;clear ke E0 hf
 go_in
 go_wp2_with(fail);rw[HW.out];refine rv.mono ?_;rintro e w2 ⟨rfl,k2⟩;have b2:=iA hb k2;have qE:=(k2.block _ (aw.1 pO).1).trans pO;have x0:w2.cell? ⟨w.heap.size,0,ν⟩=μ (ι κ own):=av w2 _ 0 _ _ (0,0) qE;have x1:w2.cell? ⟨w.heap.size,1,ν⟩=μ (ι κ seq):=av w2 _ 1 _ _ (0,0) qE;have x2:w2.cell? ⟨w.heap.size,2,ν⟩=μ (σ a n cap):=av w2 _ 2 _ _ (0,0) qE;have xl:w.heap.size<w2.heap.size:=af w2 _ x0;have hle:=Eo B m k kn ow own seq a n cap es w2 (h.below b2) hr (ho.below b2) kj hn6 hk;clear rv pO hb k2;go_wp2_with(fail);refine hle.mono ?_;rintro e w4 ⟨rfl,s,hL⟩;have b2s:=b2.size;have HL:Hid (∃s,FH w w4 B m k kn ow own seq es s):=⟨s,hL.so,hL.ss,hL.sn,hL.so2,hL.nil,λj hj=>⟨Nat.le_trans b2s (hL.new j hj).1,(hL.new j hj).2⟩,hL.fb,(jN.je m b2).trans hL.kept⟩
 clear hle x0 x1 x2 xl hL b2s b2
 go_wp2
 go_ret;exact⟨rfl,HL.out⟩
theorem Kz(B:Nat)(m:FM)(k:Nat)(kn:Int->Option SV)(ow:Nat->Int->Option SV)(p:Nat)(own seq:Int)(a:Option Addr)(n cap:Nat)(es:List j2)(w:eB)(h:FB w B m k kn ow)(hr:rS own)(hp:p<m.bs.length)(ho:jm w a n es)(hn:n<=maxLen)(hf:pj own seq es=0)
 (rM:∀W,eN w W->fj fk 217 #[π (μ ⟨B,0,ν⟩),.agg #[ι κ own,ι κ seq,σ a n cap]] W λe w'=>e=ρ (ι κ 0)/\eN W w'):
 fj fk 191 #[π (μ ⟨B,0,ν⟩),ι κ (p:Int),.agg #[ι κ own,ι κ seq,σ a n cap]] w λe w'=>e=ρ η/\FB w' B m k kn (λi=>if i=p then del (ow p) own else ow i)/\jN w w' m:=by
 have hb:=iB w (γ #[ι κ own,ι κ seq,σ a n cap] 40);obtain⟨W1,ke⟩:=gH (w.alloc (γ #[ι κ own,ι κ seq,σ a n cap] 40));have pO:W1.heap[w.heap.size]? =μ (γ #[ι κ own,ι κ seq,σ a n cap] 40 (0,0)):=by rw[<-ke];exact aV w _
 rw[ke]at hb;have HW:Hid _:=ke;have rv:=pV B m k kn ow (p:Int) own seq a n cap es W1 (h.below hb) hn (ho.below hb);have qD:uC m.bs.length (p:Int) own seq es=0:=by rw[uC,ag eE,hf]
 have E0:jy 0=η:=rfl;rw[qD,E0]at rv;have Rj:Hid _:=rM;have WS:(p:Int)<(m.bs.length:Int):=eE;have uo:=h.few;clear ke qD E0 rM hf
 go_in
 go_wp2_with(fail);rw[HW.out];refine rv.mono ?_;rintro e w2 ⟨rfl,k2⟩;have b2:=iA hb k2;have qE:=(k2.block _ (aw.1 pO).1).trans pO;have x0:w2.cell? ⟨w.heap.size,0,ν⟩=μ (ι κ own):=av w2 _ 0 _ _ (0,0) qE;have x1:w2.cell? ⟨w.heap.size,1,ν⟩=μ (ι κ seq):=av w2 _ 1 _ _ (0,0) qE;have x2:w2.cell? ⟨w.heap.size,2,ν⟩=μ (σ a n cap):=av w2 _ 2 _ _ (0,0) qE;have xl:w.heap.size<w2.heap.size:=af w2 _ x0;clear rv pO hb k2;go_wp2_with(fail);refine(Rj.out w2 b2).mono ?_;rintro e w3 ⟨rfl,k3⟩;have b3:=iA b2 k3;have xG:=(k3.block _ xl).trans qE;clear x0 x1 x2 xl qE;have x0:w3.cell? ⟨w.heap.size,0,ν⟩=μ (ι κ own):=av w3 _ 0 _ _ (0,0) xG;have xl:w.heap.size<w3.heap.size:=af w3 _ x0;have F3:=h.below b3;have Mt:eN w w3.drew:=below_drewN b3 1;have JW:=h.below Mt;have ui:m.bs[p]? =μ m.bs[p] :=ay hp;obtain⟨W5,FI,S5,T5⟩:=(JW.om p _ ui).drop own hr 0;have F5:=JW.Kh ui T5 S5 (Nat.le_refl _);have M5:jN w W5 m:=(jN.je m Mt).trans (jN.oU T5 (.inr (aE _)));have c1:w3.cell? ⟨B,1,ν⟩=μ (σ (μ ⟨m.g,0,ν⟩) m.bs.length m.cap):=F3.c1;have lB:=F3.lt;have cp:=F3.port p _ ui;have gl:m.g<w3.heap.size:=af w3 _ cp;generalize m.bs[p] =bp at cp FI;clear F3 JW S5 T5 ui k3
 go_wp2
 go_region
 all_goals
  go_wp2
  go_ret;exact⟨rfl,F5,M5⟩
theorem N7(B:Nat)(m:FM)(k:Nat)(kn:Int->Option SV)(ow:Nat->Int->Option SV)(p:Nat)(own seq:Int)(a:Option Addr)(n cap:Nat)(es:List j2)(w:eB)(h:FB w B m k kn ow)(hr:rS own)(hp:p<m.bs.length)(ho:jm w a n es)(hn:n<=maxLen)(hf:pj own seq es=0)
 (rM:∀W,eN w W->fj fk 217 #[π (μ ⟨B,0,ν⟩),.agg #[ι κ own,ι κ seq,σ a n cap]] W λe w'=>e=ρ (ι κ 1)/\eN W w'):
 fj fk 191 #[π (μ ⟨B,0,ν⟩),ι κ (p:Int),.agg #[ι κ own,ι κ seq,σ a n cap]] w λe w'=>e=ρ η/\FB w' B m k kn (λi=>if i=p then del (ow p) own else ow i)/\jN w w' m:=by
 have hb:=iB w (γ #[ι κ own,ι κ seq,σ a n cap] 40);obtain⟨W1,ke⟩:=gH (w.alloc (γ #[ι κ own,ι κ seq,σ a n cap] 40));have pO:W1.heap[w.heap.size]? =μ (γ #[ι κ own,ι κ seq,σ a n cap] 40 (0,0)):=by rw[<-ke];exact aV w _
 rw[ke]at hb;have HW:Hid _:=ke;have rv:=pV B m k kn ow (p:Int) own seq a n cap es W1 (h.below hb) hn (ho.below hb);have qD:uC m.bs.length (p:Int) own seq es=0:=by rw[uC,ag eE,hf]
 have E0:jy 0=η:=rfl;rw[qD,E0]at rv;have Rj:Hid _:=rM;have WS:(p:Int)<(m.bs.length:Int):=eE;have uo:=h.few;clear ke qD E0 rM hf
 go_in
 go_wp2_with(fail);rw[HW.out];refine rv.mono ?_;rintro e w2 ⟨rfl,k2⟩;have b2:=iA hb k2;have qE:=(k2.block _ (aw.1 pO).1).trans pO;have x0:w2.cell? ⟨w.heap.size,0,ν⟩=μ (ι κ own):=av w2 _ 0 _ _ (0,0) qE;have x1:w2.cell? ⟨w.heap.size,1,ν⟩=μ (ι κ seq):=av w2 _ 1 _ _ (0,0) qE;have x2:w2.cell? ⟨w.heap.size,2,ν⟩=μ (σ a n cap):=av w2 _ 2 _ _ (0,0) qE;have xl:w.heap.size<w2.heap.size:=af w2 _ x0;clear rv pO hb k2;go_wp2_with(fail);refine(Rj.out w2 b2).mono ?_;rintro e w3 ⟨rfl,k3⟩;have b3:=iA b2 k3;have xG:=(k3.block _ xl).trans qE;clear x0 x1 x2 xl qE;have x0:w3.cell? ⟨w.heap.size,0,ν⟩=μ (ι κ own):=av w3 _ 0 _ _ (0,0) xG;have xl:w.heap.size<w3.heap.size:=af w3 _ x0;have F3:=h.below b3;have Mt:eN w w3.drew:=below_drewN b3 1;have JW:=h.below Mt;have ui:m.bs[p]? =μ m.bs[p] :=ay hp;obtain⟨W5,FI,S5,T5⟩:=(JW.om p _ ui).drop own hr 0;have F5:=JW.Kh ui T5 S5 (Nat.le_refl _);have M5:jN w W5 m:=(jN.je m Mt).trans (jN.oU T5 (.inr (aE _)));have c1:w3.cell? ⟨B,1,ν⟩=μ (σ (μ ⟨m.g,0,ν⟩) m.bs.length m.cap):=F3.c1;have lB:=F3.lt;have cp:=F3.port p _ ui;have gl:m.g<w3.heap.size:=af w3 _ cp;generalize m.bs[p] =bp at cp FI;clear F3 JW S5 T5 ui k3
 go_wp2
 go_region
 all_goals
  go_wp2
  go_ret;exact⟨rfl,F5,M5⟩
theorem N8(B:Nat)(m:FM)(k:Nat)(kn:Int->Option SV)(ow:Nat->Int->Option SV)(p:Nat)(own seq:Int)(a:Option Addr)(n cap:Nat)(es:List j2)(w:eB)(h:FB w B m k kn ow)(hp:p<m.bs.length)(ho:jm w a n es)(hn:n<=maxLen)(hf:pj own seq es=0)
 (rM:∀W,eN w W->fj fk 217 #[π (μ ⟨B,0,ν⟩),.agg #[ι κ own,ι κ seq,σ a n cap]] W λe w'=>e=ρ (ι κ (-1))/\eN W w'):
 fj fk 191 #[π (μ ⟨B,0,ν⟩),ι κ (p:Int),.agg #[ι κ own,ι κ seq,σ a n cap]] w λe w'=>e=ρ η/\eN w w':=by
 have hb:=iB w (γ #[ι κ own,ι κ seq,σ a n cap] 40);obtain⟨W1,ke⟩:=gH (w.alloc (γ #[ι κ own,ι κ seq,σ a n cap] 40));have pO:W1.heap[w.heap.size]? =μ (γ #[ι κ own,ι κ seq,σ a n cap] 40 (0,0)):=by rw[<-ke];exact aV w _
 rw[ke]at hb;have HW:Hid _:=ke;have rv:=pV B m k kn ow (p:Int) own seq a n cap es W1 (h.below hb) hn (ho.below hb);have qD:uC m.bs.length (p:Int) own seq es=0:=by rw[uC,ag eE,hf]
 have E0:jy 0=η:=rfl;rw[qD,E0]at rv;have Rj:Hid _:=rM;have WS:(p:Int)<(m.bs.length:Int):=eE;have uo:=h.few;clear ke qD E0 rM hf
 go_in
 go_wp2_with(fail);rw[HW.out];refine rv.mono ?_;rintro e w2 ⟨rfl,k2⟩;have b2:=iA hb k2;have qE:=(k2.block _ (aw.1 pO).1).trans pO;have x0:w2.cell? ⟨w.heap.size,0,ν⟩=μ (ι κ own):=av w2 _ 0 _ _ (0,0) qE;have x1:w2.cell? ⟨w.heap.size,1,ν⟩=μ (ι κ seq):=av w2 _ 1 _ _ (0,0) qE;have x2:w2.cell? ⟨w.heap.size,2,ν⟩=μ (σ a n cap):=av w2 _ 2 _ _ (0,0) qE;have xl:w.heap.size<w2.heap.size:=af w2 _ x0;clear rv pO hb k2;go_wp2_with(fail);refine(Rj.out w2 b2).mono ?_;rintro e w3 ⟨rfl,k3⟩;have b3:=iA b2 k3;have xG:=(k3.block _ xl).trans qE;clear x0 x1 x2 xl qE;clear k3
 go_wp2
 go_ret;exact⟨rfl,b3⟩
theorem ME(B:Nat)(m:FM)(k:Nat)(kn:Int->Option SV)(ow:Nat->Int->Option SV)(i:Int)(t:SV)(ok:Bool)(fs:List j2)(w:eB)(h:FB w B m k kn ow)(hr:rS i)(hd:(kn i).getD SV.zero=t)(hs:(kn i).isSome=ok)(ht:jm w t.a t.n fs)(hn:t.n<=1000000)(kj:kM t.a t.cap):
 fj fk 177 #[π (μ ⟨B,0,ν⟩),ι κ i] w λe w'=>∃(a:Option Addr) (cap:Nat),e=ρ (τ #[.agg #[ι κ t.own,ι κ t.seq,σ a fs.length cap],.bool ok])/\jm w' a fs.length fs/\kM a cap/\eN w w':=by
 obtain⟨tw,ts,ta,tn,tc⟩:=t;simp only at ht hn kj;have hz:=oT;have hb:=iB w (γ #[ι κ 0,ι κ 0,σ ν 0 0] 40);obtain⟨W1,ke⟩:=gH (w.alloc (γ #[ι κ 0,ι κ 0,σ ν 0 0] 40));have pO:W1.heap[w.heap.size]? =μ (γ #[ι κ 0,ι κ 0,σ ν 0 0] 40 (0,0)):=by rw[<-ke];exact aV w _
 have BF:W1.heap.size=w.heap.size+1:=by rw[<-ke];simp
 rw[ke]at hb;have HW:Hid _:=ke;clear ke;have h1:=h.below hb;have qN:(fI 211 (.map (μ m.bm)) (ι κ i) true).run fk W1=.ok (τ #[.agg #[ι κ tw,ι κ ts,σ ta tn tc],.bool ok]) W1:=by
  have:=h1.km.look_ok i hr;rw[hd,hs]at this;exact this
 have c0:=h1.c0;have hl:=h1.lt;have mf:eN w (W1.alloc (γ #[ι κ tw,ι κ ts,σ ta tn tc] 40)):=hb.alloc hb.size _;have A6:=BP tw ts ta tn tc fs _ hn kj (ht.below mf);have hY:(W1.alloc (γ #[ι κ tw,ι κ ts,σ ta tn tc] 40)).heap[w.heap.size]? =μ (γ #[ι κ 0,ι κ 0,σ ν 0 0] 40 (0,0)):=by
  rw[aT _ _ _ eE];exact pO
 have HB:Hid _:=mf;have HY:Hid _:=hY;have HS:Hid _:=BF;clear h h1 hd hs ht hb mf hY pO BF
 go_in
 go_upto_region 1 with fail
 rw[HW.out];go_wp2_with(fail);refine A6.mono ?_;rintro e w2 ⟨⟨va,vc,rfl,vo,vn,vl,DM⟩,k2⟩;clear A6 qN c0;have Kk:=(k2.block _ (aw.1 HY.out).1).trans HY.out;have y0:w2.cell? ⟨w.heap.size,0,ν⟩=μ (ι κ 0):=av w2 _ 0 _ _ (0,0) Kk;have y1:w2.cell? ⟨w.heap.size,1,ν⟩=μ (ι κ 0):=av w2 _ 1 _ _ (0,0) Kk;have y2:w2.cell? ⟨w.heap.size,2,ν⟩=μ (σ ν 0 0):=av w2 _ 2 _ _ (0,0) Kk;have fy:=λj=>bw w2 w.heap.size j _ _ Kk;have ly:w.heap.size<w2.heap.size:=af w2 _ y0;have hk:=iA HB.out k2;have HC:Hid (∀u v x:Value,jm (((w2.setCell ⟨w.heap.size,0,ν⟩ u).setCell ⟨w.heap.size,1,ν⟩ v).setCell ⟨w.heap.size,2,ν⟩ x) va fs.length fs/\kM va vc/\eN w (((w2.setCell ⟨w.heap.size,0,ν⟩ u).setCell ⟨w.heap.size,1,ν⟩ v).setCell ⟨w.heap.size,2,ν⟩ x)):=by
  intro u v x;refine⟨vo.kept (cap:=vc) (λj hj=> ?_),vn,((hk.setCell (Nat.le_refl _) _).setCell (Nat.le_refl _) _).setCell (Nat.le_refl _) _⟩;have h1:=(DM j hj).1;have h2:=HS.out;have h3:w.heap.size+1<=j:=by simp at h1;omega
  rw[ak _ _ _ _ (by show j≠w.heap.size;omega),ak _ _ _ _ (by show j≠w.heap.size;omega),ak _ _ _ _ (by show j≠w.heap.size;omega)]
 clear vo DM k2 Kk hk;go_wp2_with(fail);refine aj (v:=τ #[.agg #[ι κ tw,ι κ ts,σ va fs.length vc],.bool ok]) (by simp[results,Tryz.results177,go_sem,y0,y1,y2]) rfl ?_;exact⟨va,vc,rfl,HC.out _ _ _⟩
open Go.Maps (Keyed)
theorem za(h:(Lit.int .i64 x).wf=true):rS x:=by
 simp[Lit.wf,IntKind.min,IntKind.max,IntKind.signed,IntKind.bits]at h;exact⟨eE,eE⟩
theorem qv(x y:Int):(Lit.int .i64 x).sameKey (.int .i64 y)=decide (x=y):=by simp[Lit.sameKey]
def mix(fd fs:Int->Option SV)(left:Lit->Bool):Int->Option SV:=λk=>if left (.int .i64 k)=false/\(fs k).isSome=true then fs k else fd k
theorem Rp {s:SV} (h:fs x=μ s):(λk=>if k=x then μ s else mix fd fs left k)=mix fd fs (λz=>left z&& !z.sameKey (.int .i64 x)):=by
 funext k
 by_cases e:k=x
 ·subst e;simp[mix,qv,h]
 ·simp[mix,qv,e]
def over(fd fs:Int->Option SV):Int->Option SV:=λk=>if(fs k).isSome=true then fs k else fd k
theorem U6(h:∀kl,left kl=false):mix fd fs left=over fd fs:=by
 funext k
 simp[mix,over,h]
theorem SMap.congr {g:Int->Option SV} (h:SMap w b n f)(e:∀k,rS k->f k=g k):SMap w b n g:=by
 obtain⟨D,h1,h2⟩:=h.own;exact⟨⟨D,h1,λk hk=>by rw[<-e k hk];exact h2 k hk⟩⟩
theorem N9(bd bs nd ns:Nat)(fd fs:Int->Option SV)(w:eB)(hd:SMap w bd nd fd)(hs:SMap w bs ns fs)(jV:bd≠bs)(aiz:nd+ns<=2000000):
 fj fk 181 #[.map (μ bd),.map (μ bs)] w λe w'=>e=ρ (τ #[])/\SMap w' bd (nd+ns) (over fd fs)/\w.grownBy w' (μ bd):=by
 obtain⟨D,jC,KA⟩:=hs.own;have qI:=jC.size_le;have kH:=hd.lt;have Cb:=hs.lt;have hz:=oT;have H0:Hid (∀k,rS k->fs k=ν->∀z,D.atKey (.int .i64 k) z=z):=λk hk e=>by have:=KA k hk;rw[e]at this;exact this
 have H1:Hid (∀k s,rS k->fs k=μ s->∀z,D.atKey (.int .i64 k) z=.held s):=λk s hk e=>by have:=KA k hk;rw[e]at this;exact this
 clear KA hs
 go_in
 go_wp2_with(first
  |(at_range;refine wpList_range_own _ rfl _ 211 rfl 3 40 tP bU rR bs ns _ rfl jC ?_;intro w0 Rq KB WN)
  |fail)
 go_frame
 go_loopw [8] (λ_ wr=>∃(left:Lit->Bool) (WT:Nat),wr.ranges fk 3 rR bs w.heap.size ns D left WT/\WT<=ns/\SMap wr bd (nd+(ns-WT)) (mix fd fs left)/\w.grownBy wr (μ bd))
  (λ_ wr=>wr.rangeLeft bs w.heap.size)
 case atStart=>
  refine⟨_,_,Rq,qI,((hd.kept KB iC).mono eE).congr (λk hk=> ?_),KB.but _⟩;cases e:fs k with
  |none=>simp[mix,e]
  |some s=>simp[mix,Maps.has_true_of_atKey (H1.out k s hk e)]
 case round=>
  clear Rq KB WN jC hd;obtain⟨left,WT,H7,hcs,uq,Ha⟩:=hrel;go_wp2_with(first
   |(at_next;refine wpList_next_ranges _ rfl _ rfl 3 tP rR (Value.int .i64) SV.v (λkey kl wX=>by obtain⟨x,rfl,_⟩:=cB aJ wX;exact⟨x,rfl⟩) (λv y hv=>by obtain⟨s,rfl,_⟩:=vI hv;exact⟨s,rfl⟩) bs w.heap.size ns _ _ _ rfl H7 ?_ ?_)
   |fail)
  ·intro qD wy;have HE:Hid (SMap wr bd (nd+ns) (over fd fs)):=by
    show SMap wr bd (nd+ns) (over fd fs);rw[<-U6 wy];exact uq.mono eE
   clear H7 uq
   go_wp2
   first|go_end0|refine aj (ar rfl _ _ _) rfl ?_
   exact⟨rfl,HE.out,Ha⟩
  ·intro x c kl yd yp w1 Iv wX hlx hv hat Rr DR ki BF Oa;obtain⟨x',ex,rfl,hwx⟩:=cB aJ wX;cases ex;have U7:=za hwx;obtain⟨cw,cs,ca,cn,cc⟩:=c;rw[xO]at hv;have hy:yd=.held ⟨cw,cs,ca,cn,cc⟩:=by have:=Option.some.inj hv;simp only[Prod.mk.injEq]at this;exact this.1.symm
   have WU:fs x=μ ⟨cw,cs,ca,cn,cc⟩:=by
    cases e:fs x with
    |none=>
     have h1:=H0.out x U7 e .nil;rw[hat,hy]at h1;cases h1
    |some s=>
     have h1:=H1.out x s U7 e .nil;rw[hat,hy]at h1;cases h1;rfl
   have WV:=(uq.kept ki (λe=>by have:=Option.some.inj e;omega)).alloc (γ #[ι κ cw,ι κ cs,σ ca cn cc] 40);obtain⟨w2,sE,S2,T2⟩:=WV.store (by unfold maxLen;omega) x U7 ⟨cw,cs,ca,cn,cc⟩;have akK:(Instr.mapUpdate 211 (.map (μ bd)) (ι κ x) (.agg #[ι κ cw,ι κ cs,σ ca cn cc])).run fk (w1.alloc (γ #[ι κ cw,ι κ cs,σ ca cn cc] 40))=.ok () w2:=sE;rw[Rp WU]at S2;have abG:(Instr.entry (π (μ ⟨w.heap.size,0,ν⟩))).run fk w1=.ok (τ #[ι κ x,.agg #[ι κ cw,ι κ cs,σ ca cn cc]]) w1:=Oa;have Yx:=(Rr.alloc (γ #[ι κ cw,ι κ cs,σ ca cn cc] 40)).kept T2.grown (λe=>jV (Option.some.inj e).symm) (λe=>by have:=Option.some.inj e;omega);have vZ:w.grownBy w2 (μ bd):=((Ha.andThen ki (λj hj=>.inl (by cases hj;exact Nat.le_refl _))).andThen ((World.grownBy_alloc w1 (γ #[ι κ cw,ι κ cs,σ ca cn cc] 40) ν).but (μ bd)) (λj hj=>.inr hj)).andThen T2.grown (λj hj=>.inr hj);have HR:Hid (w2.ranges fk 3 rR bs w.heap.size ns D (λz=>left z&& !z.sameKey (.int .i64 x)) Iv/\Iv<=ns/\SMap w2 bd (nd+(ns-Iv)) (mix fd fs (λz=>left z&& !z.sameKey (.int .i64 x)))/\w.grownBy w2 (μ bd)):=⟨Yx,eE,S2.mono eE,vZ⟩
   have HM:Hid (w2.rangeLeft bs w.heap.size<wr.rangeLeft bs w.heap.size):=by
    show _<_;rw[Yx.left_eq,H7.left_eq];exact DR
   clear sE Oa S2 T2 WV uq H7 Rr Yx ki vZ Ha hat hy hv WU hlx wX hwx;go_wp2_with(fail)
   first|go_frame|skip
   go_roundw
   case rel=>exact⟨_,Iv,HR.out⟩
   case measure=>exact HM.out
theorem jN.Rs(g:w.grownBy w' (μ b))(hb:b=m.bm \/b∈m.bs):jN w w' m:=by
 refine⟨g.os,g.tape,g.output,g.size,λi hi h1 h2=>g.block i hi (λe=> ?_)⟩;have:i=b:=by simpa using e
 subst this;rcases hb with hb|hb
 ·exact h1 hb
 ·exact h2 hb
theorem rU {x:Nat} (h:w.grownBy w' (μ b))(hx:x<w.heap.size)(jV:x≠b):w'.heap[x]? =w.heap[x]? :=h.block x hx (λe=>jV (by simpa using e))
theorem FB.afO {n':Nat} {i:Nat} (h:FB w B m n kn ow)(hi:m.bs[i]? =μ b)(ht:w.grownBy w' (μ b))(hk:SMap w' b n' f)(hn:n<=n'):FB w' B m n' kn (λj=>if j=i then f else ow j):=by
 have hb:=h.nB.2.2.2 b (bC hi);refine⟨(rU ht h.lt (λe=>hb.1 e.symm)).trans h.nN,h.row.keep ht.size (λk sg=> ?_),(h.km.keep (rU ht h.km.lt (λe=>hb.2.2 e.symm))).mono hn,λj c e=> ?_,h.few,h.nB,h.nd⟩
 ·have hg:m.g=k:=by simpa[FM.sl,eF]using sg
  subst hg;exact rU ht (h.row.lt _ sg) (λe=>hb.2.1 e.symm)
 ·by_cases hj:j=i
  ·subst hj;rw[hi]at e;obtain rfl:=Option.some.inj e;simp only[if_true];exact hk
  ·rw[ae hj];have jV:c≠b:=λe1=>by
    subst e1;exact hj ((List.getElem?_inj (aH.1 e).1 h.nd).1 (e.trans hi.symm))
   exact((h.om j c e).keep (rU ht (h.om j c e).lt jV)).mono hn
theorem Ru(B:Nat)(m:FM)(k:Nat)(kn:Int->Option SV)(ow:Nat->Int->Option SV)(p:Nat)(w:eB)(h:FB w B m k kn ow)(hp:p<m.bs.length)(hk:k<=1000000):
 fj fk 126 #[π (μ ⟨B,0,ν⟩),ι κ (p:Int)] w λe w'=>e=ρ η/\FB w' B m (k+k) kn (λi=>if i=p then over (ow p) kn else ow i)/\jN w w' m:=by
 have hh:=A5 B m k kn ow (p:Int) w h;have hv:(decide (0<=(p:Int))&&decide ((p:Int)<(m.bs.length:Int)))=true:=by simp;omega
 rw[hv]at hh;clear hv;have WS:(p:Int)<(m.bs.length:Int):=eE;have uo:=h.few;have ui:m.bs[p]? =μ m.bs[p] :=ay hp;have bd:eN w w.drew:=below_drewN (au _ _) 1;have Fd:=h.below bd;have A6:=N9 m.bs[p] m.bm k k (ow p) kn w.drew (Fd.om p _ ui) Fd.km (Fd.nB.2.2.2 _ (aE _)).2.2 eE;have HE:Hid (∀w',SMap w' m.bs[p] (k+k) (over (ow p) kn)->w.drew.grownBy w' (μ m.bs[p])->FB w' B m (k+k) kn (λi=>if i=p then over (ow p) kn else ow i)/\jN w w' m):=λw' hS hg=>⟨Fd.afO ui hg hS eE,(jN.je m bd).trans (jN.Rs hg (.inr (aE _)))⟩
 have c0:=h.c0;have c1:w.cell? ⟨B,1,ν⟩=μ (σ (μ ⟨m.g,0,ν⟩) m.bs.length m.cap):=h.c1;have lB:=h.lt;have cp:=h.port p _ ui;have gl:m.g<w.heap.size:=af w _ cp;generalize m.bs[p] =bp at cp A6 HE;clear ui Fd bd
 go_in
 go_wp2_with(fail);refine hh.mono ?_;rintro e w1 ⟨rfl,rfl⟩;clear hh
 go_upto_region 3 with fail
 go_region_with(first|(go_at_call 181;refine A6.mono ?_;rintro e w2 ⟨rfl,hS,hg⟩)|fail)
 all_goals
  have HF:Hid _:=HE.out _ hS hg;clear hS hg
  go_wp2
  go_ret;exact⟨rfl,HF.out⟩
end Go.Proofs.YtieklnlbljejdaaGreatDoor
