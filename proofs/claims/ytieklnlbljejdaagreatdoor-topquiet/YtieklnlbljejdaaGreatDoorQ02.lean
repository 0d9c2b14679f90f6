import Derived.Test.YtieklnlbljejdaaGreatDoorQ01
open Go.Value renaming int → ι, slice → σ, pointer → π, tuple → τ, nilIface → η
open Go.IntKind renaming i64 → κ
open Go.Ending renaming returned → ρ
open Go.Obj renaming cells → γ
open Option renaming none → ν, some → μ
open Go renaming Value → dT, Addr → dQ, World → dR, Calls → eT, TypeId → dW, run_underlying → fB
open Go.Proofs.Tryz renaming prog → eU
open Go.RowKit renaming intOf → eV
open Go.Instr renaming lookup → e7
open Go.Value renaming ownBlock → dV, int → dY, cells → fj
open List renaming nil_append → fe, length_nil → eN
open Go.IntKind renaming i64 → fh, u8 → ft
open Array renaming map → fq
open Go.Builtin renaming append_ → fA, lenOf → fC, firstCells → fD, nextslicecap → fE
set_option maxRecDepth 100000
set_option maxHeartbeats 8000000
open Go.Proofs.Tryz
namespace Go.Proofs.YtieklnlbljejdaaGreatDoor
open Go.RowKit
variable {B C b c cap g n:Nat} {W a w w' wr:World} {es:Int->List jG} {left:Lit->Bool} {m:FM} {s x:Int} {v:Value}
theorem KQ.set {m:Int} (h:KQ w B s m)(s' m':Int):KQ ((w.setCell ⟨B,0,ν⟩ (ι κ s')).setCell ⟨B,1,ν⟩ (ι κ m')) B s' m':=by
 refine⟨?_,?_,?_,?_⟩
 ·exact(aU _ ⟨B,1,ν⟩ ⟨B,0,ν⟩ _ gO).trans (dm _ _ _ (by rw[h.c0];rfl))
 ·exact dm _ _ _ (by rw[aU _ ⟨B,0,ν⟩ ⟨B,1,ν⟩ _ gO,h.c1];rfl)
 ·simp[h.f0]
 ·simp[h.f1]
theorem KQ.other {B':Nat} {m:Int} (h:KQ w B s m)(Z:B'≠B)(x y:dT):KQ ((w.setCell ⟨B',0,ν⟩ x).setCell ⟨B',1,ν⟩ y) B s m:=by
 refine⟨?_,?_,?_,?_⟩
 ·rw[aL _ _ _ _ Z,aL _ _ _ _ Z];exact h.c0
 ·rw[aL _ _ _ _ Z,aL _ _ _ _ Z];exact h.c1
 ·simp[h.f0]
 ·simp[h.f1]
theorem RI(sz mg code:Int)(a:Option dQ)(n cap:Nat)(os:List jG)(w:dR)(hn:n<=1000000)(u:iU w a n os):
 eT eU 231 #[.agg #[ι κ sz,ι κ mg],ι κ code,σ a n cap] w λe w'=>
  e=ρ (.agg #[ι κ (oC code os (sz,mg)).1,ι κ (oC code os (sz,mg)).2])/\eh w w':=by
 have hz:=yu;have P0:KQ ((w.alloc (γ #[ι κ sz,ι κ mg] 252)).alloc (γ #[ι κ 0,ι κ 0] 252)) w.heap.size sz mg:=by
  have hA:=λj=>aj w #[ι κ sz,ι κ mg] 252 (0,0) j;have hF:=λj=>cN w #[ι κ sz,ι κ mg] 252 0 0 j;exact KQ.below ⟨hA 0,hA 1,by rw[hF];rfl,by rw[hF];rfl⟩ (gN _ _)
 have P1:KQ ((w.alloc (γ #[ι κ sz,ι κ mg] 252)).alloc (γ #[ι κ 0,ι κ 0] 252)) (w.heap.size+1) 0 0:=by
  have hA:=λj=>aj (w.alloc (γ #[ι κ sz,ι κ mg] 252)) #[ι κ 0,ι κ 0] 252 (0,0) j;have hF:=λj=>cN (w.alloc (γ #[ι κ sz,ι κ mg] 252)) #[ι κ 0,ι κ 0] 252 0 0 j;have e:(w.alloc (γ #[ι κ sz,ι κ mg] 252)).heap.size=w.heap.size+1:=gO;rw[e]at hA hF;exact⟨hA 0,hA 1,by rw[hF];rfl,by rw[hF];rfl⟩
 have oB:eh w ((w.alloc (γ #[ι κ sz,ι κ mg] 252)).alloc (γ #[ι κ 0,ι κ 0] 252)):=(gN _ _).alloc gO _
 go_in
 go_wp2
 go_loopw [11] (λi wr=>∃(k:Nat) (s m:Int),k<=n/\i=ι κ k/\oC code os (sz,mg)=oC code (os.drop k) (s,m)/\KQ wr w.heap.size s m/\KQ wr (w.heap.size+1) 0 0/\eh w wr) (λi _=>n-(eV i).toNat)
 case atStart=>exact⟨0,sz,mg,Nat.zero_le _,rfl,rfl,P0,P1,oB⟩
 case round=>
  obtain⟨k,s,m,hk,rfl,XQ,hP,XR,G⟩:=hrel;have y:Hid _:=XQ;clear XQ P0 P1;have U:=hP;have Q1:=XR;obtain⟨c0,c1,f0,f1⟩:=hP;obtain⟨d0,d1,g0,g1⟩:=XR;have wZ:w.heap.size<wr.heap.size:=af wr _ c0;have Ox:w.heap.size+1<wr.heap.size:=af wr _ d0;by_cases ka:k<n
  ·have zB:=u.below G;rcases zB.2 with h0|⟨b,off,rfl,hc⟩
   ·omega
   have pX:k<os.length:=by rw[u.1];exact ka
   obtain⟨e1,e2⟩:=hc k pX;have HD:Hid (os.drop k=os[k] ::os.drop (k+1)):=aO pX;generalize os[k] =o at e1 e2 HD;clear hc;have m8:(k:Int)<(n:Int):=dU;have X:oC code os (sz,mg)=oC code (os.drop (k+1)) (jW code (s,m) o):=by rw[y.out,HD.out];rfl
   have Z:=gN wr (γ #[ι κ o.1,ι κ o.2] 276);have A:=fY G Z;cases h:(code==4)
   ·cases H:(code==3)
    ·have hv:jW code (s,m) o=(s,m):=by simp at H h;simp[jW,H,h]
     rw[hv]at X;have V:Hid _:=X;clear X hv
     go_wp2
     go_roundw
     case rel=>exact⟨k+1,s,m,dU,by go_num,V.out,U.below Z,Q1.below Z,A⟩
     case measure=>simp[eV];omega
    ·have M:code=3:=by simpa using H
     have V:Hid (oC code os (sz,mg)=oC code (os.drop (k+1)) ((jW 3 (s,m) o).1,(jW 3 (s,m) o).2)):=by
      show _=_;rw[X,M]
     clear X M;go_wp2_with(fail);refine(Rw s m o.1 o.2 _).mono ?_;rintro e w1 ⟨rfl,Y⟩;have lN:=fY A Y;obtain⟨c0,c1,f0,f1⟩:=(U.below Z).below Y;obtain⟨d0,d1,g0,g1⟩:=(Q1.below Z).below Y;have wZ:w.heap.size<w1.heap.size:=af w1 _ c0;have D:=(((U.below Z).below Y).set (jW 3 (s,m) (o.1,o.2)).1 (jW 3 (s,m) (o.1,o.2)).2)
     have T:=(((Q1.below Z).below Y).other (B':=w.heap.size) dU (ι κ (jW 3 (s,m) (o.1,o.2)).1) (ι κ (jW 3 (s,m) (o.1,o.2)).2))
     have J:eh w ((w1.setCell ⟨w.heap.size,0,ν⟩ (ι κ (jW 3 (s,m) (o.1,o.2)).1)).setCell ⟨w.heap.size,1,ν⟩ (ι κ (jW 3 (s,m) (o.1,o.2)).2)):=(lN.setCell (Nat.le_refl _) _).setCell (Nat.le_refl _) _
     go_wp2
     go_roundw
     case rel=>exact⟨k+1,_,_,dU,by go_num,V.out,D,T,J⟩
     case measure=>simp[eV];omega
   ·have M:code=4:=by simpa using h
    have Q:jW 4 (s,m) o=jW 4 (s,m) (o.1,0):=by simp[jW]
    have V:Hid (oC code os (sz,mg)=oC code (os.drop (k+1)) ((jW 4 (s,m) (o.1,0)).1,(jW 4 (s,m) (o.1,0)).2)):=by
     show _=_;rw[X,M,Q]
    clear X M Q;go_wp2_with(fail);refine(IV s m o.1 _).mono ?_;rintro e w1 ⟨rfl,Y⟩;have lN:=fY A Y;obtain⟨c0,c1,f0,f1⟩:=(U.below Z).below Y;obtain⟨d0,d1,g0,g1⟩:=(Q1.below Z).below Y;have wZ:w.heap.size<w1.heap.size:=af w1 _ c0;have D:=(((U.below Z).below Y).set (jW 4 (s,m) (o.1,0)).1 (jW 4 (s,m) (o.1,0)).2)
    have T:=(((Q1.below Z).below Y).other (B':=w.heap.size) dU (ι κ (jW 4 (s,m) (o.1,0)).1) (ι κ (jW 4 (s,m) (o.1,0)).2))
    have J:eh w ((w1.setCell ⟨w.heap.size,0,ν⟩ (ι κ (jW 4 (s,m) (o.1,0)).1)).setCell ⟨w.heap.size,1,ν⟩ (ι κ (jW 4 (s,m) (o.1,0)).2)):=(lN.setCell (Nat.le_refl _) _).setCell (Nat.le_refl _) _
    go_wp2
    go_roundw
    case rel=>exact⟨k+1,_,_,dU,by go_num,V.out,D,T,J⟩
    case measure=>simp[eV];omega
  ·have Fw:os.drop k=[] :=aZ (by rw[u.1];omega);have V:Hid (oC code os (sz,mg)=(s,m)):=by
    show _=_;rw[y.out,Fw];rfl
   clear y Fw;have J:eh w ((wr.setCell ⟨w.heap.size+1,0,ν⟩ (ι κ s)).setCell ⟨w.heap.size+1,1,ν⟩ (ι κ m)):=(G.setCell gO _).setCell gO _;have T:=Q1.set s m;go_wp2_with(fail);rw[V.out];obtain⟨r0,r1,_,_⟩:=T;refine aE (v:=.agg #[ι κ s,ι κ m]) (by simp[results,results231,go_sem,r0,r1]) rfl ?_;exact⟨rfl,J⟩
open St
def del(f:Int->Option SV)(k:Int):Int->Option SV:=λx=>if x=k then ν else f x
theorem FB.mlt {kn:Int->Option SV} {ow:Nat->Int->Option SV} (h:FB w B m n kn ow):∀x,x=m.bm \/x∈m.bs->x<w.heap.size:=by
 intro x hx;rcases hx with rfl|hx
 ·exact h.km.lt
 ·obtain⟨i,hi⟩:=List.getElem?_of_mem hx;exact(h.om i x hi).lt
theorem FB.mono {w:dR} {B:Nat} {m:FM} {n n':Nat} {kn:Int->Option SV} {ow:Nat->Int->Option SV} (h:FB w B m n kn ow)(Z:n<=n'):FB w B m n' kn ow:=⟨h.nN,h.row,h.km.mono Z,λi b e=>(h.om i b e).mono Z,h.few,h.nB,h.nd⟩
theorem RJ {V:dR} {kn:Int->Option SV} {ow:Nat->Int->Option SV} {C:Array dT} (h:FB w B m n kn ow)(Z:W.heap[w.heap.size]? =μ (γ C 40 (0,0)))(Y:jr W V m):V.heap[w.heap.size]? =μ (γ C 40 (0,0)):=
 (Y.block w.heap.size (aw.1 Z).1 (λe=>by have:=h.mlt m.bm (.inl rfl);omega) (λe=>by have:=h.mlt _ (.inr e);omega)).trans Z
theorem take_zero(B:Nat)(m:FM)(k:Nat)(kn:Int->Option SV)(ow:Nat->Int->Option SV)(p:Nat)(own seq:Int)(a:Option dQ)(n cap:Nat)(es:List jG)(w:dR)(h:FB w B m k kn ow)(hr:sv own)(hp:p<m.bs.length)(ho:iU w a n es)(hn:n<=maxLen)(hf:oD own seq es=0)
 (y:∀W,eh w W->eT eU 217 #[π (μ ⟨B,0,ν⟩),.agg #[ι κ own,ι κ seq,σ a n cap]] W λe w'=>e=ρ (ι κ 0)/\eh W w'):
 eT eU 190 #[π (μ ⟨B,0,ν⟩),ι κ (p:Int),.agg #[ι κ own,ι κ seq,σ a n cap]] w λe w'=>e=ρ (τ #[ι κ 0,η])/\FB w' B m k kn (λi=>if i=p then del (ow p) own else ow i)/\jr w w' m:=by
 have hb:=gN w (γ #[ι κ own,ι κ seq,σ a n cap] 40);obtain⟨u,V⟩:=fW (w.alloc (γ #[ι κ own,ι κ seq,σ a n cap] 40));have J:u.heap[w.heap.size]? =μ (γ #[ι κ own,ι κ seq,σ a n cap] 40 (0,0)):=by rw[<-V];exact aW w _
 rw[V]at hb;have HW:Hid _:=V;have H:=pZ B m k kn ow (p:Int) own seq a n cap es u (h.below hb) hn (ho.below hb);have j:ve m.bs.length (p:Int) own seq es=0:=by rw[ve,ag dU,hf]
 have E0:jb 0=η:=rfl;rw[j,E0]at H;have RK:Hid _:=y;have XS:(p:Int)<(m.bs.length:Int):=dU;have ug:=h.few;clear V j E0 y hf
 go_in
 go_wp2_with(fail);rw[HW.out];refine H.mono ?_;rintro e Z ⟨rfl,k2⟩;have b2:=fY hb k2;have X:=(k2.block _ (aw.1 J).1).trans J;have x0:Z.cell? ⟨w.heap.size,0,ν⟩=μ (ι κ own):=ax Z _ 0 _ _ (0,0) X;have x1:Z.cell? ⟨w.heap.size,1,ν⟩=μ (ι κ seq):=ax Z _ 1 _ _ (0,0) X;have x2:Z.cell? ⟨w.heap.size,2,ν⟩=μ (σ a n cap):=ax Z _ 2 _ _ (0,0) X;have G:w.heap.size<Z.heap.size:=af Z _ x0;clear H J hb k2;go_wp2_with(fail);refine(RK.out Z b2).mono ?_;rintro e Y ⟨rfl,k3⟩;have b3:=fY b2 k3;have yj:=(k3.block _ G).trans X;clear x0 x1 x2 G X;have x0:Y.cell? ⟨w.heap.size,0,ν⟩=μ (ι κ own):=ax Y _ 0 _ _ (0,0) yj;have G:w.heap.size<Y.heap.size:=af Y _ x0;have U:=h.below b3;have D:eh w Y.drew:=below_drewN b3 1;have Q:=h.below D;have T:m.bs[p]? =μ m.bs[p] :=aA hp;obtain⟨W5,Lp,A,M⟩:=(Q.om p _ T).drop own hr 0;have F5:=Q.Ln T M A (Nat.le_refl _);have M5:jr w W5 m:=(jr.iJ m D).trans (jr.o9 M (.inr (aK _)));have c1:Y.cell? ⟨B,1,ν⟩=μ (σ (μ ⟨m.g,0,ν⟩) m.bs.length m.cap):=U.c1;have lB:=U.lt;have cp:=U.port p _ T;have gl:m.g<Y.heap.size:=af Y _ cp;generalize m.bs[p] =bp at cp Lp;clear U Q A M T k3
 go_wp2
 go_region
 all_goals
  go_wp2
  go_ret2
  exact⟨rfl,F5,M5⟩
theorem RL(B:Nat)(m:FM)(k:Nat)(kn:Int->Option SV)(ow:Nat->Int->Option SV)(p:Nat)(own seq:Int)(a:Option dQ)(n cap:Nat)(es:List jG)(w:dR)(h:FB w B m k kn ow)(hr:sv own)(hp:p<m.bs.length)(ho:iU w a n es)(hn:n<=maxLen)(hf:oD own seq es=0)(t:SV)(A:kn own=μ t)(hk:k<=1000000)
 (u:∀W,eh w W->eT eU 217 #[π (μ ⟨B,0,ν⟩),.agg #[ι κ own,ι κ seq,σ a n cap]] W λe w'=>e=ρ (ι κ (-1))/\eh W w'):
 eT eU 190 #[π (μ ⟨B,0,ν⟩),ι κ (p:Int),.agg #[ι κ own,ι κ seq,σ a n cap]] w λe w'=>e=ρ (τ #[ι κ (-1),η])/\FB w' B m (k+1) kn (λi=>if i=p then sN (ow p) own t else ow i)/\jr w w' m:=by
 have hb:=gN w (γ #[ι κ own,ι κ seq,σ a n cap] 40);obtain⟨W1,T⟩:=fW (w.alloc (γ #[ι κ own,ι κ seq,σ a n cap] 40));have J:W1.heap[w.heap.size]? =μ (γ #[ι κ own,ι κ seq,σ a n cap] 40 (0,0)):=by rw[<-T];exact aW w _
 rw[T]at hb;have HW:Hid _:=T;have H:=pZ B m k kn ow (p:Int) own seq a n cap es W1 (h.below hb) hn (ho.below hb);have qD:ve m.bs.length (p:Int) own seq es=0:=by rw[ve,ag dU,hf]
 have E0:jb 0=η:=rfl;rw[qD,E0]at H;have RK:Hid _:=u;have XS:(p:Int)<(m.bs.length:Int):=dU;have ug:=h.few;clear T qD E0 u hf
 go_in
 go_wp2_with(fail);rw[HW.out];refine H.mono ?_;rintro e Y ⟨rfl,k2⟩;have b2:=fY hb k2;have X:=(k2.block _ (aw.1 J).1).trans J;have x0:Y.cell? ⟨w.heap.size,0,ν⟩=μ (ι κ own):=ax Y _ 0 _ _ (0,0) X;have x1:Y.cell? ⟨w.heap.size,1,ν⟩=μ (ι κ seq):=ax Y _ 1 _ _ (0,0) X;have x2:Y.cell? ⟨w.heap.size,2,ν⟩=μ (σ a n cap):=ax Y _ 2 _ _ (0,0) X;have G:w.heap.size<Y.heap.size:=af Y _ x0;clear H J hb k2;go_wp2_with(fail);refine(RK.out Y b2).mono ?_;rintro e Z ⟨rfl,k3⟩;have b3:=fY b2 k3;have yj:=(k3.block _ G).trans X;clear x0 x1 x2 G X;have x0:Z.cell? ⟨w.heap.size,0,ν⟩=μ (ι κ own):=ax Z _ 0 _ _ (0,0) yj;have G:w.heap.size<Z.heap.size:=af Z _ x0;have V:=h.below b3;have D:eh w Z.drew:=below_drewN b3 1;have U:=h.below D;have Q:m.bs[p]? =μ m.bs[p] :=aA hp;have oQ:(e7 211 (.map (μ m.bm)) (ι κ own) false).run eU Z.drew=.ok t.v Z.drew:=by
  have:=U.km.look own hr;rw[A]at this;exact this
 obtain⟨W5,j,y,M⟩:=(U.om p _ Q).store (by unfold maxLen;omega) own hr t;have F5:=U.Ln Q M y (Nat.le_succ _);have M5:jr w W5 m:=(jr.iJ m D).trans (jr.o9 M (.inr (aK _)));have c0:=V.c0;have c1:Z.cell? ⟨B,1,ν⟩=μ (σ (μ ⟨m.g,0,ν⟩) m.bs.length m.cap):=V.c1;have lB:=V.lt;have cp:=V.port p _ Q;have gl:m.g<Z.heap.size:=af Z _ cp;generalize m.bs[p] =bp at cp j;generalize t.v=tv at oQ j;clear V U y M Q k3 A
 go_wp2
 go_region
 all_goals
  go_wp2
  go_ret2
  exact⟨rfl,F5,M5⟩
structure acz(w w':dR)(B:Nat)(m:FM)(n:Nat)(kn:Int->Option SV)(ow:Nat->Int->Option SV)(p:Nat)(own seq:Int)(es:List jG)(s:SV):Prop where
 so:s.own=own
 ss:s.seq=seq
 sn:s.n=es.length
 so2:iU w' s.a s.n es
 nil:kt s.a s.cap
 new:∀j,dV (σ s.a s.n s.cap)=μ j->w.heap.size<=j/\j<w'.heap.size
 fb:FB w' B m (n+1+m.bs.length) (sN kn own s) (λi=>if i=p then del (sN (ow p) own s) own else if i<m.bs.length then sN (ow i) own s else ow i)
 kept:jr w w' m
theorem RM(B:Nat)(m:FM)(k:Nat)(kn:Int->Option SV)(ow:Nat->Int->Option SV)(p:Nat)(own seq:Int)(a:Option dQ)(n cap:Nat)(es:List jG)(w:dR)(h:FB w B m k kn ow)(hr:sv own)(hp:p<m.bs.length)(ho:iU w a n es)(hn:n<=maxLen)(j5:kt a cap)(hk:k<=1000000)(hf:oD own seq es=0)
 (rZ:∀W,eh w W->eT eU 217 #[π (μ ⟨B,0,ν⟩),.agg #[ι κ own,ι κ seq,σ a n cap]] W λe w'=>e=ρ (ι κ 1)/\eh W w'):
 eT eU 190 #[π (μ ⟨B,0,ν⟩),ι κ (p:Int),.agg #[ι κ own,ι κ seq,σ a n cap]] w λe w'=>e=ρ (τ #[ι κ 1,η])/\∃s,acz w w' B m k kn ow p own seq es s:=by
 have hb:=gN w (γ #[ι κ own,ι κ seq,σ a n cap] 40);obtain⟨W1,A⟩:=fW (w.alloc (γ #[ι κ own,ι κ seq,σ a n cap] 40));have pO:W1.heap[w.heap.size]? =μ (γ #[ι κ own,ι κ seq,σ a n cap] 40 (0,0)):=by rw[<-A];exact aW w _
 rw[A]at hb;have HW:Hid _:=A;have rK:=pZ B m k kn ow (p:Int) own seq a n cap es W1 (h.below hb) hn (ho.below hb);have qD:ve m.bs.length (p:Int) own seq es=0:=by rw[ve,ag dU,hf]
 have E0:jb 0=η:=rfl;rw[qD,E0]at rK;have RK:Hid _:=rZ;have HN:Hid (n<=6):=by show n<=6;have:=(jw hf).2.2.1;rw[ho.1]at this;exact this
 have XS:(p:Int)<(m.bs.length:Int):=dU;have ug:=h.few;clear A qD E0 rZ hf
 go_in
 go_wp2_with(fail);rw[HW.out];refine rK.mono ?_;rintro e X ⟨rfl,k2⟩;have b2:=fY hb k2;have J:=(k2.block _ (aw.1 pO).1).trans pO;have x0:X.cell? ⟨w.heap.size,0,ν⟩=μ (ι κ own):=ax X _ 0 _ _ (0,0) J;have x1:X.cell? ⟨w.heap.size,1,ν⟩=μ (ι κ seq):=ax X _ 1 _ _ (0,0) J;have x2:X.cell? ⟨w.heap.size,2,ν⟩=μ (σ a n cap):=ax X _ 2 _ _ (0,0) J;have Q:w.heap.size<X.heap.size:=af X _ x0;clear rK pO hb k2;go_wp2_with(fail);refine(RK.out X b2).mono ?_;rintro e U ⟨rfl,k3⟩;have b3:=fY b2 k3;have D:=(k3.block _ Q).trans J;clear x0 x1 x2 Q J;have x0:U.cell? ⟨w.heap.size,0,ν⟩=μ (ι κ own):=ax U _ 0 _ _ (0,0) D;have Q:w.heap.size<U.heap.size:=af U _ x0;have x1:U.cell? ⟨w.heap.size,1,ν⟩=μ (ι κ seq):=ax U _ 1 _ _ (0,0) D;have x2:U.cell? ⟨w.heap.size,2,ν⟩=μ (σ a n cap):=ax U _ 2 _ _ (0,0) D;have F3:=h.below b3;have Y9:n<=1000000:=by have:=HN.out;omega
 have M:=Fv B m k kn ow own seq a n cap es U F3 hr (ho.below b3) j5 Y9 hk;clear k3;go_wp2_with(fail);refine M.mono ?_;rintro e Z ⟨rfl,s,Y⟩;clear M x0 x1 x2 Q;have u:=RJ h D Y.kept;have x0:Z.cell? ⟨w.heap.size,0,ν⟩=μ (ι κ own):=ax Z _ 0 _ _ (0,0) u;have Q:w.heap.size<Z.heap.size:=af Z _ x0;have G:=Y.fb;have T:=G.below (show eh Z Z.drew from below_drewN (au _ _) 1);have y:m.bs[p]? =μ m.bs[p] :=aA hp;obtain⟨W5,Lp,S5,T5⟩:=(T.om p _ y).drop own hr 0;have F5:=T.Ln y T5 S5 (Nat.le_refl _);have V:jr Z W5 m:=(jr.iJ m (show eh Z Z.drew from below_drewN (au _ _) 1)).trans (jr.o9 T5 (.inr (aK _)));have hT:Hid (acz w W5 B m k kn ow p own seq es s):=by
  have uh:∀x,dV (σ s.a s.n s.cap)=μ x->x≠m.bm/\x∉m.bs:=λx hx=>by
   have H:=(Y.new x hx).1;have h2:=b3.size;exact⟨λe=>by have:=h.mlt m.bm (.inl rfl);omega,λe=>by have:=h.mlt x (.inr e);omega⟩
  refine⟨Y.so,Y.ss,Y.sn,Y.so2.RH (cap:=s.cap) V uh,Y.nil,λj hj=> ?_,?_,((jr.iJ m b3).trans Y.kept).trans V⟩
  ·have:=Y.new j hj;have h2:=b3.size;have h3:=V.size;omega
  ·have e:(λi=>if i=p then del (sN (ow p) own s) own else if i<m.bs.length then sN (ow i) own s else ow i)=(λj=>if j=p then(λx=>if x=own then ν else(λi=>if i<m.bs.length then sN (ow i) own s else ow i) p x)else(λi=>if i<m.bs.length then sN (ow i) own s else ow i) j):=by
    funext i
    by_cases H:i=p
    ·rw[ag H,ag H]
     funext x
     simp only[del,if_pos hp]
    ·rw[ae H,ae H]
   rw[e];exact F5
 have c1:Z.cell? ⟨B,1,ν⟩=μ (σ (μ ⟨m.g,0,ν⟩) m.bs.length m.cap):=G.c1;have lB:=G.lt;have cp:=G.port p _ y;have gl:m.g<Z.heap.size:=af Z _ cp;generalize m.bs[p] =bp at cp Lp;clear F3 G T S5 T5 y Y F5 V
 go_wp2
 go_region
 all_goals
  go_wp2
  go_ret2
  exact⟨rfl,s,hT.out⟩
theorem RN(h:c≠0):jb c=.iface 128 (ι κ (c:Int)):=by rw[jb,ae h]
theorem RO(B:Nat)(m:FM)(k:Nat)(kn:Int->Option SV)(ow:Nat->Int->Option SV)(p:Nat)(w:dR)(h:FB w B m k kn ow)(Q:p<m.bs.length):
 eT eU 124 #[π (μ ⟨B,0,ν⟩),ι κ (p:Int)] w λe w'=>e=ρ (τ #[])/\FB w' B m k kn (λi=>if i=p then λ_=>ν else ow i)/\jr w w' m:=by
 have hh:=Cd B m k kn ow (p:Int) w h;have hv:(decide (0<=(p:Int))&&decide ((p:Int)<(m.bs.length:Int)))=true:=by
  simp;omega
 rw[hv]at hh;clear hv;have XS:(p:Int)<(m.bs.length:Int):=dU;have ug:=h.few;have Z:m.bs[p]? =μ m.bs[p] :=aA Q;obtain⟨U,T,X,Y⟩:=(h.om p _ Z).clear 0;have M:=h.Ln Z Y X (Nat.le_refl _);have V:jr w U m:=jr.o9 Y (.inr (aK _));have c1:w.cell? ⟨B,1,ν⟩=μ (σ (μ ⟨m.g,0,ν⟩) m.bs.length m.cap):=h.c1;have lB:=h.lt;have cp:=h.port p _ Z;have gl:m.g<w.heap.size:=af w _ cp;generalize m.bs[p] =bp at cp T;clear X Y Z
 go_in
 go_wp2_with(fail);refine hh.mono ?_;rintro e w1 ⟨rfl,rfl⟩;clear hh
 go_wp2
 first|go_end0|refine iC rfl rfl ?_
 exact⟨rfl,M,V⟩
theorem Za(B:Nat)(m:FM)(k:Nat)(kn:Int->Option SV)(ow:Nat->Int->Option SV)(own seq:Int)(a:Option dQ)(n cap:Nat)(es:List jG)(w:dR)(h:FB w B m k kn ow)(hr:sv own)(M:iU w a n es)(j5:kt a cap)(hk:k<=1000000)(hf:oD own seq es=0):
 eT eU 67 #[π (μ ⟨B,0,ν⟩),.agg #[ι κ own,ι κ seq,σ a n cap]] w λe w'=>e=ρ η/\∃s,GZ w w' B m k kn ow own seq es s:=by
 have Y9:n<=1000000:=by have:=(jw hf).2.2.1;rw[M.1]at this;omega
 have hb:=gN w (γ #[ι κ own,ι κ seq,σ a n cap] 40);obtain⟨G,U⟩:=fW (w.alloc (γ #[ι κ own,ι κ seq,σ a n cap] 40));have T:G.heap[w.heap.size]? =μ (γ #[ι κ own,ι κ seq,σ a n cap] 40 (0,0)):=by rw[<-U];exact aW w _
 rw[U]at hb;have y:Hid _:=U;have Q:=zI own seq a n cap es G (by unfold maxLen;omega) (M.below hb);have D:jb 0=η:=rfl;rw[hf,D]at Q;clear U D hf
 go_in
 go_wp2_with(fail);rw[y.out];refine Q.mono ?_;rintro e Y ⟨rfl,k2⟩;have b2:=fY hb k2;have J:=(k2.block _ (aw.1 T).1).trans T;have x0:Y.cell? ⟨w.heap.size,0,ν⟩=μ (ι κ own):=ax Y _ 0 _ _ (0,0) J;have x1:Y.cell? ⟨w.heap.size,1,ν⟩=μ (ι κ seq):=ax Y _ 1 _ _ (0,0) J;have x2:Y.cell? ⟨w.heap.size,2,ν⟩=μ (σ a n cap):=ax Y _ 2 _ _ (0,0) J;have xl:w.heap.size<Y.heap.size:=af Y _ x0;have V:=Fv B m k kn ow own seq a n cap es Y (h.below b2) hr (M.below b2) j5 Y9 hk;clear Q T hb k2;go_wp2_with(fail);refine V.mono ?_;rintro e u ⟨rfl,s,Z⟩;have X:=b2.size;have A:Hid (∃s,GZ w u B m k kn ow own seq es s):=⟨s,Z.so,Z.ss,Z.sn,Z.so2,Z.nil,λj H=>⟨Nat.le_trans X (Z.new j H).1,(Z.new j H).2⟩,Z.fb,(jr.iJ m b2).trans Z.kept⟩
 clear V x0 x1 x2 xl Z X b2
 go_wp2
 go_ret;exact⟨rfl,A.out⟩
theorem Lq(B:Nat)(m:FM)(k:Nat)(kn:Int->Option SV)(ow:Nat->Int->Option SV)(p:Nat)(own seq:Int)(a:Option dQ)(n cap:Nat)(es:List jG)(w:dR)(h:FB w B m k kn ow)(hr:sv own)(hp:p<m.bs.length)(ho:iU w a n es)(hn:n<=maxLen)(hf:oD own seq es=0)
 (y:∀W,eh w W->eT eU 217 #[π (μ ⟨B,0,ν⟩),.agg #[ι κ own,ι κ seq,σ a n cap]] W λe w'=>e=ρ (ι κ 0)/\eh W w'):
 eT eU 191 #[π (μ ⟨B,0,ν⟩),ι κ (p:Int),.agg #[ι κ own,ι κ seq,σ a n cap]] w λe w'=>e=ρ η/\FB w' B m k kn (λi=>if i=p then del (ow p) own else ow i)/\jr w w' m:=by
 have hb:=gN w (γ #[ι κ own,ι κ seq,σ a n cap] 40);obtain⟨u,V⟩:=fW (w.alloc (γ #[ι κ own,ι κ seq,σ a n cap] 40));have J:u.heap[w.heap.size]? =μ (γ #[ι κ own,ι κ seq,σ a n cap] 40 (0,0)):=by rw[<-V];exact aW w _
 rw[V]at hb;have HW:Hid _:=V;have H:=pZ B m k kn ow (p:Int) own seq a n cap es u (h.below hb) hn (ho.below hb);have j:ve m.bs.length (p:Int) own seq es=0:=by rw[ve,ag dU,hf]
 have E0:jb 0=η:=rfl;rw[j,E0]at H;have RK:Hid _:=y;have XS:(p:Int)<(m.bs.length:Int):=dU;have ug:=h.few;clear V j E0 y hf
 go_in
 go_wp2_with(fail);rw[HW.out];refine H.mono ?_;rintro e Z ⟨rfl,k2⟩;have b2:=fY hb k2;have X:=(k2.block _ (aw.1 J).1).trans J;have x0:Z.cell? ⟨w.heap.size,0,ν⟩=μ (ι κ own):=ax Z _ 0 _ _ (0,0) X;have x1:Z.cell? ⟨w.heap.size,1,ν⟩=μ (ι κ seq):=ax Z _ 1 _ _ (0,0) X;have x2:Z.cell? ⟨w.heap.size,2,ν⟩=μ (σ a n cap):=ax Z _ 2 _ _ (0,0) X;have G:w.heap.size<Z.heap.size:=af Z _ x0;clear H J hb k2;go_wp2_with(fail);refine(RK.out Z b2).mono ?_;rintro e Y ⟨rfl,k3⟩;have b3:=fY b2 k3;have yj:=(k3.block _ G).trans X;clear x0 x1 x2 G X;have x0:Y.cell? ⟨w.heap.size,0,ν⟩=μ (ι κ own):=ax Y _ 0 _ _ (0,0) yj;have G:w.heap.size<Y.heap.size:=af Y _ x0;have U:=h.below b3;have D:eh w Y.drew:=below_drewN b3 1;have Q:=h.below D;have T:m.bs[p]? =μ m.bs[p] :=aA hp;obtain⟨W5,Lp,A,M⟩:=(Q.om p _ T).drop own hr 0;have F5:=Q.Ln T M A (Nat.le_refl _);have M5:jr w W5 m:=(jr.iJ m D).trans (jr.o9 M (.inr (aK _)));have c1:Y.cell? ⟨B,1,ν⟩=μ (σ (μ ⟨m.g,0,ν⟩) m.bs.length m.cap):=U.c1;have lB:=U.lt;have cp:=U.port p _ T;have gl:m.g<Y.heap.size:=af Y _ cp;generalize m.bs[p] =bp at cp Lp;clear U Q A M T k3
 go_wp2
 go_region
 all_goals
  go_wp2
  go_ret;exact⟨rfl,F5,M5⟩
theorem OL(B:Nat)(m:FM)(k:Nat)(kn:Int->Option SV)(ow:Nat->Int->Option SV)(p:Nat)(own seq:Int)(a:Option dQ)(n cap:Nat)(es:List jG)(w:dR)(h:FB w B m k kn ow)(hr:sv own)(hp:p<m.bs.length)(ho:iU w a n es)(hn:n<=maxLen)(hf:oD own seq es=0)
 (y:∀W,eh w W->eT eU 217 #[π (μ ⟨B,0,ν⟩),.agg #[ι κ own,ι κ seq,σ a n cap]] W λe w'=>e=ρ (ι κ 1)/\eh W w'):
 eT eU 191 #[π (μ ⟨B,0,ν⟩),ι κ (p:Int),.agg #[ι κ own,ι κ seq,σ a n cap]] w λe w'=>e=ρ η/\FB w' B m k kn (λi=>if i=p then del (ow p) own else ow i)/\jr w w' m:=by
 have hb:=gN w (γ #[ι κ own,ι κ seq,σ a n cap] 40);obtain⟨u,V⟩:=fW (w.alloc (γ #[ι κ own,ι κ seq,σ a n cap] 40));have J:u.heap[w.heap.size]? =μ (γ #[ι κ own,ι κ seq,σ a n cap] 40 (0,0)):=by rw[<-V];exact aW w _
 rw[V]at hb;have HW:Hid _:=V;have H:=pZ B m k kn ow (p:Int) own seq a n cap es u (h.below hb) hn (ho.below hb);have j:ve m.bs.length (p:Int) own seq es=0:=by rw[ve,ag dU,hf]
 have E0:jb 0=η:=rfl;rw[j,E0]at H;have RK:Hid _:=y;have XS:(p:Int)<(m.bs.length:Int):=dU;have ug:=h.few;clear V j E0 y hf
 go_in
 go_wp2_with(fail);rw[HW.out];refine H.mono ?_;rintro e Z ⟨rfl,k2⟩;have b2:=fY hb k2;have X:=(k2.block _ (aw.1 J).1).trans J;have x0:Z.cell? ⟨w.heap.size,0,ν⟩=μ (ι κ own):=ax Z _ 0 _ _ (0,0) X;have x1:Z.cell? ⟨w.heap.size,1,ν⟩=μ (ι κ seq):=ax Z _ 1 _ _ (0,0) X;have x2:Z.cell? ⟨w.heap.size,2,ν⟩=μ (σ a n cap):=ax Z _ 2 _ _ (0,0) X;have G:w.heap.size<Z.heap.size:=af Z _ x0;clear H J hb k2;go_wp2_with(fail);refine(RK.out Z b2).mono ?_;rintro e Y ⟨rfl,k3⟩;have b3:=fY b2 k3;have yj:=(k3.block _ G).trans X;clear x0 x1 x2 G X;have x0:Y.cell? ⟨w.heap.size,0,ν⟩=μ (ι κ own):=ax Y _ 0 _ _ (0,0) yj;have G:w.heap.size<Y.heap.size:=af Y _ x0;have U:=h.below b3;have D:eh w Y.drew:=below_drewN b3 1;have Q:=h.below D;have T:m.bs[p]? =μ m.bs[p] :=aA hp;obtain⟨W5,Lp,A,M⟩:=(Q.om p _ T).drop own hr 0;have F5:=Q.Ln T M A (Nat.le_refl _);have M5:jr w W5 m:=(jr.iJ m D).trans (jr.o9 M (.inr (aK _)));have c1:Y.cell? ⟨B,1,ν⟩=μ (σ (μ ⟨m.g,0,ν⟩) m.bs.length m.cap):=U.c1;have lB:=U.lt;have cp:=U.port p _ T;have gl:m.g<Y.heap.size:=af Y _ cp;generalize m.bs[p] =bp at cp Lp;clear U Q A M T k3
 go_wp2
 go_region
 all_goals
  go_wp2
  go_ret;exact⟨rfl,F5,M5⟩
theorem OM(B:Nat)(m:FM)(k:Nat)(kn:Int->Option SV)(ow:Nat->Int->Option SV)(p:Nat)(own seq:Int)(a:Option dQ)(n cap:Nat)(es:List jG)(w:dR)(h:FB w B m k kn ow)(hp:p<m.bs.length)(A:iU w a n es)(G:n<=maxLen)(hf:oD own seq es=0)
 (T:∀W,eh w W->eT eU 217 #[π (μ ⟨B,0,ν⟩),.agg #[ι κ own,ι κ seq,σ a n cap]] W λe w'=>e=ρ (ι κ (-1))/\eh W w'):
 eT eU 191 #[π (μ ⟨B,0,ν⟩),ι κ (p:Int),.agg #[ι κ own,ι κ seq,σ a n cap]] w λe w'=>e=ρ η/\eh w w':=by
 have hb:=gN w (γ #[ι κ own,ι κ seq,σ a n cap] 40);obtain⟨Q,X⟩:=fW (w.alloc (γ #[ι κ own,ι κ seq,σ a n cap] 40));have V:Q.heap[w.heap.size]? =μ (γ #[ι κ own,ι κ seq,σ a n cap] 40 (0,0)):=by rw[<-X];exact aW w _
 rw[X]at hb;have D:Hid _:=X;have U:=pZ B m k kn ow (p:Int) own seq a n cap es Q (h.below hb) G (A.below hb);have M:ve m.bs.length (p:Int) own seq es=0:=by rw[ve,ag dU,hf]
 have H:jb 0=η:=rfl;rw[M,H]at U;have y:Hid _:=T;have XS:(p:Int)<(m.bs.length:Int):=dU;have ug:=h.few;clear X M H T hf
 go_in
 go_wp2_with(fail);rw[D.out];refine U.mono ?_;rintro e Z ⟨rfl,k2⟩;have b2:=fY hb k2;have Y:=(k2.block _ (aw.1 V).1).trans V;have x0:Z.cell? ⟨w.heap.size,0,ν⟩=μ (ι κ own):=ax Z _ 0 _ _ (0,0) Y;have x1:Z.cell? ⟨w.heap.size,1,ν⟩=μ (ι κ seq):=ax Z _ 1 _ _ (0,0) Y;have x2:Z.cell? ⟨w.heap.size,2,ν⟩=μ (σ a n cap):=ax Z _ 2 _ _ (0,0) Y;have J:w.heap.size<Z.heap.size:=af Z _ x0;clear U V hb k2;go_wp2_with(fail);refine(y.out Z b2).mono ?_;rintro e w3 ⟨rfl,k3⟩;have b3:=fY b2 k3;have yj:=(k3.block _ J).trans Y;clear x0 x1 x2 J Y;clear k3
 go_wp2
 go_ret;exact⟨rfl,b3⟩
theorem Nj(B:Nat)(m:FM)(k:Nat)(kn:Int->Option SV)(ow:Nat->Int->Option SV)(i:Int)(t:SV)(ok:Bool)(fs:List jG)(w:dR)(h:FB w B m k kn ow)(hr:sv i)(hd:(kn i).getD SV.zero=t)(hs:(kn i).isSome=ok)(J:iU w t.a t.n fs)(D:t.n<=1000000)(j5:kt t.a t.cap):
 eT eU 177 #[π (μ ⟨B,0,ν⟩),ι κ i] w λe w'=>∃(a:Option dQ) (cap:Nat),e=ρ (τ #[.agg #[ι κ t.own,ι κ t.seq,σ a fs.length cap],.bool ok])/\iU w' a fs.length fs/\kt a cap/\eh w w':=by
 obtain⟨V,ts,ta,tn,M⟩:=t;simp only at J D j5;have hz:=oZ;have hb:=gN w (γ #[ι κ 0,ι κ 0,σ ν 0 0] 40);obtain⟨Y,U⟩:=fW (w.alloc (γ #[ι κ 0,ι κ 0,σ ν 0 0] 40));have pO:Y.heap[w.heap.size]? =μ (γ #[ι κ 0,ι κ 0,σ ν 0 0] 40 (0,0)):=by rw[<-U];exact aW w _
 have CW:Y.heap.size=w.heap.size+1:=by rw[<-U];simp
 rw[U]at hb;have HW:Hid _:=U;clear U;have X:=h.below hb;have oQ:(e7 211 (.map (μ m.bm)) (ι κ i) true).run eU Y=.ok (τ #[.agg #[ι κ V,ι κ ts,σ ta tn M],.bool ok]) Y:=by
  have:=X.km.look_ok i hr;rw[hd,hs]at this;exact this
 have c0:=X.c0;have hl:=X.lt;have H:eh w (Y.alloc (γ #[ι κ V,ι κ ts,σ ta tn M] 40)):=hb.alloc hb.size _;have Ce:=CU V ts ta tn M fs _ D j5 (J.below H);have y:(Y.alloc (γ #[ι κ V,ι κ ts,σ ta tn M] 40)).heap[w.heap.size]? =μ (γ #[ι κ 0,ι κ 0,σ ν 0 0] 40 (0,0)):=by
  rw[aT _ _ _ dU];exact pO
 have HB:Hid _:=H;have G:Hid _:=y;have HS:Hid _:=CW;clear h X hd hs J hb H y pO CW
 go_in
 go_upto_region 1 with fail
 rw[HW.out];go_wp2_with(fail);refine Ce.mono ?_;rintro e Z ⟨⟨Q,vc,rfl,A,vn,vl,EL⟩,k2⟩;clear Ce oQ c0;have T:=(k2.block _ (aw.1 G.out).1).trans G.out;have y0:Z.cell? ⟨w.heap.size,0,ν⟩=μ (ι κ 0):=ax Z _ 0 _ _ (0,0) T;have y1:Z.cell? ⟨w.heap.size,1,ν⟩=μ (ι κ 0):=ax Z _ 1 _ _ (0,0) T;have y2:Z.cell? ⟨w.heap.size,2,ν⟩=μ (σ ν 0 0):=ax Z _ 2 _ _ (0,0) T;have fy:=λj=>bu Z w.heap.size j _ _ T;have ly:w.heap.size<Z.heap.size:=af Z _ y0;have hk:=fY HB.out k2;have HC:Hid (∀u v x:dT,iU (((Z.setCell ⟨w.heap.size,0,ν⟩ u).setCell ⟨w.heap.size,1,ν⟩ v).setCell ⟨w.heap.size,2,ν⟩ x) Q fs.length fs/\kt Q vc/\eh w (((Z.setCell ⟨w.heap.size,0,ν⟩ u).setCell ⟨w.heap.size,1,ν⟩ v).setCell ⟨w.heap.size,2,ν⟩ x)):=by
  intro u v x;refine⟨A.kept (cap:=vc) (λj hj=> ?_),vn,((hk.setCell (Nat.le_refl _) _).setCell (Nat.le_refl _) _).setCell (Nat.le_refl _) _⟩;have X:=(EL j hj).1;have h2:=HS.out;have h3:w.heap.size+1<=j:=by simp at X;omega
  rw[aq _ _ _ _ (by show j≠w.heap.size;omega),aq _ _ _ _ (by show j≠w.heap.size;omega),aq _ _ _ _ (by show j≠w.heap.size;omega)]
 clear A EL k2 T hk;go_wp2_with(fail);refine aE (v:=τ #[.agg #[ι κ V,ι κ ts,σ Q fs.length vc],.bool ok]) (by simp[results,results177,go_sem,y0,y1,y2]) rfl ?_;exact⟨Q,vc,rfl,HC.out _ _ _⟩
open Go.Maps (Keyed)
theorem zJ(h:(Lit.int .i64 x).wf=true):sv x:=by
 simp[Lit.wf,IntKind.min,IntKind.max,IntKind.signed,IntKind.bits]at h;exact⟨dU,dU⟩
theorem qE(x y:Int):(Lit.int .i64 x).sameKey (.int .i64 y)=decide (x=y):=by simp[Lit.sameKey]
def mix(fd fs:Int->Option SV)(left:Lit->Bool):Int->Option SV:=λk=>if left (.int .i64 k)=false/\(fs k).isSome=true then fs k else fd k
theorem RP {fd fs:Int->Option SV} {s:SV} (h:fs x=μ s):(λk=>if k=x then μ s else mix fd fs left k)=mix fd fs (λz=>left z&& !z.sameKey (.int .i64 x)):=by
 funext k
 by_cases e:k=x
 ·subst e;simp[mix,qE,h]
 ·simp[mix,qE,e]
def over(fd fs:Int->Option SV):Int->Option SV:=λk=>if(fs k).isSome=true then fs k else fd k
theorem VJ {fd fs:Int->Option SV} (h:∀Z,left Z=false):mix fd fs left=over fd fs:=by
 funext k
 simp[mix,over,h]
theorem SMap.congr {f g:Int->Option SV} (h:SMap w b n f)(e:∀k,sv k->f k=g k):SMap w b n g:=by
 obtain⟨D,X,Y⟩:=h.own;exact⟨⟨D,X,λk Z=>by rw[<-e k Z];exact Y k Z⟩⟩
theorem OO(bd bs nd ns:Nat)(fd fs:Int->Option SV)(w:dR)(hd:SMap w bd nd fd)(hs:SMap w bs ns fs)(jm:bd≠bs)(XT:nd+ns<=2000000):
 eT eU 181 #[.map (μ bd),.map (μ bs)] w λe w'=>e=ρ (τ #[])/\SMap w' bd (nd+ns) (over fd fs)/\w.grownBy w' (μ bd):=by
 obtain⟨D,ji,h⟩:=hs.own;have qX:=ji.size_le;have ka:=hd.lt;have G0:=hs.lt;have hz:=oZ;have H0:Hid (∀k,sv k->fs k=ν->∀z,D.atKey (.int .i64 k) z=z):=λk T e=>by have:=h k T;rw[e]at this;exact this
 have H1:Hid (∀k s,sv k->fs k=μ s->∀z,D.atKey (.int .i64 k) z=.held s):=λk s T e=>by have:=h k T;rw[e]at this;exact this
 clear h hs
 go_in
 go_wp2_with(first
  |(at_range;refine wpList_range_own _ rfl _ 211 rfl 3 40 uf underlying211 su bs ns _ rfl ji ?_;intro w0 RQ Nk RS)
  |fail)
 go_frame
 go_loopw [8] (λ_ wr=>∃(left:Lit->Bool) (A:Nat),wr.ranges eU 3 su bs w.heap.size ns D left A/\A<=ns/\SMap wr bd (nd+(ns-A)) (mix fd fs left)/\w.grownBy wr (μ bd))
  (λ_ wr=>wr.rangeLeft bs w.heap.size)
 case atStart=>
  refine⟨_,_,RQ,qX,((hd.kept Nk gO).mono dU).congr (λk T=> ?_),Nk.but _⟩;cases e:fs k with
  |none=>simp[mix,e]
  |some s=>simp[mix,Maps.has_true_of_atKey (H1.out k s T e)]
 case round=>
  clear RQ Nk RS ji hd;obtain⟨left,A,H,hcs,G,II⟩:=hrel;go_wp2_with(first
   |(at_next;refine wpList_next_ranges _ rfl _ rfl 3 uf su (dY .i64) SV.v (λkey kl J=>by obtain⟨x,rfl,_⟩:=cr underlying3 J;exact⟨x,rfl⟩) (λv y hv=>by obtain⟨s,rfl,_⟩:=wv hv;exact⟨s,rfl⟩) bs w.heap.size ns _ _ _ rfl H ?_ ?_)
   |fail)
  ·intro qD wZ;have HE:Hid (SMap wr bd (nd+ns) (over fd fs)):=by
    show SMap wr bd (nd+ns) (over fd fs);rw[<-VJ wZ];exact G.mono dU
   clear H G
   go_wp2
   first|go_end0|refine iC rfl rfl ?_
   exact⟨rfl,HE.out,II⟩
  ·intro x c kl yd yp w1 u J hlx hv hat RT EM ke CW zC;obtain⟨x',ex,rfl,M⟩:=cr underlying3 J;cases ex;have yB:=zJ M;obtain⟨Z,cs,ca,Y,X⟩:=c;rw[yA]at hv;have hy:yd=.held ⟨Z,cs,ca,Y,X⟩:=by have:=Option.some.inj hv;simp only[Prod.mk.injEq]at this;exact this.1.symm
   have XV:fs x=μ ⟨Z,cs,ca,Y,X⟩:=by
    cases e:fs x with
    |none=>
     have Q:=H0.out x yB e .nil;rw[hat,hy]at Q;cases Q
    |some s=>
     have Q:=H1.out x s yB e .nil;rw[hat,hy]at Q;cases Q;rfl
   have XW:=(G.kept ke (λe=>by have:=Option.some.inj e;omega)).alloc (γ #[ι κ Z,ι κ cs,σ ca Y X] 40);obtain⟨V,rB,S2,T2⟩:=XW.store (by unfold maxLen;omega) x yB ⟨Z,cs,ca,Y,X⟩;have al0:(Instr.mapUpdate 211 (.map (μ bd)) (ι κ x) (.agg #[ι κ Z,ι κ cs,σ ca Y X])).run eU (w1.alloc (γ #[ι κ Z,ι κ cs,σ ca Y X] 40))=.ok () V:=rB;rw[RP XV]at S2;have acB:(Instr.entry (π (μ ⟨w.heap.size,0,ν⟩))).run eU w1=.ok (τ #[ι κ x,.agg #[ι κ Z,ι κ cs,σ ca Y X]]) w1:=zC;have Zb:=(RT.alloc (γ #[ι κ Z,ι κ cs,σ ca Y X] 40)).kept T2.grown (λe=>jm (Option.some.inj e).symm) (λe=>by have:=Option.some.inj e;omega);have AH:w.grownBy V (μ bd):=((II.andThen ke (λj U=>.inl (by cases U;exact Nat.le_refl _))).andThen ((World.grownBy_alloc w1 (γ #[ι κ Z,ι κ cs,σ ca Y X] 40) ν).but (μ bd)) (λj U=>.inr U)).andThen T2.grown (λj U=>.inr U);have HR:Hid (V.ranges eU 3 su bs w.heap.size ns D (λz=>left z&& !z.sameKey (.int .i64 x)) u/\u<=ns/\SMap V bd (nd+(ns-u)) (mix fd fs (λz=>left z&& !z.sameKey (.int .i64 x)))/\w.grownBy V (μ bd)):=⟨Zb,dU,S2.mono dU,AH⟩
   have HM:Hid (V.rangeLeft bs w.heap.size<wr.rangeLeft bs w.heap.size):=by
    show _<_;rw[Zb.left_eq,H.left_eq];exact EM
   clear rB zC S2 T2 XW G H RT Zb ke AH II hat hy hv XV hlx J M;go_wp2_with(fail)
   first|go_frame|skip
   go_roundw
   case rel=>exact⟨_,u,HR.out⟩
   case measure=>exact HM.out
theorem jr.RU(g:w.grownBy w' (μ b))(hb:b=m.bm \/b∈m.bs):jr w w' m:=by
 refine⟨g.os,g.tape,g.output,g.size,λi hi Y Z=>g.block i hi (λe=> ?_)⟩;have:i=b:=by simpa using e
 subst this;rcases hb with hb|hb
 ·exact Y hb
 ·exact Z hb
theorem sy {x:Nat} (h:w.grownBy w' (μ b))(hx:x<w.heap.size)(Z:x≠b):w'.heap[x]? =w.heap[x]? :=h.block x hx (λe=>Z (by simpa using e))
theorem FB.agP {n':Nat} {kn:Int->Option SV} {ow:Nat->Int->Option SV} {f:Int->Option SV} {i:Nat} (h:FB w B m n kn ow)(hi:m.bs[i]? =μ b)(Z:w.grownBy w' (μ b))(M:SMap w' b n' f)(V:n<=n'):FB w' B m n' kn (λj=>if j=i then f else ow j):=by
 have hb:=h.nB.2.2.2 b (bz hi);refine⟨(sy Z h.lt (λe=>hb.1 e.symm)).trans h.nN,h.row.keep Z.size (λk X=> ?_),(h.km.keep (sy Z h.km.lt (λe=>hb.2.2 e.symm))).mono V,λj c e=> ?_,h.few,h.nB,h.nd⟩
 ·have Q:m.g=k:=by simpa[FM.sl,dV]using X
  subst Q;exact sy Z (h.row.lt _ X) (λe=>hb.2.1 e.symm)
 ·by_cases Y:j=i
  ·subst Y;rw[hi]at e;obtain rfl:=Option.some.inj e;simp only[if_true];exact M
  ·rw[ae Y];have U:c≠b:=λT=>by
    subst T;exact Y ((List.getElem?_inj (aI.1 e).1 h.nd).1 (e.trans hi.symm))
   exact((h.om j c e).keep (sy Z (h.om j c e).lt U)).mono V
theorem RV(B:Nat)(m:FM)(k:Nat)(kn:Int->Option SV)(ow:Nat->Int->Option SV)(p:Nat)(w:dR)(h:FB w B m k kn ow)(Q:p<m.bs.length)(hk:k<=1000000):
 eT eU 126 #[π (μ ⟨B,0,ν⟩),ι κ (p:Int)] w λe w'=>e=ρ η/\FB w' B m (k+k) kn (λi=>if i=p then over (ow p) kn else ow i)/\jr w w' m:=by
 have hh:=Cd B m k kn ow (p:Int) w h;have hv:(decide (0<=(p:Int))&&decide ((p:Int)<(m.bs.length:Int)))=true:=by simp;omega
 rw[hv]at hh;clear hv;have XS:(p:Int)<(m.bs.length:Int):=dU;have ug:=h.few;have X:m.bs[p]? =μ m.bs[p] :=aA Q;have bd:eh w w.drew:=below_drewN (au _ _) 1;have Fd:=h.below bd;have U:=OO m.bs[p] m.bm k k (ow p) kn w.drew (Fd.om p _ X) Fd.km (Fd.nB.2.2.2 _ (aK _)).2.2 dU;have V:Hid (∀w',SMap w' m.bs[p] (k+k) (over (ow p) kn)->w.drew.grownBy w' (μ m.bs[p])->FB w' B m (k+k) kn (λi=>if i=p then over (ow p) kn else ow i)/\jr w w' m):=λw' Y Z=>⟨Fd.agP X Z Y dU,(jr.iJ m bd).trans (jr.RU Z (.inr (aK _)))⟩
 have c0:=h.c0;have c1:w.cell? ⟨B,1,ν⟩=μ (σ (μ ⟨m.g,0,ν⟩) m.bs.length m.cap):=h.c1;have lB:=h.lt;have cp:=h.port p _ X;have gl:m.g<w.heap.size:=af w _ cp;generalize m.bs[p] =bp at cp U V;clear X Fd bd
 go_in
 go_wp2_with(fail);refine hh.mono ?_;rintro e w1 ⟨rfl,rfl⟩;clear hh
 go_upto_region 3 with fail
 go_region_with(first|(go_at_call 181;refine U.mono ?_;rintro e w2 ⟨rfl,Y,Z⟩)|fail)
 all_goals
  have T:Hid _:=V.out _ Y Z;clear Y Z
  go_wp2
  go_ret;exact⟨rfl,T.out⟩
structure SR(w:dR)(g C:Nat)(ss:List SV):Prop where
 lt:g<w.heap.size
 cell:∀j s,ss[j]? =μ s->w.cell? ⟨g,j*3,ν⟩=μ (ι κ s.own)/\w.cell? ⟨g,j*3+1,ν⟩=μ (ι κ s.seq)/\w.cell? ⟨g,j*3+2,ν⟩=μ (σ s.a s.n s.cap)
 sp:∀j,j<C*3->(w.cell? ⟨g,j,ν⟩).isSome=true/\w.frozen? ⟨g,j,ν⟩=false
 le:ss.length<=C
 cm:C<=maxLen
theorem SR.fz {ss:List SV} (h:SR w g C ss)(j:Nat)(hj:j<ss.length*3):w.frozen? ⟨g,j,ν⟩=false:=(h.sp j (by have:=h.le;omega)).2
theorem SR.below {ss:List SV} (h:SR w g C ss)(hb:eh w w'):SR w' g C ss:=
 ⟨Nat.lt_of_lt_of_le h.lt hb.size,λj s e=>by
  obtain⟨c0,c1,c2⟩:=h.cell j s e;exact⟨(hb.cell (p:=⟨g,j*3,ν⟩) h.lt).trans c0,(hb.cell (p:=⟨g,j*3+1,ν⟩) h.lt).trans c1,(hb.cell (p:=⟨g,j*3+2,ν⟩) h.lt).trans c2⟩,λj Z=>⟨by rw[hb.cell (p:=⟨g,j,ν⟩) h.lt];exact(h.sp j Z).1,(hb.frozen (p:=⟨g,j,ν⟩) h.lt).trans (h.sp j Z).2⟩,h.le,h.cm⟩
theorem SR.drewN {w:dR} {g C:Nat} {ss:List SV} (h:SR w g C ss)(n:Nat):SR (w.drewN n) g C ss:=h.below (below_drewN (au _ _) n)
def Lt(w:dR)(g k:Nat)(s:SV):dR:=((w.setCell ⟨g,k*3,ν⟩ (ι κ s.own)).setCell ⟨g,k*3+1,ν⟩ (ι κ s.seq)).setCell ⟨g,k*3+2,ν⟩ (σ s.a s.n s.cap)
theorem SR.put {ss:List SV} (h:SR w g C ss)(k:Nat)(Q:k<ss.length)(s:SV):SR (Lt w g k s) g C (ss.set k s):=by
 have X:∀j,j<ss.length*3->(w.cell? ⟨g,j,ν⟩).isSome=true:=by
  intro j Z;have hl:j/3<ss.length:=dU;obtain⟨c0,c1,c2⟩:=h.cell (j/3) ss[j/3] (aA hl);rcases(show j=j/3*3 \/j=j/3*3+1 \/j=j/3*3+2 by omega)with e|e|e
  ·rw[e,c0];rfl
  ·rw[e,c1];rfl
  ·rw[e,c2];rfl
 have U:Lt w g k s=w.setCells g (k*3) [ι κ s.own,ι κ s.seq,σ s.a s.n s.cap] :=rfl;have Y:=bC g [ι κ s.own,ι κ s.seq,σ s.a s.n s.cap] (k*3) w (λj Z=>X _ (by simp at Z;omega));refine⟨by unfold Lt;simpa using h.lt,λj s' e=> ?_,λj Z=> ?_,by simpa using h.le,h.cm⟩
 ·by_cases T:j=k
  ·subst T;rw[List.getElem?_set_self Q]at e;obtain rfl:=Option.some.inj e;rw[U];exact⟨Y 0 gO,Y 1 gO,Y 2 gO⟩
  ·rw[List.getElem?_set_ne (λe=>T e.symm)]at e;obtain⟨c0,c1,c2⟩:=h.cell j s' e;have V:∀o,o<3->(w.setCells g (k*3) [ι κ s.own,ι κ s.seq,σ s.a s.n s.cap]).cell? ⟨g,j*3+o,ν⟩=w.cell? ⟨g,j*3+o,ν⟩:=λo ho=>br g _ _ _ _ (λ_ _=>by show j*3+o<k*3 \/k*3+3<=j*3+o;omega);rw[U];exact⟨(V 0 dX).trans c0,(V 1 dX).trans c1,(V 2 dX).trans c2⟩
 ·rw[U,bR];refine⟨?_,(h.sp j Z).2⟩;by_cases hq:k*3<=j/\j<k*3+3
  ·have:=Y (j-k*3) (by simp;omega);rw[show k*3+(j-k*3)=j by omega]at this;rw[this];rfl
  ·rw[br g _ _ _ _ (λ_ _=>by show j<k*3 \/k*3+3<=j;omega)];exact(h.sp j Z).1
theorem Fx(w:dR)(g k:Nat)(s:SV):w.grownBy (Lt w g k s) (μ g):=by
 unfold Lt;exact oc (oc (oc ⟨rfl,rfl,rfl,Nat.le_refl _,λ_ _ _=>rfl⟩ _ _) _ _) _ _
def Lu(l:List SV):Prop:=l.Pairwise (λx y=>x.own<y.own)
theorem RW(x y:SV)(w:dR):eT eU 203 #[.agg #[ι κ x.own,ι κ x.seq,σ x.a x.n x.cap],.agg #[ι κ y.own,ι κ y.seq,σ y.a y.n y.cap]] w λe w'=>e=ρ (ι κ (lD x.own y.own))/\eh w w':=by
 have Y:eh w ((w.alloc (γ #[ι κ x.own,ι κ x.seq,σ x.a x.n x.cap] 40)).alloc (γ #[ι κ y.own,ι κ y.seq,σ y.a y.n y.cap] 40)):=(gN _ _).alloc gO _;have Z:=sj x.own y.own ((w.alloc (γ #[ι κ x.own,ι κ x.seq,σ x.a x.n x.cap] 40)).alloc (γ #[ι κ y.own,ι κ y.seq,σ y.a y.n y.cap] 40))
 go_in
 go_wp2_with(fail);refine Z.mono ?_;rintro e w1 ⟨rfl,rfl⟩
 go_wp2
 go_ret;exact⟨rfl,Y⟩
structure Down(w wr:dR)(g cap n i:Nat)(ss pre mid post:List SV)(x:SV):Prop where
 sr:SR wr g cap (pre++x::(mid++post))
 perm:(pre++x::(mid++post)).Perm ss
 KT:Lu (pre++mid)
 low:∀y∈mid,x.own<y.own
 len:pre.length+mid.length=i
 grown:w.grownBy wr (μ g)
theorem Nm {pre mid:List SV} {x:SV} (h:Lu (pre++mid))(Y:∀y∈pre,y.own<x.own)(X:∀y∈mid,x.own<y.own):Lu (pre++x::mid):=by
 unfold Lu at*;rw[bk]at h⊢;refine⟨h.1,ct.2 ⟨X,h.2.1⟩,λa Z b hb=> ?_⟩;rcases aQ.1 hb with rfl|hb
 ·exact Y a Z
 ·exact h.2.2 a Z b hb
theorem RX {pre:List SV} {y x:SV} (h:Lu (pre++ [y]))(hy:y.own<x.own):∀z∈pre++ [y],z.own<x.own:=by
 intro z Z;rcases av.1 Z with Z|Z
 ·have:=(bk.1 h).2.2 z Z y gO;omega
 ·have:z=y:=by simpa using Z
  rw[this];exact hy
theorem sA {b:dR} (h:w.grownBy a (μ g))(k:eh a b):w.grownBy b (μ g):=
 ⟨k.os.trans h.os,k.tape.trans h.tape,k.output.trans h.output,Nat.le_trans h.size k.size,λi hi Z=>(k.block i (Nat.lt_of_lt_of_le hi h.size)).trans (h.block i hi Z)⟩
theorem AO {b:dR} (h:w.grownBy a (μ g))(k:a.grownBy b (μ g)):w.grownBy b (μ g):=
 ⟨k.os.trans h.os,k.tape.trans h.tape,k.output.trans h.output,Nat.le_trans h.size k.size,λi hi Z=>(k.block i (Nat.lt_of_lt_of_le hi h.size) Z).trans (h.block i hi Z)⟩
theorem acD {a d e f:Nat} {u0 u1 u2 u3 u4 u5:dT} (k:eh w w')(gl:g<w.heap.size)
 (h:w.cell? ⟨g,a,ν⟩=μ u0/\w.cell? ⟨g,b,ν⟩=μ u1/\w.cell? ⟨g,c,ν⟩=μ u2/\w.cell? ⟨g,d,ν⟩=μ u3/\w.cell? ⟨g,e,ν⟩=μ u4/\w.cell? ⟨g,f,ν⟩=μ u5):
 w'.cell? ⟨g,a,ν⟩=μ u0/\w'.cell? ⟨g,b,ν⟩=μ u1/\w'.cell? ⟨g,c,ν⟩=μ u2/\w'.cell? ⟨g,d,ν⟩=μ u3/\w'.cell? ⟨g,e,ν⟩=μ u4/\w'.cell? ⟨g,f,ν⟩=μ u5:=
 ⟨(k.cell (p:=⟨g,a,ν⟩) gl).trans h.1,(k.cell (p:=⟨g,b,ν⟩) gl).trans h.2.1,(k.cell (p:=⟨g,c,ν⟩) gl).trans h.2.2.1,(k.cell (p:=⟨g,d,ν⟩) gl).trans h.2.2.2.1,(k.cell (p:=⟨g,e,ν⟩) gl).trans h.2.2.2.2.1,(k.cell (p:=⟨g,f,ν⟩) gl).trans h.2.2.2.2.2⟩
theorem Lv(g n cap:Nat)(ss:List SV)(w:dR)(h:SR w g cap ss)(hl:ss.length=n)(hn:n<=12)(hd:ss.Pairwise (λx y=>x.own≠y.own)):
 eT eU 232 #[σ (μ ⟨g,0,ν⟩) n cap,ι κ 0,ι κ (n:Int),.func (.func 203) #[] #[]] w λe w'=>e=ρ (τ #[])/\∃ts,SR w' g cap ts/\ts.Perm ss/\Lu ts/\w.grownBy w' (μ g):=by
 go_in
 go_wp2
 go_loopw [8] (λi wr=>∃(k:Nat) (ts:List SV),1<=k/\(k<=n \/k=1)/\i=ι κ k/\SR wr g cap ts/\ts.Perm ss/\Lu (ts.take k)/\w.grownBy wr (μ g)) (λi _=>n-(eV i).toNat)
 case atStart=>exact⟨1,ss,Nat.le_refl _,.inr rfl,rfl,h,List.Perm.refl _,by unfold Lu;cases ss<;>simp,⟨rfl,rfl,rfl,Nat.le_refl _,λ_ _ _=>rfl⟩⟩
 case round=>
  obtain⟨k,ts,Vd,Cg,rfl,hS,U,hR,hG⟩:=hrel;have htl:ts.length=n:=by rw[U.length_eq,hl]
  by_cases ka:k<n
  ·have m8:(k:Int)<(n:Int):=dU;have A:Hid (Down w wr g cap n k ss (ts.take k) [] (ts.drop (k+1)) (ts[k]'(by omega))):=by
    have e:ts.take k++(ts[k]'(by omega))::([] ++ts.drop (k+1))=ts:=by
     rw[bF,<-aO dU,cB]
    refine⟨by rw[e];exact hS,by rw[e];exact U,by rw[aC];exact hR,gO,by simp;omega,hG⟩
   obtain⟨wo,rfl⟩:∃wo,wo=wr:=⟨_,rfl⟩
   clear hS U hR hG
   go_wp2
   go_loopw [9] (λj wr=>∃(pre mid post:List SV) (x:SV),j=ι κ (pre.length:Int)/\Down w wr g cap n k ss pre mid post x) (λj _=>(eV j).toNat)
   case atStart=>exact⟨_,_,_,_,by simp;omega,A.out⟩
   case round=>
    clear A;obtain⟨pre,mid,post,x,rfl,Y⟩:=hrel;have hlen:pre.length+mid.length+post.length+1=n:=by
     have:=Y.perm.length_eq;simp at this;omega
    rcases List.eq_nil_or_concat pre with rfl|⟨Z,y,oE⟩
    ·have u:Hid (∃ts:List SV,SR wr g cap ts/\ts.Perm ss/\Lu (ts.take (k+1))/\w.grownBy wr (μ g)):=by
      refine⟨_,Y.sr,Y.perm,?_,Y.grown⟩;have hm:=Y.len;simp only[fe,eN,Nat.zero_add]at hm⊢;have e:(x::(mid++post)).take (k+1)=x::mid:=by
       rw[List.take_succ_cons,<-hm,List.take_left]
      rw[e];exact Nm (pre:=[]) Y.KT gO Y.low
     clear Y;simp only[eN,Int.natCast_zero]
     go_wp2
     go_quiet(fail)
     go_wp2
     go_roundw
     case rel=>
      obtain⟨us,q1,q2,q3,q4⟩:=u.out;exact⟨k+1,us,dU,.inl dU,by go_num,SR.drewN q1 _,q2,q3,sA q4 (below_drewN (au _ _) _)⟩
     case measure=>simp[eV];omega
    ·rw[List.concat_eq_append]at oE;subst oE;obtain⟨P,U⟩:=fW (Z.length);have T:(Z++ [y]).length=P+1:=by simp[U]
     have gx:((Z++ [y])++x::(mid++post))[P+1]? =μ x:=by rw[<-T];simp
     have gy:((Z++ [y])++x::(mid++post))[P]? =μ y:=by rw[<-U];simp
     obtain⟨x0,x1,x2⟩:=Y.sr.cell _ _ gx;obtain⟨y0,y1,y2⟩:=Y.sr.cell _ _ gy;have gl:=Y.sr.lt;have hPn:P+1<n:=by
      rw[T]at hlen;omega
     have b0:(0:Int)<=(P:Int):=dU;have b1:(P:Int)<(n:Int):=dU;have b2:(P:Int)+1<(n:Int):=dU;have b3:(0:Int)<=(P:Int)+1:=dU;have b4:(0:Int)<(P:Int)+1:=dU;have b5:fh.wrap ((P:Int)+1-1)=(P:Int):=by rw[show(P:Int)+1-1=(P:Int) by omega];exact aP _ ⟨dU,dU⟩
     have b6:fh.wrap (P:Int)=(P:Int):=aP _ ⟨dU,dU⟩;have D:¬x.own=y.own:=by
      have Lw:=(Y.perm.pairwise_iff (λ{a b} (EF:a.own≠b.own)=>λe=>EF e.symm)).2 hd;have h3:=(bk.1 Lw).2.2 y gO x gO;exact λe=>h3 e.symm
     have eJ:(((Z++ [y]).length:Nat):Int)=(P:Int)+1:=by rw[T];rfl
     rw[eJ];have HD:Hid _:=Y;have HP:Hid _:=U;have HN:Hid _:=D;clear Y U D eJ T gx gy hlen;have H:wr.drew.cell? ⟨g,(P+1)*3,ν⟩=μ (ι κ x.own)/\wr.drew.cell? ⟨g,(P+1)*3+1,ν⟩=μ (ι κ x.seq)/\wr.drew.cell? ⟨g,(P+1)*3+2,ν⟩=μ (σ x.a x.n x.cap)/\wr.drew.cell? ⟨g,P*3,ν⟩=μ (ι κ y.own)/\wr.drew.cell? ⟨g,P*3+1,ν⟩=μ (ι κ y.seq)/\wr.drew.cell? ⟨g,P*3+2,ν⟩=μ (σ y.a y.n y.cap):=⟨x0,x1,x2,y0,y1,y2⟩
     have G:=RW x y wr.drew;obtain⟨cx,V⟩:=fW (lD x.own y.own);rw[V]at G;by_cases RY:x.own<y.own
     ·have RZ:cx= -1:=by rw[<-V,lD,ag RY]
      subst RZ;clear V
      go_wp2
      go_region_held3(λv=>v.cell? ⟨g,(P+1)*3,ν⟩=μ (ι κ x.own)/\v.cell? ⟨g,(P+1)*3+1,ν⟩=μ (ι κ x.seq)/\v.cell? ⟨g,(P+1)*3+2,ν⟩=μ (σ x.a x.n x.cap)/\v.cell? ⟨g,P*3,ν⟩=μ (ι κ y.own)/\v.cell? ⟨g,P*3+1,ν⟩=μ (ι κ y.seq)/\v.cell? ⟨g,P*3+2,ν⟩=μ (σ y.a y.n y.cap))
       (first|assumption|exact H|exact F1)
       ((go_at_call 203;refine G.mono ?_;rintro e M ⟨rfl,Q⟩;have F1:=acD Q gl H))
      have X:eh wr M:=fY (below_drewN (au _ _) 1) Q;have S5:=HD.out.sr.below X;obtain⟨z0,z1,z2,z3,z4,z5⟩:=F1;have gl5:=S5.lt;have J:∀o,o<(P+2)*3->M.frozen? ⟨g,o,ν⟩=false:=λo ho=>S5.fz o (by have:=HP.out;simp;omega);have f0:=J ((P+1)*3) dU;have f1:=J ((P+1)*3+1) dU;have f2:=J ((P+1)*3+2) dU;have f3:=J (P*3) dU;have f4:=J (P*3+1) dU;have f5:=J (P*3+2) dU;clear J G H x0 x1 x2 y0 y1 y2 Q;have hD6:Hid (Down w (Lt (Lt M g (P+1) y) g P x).drew g cap n k ss Z (y::mid) post x):=by
       have hd:=HD.out;have hp:=HP.out;have agQ:((((Z++ [y])++x::(mid++post)).set (P+1) y).set P x)=Z++x::((y::mid)++post):=by
        subst hp;rw[aD,dJ _ _ dU,show Z.length+1-Z.length=1 by omega];simp only[List.singleton_append,List.set_cons_succ,List.set_cons_zero];rw[dJ _ _ dU,Nat.sub_self];rfl
       have hlen:((Z++ [y])++x::(mid++post)).length=Z.length+mid.length+post.length+2:=by simp;omega
       have s6:=((S5.put (P+1) (by rw[hlen];omega) y).put P (by rw[List.length_set,hlen];omega) x).drewN 1;rw[agQ]at s6;refine⟨s6,?_,?_,?_,?_,?_⟩
       ·refine List.Perm.trans ?_ hd.perm;rw[aD];exact List.Perm.append_left Z (by simpa using List.Perm.swap y x (mid++post))
       ·have:=hd.KT;rw[aD]at this;exact this
       ·intro z hz;rcases aQ.1 hz with rfl|hz
        ·exact RY
        ·exact hd.low z hz
       ·have:=hd.len;simp at this⊢;omega
       ·exact sA (AO (AO (sA hd.grown X) (Fx _ g (P+1) y)) (Fx _ g P x)) (below_drewN (au _ _) 1)
      go_wp2
      go_region
      go_wp2_with(fail);refine⟨⟨Z,y::mid,post,x,?_,?_⟩,?_⟩
      ·rw[HP.out]
      ·exact hD6.out
      ·simp[eV]
     ·have hhi:y.own<x.own:=by
       have h9:¬x.own=y.own:=HN.out;omega
      have RZ:cx=1:=by rw[<-V,lD,ae RY,ag hhi]
      subst RZ;clear V
      go_wp2
      go_region_held3(λv=>v.cell? ⟨g,(P+1)*3,ν⟩=μ (ι κ x.own)/\v.cell? ⟨g,(P+1)*3+1,ν⟩=μ (ι κ x.seq)/\v.cell? ⟨g,(P+1)*3+2,ν⟩=μ (σ x.a x.n x.cap)/\v.cell? ⟨g,P*3,ν⟩=μ (ι κ y.own)/\v.cell? ⟨g,P*3+1,ν⟩=μ (ι κ y.seq)/\v.cell? ⟨g,P*3+2,ν⟩=μ (σ y.a y.n y.cap))
       (first|assumption|exact H|exact F1)
       ((go_at_call 203;refine G.mono ?_;rintro e M ⟨rfl,Q⟩;have F1:=acD Q gl H))
      have X:eh wr M:=fY (below_drewN (au _ _) 1) Q;have u:Hid (∃ts:List SV,SR M g cap ts/\ts.Perm ss/\Lu (ts.take (k+1))/\w.grownBy M (μ g)):=by
       have hd:=HD.out;refine⟨_,hd.sr.below X,hd.perm,?_,sA hd.grown X⟩;have hm:=hd.len;have e:((Z++ [y])++x::(mid++post)).take (k+1)=(Z++ [y])++x::mid:=by
        rw[show(Z++ [y])++x::(mid++post)=((Z++ [y])++x::mid)++post by simp];rw[List.take_left' (by simp at hm⊢;omega)]
       rw[e];exact Nm hd.KT (RX (bk.1 hd.KT).1 hhi) hd.low
      clear G H F1 x0 x1 x2 y0 y1 y2 Q
      go_wp2
      go_roundw
      case rel=>
       obtain⟨us,q1,q2,q3,q4⟩:=u.out;exact⟨k+1,us,dU,.inl dU,by go_num,q1,q2,q3,q4⟩
      case measure=>simp[eV];omega
  ·have u:Hid (∃ts,SR wr g cap ts/\ts.Perm ss/\Lu ts/\w.grownBy wr (μ g)):=by
    refine⟨ts,hS,U,?_,hG⟩;have:ts.take k=ts:=aG dU
    rwa [this]at hR
   clear hS U hR hG;have yt:¬(k:Int)<(n:Int):=dU
   go_wp2
   first|go_end0|refine iC rfl rfl ?_
   exact⟨rfl,u.out⟩
theorem Nn(n:Nat)(hn:n<=6)(w:dR):eT eU 221 #[.int .u64 (n:Int)] w λe w'=>∃r:Int,e=ρ (ι κ r)/\w=w':=by
 have Z:∀W:dR,eT eU 241 #[.int .u64 (n:Int)] W λe w'=>∃r:Int,e=ρ (ι κ r)/\W=w':=by
  intro W;rcases(show n=0 \/n=1 \/n=2 \/n=3 \/n=4 \/n=5 \/n=6 by omega)with rfl|rfl|rfl|rfl|rfl|rfl|rfl
  all_goals
   go_in
   go_wp2
   go_ret;exact⟨_,rfl,rfl⟩
 go_in
 go_wp2_with(fail);refine(Z _).mono ?_;rintro e w1 ⟨r,rfl,rfl⟩
 go_wp2
 go_ret;exact⟨_,rfl,rfl⟩
theorem VK(g n cap:Nat)(L:Int)(ss:List SV)(w:dR)(h:SR w g cap ss)(hl:ss.length=n)(X:n<=12)(hd:ss.Pairwise (λx y=>x.own≠y.own)):
 eT eU 220 #[σ (μ ⟨g,0,ν⟩) n cap,ι κ 0,ι κ (n:Int),ι κ L,.func (.func 203) #[] #[]] w λe w'=>e=ρ (τ #[])/\∃ts,SR w' g cap ts/\ts.Perm ss/\Lu ts/\w.grownBy w' (μ g):=by
 have hc:=Lv g n cap ss w h hl X hd;have h12:(n:Int)<=12:=dU
 go_in
 go_wp2_with(fail);refine bV 1 ?_;rw[bK];go_wp2_with(fail);refine hc.mono ?_;rintro e w1 ⟨rfl,Z⟩;have Y:Hid _:=Z;clear Z hc
 go_wp2
 first|go_end0|refine iC rfl rfl ?_
 exact⟨rfl,Y.out⟩
theorem R6(g n cap:Nat)(ss:List SV)(w:dR)(h:SR w g cap ss)(hl:ss.length=n)(V:n<=6)(hd:ss.Pairwise (λx y=>x.own≠y.own)):
 eT eU 202 #[σ (μ ⟨g,0,ν⟩) n cap,.func (.func 203) #[] #[]] w λe w'=>e=ρ (τ #[])/\∃ts,SR w' g cap ts/\ts.Perm ss/\Lu ts/\w.grownBy w' (μ g):=by
 have Z:=Nn n V w;have h12:(n:Int)<=6:=dU
 go_in
 go_wp2_with(fail);refine Z.mono ?_;rintro e w1 ⟨r,rfl,rfl⟩;go_wp2_with(fail);refine(VK g n cap r ss w h hl dU hd).mono ?_;rintro e w2 ⟨rfl,Y⟩;have X:Hid _:=Y;clear Y Z
 go_wp2
 first|go_end0|refine iC rfl rfl ?_
 exact⟨rfl,X.out⟩
def SV.cells(s:SV):List dT:=[ι κ s.own,ι κ s.seq,σ s.a s.n s.cap]
def OP(ss:List SV):List dT:=ss.flatMap SV.cells
theorem R7(ss:List SV)(s:SV):OP (ss++ [s])=OP ss++ [ι κ s.own,ι κ s.seq,σ s.a s.n s.cap] :=by simp[OP,SV.cells]
theorem Np:∀(ss:List SV) (j:Nat) (s:SV),ss[j]? =μ s->(OP ss)[j*3]? =μ (ι κ s.own)/\(OP ss)[j*3+1]? =μ (ι κ s.seq)/\(OP ss)[j*3+2]? =μ (σ s.a s.n s.cap)
 |[],j,s,h=>by simp at h
 |x::l,0,s,h=>by
  have:x=s:=by simpa using h
  subst this;exact⟨rfl,rfl,rfl⟩
 |x::l,j+1,s,h=>by
  have Y:l[j]? =μ s:=by simpa using h
  obtain⟨a,b,c⟩:=Np l j s Y;have e:OP (x::l)=ι κ x.own::ι κ x.seq::σ x.a x.n x.cap::OP l:=rfl;have Z:(j+1)*3=j*3+3:=dU;have V:(j+1)*3+1=j*3+1+3:=dU;have X:(j+1)*3+2=j*3+2+3:=dU;rw[e,V,X,Z];simp only[List.getElem?_cons_succ];exact⟨a,b,c⟩
theorem Row.sr {ss:List SV} (h:Row w 3 (σ (μ ⟨g,0,ν⟩) ss.length cap) ss.length (OP ss)):SR w g cap ss:=by
 rcases h.2 with⟨e,_⟩|⟨g',jn,e,_,Z,Y,_,hs⟩
 ·cases e
 ·cases e;refine⟨h.lt g rfl,λj s e=> ?_,hs,Z,Y⟩;obtain⟨a,b,c⟩:=Np ss j s e;exact⟨Row.cell h _ _ a,Row.cell h _ _ b,Row.cell h _ _ c⟩
theorem ui:∀(l m:List Int),l.Pairwise (·≠·)->(∀x∈l,x∈m)->l.length<=m.length
 |[],_,_,_=>Nat.zero_le _
 |x::l,m,hp,hs=>by
  obtain⟨Y,Z⟩:=ct.1 hp;have hx:=hs x gO;have:=ui l (m.erase x) Z (λy hy=>(List.mem_erase_of_ne (λe=>Y y hy e.symm)).2 (hs y (cS _ hy)));rw[List.length_erase_of_mem hx]at this;have hm:0<m.length:=List.length_pos_of_mem hx;simp only[List.length_cons];omega
structure Zc(w wr:dR)(f:Int->Option SV)(es:Int->List jG)(v:dT)(s:SV):Prop where
 at_:∃t,f s.own=μ t/\s.seq=t.seq
 inr:sv s.own
 n:s.n=(es s.own).length
 opt:iU wr s.a s.n (es s.own)
 nil:kt s.a s.cap
 new:∀j,dV (σ s.a s.n s.cap)=μ j->w.heap.size<j/\j<wr.heap.size/\v.ownBlock≠μ j
structure R8(w wr:dR)(f:Int->Option SV)(es:Int->List jG)(left:Lit->Bool)(v:dT)(out:List SV):Prop where
 row:Row wr 3 v out.length (OP out)
 own:∀g,v.ownBlock=μ g->w.heap.size<g
 el:∀s∈out,Zc w wr f es v s/\left (.int .i64 s.own)=false
 df:out.Pairwise (λx y=>x.own≠y.own)
 all:∀k,sv k->(f k).isSome=true->left (.int .i64 k)=false->∃s∈out,s.own=k
 ny:eh w wr
theorem R8.step {w1 w3:dR} {f:Int->Option SV} {v':dT} {out:List SV} {s t:SV} (h:R8 w wr f es left v out)
 (Y:wr.grownBy w1 (μ w.heap.size)) (G:w1.grownBy w3 v.ownBlock) (M:Row w3 3 v' (out.length+1) (OP out++ [ι κ s.own,ι κ s.seq,σ s.a s.n s.cap]))
 (hv:∀g,v'.ownBlock=μ g->v.ownBlock=μ g \/wr.heap.size<=g) (hw:w.heap.size<wr.heap.size) (J:∀j,dV (σ s.a s.n s.cap)=μ j->wr.heap.size<=j/\j<w3.heap.size/\v'.ownBlock≠μ j)
 (hx:sv s.own) (U:left (.int .i64 s.own)=true) (A:f s.own=μ t) (Z:s.seq=t.seq) (y:s.n=(es s.own).length) (H:iU w3 s.a s.n (es s.own)) (j5:kt s.a s.cap):
 R8 w w3 f es (λz=>left z&& !z.sameKey (.int .i64 s.own)) v' (out++ [s]):=by
 have qX:wr.heap.size<=w3.heap.size:=Nat.le_trans Y.size G.size;have Q:∀i,i<wr.heap.size->i≠w.heap.size->v.ownBlock≠μ i->w3.heap[i]? =wr.heap[i]? :=λi hi T V=>
  (G.block i (Nat.lt_of_lt_of_le hi Y.size) (λe=>V e.symm)).trans (Y.block i hi (λe=>T (by simpa using e)))
 refine⟨?_,?_,?_,?_,?_,?_⟩
 ·rw[R7,az];exact M
 ·intro g D;rcases hv g D with e|e
  ·exact h.own g e
  ·omega
 ·intro q Z;rcases av.1 Z with Z|Z
  ·obtain⟨a,b⟩:=h.el q Z;refine⟨⟨a.at_,a.inr,a.n,a.opt.kept (cap:=q.cap) (λj X=> ?_),a.nil,λj X=> ?_⟩,by simp[b]⟩
   ·obtain⟨c1,c2,c3⟩:=a.new j X;exact Q j c2 dU c3
   ·obtain⟨c1,c2,c3⟩:=a.new j X;refine⟨c1,dU,λe=> ?_⟩;rcases hv j e with e|e
    ·exact c3 e
    ·omega
  ·have:q=s:=by simpa using Z
   subst this;refine⟨⟨⟨t,A,iX⟩,hx,y,H,j5,λj X=> ?_⟩,by simp[qE]⟩;obtain⟨c1,c2,c3⟩:=J j X;exact⟨dU,c2,c3⟩
 ·rw[bk];refine⟨h.df,List.pairwise_singleton _ _,λa ha b hb=> ?_⟩;have:b=s:=by simpa using hb
  subst this;intro e;have:=(h.el a ha).2;rw[e,U]at this;cases this
 ·intro k u hs hl;by_cases e:k=s.own
  ·exact⟨s,gO,e.symm⟩
  ·have:left (.int .i64 k)=false:=by simpa[qE,e]using hl
   obtain⟨q,T,V⟩:=h.all k u hs this;exact⟨q,by simp[T],V⟩
 ·refine⟨?_,?_,?_,?_,?_⟩
  ·exact G.os.trans (Y.os.trans h.ny.os)
  ·exact G.tape.trans (Y.tape.trans h.ny.tape)
  ·exact G.output.trans (Y.output.trans h.ny.output)
  ·exact Nat.le_trans h.ny.size qX
  ·intro i hi;refine(Q i dU dU (λe=> ?_)).trans (h.ny.block i hi);have:=h.own i e;omega
theorem R8.few {f:Int->Option SV} {out:List SV} (h:R8 w wr f es left v out)(hf:∀k s,sv k->f k=μ s->1<=k/\k<=6):out.length<=6:=by
 have Y:=ui (out.map SV.own) [1,2,3,4,5,6] (by rw[dj];exact h.df) (λx hx=>by
  obtain⟨s,hs,rfl⟩:=bH.1 hx;obtain⟨t,Z,_⟩:=(h.el s hs).1.at_;have:=hf _ t (h.el s hs).1.inr Z;simp;omega)
 simpa using Y
theorem infoState:(eU.info? 40).map (λi=>(i.zero,i.size,i.bytes))=μ (μ (.agg #[ι κ 0,ι κ 0,σ ν 0 0]),3,40):=gL
theorem I9(w:dR)(x y z:dT)(t:dW)(g:Nat)(Y:w.heap.size=g):∀(j:Nat) (u:dT),[x,y,z][j]? =μ u->(w.alloc (γ #[x,y,z] t)).cell? ((⟨g,0,ν⟩:dQ).add j)=μ u:=by
 subst Y;intro j u Z;rw[add_plain,aj];simpa using Z
theorem Zd(x y:Int)(a:Option dQ)(n c:Nat):∀u∈ [dY .i64 x,dY .i64 y,Value.slice a n c],u.oneCell'=true:=by simp[Value.oneCell']
structure CX(w w':dR)(f:Int->Option SV)(es:Int->List jG)(v:dT)(ts:List SV):Prop where
 shape:(v=σ ν 0 0/\ts=[]) \/ ∃g cap,v=σ (μ ⟨g,0,ν⟩) ts.length cap/\SR w' g cap ts/\w.heap.size<g
 el:∀s∈ts,Zc w w' f es v s
 KT:Lu ts
 all:∀k,sv k->(f k).isSome=true->∃s∈ts,s.own=k
 ny:eh w w'
theorem R8.Ze {f:Int->Option SV} {out:List SV} (h:R8 w wr f es left v out)(hl:∀Y,left Y=false)(hv:v=σ ν 0 0):CX w wr f es v [] /\out=[] :=by
 have Z:out=[] :=by
  rcases h.row.2 with⟨_,e⟩|⟨g,cap,e,_⟩
  ·exact aH e
  ·rw[hv]at e;cases e
 subst Z;exact⟨⟨.inl ⟨hv,rfl⟩,λs hs=>by simp at hs,List.Pairwise.nil,λk X hs=>h.all k X hs (hl _),h.ny⟩,rfl⟩
theorem R8.acH {f:Int->Option SV} {out ts:List SV} (h:R8 w wr f es left (σ (μ ⟨g,0,ν⟩) out.length cap) out)(hl:∀Q,left Q=false)
 (hs:SR w' g cap ts) (Y:ts.Perm out) (U:Lu ts) (Z:wr.grownBy w' (μ g)):CX w w' f es (σ (μ ⟨g,0,ν⟩) out.length cap) ts:=by
 have J:w.heap.size<g:=h.own g rfl;refine⟨.inr ⟨g,cap,by rw[Y.length_eq],hs,J⟩,λs T=> ?_,U,λk G M=> ?_,?_⟩
 ·have a:=(h.el s (Y.mem_iff.1 T)).1;refine⟨a.at_,a.inr,a.n,a.opt.kept (cap:=s.cap) (λj X=> ?_),a.nil,λj X=> ?_⟩
  ·obtain⟨c1,c2,c3⟩:=a.new j X;exact Z.block j c2 (λe=>c3 e.symm)
  ·obtain⟨c1,c2,c3⟩:=a.new j X;exact⟨c1,Nat.lt_of_lt_of_le c2 Z.size,c3⟩
 ·obtain⟨s,V,H⟩:=h.all k G M (hl _);exact⟨s,Y.mem_iff.2 V,H⟩
 ·refine⟨Z.os.trans h.ny.os,Z.tape.trans h.ny.tape,Z.output.trans h.ny.output,Nat.le_trans h.ny.size Z.size,λi hi=>(Z.block i (Nat.lt_of_lt_of_le hi h.ny.size) (λe=> ?_)).trans (h.ny.block i hi)⟩;have:i=g:=by simpa using e
  omega
theorem Sb(w:dR):eT eU 202 #[σ ν 0 0,.func (.func 203) #[] #[]] w λe w'=>e=ρ (τ #[])/\w=w':=by
 have Z:=Nn 0 dX w;have X:eT eU 232 #[σ ν 0 0,ι κ 0,ι κ 0,.func (.func 203) #[] #[]] w λe w'=>e=ρ (τ #[])/\w=w':=by
  go_in
  go_wp2_with(fail);refine bV 1 ?_;rw[bK]
  go_wp2
  first|go_end0|refine iC rfl rfl ?_
  exact⟨rfl,rfl⟩
 have Y:∀L:Int,eT eU 220 #[σ ν 0 0,ι κ 0,ι κ 0,ι κ L,.func (.func 203) #[] #[]] w λe w'=>e=ρ (τ #[])/\w=w':=by
  intro L
  go_in
  go_wp2_with(fail);refine bV 1 ?_;rw[bK];go_wp2_with(fail);refine X.mono ?_;rintro e w1 ⟨rfl,rfl⟩
  go_wp2
  first|go_end0|refine iC rfl rfl ?_
  exact⟨rfl,rfl⟩
 go_in
 go_wp2_with(fail);refine Z.mono ?_;rintro e w1 ⟨r,rfl,rfl⟩;go_wp2_with(fail);refine(Y r).mono ?_;rintro e w2 ⟨rfl,rfl⟩
 go_wp2
 first|go_end0|refine iC rfl rfl ?_
 exact⟨rfl,rfl⟩
open Go.ChangeShapes Go.WideShapes Go.ChangeAt
theorem OQ {H:Type} {enc:dW×dT->H} {a:Option dQ} {d:DataW H} {ps:List MemPlace}
 (h:DataW.Trod enc eU W 0 (λ_=>true) true 35 (σ a n cap) d ps):
 ∃os:List jG,iU W a n os/\kt a cap/\n<=maxLen:=by
 obtain⟨fuel,hf⟩:=h;rcases du underlying35 underlying276 gL rfl rfl gL gL hf with⟨hcs,_⟩|⟨x,len,cp,m',n',V,Y,D0,D1,P0,P1,hcs,_,hl,hm,M,_,hx⟩
 ·simp[fj]at hcs;obtain⟨rfl,rfl,rfl⟩:=hcs;exact⟨[],⟨rfl,.inl rfl⟩,λ_=>rfl,dX⟩
 ·simp[fj]at hcs;obtain⟨rfl,rfl,rfl⟩:=hcs;simp at M;have each:∀i,i<n->W.cell? (x.add (i*2))=μ (ι κ (eV (V i)))/\W.cell? (x.add (i*2+1))=μ (ι κ (eV (Y i))):=by
   intro i hi;obtain⟨q1,q2,Q,G⟩:=hx i dU;obtain⟨k,f0,_,_⟩:=bg underlying3 Q;obtain⟨n,f1,_,_⟩:=bg underlying3 G;simp at f0 f1;exact⟨by rw[q1,f0];rfl,by rw[q2,f1];rfl⟩
  refine⟨(List.range n).map (λi=>(eV (V i),eV (Y i))),⟨gO,?_⟩,λh=>by simp at h,dU⟩;by_cases J:n=0
  ·exact .inl J
  ·obtain⟨b,off,Z⟩:=x;have hc:=(each 0 dU).1;have U:Z=ν:=by simpa[Addr.add]using cR hc
   subst U;refine .inr ⟨b,off,rfl,λj D=> ?_⟩;have T:j<n:=by simpa using D
   have X:=each j T;rw[mG,mG]at X;simpa[Nat.add_assoc]using X
section
variable {P:Program}
theorem EN(s:ByteArray):(fq (λb:UInt8=>dY ft (b.toNat:Int)) s.data).extract 0 s.size=fq (λb:UInt8=>dY ft (b.toNat:Int)) s.data:=by
 have hs:s.size=(fq (λb:UInt8=>dY ft (b.toNat:Int)) s.data).size:=by rw[dK];rfl
 rw[hs,Array.extract_size]
theorem vf(g:Nat):∀(vs:List dT) (o:Nat) (w:dR),(w.setCells g o vs).heap.size=w.heap.size/\(w.setCells g o vs).os=w.os/\(w.setCells g o vs).tape=w.tape/\(w.setCells g o vs).output=w.output/\∀k,k≠g->(w.setCells g o vs).heap[k]? =w.heap[k]?
 |[],o,w=>⟨rfl,rfl,rfl,rfl,λ_ _=>rfl⟩
 |u::r,o,w=>by
  have h:=vf g r (o+1) (w.setCell ⟨g,o,ν⟩ u);have b1:Below 0 w (w.setCell ⟨g,o,ν⟩ u):=(au 0 w).setCell (Nat.zero_le _) _;exact⟨h.1.trans gO,h.2.1.trans b1.os,h.2.2.1.trans b1.tape,h.2.2.2.1.trans b1.output,λk Z=>(h.2.2.2.2 k Z).trans (aq _ _ _ k Z)⟩
theorem Lx(l:List UInt8):∀u∈iH l,u.oneCell'=true:=by
 intro u Z;obtain⟨b,_,rfl⟩:=bH.1 Z;rfl
theorem Ly(s:ByteArray):(fq (λb:UInt8=>dY ft (b.toNat:Int)) s.data).toList=iH s.data.toList:=by simp[iH]
theorem Row.VL {xs:List dT} (h:Row w 1 v n xs):v=σ ν 0 0/\n=0/\xs=[] \/ ∃g cap,v=σ (μ ⟨g,0,ν⟩) n cap/\g<w.heap.size/\n<=cap/\cap<=maxLen/\(∀(j:Nat) (u:dT),xs[j]? =μ u->w.cell? ⟨g,j,ν⟩=μ u)/\(∀j,j<cap*1->(w.cell? ⟨g,j,ν⟩).isSome=true/\w.frozen? ⟨g,j,ν⟩=false):=by
 rcases h.2 with⟨Z,Y⟩|⟨g,cap,Z,U,X,Q,T,V⟩
 ·exact .inl ⟨Z,Y,aH (by rw[h.1,Y])⟩
 ·exact .inr ⟨g,cap,Z,U,X,Q,T,V⟩
theorem vh(w:dR)(t u ty e:dW)(i:TypeInfo)(z:dT)(M:P.underlying t=μ (.slice e))(Q:P.underlying u=μ .string)(hi:P.info? e=μ i)(hz:i.zero=μ z)(qW:i.size=1)(zA:i.bytes=1)(La:z.cells.size=1)
 (v:dT) (n:Nat) (xs:List dT) (X:Row w 1 v n xs) (s:ByteArray) (hs:s.size<=1000000) (hn:n<=1000000000):
 ∃v' w',(fA #[t,u] ty #[v,.string s]).run P w=.ok v' w'/\Row w' 1 v' (n+s.size) (xs++iH s.data.toList)/\w.grownBy w' v.ownBlock/\(v'.ownBlock=v.ownBlock \/ ∃k,v'.ownBlock=μ k/\w.heap.size<=k):=by
 have hsl:(iH s.data.toList).length=s.size:=by simp[qo]
 have hex:=EN s;rcases X.VL with⟨rfl,rfl,rfl⟩|⟨g,cap,rfl,hg,rA,Lb,hcell,G⟩
 ·by_cases J:s.size=0
  ·have y:s.data.toList=[] :=aH (by simpa using J);refine⟨σ ν 0 0,w,?_,by rw[J,y];exact Row.nil _ _,⟨rfl,rfl,rfl,Nat.le_refl _,λ_ _ _=>rfl⟩,.inl rfl⟩;simp[fA,fB M,fB Q,sizeOf,typeInfo,hi,fC,fD,J]
  ·have U:=run_append_nil_string (P:=P) (w:=w) t u ty e i z M Q hi hz s dU dU (by rw[zA];omega);have h:=grownCap_ge w s.size 0 e;refine⟨_,_,U,?_,⟨rfl,rfl,rfl,gO,λk Y _=>aT w.drew _ k Y⟩,.inr ⟨_,rfl,Nat.le_refl _⟩⟩;simp only[Nat.zero_add,fe];refine Row.made w.drew 1 e _ (0,0) s.size _ _ (by rw[hsl,Nat.mul_one]) ?_ h (cZ _ _ _ _ (by unfold maxLen;omega)) (.inl rfl) (λj x Z=> ?_)
   ·rw[dk,size_zeroCells,La,dK];have:s.data.size=s.size:=rfl;omega
   ·have V:j<s.size:=by rw[<-hsl];exact(aI.1 Z).1
    rw[cJ (by rw[dK];exact V),<-Z,<-Ly s,Array.getElem?_toList]
 ·by_cases U:n+s.size<=cap
  ·have T:∀j,j<(iH s.data.toList).length->(w.cell? ⟨g,0+n*1+j,ν⟩).isSome=true/\w.frozen? ⟨g,0+n*1+j,ν⟩=false:=λj Z=>G _ dU;have jY:=run_storeCells_cells (P:=P) g (0+n*1) (iH s.data.toList) 0 w (λj Z=>by rw[Nat.add_zero];exact(T j Z).1) (λj Z=>by rw[Nat.add_zero];exact(T j Z).2) (Lx _);have B:=vf g (iH s.data.toList) (0+n*1) w;refine⟨σ (μ ⟨g,0,ν⟩) (n+s.size) cap,w.setCells g (0+n*1) (iH s.data.toList),?_,⟨by rw[az,X.1,hsl];omega,.inr ⟨g,cap,rfl,by rw[B.1];exact hg,U,Lb,λj x hx=> ?_,λj Z=> ?_⟩⟩,⟨B.2.1,B.2.2.1,B.2.2.2.1,by rw[B.1];exact Nat.le_refl _,λk _ Y=>B.2.2.2.2 k (λe=>Y (by simp[dV,e]))⟩,.inl rfl⟩
   ·simp[fA,fB M,fB Q,sizeOf,typeInfo,hi,qW,fC,fD,U,hex,add_plain];have Zf:(storeCells ⟨g,n,ν⟩ (iH s.data.toList)).run P w=.ok () (w.setCells g n (iH s.data.toList)):=by simpa using jY
    have e8:List.map (λb:UInt8=>dY ft (b.toNat:Int)) s.data.toList=iH s.data.toList:=rfl;rw[e8,Zf];rfl
   ·rcases Nat.lt_or_ge j xs.length with Z|Z
    ·rw[bJ Z]at hx;rw[br g _ _ _ _ (λ_ _=>.inl (by show j<0+n*1;have:=X.1;omega))];exact hcell j x hx
    ·rw[bw Z]at hx;have V:j-xs.length<(iH s.data.toList).length:=(aI.1 hx).1;have:=bC g (iH s.data.toList) (0+n*1) w (λk Y=>(T k Y).1) (j-xs.length) V;have A:0+n*1+(j-xs.length)=j:=by have:=X.1;omega
     rw[A]at this;rw[this,<-hx,aA V]
   ·rw[bR];refine⟨?_,(G j Z).2⟩;by_cases hq:n*1<=j/\j<n*1+(iH s.data.toList).length
    ·have:=bC g (iH s.data.toList) (0+n*1) w (λk Y=>(T k Y).1) (j-n*1) dU;have A:0+n*1+(j-n*1)=j:=dU;rw[A]at this;rw[this];rfl
    ·rw[br g _ _ _ _ (λ_ _=>by show j<0+n*1 \/0+n*1+(iH s.data.toList).length<=j;omega)];exact(G j Z).1
  ·have Nq:¬n+s.size<=cap:=U;have D:¬(9223372036854775807<((n:Int)+(s.size:Int))):=dU;have hcc:cap<n+s.size:=dU;have hnx:fE (n+s.size) cap<=281474976710656:=by have:=nextslicecap_le hcc;omega
   have agU:¬(281474976710656<fE (n+s.size) cap*i.bytes):=by rw[zA];omega
   have pX:=run_loadCells_list (P:=P) (w:=w.drew) ⟨g,0,ν⟩ xs (λj x Z=>by rw[add_plain];exact hcell j x Z);have H:(loadCells ⟨g,0,ν⟩ (n*i.size)).run P w.drew=.ok xs.toArray w.drew:=by
    rw[qW,<-X.1];exact pX
   have h:=grownCap_ge w (n+s.size) cap e;refine⟨σ (μ ⟨w.heap.size,0,ν⟩) (n+s.size) (grownCap w (n+s.size) cap e),w.drew.alloc (γ (xs.toArray++(iH s.data.toList).toArray++Builtin.zeroCells z.cells (grownCap w (n+s.size) cap e-(n+s.size))) e),?_,?_,⟨rfl,rfl,rfl,gO,λk Y _=>aT w.drew _ k Y⟩,.inr ⟨_,rfl,Nat.le_refl _⟩⟩
   ·simp[fA,fB M,fB Q,sizeOf,typeInfo,zeroValue,hi,hz,fC,Nq,D,agU,Question.forced,newRow,grownCap,fD,hex,H];congr 2;apply Array.ext';simp[iH]
   ·refine Row.made w.drew 1 e _ (0,0) (n+s.size) _ _ (by rw[az,X.1,hsl];omega) ?_ h (cZ _ _ _ _ (by unfold maxLen;omega)) (.inl rfl) (λj x Z=> ?_)
    ·rw[dk,dk,size_zeroCells,La];have h1:xs.toArray.size=n:=by simpa using X.1
     have h2:(iH s.data.toList).toArray.size=s.size:=by simpa using hsl
     rw[h1,h2];omega
    ·have V:j<(xs++iH s.data.toList).length:=(aI.1 Z).1;rw[cJ (by simpa using V),List.append_toArray,List.getElem?_toArray];exact Z
theorem sC(w:dR) {ops:Array Oper} {rest:List Oper} {o:Oper} {a:Act} {Q:Exit->Act->dR->Prop} (D:o.guard=ν)(sl x:Operand)(t u:dW)
 (T:o.op=.call {callee:=.builtin .append,args:= #[sl,x],argTypes:= #[t,u] })
 (e:dW) (i:TypeInfo) (z:dT) (j:P.underlying t=μ (.slice e)) (A:P.underlying u=μ .string) (hi:P.info? e=μ i) (y:i.zero=μ z) (V:i.size=1) (X:i.bytes=1) (J:z.cells.size=1)
 (v:dT) (n:Nat) (xs:List dT) (hs:a.eval sl=v) (G:Row w 1 v n xs) (s:ByteArray) (hx:a.eval x=.string s) (hsl:s.size<=1000000) (hn:n<=1000000000)
 (h:∀v' w',Row w' 1 v' (n+s.size) (xs++iH s.data.toList)->w.grownBy w' v.ownBlock->(v'.ownBlock=v.ownBlock \/ ∃k,v'.ownBlock=μ k/\w.heap.size<=k)->wpList P ops Q rest (a.put o.dst v') w'):wpList P ops Q (o::rest) a w:=by
 refine wpList_plain D λK U=> ?_;obtain⟨v',w',Y,Z,H,M⟩:=vh (P:=P) w t u o.type e i z j A hi y V X J v n xs G s hsl hn;unfold Oper.wp execOp;simp only[T,resolve,invoke,builtin,Sem.run_bind,Sem.run_pure,Result.andThen_ok,List.map_toArray,List.map_cons,List.map_nil,hs,hx,Y];exact U _ _ (h v' w' Z H M)
