import Derived.Test.YtieklnlbljejdaaGreatDoorT02
open Go.Value renaming int → ι, slice → σ, pointer → π, tuple → τ, nilIface → η
open Go.IntKind renaming i64 → κ
open Go.Ending renaming returned → ρ
open Go.Obj renaming cells → γ
open Option renaming none → ν, some → μ
open Go renaming Addr → dM, World → dN, Calls → eM
open Go.Proofs.Tryz renaming prog → eN
open Go.Instr renaming lookup → eU, mapUpdate → eX
open Go.Value renaming ownBlock → dQ
open List renaming getElem?_of_mem → eY
open Go.RowKit renaming intOf → eP
set_option maxRecDepth 100000
set_option maxHeartbeats 4000000
namespace Go.Proofs.YtieklnlbljejdaaGreatDoor
open Go.RowKit St
open Go.ChangeShapes Go.WideShapes Go.ChangeAt
variable {B b n n':Nat} {W w w':World} {kn:Int->Option SV} {ow:Nat->Int->Option SV}
theorem yi(own seq:Int)(a:Option dM)(n cap:Nat)(os:List jv)(w:dN)(Q:n<=maxLen)(T:iK w a n os):
 eM eN 117 #[.agg #[ι κ own,ι κ seq,σ a n cap]] w λe w'=>e=ρ (iP (ox own seq os))/\dV w w':=by
 by_cases h6:n<=6
 ·exact vP own seq a n cap os w dP T
 unfold maxLen at Q;have X:=gM w (γ #[ι κ own,ι κ seq,σ a n cap] 40);have V:Hid (iP 1=.iface 128 (ι κ 1)):=rfl;have S:Hid (iP 2=.iface 128 (ι κ 2)):=rfl;have hl:=T.1;have Y:=sG own (w.alloc (γ #[ι κ own,ι κ seq,σ a n cap] 40));have one:(own<1 \/6<own \/seq<1 \/1000000<seq)->Hid (ox own seq os=1):=λhh=>by show _=_;rw[ox,ag hh]
 by_cases r1:own<1 \/6<own
 ·have Z:=one dP;rw[yh own r1]at Y;clear one
  go_in
  go_wp2_with(fail);refine Y.mono ?_;rintro e U ⟨rfl,rfl⟩;go_wp2_with(fail);rw[Z.out,V.out];go_ret;exact⟨rfl,X⟩
 rw[A1 own dP dP]at Y;by_cases r2:seq<1
 ·have Z:=one dP;clear one
  go_in
  go_wp2_with(fail);refine Y.mono ?_;rintro e U ⟨rfl,rfl⟩;go_wp2_with(fail);rw[Z.out,V.out];go_ret;exact⟨rfl,X⟩
 by_cases r3:1000000<seq
 ·have Z:=one dP;clear one
  go_in
  go_wp2_with(fail);refine Y.mono ?_;rintro e U ⟨rfl,rfl⟩;go_wp2_with(fail);rw[Z.out,V.out];go_ret;exact⟨rfl,X⟩
 clear one;have r4:(6:Int)<(n:Int):=dP;have Z:Hid (ox own seq os=2):=by show _=_;rw[ox,ae dP,ag dP]
 go_in
 go_wp2_with(fail);refine Y.mono ?_;rintro e U ⟨rfl,rfl⟩;go_wp2_with(fail);rw[Z.out,S.out];go_ret;exact⟨rfl,X⟩
structure FM where
 bm:Nat
 g:Nat
 cap:Nat
 bs:List Nat
 no:Nat->Prop:=λ_=>False
def FM.sl(m:FM):Value:=σ (μ ⟨m.g,0,ν⟩) m.bs.length m.cap
def FM.row(m:FM):List Value:=m.bs.map λb=>Value.map (μ b)
structure FB(w:dN)(B:Nat)(m:FM)(n:Nat)(kn:Int->Option SV)(ow:Nat->Int->Option SV):Prop where
 m9:w.heap[B]? =μ (γ #[.map (μ m.bm),m.sl] 214 (0,0))
 row:Row w 1 m.sl m.bs.length m.row
 km:SMap w m.bm n kn
 om:∀i b,m.bs[i]? =μ b->SMap w b n (ow i)
 few:m.bs.length<=3
 nB:m.bm≠B/\m.g≠B/\m.bm≠m.g/\(∀b∈m.bs,b≠B/\b≠m.g/\b≠m.bm)
 nd:m.bs.Nodup
theorem FB.lt {m:FM} (h:FB w B m n kn ow):B<w.heap.size:=(au.1 h.m9).1
theorem FB.c0 {m:FM} (h:FB w B m n kn ow):w.cell? ⟨B,0,ν⟩=μ (.map (μ m.bm)):=ar w B 0 _ _ (0,0) h.m9
theorem FB.c1 {m:FM} (h:FB w B m n kn ow):w.cell? ⟨B,1,ν⟩=μ m.sl:=ar w B 1 _ _ (0,0) h.m9
theorem FB.below {w w':dN} {B:Nat} {m:FM} {n:Nat} {kn:Int->Option SV} {ow:Nat->Int->Option SV} (h:FB w B m n kn ow)(hb:dV w w'):FB w' B m n kn ow:=
 ⟨(hb.block B h.lt).trans h.m9,h.row.below hb,h.km.below hb,λi b e=>(h.om i b e).below hb,h.few,h.nB,h.nd⟩
theorem FB.port {m:FM} (h:FB w B m n kn ow)(i:Nat)(b:Nat)(e:m.bs[i]? =μ b):w.cell? ⟨m.g,i,ν⟩=μ (.map (μ b)):=by
 refine Row.cell h.row i _ ?_;unfold FM.row;rw[ct,e];rfl
theorem Ai(B:Nat)(m:FM)(n:Nat)(kn:Int->Option SV)(ow:Nat->Int->Option SV)(port:Int)(w:dN)(h:FB w B m n kn ow):
 eM eN 176 #[π (μ ⟨B,0,ν⟩),ι κ port] w λe w'=>e=ρ (.bool (decide (0<=port)&&decide (port<(m.bs.length:Int))))/\w=w':=by
 have hl:=h.lt;have c1:w.cell? ⟨B,1,ν⟩=μ (σ (μ ⟨m.g,0,ν⟩) m.bs.length m.cap):=h.c1;have hf:=h.few;by_cases Z:0<=port
 ·by_cases Y:port<(m.bs.length:Int)
  ·have hv:(decide (0<=port)&&decide (port<(m.bs.length:Int)))=true:=by simp[Z,Y]
   rw[hv];clear hv h
   go_in
   go_wp2
   go_ret;exact⟨by first|rfl|(simp;omega),rfl⟩
  ·have hv:(decide (0<=port)&&decide (port<(m.bs.length:Int)))=false:=by simp[Y]
   rw[hv];clear hv h
   go_in
   go_wp2
   go_ret;exact⟨by first|rfl|(simp;omega),rfl⟩
 ·have hv:(decide (0<=port)&&decide (port<(m.bs.length:Int)))=false:=by simp[Z]
  rw[hv];clear hv h
  go_in
  go_wp2
  go_ret;exact⟨by first|rfl|(simp;omega),rfl⟩
def tN(aai:Nat)(port own seq:Int)(es:List jv):Nat:=if 0<=port/\port<(aai:Int)then ox own seq es else 1
theorem pv(B:Nat)(m:FM)(k:Nat)(kn:Int->Option SV)(ow:Nat->Int->Option SV)(port own seq:Int)(a:Option dM)(n cap:Nat)(es:List jv)(w:dN)(h:FB w B m k kn ow)(V:n<=maxLen)(U:iK w a n es):
 eM eN 216 #[π (μ ⟨B,0,ν⟩),ι κ port,.agg #[ι κ own,ι κ seq,σ a n cap]] w λe w'=>e=ρ (iP (tN m.bs.length port own seq es))/\dV w w':=by
 have Z:=gM w (γ #[ι κ own,ι κ seq,σ a n cap] 40);have hh:=Ai B m k kn ow port _ (h.below Z);have hc:=yi own seq a n cap es _ V (U.below Z);have X:Hid (iP 1=.iface 128 (ι κ 1)):=rfl;by_cases Y:0<=port/\port<(m.bs.length:Int)
 ·have hv:(decide (0<=port)&&decide (port<(m.bs.length:Int)))=true:=by simp[Y.1,Y.2]
  have hf:tN m.bs.length port own seq es=ox own seq es:=by rw[tN,ag Y]
  rw[hv]at hh;rw[hf];clear hv hf h
  go_in
  go_wp2_with(fail);refine hh.mono ?_;rintro e T ⟨rfl,rfl⟩;go_wp2_with(fail);refine hc.mono ?_;rintro e w2 ⟨rfl,k2⟩
  go_wp2
  go_ret;exact⟨rfl,gD Z k2⟩
 ·have hv:(decide (0<=port)&&decide (port<(m.bs.length:Int)))=false:=by
   simp only[Bool.and_eq_false_iff,decide_eq_false_iff_not];omega
  have hf:Hid (tN m.bs.length port own seq es=1):=by show _=_;rw[tN,ae Y]
  rw[hv]at hh;clear hv h
  go_in
  go_wp2_with(fail);refine hh.mono ?_;rintro e T ⟨rfl,rfl⟩;go_wp2_with(fail);rw[hf.out,X.out];go_ret;exact⟨rfl,Z⟩
theorem Jo(B:Nat)(m:FM)(k:Nat)(kn:Int->Option SV)(ow:Nat->Int->Option SV)(own seq:Int)(a:Option dM)(n cap:Nat)(w:dN)(h:FB w B m k kn ow)(U:qS own)(V:kn own=ν):
 eM eN 217 #[π (μ ⟨B,0,ν⟩),.agg #[ι κ own,ι κ seq,σ a n cap]] w λe w'=>e=ρ (ι κ 1)/\dV w w':=by
 have hz:=oy;have hb:=gM w (γ #[ι κ own,ι κ seq,σ a n cap] 40);have Y:=h.below hb;obtain⟨Z,X⟩:=fP (w.alloc (γ #[ι κ own,ι κ seq,σ a n cap] 40));have x0:Z.cell? ⟨w.heap.size,0,ν⟩=μ (ι κ own):=by rw[<-X];exact aj w #[ι κ own,ι κ seq,σ a n cap] 40 (0,0) 0
 rw[X]at hb Y;have T:Hid _:=X;clear X;have qd:(eU 211 (.map (μ m.bm)) (ι κ own) true).run eN Z.drew=.ok (τ #[.agg #[ι κ 0,ι κ 0,σ ν 0 0],.bool false]) Z.drew:=by
  have:=Y.km.drew.look_ok own U;rw[V]at this;exact this
 have aes:(eU 211 (.map (μ m.bm)) (ι κ own) true).run eN (Z.alloc (γ #[ι κ 0,ι κ 0,σ ν 0 0] 40)).drew=.ok (τ #[.agg #[ι κ 0,ι κ 0,σ ν 0 0],.bool false]) (Z.alloc (γ #[ι κ 0,ι κ 0,σ ν 0 0] 40)).drew:=by
  have:=(Y.km.alloc (γ #[ι κ 0,ι κ 0,σ ν 0 0] 40)).drew.look_ok own U;rw[V]at this;exact this
 have c0:=Y.c0;have hl:=Y.lt;have hx:w.heap.size<Z.heap.size:=af Z _ x0;clear h Y V
 go_in
 go_wp2_with(fail);rw[T.out]
 go_region
 all_goals
  go_wp2
  go_ret;exact⟨rfl,below_drewN (hb.alloc hb.size _) 1⟩
theorem Jp(B:Nat)(m:FM)(k:Nat)(kn:Int->Option SV)(ow:Nat->Int->Option SV)(own seq:Int)(a:Option dM)(n cap:Nat)(es:List jv)(t:SV)(fs:List jv)(w:dN)(h:FB w B m k kn ow)(H:qS own)(S:kn own=μ t)(J:iK w a n es)(E:n<=1000000)(Q:iK w t.a t.n fs):
 eM eN 217 #[π (μ ⟨B,0,ν⟩),.agg #[ι κ own,ι κ seq,σ a n cap]] w λe w'=>e=ρ (ι κ (l5 seq es t.seq fs))/\dV w w':=by
 obtain⟨T,ts,ta,tn,U⟩:=t;simp only at Q;have hz:=oy;have hb:=gM w (γ #[ι κ own,ι κ seq,σ a n cap] 40);have Y:=h.below hb;obtain⟨Z,X⟩:=fP (w.alloc (γ #[ι κ own,ι κ seq,σ a n cap] 40));have V:Z.heap[w.heap.size]? =μ (γ #[ι κ own,ι κ seq,σ a n cap] 40 (0,0)):=by rw[<-X];exact aS w _
 rw[X]at hb Y;have G:Hid _:=X;clear X;have x0:Z.cell? ⟨w.heap.size,0,ν⟩=μ (ι κ own):=ar Z _ 0 _ _ (0,0) V;have qd:(eU 211 (.map (μ m.bm)) (ι κ own) true).run eN Z.drew=.ok (τ #[.agg #[ι κ T,ι κ ts,σ ta tn U],.bool true]) Z.drew:=by
  have:=Y.km.drew.look_ok own H;rw[S]at this;exact this
 have aes:(eU 211 (.map (μ m.bm)) (ι κ own) true).run eN (Z.alloc (γ #[ι κ 0,ι κ 0,σ ν 0 0] 40)).drew=.ok (τ #[.agg #[ι κ T,ι κ ts,σ ta tn U],.bool true]) (Z.alloc (γ #[ι κ 0,ι κ 0,σ ν 0 0] 40)).drew:=by
  have:=(Y.km.alloc (γ #[ι κ 0,ι κ 0,σ ν 0 0] 40)).drew.look_ok own H;rw[S]at this;exact this
 have c0:=Y.c0;have hl:=Y.lt;have hx:w.heap.size<Z.heap.size:=af Z _ x0;have M:dV w ((Z.alloc (γ #[ι κ T,ι κ ts,σ ta tn U] 40)).drew):=below_drewN (hb.alloc hb.size _) 1;have D:=Ds own seq T ts a ta n tn cap U es fs _ (J.below M) (Q.below M) E;have x1:Z.cell? ⟨w.heap.size,1,ν⟩=μ (ι κ seq):=ar Z _ 1 _ _ (0,0) V;have x2:Z.cell? ⟨w.heap.size,2,ν⟩=μ (σ a n cap):=ar Z _ 2 _ _ (0,0) V;clear h Y S Q J V
 go_in
 go_wp2_with(fail);rw[G.out]
 go_region
 all_goals
  go_wp2_with(fail);refine D.mono ?_;rintro e w2 ⟨rfl,k2⟩
  go_wp2
  go_ret;exact⟨rfl,gD M k2⟩
structure jc(w w':dN)(m:FM):Prop where
 os:w'.os=w.os
 tape:w'.tape=w.tape
 output:w'.output=w.output
 size:w.heap.size<=w'.heap.size
 block:∀i,i<w.heap.size->i≠m.bm->i∉m.bs->w'.heap[i]? =w.heap[i]?
theorem jc.iD(m:FM)(h:dV w w'):jc w w' m:=⟨h.os,h.tape,h.output,h.size,λi hi _ _=>h.block i hi⟩
theorem jc.trans {a b c:dN} {m:FM} (h:jc a b m)(k:jc b c m):jc a c m:=
 ⟨k.os.trans h.os,k.tape.trans h.tape,k.output.trans h.output,Nat.le_trans h.size k.size,λi hi Z Y=>(k.block i (Nat.lt_of_lt_of_le hi h.size) Z Y).trans (h.block i hi Z Y)⟩
theorem jc.oz {m:FM} (h:w.mapTurned w' b)(hb:b=m.bm \/b∈m.bs):jc w w' m:=by
 have g:=h.grown;refine⟨g.os,g.tape,g.output,g.size,λi hi Z Y=>g.block i hi (λe=> ?_)⟩;have:i=b:=by simpa using e
 subst this;rcases hb with hb|hb
 ·exact Z hb
 ·exact Y hb
theorem jc.below {a b:dN} {m:FM} (h:dV w a)(k:jc a b m)(h1:w.heap.size<=m.bm)(Z:∀x∈m.bs,w.heap.size<=x):dV w b:=
 ⟨k.os.trans h.os,k.tape.trans h.tape,k.output.trans h.output,Nat.le_trans h.size k.size,λi hi=>by
  rw[k.block i (Nat.lt_of_lt_of_le hi h.size) dP (λe=>by have:=Z i e;omega)];exact h.block i hi⟩
theorem mQ {x:Nat} (h:w.mapTurned w' b)(hx:x<w.heap.size)(Z:x≠b):w'.heap[x]? =w.heap[x]? :=h.grown.block x hx (λe=>Z (by simpa using e))
theorem FB.aeu {m:FM} {kn':Int->Option SV} (h:FB w B m n kn ow)(Z:w.mapTurned w' m.bm)(V:SMap w' m.bm n' kn')(U:n<=n'):FB w' B m n' kn' ow:=by
 refine⟨(mQ Z h.lt (λe=>h.nB.1 e.symm)).trans h.m9,h.row.keep Z.grown.size (λk Y=> ?_),V,λi b e=> ?_,h.few,h.nB,h.nd⟩
 ·have X:m.g=k:=by simpa[FM.sl,dQ]using Y
  subst X;exact mQ Z (h.row.lt _ Y) (λe=>h.nB.2.2.1 e.symm)
 ·have hb:=h.nB.2.2.2 b (bu e);exact((h.om i b e).keep (mQ Z (h.om i b e).lt hb.2.2)).mono U
theorem FB.Jq {m:FM} {f:Int->Option SV} {i:Nat} (h:FB w B m n kn ow)(hi:m.bs[i]? =μ b)(Z:w.mapTurned w' b)(S:SMap w' b n' f)(X:n<=n'):FB w' B m n' kn (λj=>if j=i then f else ow j):=by
 have hb:=h.nB.2.2.2 b (bu hi);refine⟨(mQ Z h.lt (λe=>hb.1 e.symm)).trans h.m9,h.row.keep Z.grown.size (λk V=> ?_),(h.km.keep (mQ Z h.km.lt (λe=>hb.2.2 e.symm))).mono X,λj c e=> ?_,h.few,h.nB,h.nd⟩
 ·have T:m.g=k:=by simpa[FM.sl,dQ]using V
  subst T;exact mQ Z (h.row.lt _ V) (λe=>hb.2.1 e.symm)
 ·by_cases Y:j=i
  ·subst Y;rw[hi]at e;obtain rfl:=Option.some.inj e;simp only[if_true];exact S
  ·rw[ae Y];have Q:c≠b:=λU=>by
    subst U;exact Y ((List.getElem?_inj (aG.1 e).1 h.nd).1 (e.trans hi.symm))
   exact((h.om j c e).keep (mQ Z (h.om j c e).lt Q)).mono X
def vu(f:Int->Option SV)(k:Int)(s:SV):Int->Option SV:=λx=>if x=k then μ s else f x
structure EI(w w':dN)(B:Nat)(m:FM)(n:Nat)(kn:Int->Option SV)(ow:Nat->Int->Option SV)(own seq:Int)(es:List jv)(s:SV):Prop where
 so:s.own=own
 ss:s.seq=seq
 sn:s.n=es.length
 so2:iK w' s.a s.n es
 nil:kd s.a s.cap
 new:∀j,dQ (σ s.a s.n s.cap)=μ j->w.heap.size<=j/\j<w'.heap.size
 fb:FB w' B m (n+1+m.bs.length) (vu kn own s) (λi=>if i<m.bs.length then vu (ow i) own s else ow i)
 kept:jc w w' m
theorem iK.Pz {a:Option dM} {cap:Nat} {os:List jv} {m:FM} (h:iK w a n os)(X:jc w w' m)(hf:∀j,dQ (σ a n cap)=μ j->j≠m.bm/\j∉m.bs):iK w' a n os:=by
 refine⟨h.1,?_⟩;rcases h.2 with Z|⟨b,off,rfl,Z⟩
 ·exact .inl Z
 ·refine .inr ⟨b,off,rfl,λj Y=> ?_⟩;obtain⟨c1,c2⟩:=Z j Y;obtain⟨f1,f2⟩:=hf b rfl;have e:=X.block b (af w _ c1) f1 f2;exact⟨(ai (a:=⟨b,off+j*2,ν⟩) e).trans c1,(ai (a:=⟨b,off+j*2+1,ν⟩) e).trans c2⟩
theorem Dt(B:Nat)(m:FM)(k:Nat)(kn:Int->Option SV)(ow:Nat->Int->Option SV)(own seq:Int)(a:Option dM)(n cap:Nat)(es:List jv)(w:dN)(h:FB w B m k kn ow)(hr:qS own)(ho:iK w a n es)(jS:kd a cap)(hn:n<=1000000)(hk:k<=1000000):
 eM eN 118 #[π (μ ⟨B,0,ν⟩),.agg #[ι κ own,ι κ seq,σ a n cap]] w λe w'=>e=ρ (τ #[])/\∃s,EI w w' B m k kn ow own seq es s:=by
 have hb:=gM w (γ #[ι κ own,ι κ seq,σ a n cap] 40);have M:=h.below hb;obtain⟨W1,jO⟩:=fP (w.alloc (γ #[ι κ own,ι κ seq,σ a n cap] 40));have nQ:W1.heap[w.heap.size]? =μ (γ #[ι κ own,ι κ seq,σ a n cap] 40 (0,0)):=by rw[<-jO];exact aS w _
 rw[jO]at hb M;have HW:Hid _:=jO;clear jO;have Aj:=A4 own seq a n cap es W1 hn jS (ho.below hb)
 go_in
 go_wp2_with(fail);rw[HW.out];refine Aj.mono ?_;rintro e X ⟨⟨Y,vc,rfl,vo,vn,vl,CQ⟩,k2⟩;clear Aj;have H:=(k2.block _ (au.1 nQ).1).trans nQ;have x0:X.cell? ⟨w.heap.size,0,ν⟩=μ (ι κ own):=ar X _ 0 _ _ (0,0) H;have x1:X.cell? ⟨w.heap.size,1,ν⟩=μ (ι κ seq):=ar X _ 1 _ _ (0,0) H;have x2:X.cell? ⟨w.heap.size,2,ν⟩=μ (σ a n cap):=ar X _ 2 _ _ (0,0) H;have fx:=λj=>bh X w.heap.size j _ _ H;have xl:w.heap.size<X.heap.size:=af X _ x0
 go_upto_region 2 with fail
 obtain⟨Z,G⟩:=fP (((X.setCell ⟨w.heap.size,0,ν⟩ (ι κ own)).setCell ⟨w.heap.size,1,ν⟩ (ι κ seq)).setCell ⟨w.heap.size,2,ν⟩ (σ Y es.length vc));have rD:=gD hb k2;have b3:dV w Z:=by rw[<-G];exact((rD.setCell (Nat.le_refl _) _).setCell (Nat.le_refl _) _).setCell (Nat.le_refl _) _
 have ya:Z.heap[w.heap.size]? =μ (γ #[ι κ own,ι κ seq,σ Y es.length vc] 40 (0,0)):=by
  rw[<-G];have s1:=ch X w.heap.size #[ι κ own,ι κ seq,σ a n cap] (#[ι κ own,ι κ seq,σ a n cap].setIfInBounds 0 (ι κ own)) 40 (0,0) H;rw[<-bB X w.heap.size 0 _ _ (0,0) _ H]at s1;have s2:=ch _ w.heap.size _ ((#[ι κ own,ι κ seq,σ a n cap].setIfInBounds 0 (ι κ own)).setIfInBounds 1 (ι κ seq)) 40 (0,0) s1;rw[<-bB _ w.heap.size 1 _ _ (0,0) _ s1]at s2;have s3:=ch _ w.heap.size _ (((#[ι κ own,ι κ seq,σ a n cap].setIfInBounds 0 (ι κ own)).setIfInBounds 1 (ι κ seq)).setIfInBounds 2 (σ Y es.length vc)) 40 (0,0) s2;rw[<-bB _ w.heap.size 2 _ _ (0,0) _ s2]at s3;exact s3
 have A:W1.heap.size=w.heap.size+1:=by have:=HW.out;rw[<-this];simp
 have vo3:iK Z Y es.length es:=by
  refine vo.kept (cap:=vc) (λj hj=> ?_);have:=(CQ j hj).1;rw[<-G,ak _ _ _ _ (by show j≠w.heap.size;omega),ak _ _ _ _ (by show j≠w.heap.size;omega),ak _ _ _ _ (by show j≠w.heap.size;omega)]
 have t:X.heap.size=Z.heap.size:=by rw[<-G];simp
 rw[G];have S:=h.below b3;have Lf:dV w Z.drew:=below_drewN b3 1;have WI:=h.below Lf;obtain⟨W4,u,S4,T4⟩:=WI.km.store (by unfold maxLen;omega) own hr ⟨own,seq,Y,es.length,vc⟩;have aex:(eX 211 (.map (μ m.bm)) (ι κ own) (.agg #[ι κ own,ι κ seq,σ Y es.length vc])).run eN Z.drew=.ok () W4:=u;have U:=WI.aeu T4 S4 (Nat.le_succ _);have c0:=S.c0;have lB:=S.lt;have y0:Z.cell? ⟨w.heap.size,0,ν⟩=μ (ι κ own):=ar Z _ 0 _ _ (0,0) ya;have y1:Z.cell? ⟨w.heap.size,1,ν⟩=μ (ι κ seq):=ar Z _ 1 _ _ (0,0) ya;have y2:Z.cell? ⟨w.heap.size,2,ν⟩=μ (σ Y es.length vc):=ar Z _ 2 _ _ (0,0) ya;have yl:w.heap.size<Z.heap.size:=af Z _ y0;clear x0 x1 x2 fx xl G u S4
 go_region
 have D:jc Z.drew W4 m:=jc.oz T4 (.inl rfl);have Zi:∀x,x=m.bm \/x∈m.bs->x<w.heap.size:=by
  intro x hx;rcases hx with rfl|hx
  ·exact h.km.lt
  ·obtain⟨i,hi⟩:=eY hx;exact(h.om i x hi).lt
 have Vp:∀V:dN,jc Z.drew V m->V.heap[w.heap.size]? =μ (γ #[ι κ own,ι κ seq,σ Y es.length vc] 40 (0,0)):=λV hV=>
  (hV.block w.heap.size yl (λe=>by have:=Zi m.bm (.inl rfl);omega) (λe=>by have:=Zi _ (.inr e);omega)).trans ya
 obtain⟨s,hs⟩:∃s:SV,(⟨own,seq,Y,es.length,vc⟩:SV)=s:=⟨_,rfl⟩
 have y:FB W4 B m (k+1+0) (vu kn own s) (λi=>if i<0 then vu (ow i) own s else ow i):=by
  rw[<-hs];have e0:(λi=>if i<0 then vu (ow i) own ⟨own,seq,Y,es.length,vc⟩else ow i)=ow:=by funext i;simp
  rw[e0];exact U
 have vR:=h.few;have c1:W4.cell? ⟨B,1,ν⟩=μ (σ (μ ⟨m.g,0,ν⟩) m.bs.length m.cap):=U.c1;have lB4:=U.lt;have Q:Hid _:=hs;have HX:Hid _:=Vp;have H3:Hid (iK Z Y es.length es/\dV w Z/\X.heap.size=Z.heap.size/\W1.heap.size=w.heap.size+1):=⟨vo3,b3,t,A⟩
 have E:Hid _:=Zi;clear hs Vp c0 lB y0 y1 y2 yl S WI U aex T4 M H nQ ya b3 Lf hb k2 rD Zi vo3 t A vo
 go_wp2
 go_loopw [20] (λi wr=>∃j:Nat,j<=m.bs.length/\i=ι κ j/\FB wr B m (k+1+j) (vu kn own s) (λi=>if i<j then vu (ow i) own s else ow i)/\jc Z.drew wr m) (λi _=>m.bs.length-(eP i).toNat)
 case atStart=>exact⟨0,Nat.zero_le _,rfl,y,D⟩
 case round=>
  clear y D c1 lB4;obtain⟨j,hj,rfl,hF,J⟩:=hrel;by_cases kc:j<m.bs.length
  ·have nh:(j:Int)<(m.bs.length:Int):=dP;have hX:=HX.out wr J;have z0:wr.cell? ⟨w.heap.size,0,ν⟩=μ (ι κ own):=ar wr _ 0 _ _ (0,0) hX;have z1:wr.cell? ⟨w.heap.size,1,ν⟩=μ (ι κ seq):=ar wr _ 1 _ _ (0,0) hX;have z2:wr.cell? ⟨w.heap.size,2,ν⟩=μ (σ Y es.length vc):=ar wr _ 2 _ _ (0,0) hX;have zl:w.heap.size<wr.heap.size:=af wr _ z0;have T:m.bs[j]? =μ m.bs[j] :=av kc;have cp:=hF.port j _ T;have gl:m.g<wr.heap.size:=af wr _ cp;obtain⟨W5,Jr,S5,T5⟩:=(hF.om j _ T).store (by unfold maxLen;omega) own hr s;have F5:=hF.Jq T T5 S5 (Nat.le_succ _);have M5:jc Z.drew W5 m:=J.trans (jc.oz T5 (.inr (aD _)));have F5':FB W5 B m (k+1+(j+1)) (vu kn own s) (λi=>if i<j+1 then vu (ow i) own s else ow i):=by
    have e:(λi=>if i<j+1 then vu (ow i) own s else ow i)=(λi=>if i=j then(λx=>if x=own then μ s else(if j<j then vu (ow j) own s else ow j) x)else(if i<j then vu (ow i) own s else ow i)):=by
     funext i
     by_cases M:i=j
     ·rw[M,ag (Nat.lt_succ_self j),ag rfl,ae (Nat.lt_irrefl j)];rfl
     ·by_cases h2:i<j
      ·rw[ag dP,ae M,ag h2]
      ·rw[ae dP,ae M,ae h2]
    rw[e];exact F5
   have aey:(eX 211 (.map (μ m.bs[j])) (ι κ own) (.agg #[ι κ own,ι κ seq,σ Y es.length vc])).run eN wr=.ok () W5:=by
    have:=Jr;rw[<-Q.out]at this;exact this
   generalize m.bs[j] =bj at cp aey;clear Jr S5 T5 F5 hF J T hX
   go_wp2
   go_roundw
   case rel=>exact⟨j+1,dP,by go_num,F5',M5⟩
   case measure=>simp[eP];omega
  ·have OV:j=m.bs.length:=dP;subst OV;have HF:Hid (∃s,EI w wr B m k kn ow own seq es s):=by
    obtain⟨q1,q2,q3,q4⟩:=H3.out;have sJ:∀x,dQ (σ Y es.length vc)=μ x->x≠m.bm/\x∉m.bs:=λx hx=>by
     have M:=(CQ x hx).1;exact⟨λe=>by have:=E.out m.bm (.inl rfl);omega,λe=>by have:=E.out x (.inr e);omega⟩
    have o1:=(q1.drewN 1).Pz (cap:=vc) J sJ;have pY:=J.size;have ajw:Z.heap.size<=wr.heap.size:=pY;refine⟨s,?_,?_,?_,?_,?_,?_,hF,(jc.iD m (below_drewN q2 1)).trans J⟩
    ·rw[<-Q.out]
    ·rw[<-Q.out]
    ·rw[<-Q.out]
    ·rw[<-Q.out];exact o1
    ·rw[<-Q.out];exact vn
    ·rw[<-Q.out];intro x hx;have:=CQ x hx;omega
   clear hF J
   go_wp2
   first|go_end0|refine iq rfl rfl ?_
   exact⟨rfl,HF.out⟩
def del(f:Int->Option SV)(k:Int):Int->Option SV:=λx=>if x=k then ν else f x
theorem FB.mlt {m:FM} (h:FB w B m n kn ow):∀x,x=m.bm \/x∈m.bs->x<w.heap.size:=by
 intro x hx;rcases hx with rfl|hx
 ·exact h.km.lt
 ·obtain⟨i,hi⟩:=eY hx;exact(h.om i x hi).lt
theorem FB.mono {w:dN} {B:Nat} {m:FM} {n n':Nat} {kn:Int->Option SV} {ow:Nat->Int->Option SV} (h:FB w B m n kn ow)(Z:n<=n'):FB w B m n' kn ow:=⟨h.m9,h.row,h.km.mono Z,λi b e=>(h.om i b e).mono Z,h.few,h.nB,h.nd⟩
theorem PA {V:dN} {m:FM} {C:Array Value} (h:FB w B m n kn ow)(Z:W.heap[w.heap.size]? =μ (γ C 40 (0,0)))(Y:jc W V m):V.heap[w.heap.size]? =μ (γ C 40 (0,0)):=
 (Y.block w.heap.size (au.1 Z).1 (λe=>by have:=h.mlt m.bm (.inl rfl);omega) (λe=>by have:=h.mlt _ (.inr e);omega)).trans Z
theorem take_zero(B:Nat)(m:FM)(k:Nat)(kn:Int->Option SV)(ow:Nat->Int->Option SV)(p:Nat)(own seq:Int)(a:Option dM)(n cap:Nat)(es:List jv)(w:dN)(h:FB w B m k kn ow)(hr:qS own)(hp:p<m.bs.length)(ho:iK w a n es)(hn:n<=maxLen)(hf:ox own seq es=0)
 (u:∀W,dV w W->eM eN 217 #[π (μ ⟨B,0,ν⟩),.agg #[ι κ own,ι κ seq,σ a n cap]] W λe w'=>e=ρ (ι κ 0)/\dV W w'):
 eM eN 190 #[π (μ ⟨B,0,ν⟩),ι κ (p:Int),.agg #[ι κ own,ι κ seq,σ a n cap]] w λe w'=>e=ρ (τ #[ι κ 0,η])/\FB w' B m k kn (λi=>if i=p then del (ow p) own else ow i)/\jc w w' m:=by
 have hb:=gM w (γ #[ι κ own,ι κ seq,σ a n cap] 40);obtain⟨A,U⟩:=fP (w.alloc (γ #[ι κ own,ι κ seq,σ a n cap] 40));have M:A.heap[w.heap.size]? =μ (γ #[ι κ own,ι κ seq,σ a n cap] 40 (0,0)):=by rw[<-U];exact aS w _
 rw[U]at hb;have j:Hid _:=U;have J:=pv B m k kn ow (p:Int) own seq a n cap es A (h.below hb) hn (ho.below hb);have y:tN m.bs.length (p:Int) own seq es=0:=by rw[tN,ag dP,hf]
 have G:iP 0=η:=rfl;rw[y,G]at J;have PB:Hid _:=u;have Vq:(p:Int)<(m.bs.length:Int):=dP;have vR:=h.few;clear U y G u hf
 go_in
 go_wp2_with(fail);rw[j.out];refine J.mono ?_;rintro e Z ⟨rfl,k2⟩;have b2:=gD hb k2;have X:=(k2.block _ (au.1 M).1).trans M;have x0:Z.cell? ⟨w.heap.size,0,ν⟩=μ (ι κ own):=ar Z _ 0 _ _ (0,0) X;have x1:Z.cell? ⟨w.heap.size,1,ν⟩=μ (ι κ seq):=ar Z _ 1 _ _ (0,0) X;have x2:Z.cell? ⟨w.heap.size,2,ν⟩=μ (σ a n cap):=ar Z _ 2 _ _ (0,0) X;have H:w.heap.size<Z.heap.size:=af Z _ x0;clear J M hb k2;go_wp2_with(fail);refine(PB.out Z b2).mono ?_;rintro e Y ⟨rfl,k3⟩;have b3:=gD b2 k3;have ya:=(k3.block _ H).trans X;clear x0 x1 x2 H X;have x0:Y.cell? ⟨w.heap.size,0,ν⟩=μ (ι κ own):=ar Y _ 0 _ _ (0,0) ya;have H:w.heap.size<Y.heap.size:=af Y _ x0;have V:=h.below b3;have E:dV w Y.drew:=below_drewN b3 1;have S:=h.below E;have T:m.bs[p]? =μ m.bs[p] :=av hp;obtain⟨W5,Jr,D,Q⟩:=(S.om p _ T).drop own hr 0;have t:=S.Jq T Q D (Nat.le_refl _);have M5:jc w W5 m:=(jc.iD m E).trans (jc.oz Q (.inr (aD _)));have c1:Y.cell? ⟨B,1,ν⟩=μ (σ (μ ⟨m.g,0,ν⟩) m.bs.length m.cap):=V.c1;have lB:=V.lt;have cp:=V.port p _ T;have gl:m.g<Y.heap.size:=af Y _ cp;generalize m.bs[p] =bp at cp Jr;clear V S D Q T k3
 go_wp2
 go_region
 all_goals
  go_wp2
  go_ret2
  exact⟨rfl,t,M5⟩
theorem PD(B:Nat)(m:FM)(k:Nat)(kn:Int->Option SV)(ow:Nat->Int->Option SV)(p:Nat)(own seq:Int)(a:Option dM)(n cap:Nat)(es:List jv)(w:dN)(h:FB w B m k kn ow)(u:qS own)(hp:p<m.bs.length)(ho:iK w a n es)(hn:n<=maxLen)(hf:ox own seq es=0)(t:SV)(j:kn own=μ t)(hk:k<=1000000)
 (qT:∀W,dV w W->eM eN 217 #[π (μ ⟨B,0,ν⟩),.agg #[ι κ own,ι κ seq,σ a n cap]] W λe w'=>e=ρ (ι κ (-1))/\dV W w'):
 eM eN 190 #[π (μ ⟨B,0,ν⟩),ι κ (p:Int),.agg #[ι κ own,ι κ seq,σ a n cap]] w λe w'=>e=ρ (τ #[ι κ (-1),η])/\FB w' B m (k+1) kn (λi=>if i=p then vu (ow p) own t else ow i)/\jc w w' m:=by
 have hb:=gM w (γ #[ι κ own,ι κ seq,σ a n cap] 40);obtain⟨y,T⟩:=fP (w.alloc (γ #[ι κ own,ι κ seq,σ a n cap] 40));have M:y.heap[w.heap.size]? =μ (γ #[ι κ own,ι κ seq,σ a n cap] 40 (0,0)):=by rw[<-T];exact aS w _
 rw[T]at hb;have HW:Hid _:=T;have J:=pv B m k kn ow (p:Int) own seq a n cap es y (h.below hb) hn (ho.below hb);have pT:tN m.bs.length (p:Int) own seq es=0:=by rw[tN,ag dP,hf]
 have G:iP 0=η:=rfl;rw[pT,G]at J;have PB:Hid _:=qT;have Vq:(p:Int)<(m.bs.length:Int):=dP;have vR:=h.few;clear T pT G qT hf
 go_in
 go_wp2_with(fail);rw[HW.out];refine J.mono ?_;rintro e Y ⟨rfl,k2⟩;have b2:=gD hb k2;have V:=(k2.block _ (au.1 M).1).trans M;have x0:Y.cell? ⟨w.heap.size,0,ν⟩=μ (ι κ own):=ar Y _ 0 _ _ (0,0) V;have x1:Y.cell? ⟨w.heap.size,1,ν⟩=μ (ι κ seq):=ar Y _ 1 _ _ (0,0) V;have x2:Y.cell? ⟨w.heap.size,2,ν⟩=μ (σ a n cap):=ar Y _ 2 _ _ (0,0) V;have H:w.heap.size<Y.heap.size:=af Y _ x0;clear J M hb k2;go_wp2_with(fail);refine(PB.out Y b2).mono ?_;rintro e Z ⟨rfl,k3⟩;have b3:=gD b2 k3;have ya:=(k3.block _ H).trans V;clear x0 x1 x2 H V;have x0:Z.cell? ⟨w.heap.size,0,ν⟩=μ (ι κ own):=ar Z _ 0 _ _ (0,0) ya;have H:w.heap.size<Z.heap.size:=af Z _ x0;have X:=h.below b3;have D:dV w Z.drew:=below_drewN b3 1;have U:=h.below D;have S:m.bs[p]? =μ m.bs[p] :=av hp;have qd:(eU 211 (.map (μ m.bm)) (ι κ own) false).run eN Z.drew=.ok t.v Z.drew:=by
  have:=U.km.look own u;rw[j]at this;exact this
 obtain⟨W5,E,A,Q⟩:=(U.om p _ S).store (by unfold maxLen;omega) own u t;have F5:=U.Jq S Q A (Nat.le_succ _);have M5:jc w W5 m:=(jc.iD m D).trans (jc.oz Q (.inr (aD _)));have c0:=X.c0;have c1:Z.cell? ⟨B,1,ν⟩=μ (σ (μ ⟨m.g,0,ν⟩) m.bs.length m.cap):=X.c1;have lB:=X.lt;have cp:=X.port p _ S;have gl:m.g<Z.heap.size:=af Z _ cp;generalize m.bs[p] =bp at cp E;generalize t.v=tv at qd E;clear X U A Q S k3 j
 go_wp2
 go_region
 all_goals
  go_wp2
  go_ret2
  exact⟨rfl,F5,M5⟩
structure aan(w w':dN)(B:Nat)(m:FM)(n:Nat)(kn:Int->Option SV)(ow:Nat->Int->Option SV)(p:Nat)(own seq:Int)(es:List jv)(s:SV):Prop where
 so:s.own=own
 ss:s.seq=seq
 sn:s.n=es.length
 so2:iK w' s.a s.n es
 nil:kd s.a s.cap
 new:∀j,dQ (σ s.a s.n s.cap)=μ j->w.heap.size<=j/\j<w'.heap.size
 fb:FB w' B m (n+1+m.bs.length) (vu kn own s) (λi=>if i=p then del (vu (ow p) own s) own else if i<m.bs.length then vu (ow i) own s else ow i)
 kept:jc w w' m
theorem PE(B:Nat)(m:FM)(k:Nat)(kn:Int->Option SV)(ow:Nat->Int->Option SV)(p:Nat)(own seq:Int)(a:Option dM)(n cap:Nat)(es:List jv)(w:dN)(h:FB w B m k kn ow)(hr:qS own)(hp:p<m.bs.length)(u:iK w a n es)(hn:n<=maxLen)(jS:kd a cap)(hk:k<=1000000)(hf:ox own seq es=0)
 (qT:∀W,dV w W->eM eN 217 #[π (μ ⟨B,0,ν⟩),.agg #[ι κ own,ι κ seq,σ a n cap]] W λe w'=>e=ρ (ι κ 1)/\dV W w'):
 eM eN 190 #[π (μ ⟨B,0,ν⟩),ι κ (p:Int),.agg #[ι κ own,ι κ seq,σ a n cap]] w λe w'=>e=ρ (τ #[ι κ 1,η])/\∃s,aan w w' B m k kn ow p own seq es s:=by
 have hb:=gM w (γ #[ι κ own,ι κ seq,σ a n cap] 40);obtain⟨W1,G⟩:=fP (w.alloc (γ #[ι κ own,ι κ seq,σ a n cap] 40));have t:W1.heap[w.heap.size]? =μ (γ #[ι κ own,ι κ seq,σ a n cap] 40 (0,0)):=by rw[<-G];exact aS w _
 rw[G]at hb;have HW:Hid _:=G;have qG:=pv B m k kn ow (p:Int) own seq a n cap es W1 (h.below hb) hn (u.below hb);have pT:tN m.bs.length (p:Int) own seq es=0:=by rw[tN,ag dP,hf]
 have E0:iP 0=η:=rfl;rw[pT,E0]at qG;have PB:Hid _:=qT;have HN:Hid (n<=6):=by show n<=6;have:=(jk hf).2.2.1;rw[u.1]at this;exact this
 have Vq:(p:Int)<(m.bs.length:Int):=dP;have vR:=h.few;clear G pT E0 qT hf
 go_in
 go_wp2_with(fail);rw[HW.out];refine qG.mono ?_;rintro e V ⟨rfl,k2⟩;have b2:=gD hb k2;have J:=(k2.block _ (au.1 t).1).trans t;have x0:V.cell? ⟨w.heap.size,0,ν⟩=μ (ι κ own):=ar V _ 0 _ _ (0,0) J;have x1:V.cell? ⟨w.heap.size,1,ν⟩=μ (ι κ seq):=ar V _ 1 _ _ (0,0) J;have x2:V.cell? ⟨w.heap.size,2,ν⟩=μ (σ a n cap):=ar V _ 2 _ _ (0,0) J;have H:w.heap.size<V.heap.size:=af V _ x0;clear qG t hb k2;go_wp2_with(fail);refine(PB.out V b2).mono ?_;rintro e U ⟨rfl,k3⟩;have b3:=gD b2 k3;have D:=(k3.block _ H).trans J;clear x0 x1 x2 H J;have x0:U.cell? ⟨w.heap.size,0,ν⟩=μ (ι κ own):=ar U _ 0 _ _ (0,0) D;have H:w.heap.size<U.heap.size:=af U _ x0;have x1:U.cell? ⟨w.heap.size,1,ν⟩=μ (ι κ seq):=ar U _ 1 _ _ (0,0) D;have x2:U.cell? ⟨w.heap.size,2,ν⟩=μ (σ a n cap):=ar U _ 2 _ _ (0,0) D;have F3:=h.below b3;have Zj:n<=1000000:=by have:=HN.out;omega
 have M:=Dt B m k kn ow own seq a n cap es U F3 hr (u.below b3) jS Zj hk;clear k3;go_wp2_with(fail);refine M.mono ?_;rintro e Z ⟨rfl,s,Y⟩;clear M x0 x1 x2 H;have y:=PA h D Y.kept;have x0:Z.cell? ⟨w.heap.size,0,ν⟩=μ (ι κ own):=ar Z _ 0 _ _ (0,0) y;have H:w.heap.size<Z.heap.size:=af Z _ x0;have S:=Y.fb;have T:=S.below (show dV Z Z.drew from below_drewN (aq _ _) 1);have E:m.bs[p]? =μ m.bs[p] :=av hp;obtain⟨W5,Jr,S5,A⟩:=(T.om p _ E).drop own hr 0;have F5:=T.Jq E A S5 (Nat.le_refl _);have X:jc Z W5 m:=(jc.iD m (show dV Z Z.drew from below_drewN (aq _ _) 1)).trans (jc.oz A (.inr (aD _)));have hT:Hid (aan w W5 B m k kn ow p own seq es s):=by
  have sJ:∀x,dQ (σ s.a s.n s.cap)=μ x->x≠m.bm/\x∉m.bs:=λx hx=>by
   have Q:=(Y.new x hx).1;have h2:=b3.size;exact⟨λe=>by have:=h.mlt m.bm (.inl rfl);omega,λe=>by have:=h.mlt x (.inr e);omega⟩
  refine⟨Y.so,Y.ss,Y.sn,Y.so2.Pz (cap:=s.cap) X sJ,Y.nil,λj hj=> ?_,?_,((jc.iD m b3).trans Y.kept).trans X⟩
  ·have:=Y.new j hj;have h2:=b3.size;have h3:=X.size;omega
  ·have e:(λi=>if i=p then del (vu (ow p) own s) own else if i<m.bs.length then vu (ow i) own s else ow i)=(λj=>if j=p then(λx=>if x=own then ν else(λi=>if i<m.bs.length then vu (ow i) own s else ow i) p x)else(λi=>if i<m.bs.length then vu (ow i) own s else ow i) j):=by
    funext i
    by_cases Q:i=p
    ·rw[ag Q,ag Q]
     funext x
     simp only[del,if_pos hp]
    ·rw[ae Q,ae Q]
   rw[e];exact F5
 have c1:Z.cell? ⟨B,1,ν⟩=μ (σ (μ ⟨m.g,0,ν⟩) m.bs.length m.cap):=S.c1;have lB:=S.lt;have cp:=S.port p _ E;have gl:m.g<Z.heap.size:=af Z _ cp;generalize m.bs[p] =bp at cp Jr;clear F3 S T S5 A E Y F5 X
 go_wp2
 go_region
 all_goals
  go_wp2
  go_ret2
  exact⟨rfl,s,hT.out⟩
structure vm(w:dN)(a:Option dM)(n:Nat)(S:Nat->SV)(E:Nat->List jv):Prop where
 row:n=0 \/ ∃b off,a=μ ⟨b,off,ν⟩/\∀j,j<n->w.cell? ⟨b,off+j*3,ν⟩=μ (ι κ (S j).own)/\w.cell? ⟨b,off+j*3+1,ν⟩=μ (ι κ (S j).seq)/\w.cell? ⟨b,off+j*3+2,ν⟩=μ (σ (S j).a (S j).n (S j).cap)
 opt:∀j,j<n->iK w (S j).a (S j).n (E j)/\kd (S j).a (S j).cap/\(S j).n<=maxLen
theorem vm.below {w w':dN} {a:Option dM} {n:Nat} {S:Nat->SV} {E:Nat->List jv} (h:vm w a n S E)(hb:dV w w'):vm w' a n S E:=by
 refine⟨?_,λj Z=>⟨(h.opt j Z).1.below hb,(h.opt j Z).2⟩⟩;rcases h.row with Y|⟨b,off,rfl,Y⟩
 ·exact .inl Y
 ·refine .inr ⟨b,off,rfl,λj Z=> ?_⟩;obtain⟨c1,c2,c3⟩:=Y j Z;have l:=af w _ c1;exact⟨(hb.cell (p:=⟨b,off+j*3,ν⟩) l).trans c1,(hb.cell (p:=⟨b,off+j*3+1,ν⟩) l).trans c2,(hb.cell (p:=⟨b,off+j*3+2,ν⟩) l).trans c3⟩
theorem Js {H:Type} {enc:TypeId×Value->H} {m:Nat} {v:Value} {y:DataW H×List MemPlace}
 (M:DataW.trod enc eN W 0 (λ_=>true) true m 38 [v] =μ y):
 ∃(a:Option dM) (n cap:Nat) (os:List jv),v=σ a n cap/\iK W a n os/\kd a cap/\n<=maxLen:=by
 rcases dt Tryz.underlying38 Tryz.underlying123 gJ rfl rfl gJ gJ M with⟨hcs,_⟩|⟨a,len,cap,m',n',Y,X,D0,D1,P0,P1,hcs,_,hl,hm,S,_,hx⟩
 ·simp at hcs;subst hcs;exact⟨ν,0,0,[],rfl,⟨rfl,.inl rfl⟩,λ_=>rfl,dS⟩
 ·simp at hcs;subst hcs;simp at S;have each:∀i,i<len->W.cell? (a.add (i*2))=μ (ι κ (eP (Y i)))/\W.cell? (a.add (i*2+1))=μ (ι κ (eP (X i))):=by
   intro i hi;obtain⟨q1,q2,G,E⟩:=hx i dP;obtain⟨k,f0,_,_⟩:=aW cP G;obtain⟨n,f1,_,_⟩:=aW cP E;simp at f0 f1;exact⟨by rw[q1,f0];rfl,by rw[q2,f1];rfl⟩
  refine⟨μ a,len,cap,(List.range len).map (λi=>(eP (Y i),eP (X i))),rfl,⟨gN,?_⟩,λh=>by simp at h,dP⟩;by_cases Q:len=0
  ·exact .inl Q
  ·obtain⟨b,off,Z⟩:=a;have hc:=(each 0 dP).1;have U:Z=ν:=by simpa[Addr.add]using cQ hc
   subst U;refine .inr ⟨b,off,rfl,λj J=> ?_⟩;have T:j<len:=by simpa using J
   have V:=each j T;rw[lW,lW]at V;simpa[Nat.add_assoc]using V
