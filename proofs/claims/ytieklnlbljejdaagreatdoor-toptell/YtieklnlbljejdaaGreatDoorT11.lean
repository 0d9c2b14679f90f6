import Derived.Test.YtieklnlbljejdaaGreatDoorT10
open Go.Value renaming int → ι, slice → σ, pointer → π, tuple → τ, nilIface → η
open Go.IntKind renaming i64 → κ
open Go.Ending renaming returned → ρ
open Go.Obj renaming cells → γ
open Option renaming none → ν, some → μ
open Go renaming World → dN, Calls → eM, Value → dO, Addr → dM
open Go.Proofs.Tryz renaming prog → eN
open Go.Value renaming map → fN, ownBlock → dQ
open Go.Instr renaming makeMap → fO
set_option maxRecDepth 100000
set_option maxHeartbeats 4000000
namespace Go.Proofs.YtieklnlbljejdaaGreatDoor
open Go.RowKit St
variable {B b n:Nat} {bs:List Nat} {f:Int->Option SV} {k:Int} {m:FM} {s:SV} {v:Value} {w w' wr:World}
def Fine(w:dN)(f:Int->Option SV)(es:Int->List jv):Prop:=∀k s,qS k->f k=μ s->(1<=k/\k<=6)/\s.own=k/\iK w s.a s.n (es k)/\kd s.a s.cap/\s.n<=1000000
theorem JZ(B:Nat)(m:FM)(k:Nat)(kn:Int->Option SV)(ow:Nat->Int->Option SV)(es:Int->List jv)(w:dN)(h:FB w B m k kn ow)(hf:Fine w kn es):
 eM eN 110 #[π (μ ⟨B,0,ν⟩)] w λe w'=>∃v ts,e=ρ v/\Bq w w' kn es v ts:=by
 have Z:=Br m.bm k kn es w h.km hf;have c0:=h.c0;have lB:=h.lt;clear h hf
 go_in
 go_wp2_with(fail);refine Z.mono ?_;rintro e w2 ⟨v,ts,rfl,Y⟩;have X:Hid _:=Y;clear Z Y
 go_wp2
 go_ret;exact⟨_,_,rfl,X.out⟩
theorem QF(B:Nat)(m:FM)(k:Nat)(kn:Int->Option SV)(ow:Nat->Int->Option SV)(es:Int->List jv)(p:Nat)(w:dN)(h:FB w B m k kn ow)(U:p<m.bs.length)(hf:Fine w (ow p) es):
 eM eN 151 #[π (μ ⟨B,0,ν⟩),ι κ (p:Int)] w λe w'=>∃v ts,e=ρ v/\Bq w w' (ow p) es v ts:=by
 have hh:=Ai B m k kn ow (p:Int) w h;have hv:(decide (0<=(p:Int))&&decide ((p:Int)<(m.bs.length:Int)))=true:=by simp;omega
 rw[hv]at hh;clear hv;have Vq:(p:Int)<(m.bs.length:Int):=dP;have vR:=h.few;have Y:m.bs[p]? =μ m.bs[p] :=av U;have Z:=Br m.bs[p] k (ow p) es w (h.om p _ Y) hf;have c1:w.cell? ⟨B,1,ν⟩=μ (σ (μ ⟨m.g,0,ν⟩) m.bs.length m.cap):=h.c1;have lB:=h.lt;have cp:=h.port p _ Y;have gl:m.g<w.heap.size:=af w _ cp;generalize m.bs[p] =bp at cp Z;clear Y h hf
 go_in
 go_wp2_with(fail);refine hh.mono ?_;rintro e w1 ⟨rfl,rfl⟩;clear hh;go_wp2_with(fail);refine Z.mono ?_;rintro e w2 ⟨v,ts,rfl,X⟩;have V:Hid _:=X;clear Z X
 go_wp2
 go_ret;exact⟨_,_,rfl,V.out⟩
theorem QG:(eN.info? 211).map (λi=>(i.zero,i.size,i.bytes))=μ (μ (.map ν),1,8):=gJ
theorem wj(w:dN)(x:dO)(t:TypeId)(g:Nat)(Z:w.heap.size=g):∀(j:Nat) (u:dO),[x][j]? =μ u->(w.alloc (γ #[x] t)).cell? ((⟨g,0,ν⟩:dM).add j)=μ u:=by
 subst Z;exact pg w x t
theorem T6(b:Option Nat):∀u∈ [fN b],u.oneCell'=true:=by simp[Value.oneCell']
theorem Xq(W:dN):(fO 211 ν).run eN W=.ok (.map (μ W.heap.size)) (W.alloc (.map #[] 0)):=rfl
theorem QH(w:dN):(zeroValue 214).run eN w=.ok (.agg #[.map ν,σ ν 0 0]) w:=gJ
structure C2(w wr:dN)(v:dO)(bs:List Nat):Prop where
 m9:wr.heap[w.heap.size+1]? =μ (γ #[.map (μ w.heap.size),v] 214 (0,0))
 row:Row wr 1 v bs.length (bs.map λb=>fN (μ b))
 km:SMap wr w.heap.size 0 (λ_=>ν)
 om:∀b∈bs,SMap wr b 0 (λ_=>ν)
 ge:∀b∈bs,w.heap.size+2<=b
 own:∀g,v.ownBlock=μ g->w.heap.size+2<=g/\g∉bs
 nd:bs.Nodup
 nI:dV w wr
theorem C2.step {w3:dN} {v':dO} {o:Obj} {g' jd:Nat} (h:C2 w wr v bs)(Y:((wr.alloc (.map #[] 0)).alloc o).grownBy w3 v.ownBlock)(hv:v'=σ (μ ⟨g',0,ν⟩) (bs.length+1) jd)
 (G:Row w3 1 v' (bs.length+1) ((bs.map λb=>fN (μ b))++ [.map (μ wr.heap.size)])) (H:v.ownBlock=μ g' \/wr.heap.size+2<=g'):C2 w (w3.setCell ⟨w.heap.size+1,1,ν⟩ v') v' (bs++ [wr.heap.size]):=by
 have D:w.heap.size+1<wr.heap.size:=(au.1 h.m9).1;have s2:((wr.alloc (.map #[] 0)).alloc o).heap.size=wr.heap.size+2:=gN;have b2:dV wr ((wr.alloc (.map #[] 0)).alloc o):=(gM _ _).alloc gN _;have hs3:=Y.size;have X:∀i,i<wr.heap.size->v.ownBlock≠μ i->w3.heap[i]? =wr.heap[i]? :=λi hi E=>(Y.block i dP (λe=>E e.symm)).trans (b2.block i hi);have V:∀i,i≠w.heap.size+1->(w3.setCell ⟨w.heap.size+1,1,ν⟩ v').heap[i]? =w3.heap[i]? :=λi hi=>ak _ _ _ i hi;have S:w3.heap[w.heap.size+1]? =μ (γ #[.map (μ w.heap.size),v] 214 (0,0)):=(X _ D (λe=>by have:=(h.own _ e).1;omega)).trans h.m9;have T:∀b∈bs,b<wr.heap.size:=λb hb=>(h.om b hb).lt;have U:w.heap.size+2<=g'/\g'∉bs/\g'≠wr.heap.size:=by
  rcases H with e|e
  ·have:=h.own g' e;have h2:=h.row.lt g' e;exact⟨this.1,this.2,dP⟩
  ·exact⟨dP,λZ=>by have:=T g' Z;omega,dP⟩
 refine⟨?_,?_,?_,?_,?_,?_,?_,?_⟩
 ·have s:=ch w3 (w.heap.size+1) #[.map (μ w.heap.size),v] (#[.map (μ w.heap.size),v].setIfInBounds 1 v') 214 (0,0) S;rw[<-bB w3 (w.heap.size+1) 1 _ _ (0,0) _ S]at s;exact s
 ·rw[ay,bY];refine G.keep gN (λk M=>V k ?_);rw[hv]at M;have:g'=k:=by simpa[dQ]using M
  omega
 ·refine h.km.keep ((V _ dP).trans (X _ h.km.lt (λe=>by have:=(h.own _ e).1;omega)))
 ·intro b hb;rcases aF.1 hb with hb|hb
  ·have h1:=h.ge b hb;exact(h.om b hb).keep ((V b dP).trans (X b (T b hb) (λe=>(h.own b e).2 hb)))
  ·have:b=wr.heap.size:=by simpa using hb
   subst this;refine(SMap.made wr).keep ((V _ dP).trans ((Y.block _ dP (λe=> ?_)).trans ?_))
   ·have:=h.row.lt _ e.symm;omega
   ·exact aQ _ _ _ gN
 ·intro b hb;rcases aF.1 hb with hb|hb
  ·exact h.ge b hb
  ·have:b=wr.heap.size:=by simpa using hb
   omega
 ·intro g Q;rw[hv]at Q;have:g'=g:=by simpa[dQ]using Q
  subst this;refine⟨U.1,λZ=> ?_⟩;rcases aF.1 Z with Z|Z
  ·exact U.2.1 Z
  ·exact U.2.2 (by simpa using Z)
 ·rw[bP];refine⟨h.nd,gN,λa J b hb=> ?_⟩;have:b=wr.heap.size:=by simpa using hb
  have:=T a J;omega
 ·have b3:dV w w3:=⟨Y.os.trans (b2.os.trans h.nI.os),Y.tape.trans (b2.tape.trans h.nI.tape),Y.output.trans (b2.output.trans h.nI.output),by have:=h.nI.size;omega,λi hi=>(X i dP (λe=>by have:=(h.own i e).1;omega)).trans (h.nI.block i hi)⟩
  exact b3.setCell (by show _<=w.heap.size+1;omega) _
theorem C2.fb(h:C2 w wr v bs)(h1:0<bs.length)(U:bs.length<=3):∃g cap,FB wr (w.heap.size+1) {bm:=w.heap.size,g:=g,cap:=cap,bs:=bs} 0 (λ_=>ν) (λ_ _=>ν):=by
 rcases h.row.2 with⟨_,e⟩|⟨g,cap,e,_⟩
 ·omega
 ·have T:=h.own g (by rw[e];rfl);have hb:=h.m9;have Z:=h.row;rw[e]at hb Z;refine⟨g,cap,hb,Z,h.km,λi b X=>h.om b (bu X),U,⟨by show w.heap.size≠w.heap.size+1;omega,by show g≠w.heap.size+1;omega,by show w.heap.size≠g;omega,λb Y=> ?_⟩,h.nd⟩;have h4:=h.ge b Y;exact⟨dP,λV=>T.2 (by rw[<-show b=g from V];exact Y),by show b≠w.heap.size;omega⟩
theorem adz(p:Int)(w:dN)(Y:p<1 \/3<p):
 eM eN 66 #[ι κ p] w λe w'=>e=ρ (τ #[π ν,iP 1])/\w=w':=by
 have Z:Hid (iP 1=.iface 128 (ι κ 1)):=rfl;by_cases h1:p<1
 ·clear Y
  go_in
  go_wp2_with(fail);rw[Z.out]
  go_ret2
  exact⟨rfl,rfl⟩
 ·have h3:3<p:=dP;clear Y
  go_in
  go_wp2_with(fail);rw[Z.out]
  go_ret2
  exact⟨rfl,rfl⟩
theorem Xt(p:Nat)(w:dN)(hp:1<=p/\p<=3):
 eM eN 66 #[ι κ (p:Int)] w λe w'=>e=ρ (τ #[π (μ ⟨w.heap.size+1,0,ν⟩),η])/\∃v bs,C2 w w' v bs/\bs.length=p:=by
 obtain⟨h,hi,nH,l8,mZ⟩:=aT QG;have h1:¬((p:Int)<1):=dP;have h3:¬(3<(p:Int)):=dP;obtain⟨u,S⟩:=fP ((w.alloc (.map #[] 0)).alloc (γ #[.map (μ w.heap.size),σ ν 0 0] 214));have J:C2 w u (σ ν 0 0) [] :=by
  rw[<-S];refine⟨?_,Row.nil _ 1,(SMap.made w).alloc _,λb hb=>by simp at hb,λb hb=>by simp at hb,λg t=>by simp[dQ]at t,cZ,(gM _ _).alloc gN _⟩;have:=aS (w.alloc (.map #[] 0)) (γ #[.map (μ w.heap.size),σ ν 0 0] 214);simpa using this
 have A:Hid _:=S;have OX:∀W:dN,(fO 211 ν).run eN W=.ok (.map (μ W.heap.size)) (W.alloc (.map #[] 0)):=λW=>Xq W;have hzb:=QH;clear S
 go_in
 go_wp2_with(fail);rw[A.out]
 go_loopw [16] (λi wr=>∃(j:Nat) (v:dO) (bs:List Nat),j<=p/\i=ι κ j/\bs.length=j/\C2 w wr v bs) (λi _=>p-(intOf i).toNat)
 case atStart=>exact⟨0,_,[],Nat.zero_le _,rfl,rfl,J⟩
 case round=>
  clear J;obtain⟨j,v,bs,hj,rfl,hl,Y⟩:=hrel;by_cases kc:j<p
  ·have nh:(j:Int)<(p:Int):=dP;have c1:wr.cell? ⟨w.heap.size+1,1,ν⟩=μ v:=ar wr _ 1 _ _ (0,0) Y.m9;have lB:w.heap.size+1<wr.heap.size:=af wr _ c1;have T:=Y.row;rw[hl]at T;have V:Hid _:=hl;have X:Hid _:=Y;clear Y hl;go_wp2_with(at_builtin;go_must(refine iu _ rfl (.tmp 22) (.tmp 24) 212 rfl 211 h (.map ν) 1 8 Tryz.underlying212 hi nH l8 mZ rfl dS v j _ rfl ((T.alloc _).alloc _) _ 1 1 [.map (μ wr.heap.size)] rfl rfl dS (wj _ _ _ _ gN) (T6 _) (by unfold maxLen;omega) dP ?_));intro M H Z G Q E;have U:Z.heap[w.heap.size+1]? =μ (γ #[.map (μ w.heap.size),v] 214 (0,0)):=by
    refine(Q.block _ (by simp;omega) (λe=> ?_)).trans ((((gM wr (.map #[] 0)).alloc gN _).block _ lB).trans X.out.m9);have:=(X.out.own _ e.symm).1;omega
   have c3:Z.cell? ⟨w.heap.size+1,1,ν⟩=μ v:=ar Z _ 1 _ _ (0,0) U;have f3:=bh Z (w.heap.size+1) 1 _ _ U;have l3:w.heap.size+1<Z.heap.size:=af Z _ c3;have D:Hid (C2 w (Z.setCell ⟨w.heap.size+1,1,ν⟩ (σ (μ ⟨M,0,ν⟩) (j+1) H)) (σ (μ ⟨M,0,ν⟩) (j+1) H) (bs++ [wr.heap.size])):=by
    refine X.out.step Q (by rw[V.out]) (by rw[V.out];exact G) ?_;rcases E with e|e
    ·exact .inl e
    ·right;simpa using e
   clear G Q E U T
   go_wp2
   go_roundw
   case rel=>exact⟨j+1,_,_,dP,by go_num,by simp[V.out],D.out⟩
   case measure=>simp[intOf];omega
  ·have y:j=p:=dP;subst y;have X:Hid (∃v bs,C2 w wr v bs/\bs.length=j):=⟨v,bs,Y,hl⟩
   clear Y hl
   go_wp2
   go_ret2
   exact⟨rfl,X.out⟩
abbrev PS:=Int×List jv
structure Hc(w:dN)(m:FM)(k:Int)(q:PS)(s:SV):Prop where
 own:s.own=k
 seq:s.seq=q.1
 n:s.n=q.2.length
 opt:iK w s.a s.n q.2
 nil:kd s.a s.cap
 ok:ox k q.1 q.2=0
 lt:∀j,dQ (σ s.a s.n s.cap)=μ j->j<w.heap.size
 far:∀j,dQ (σ s.a s.n s.cap)=μ j->j≠m.bm/\j∉m.bs/\¬m.no j
def Tie(w:dN)(m:FM)(f:Int->Option SV)(F:Int->Option PS):Prop:=∀k,qS k->match F k with
 |none=>f k=none
 |some q=>∃s,f k=some s/\Hc w m k q s
theorem Hc.kept {q:PS} (h:Hc w m k q s)(Y:jc w w' m):Hc w' m k q s:=⟨h.own,h.seq,h.n,h.opt.Pz (cap:=s.cap) Y (λj Z=>⟨(h.far j Z).1,(h.far j Z).2.1⟩),h.nil,h.ok,λj Z=>Nat.lt_of_lt_of_le (h.lt j Z) Y.size,h.far⟩
theorem Tie.kept {w w':dN} {m:FM} {f:Int->Option SV} {F:Int->Option PS} (h:Tie w m f F)(X:jc w w' m):Tie w' m f F:=by
 intro k V;have:=h k V;cases e:F k with
 |none=>rw[e]at this;exact this
 |some q=>rw[e]at this;obtain⟨s,Z,Y⟩:=this;exact⟨s,Z,Y.kept X⟩
theorem Tie.xy {F:Int->Option PS} (h:Tie w m f F)(Z:qS k)(e:F k=ν):f k=ν:=by have:=h k Z;rw[e]at this;exact this
theorem Tie.sN {F:Int->Option PS} (h:Tie w m f F)(Z:qS k) {q:PS} (e:F k=μ q):∃s,f k=μ s/\Hc w m k q s:=by have:=h k Z;rw[e]at this;exact this
def tZ(F:Int->Option PS)(k:Int)(q:PS):Int->Option PS:=λx=>if x=k then μ q else F x
def yA(F:Int->Option PS)(k:Int):Int->Option PS:=λx=>if x=k then ν else F x
theorem Tie.put {F:Int->Option PS} (h:Tie w m f F) {q:PS} (hs:Hc w m k q s):Tie w m (vu f k s) (tZ F k q):=by
 intro x Z;by_cases e:x=k
 ·subst e;simp only[tZ,vu,if_true];exact⟨s,rfl,hs⟩
 ·have:=h x Z;simp only[tZ,vu,if_neg e];exact this
theorem Tie.out {F:Int->Option PS} (h:Tie w m f F)(k:Int):Tie w m (del f k) (yA F k):=by
 intro x Z;by_cases e:x=k
 ·subst e;simp only[yA,del,if_true]
 ·have:=h x Z;simp only[yA,del,if_neg e];exact this
structure BR(w:dN)(B:Nat)(m:FM)(n:Nat)(K:Int->Option PS)(O:Nat->Int->Option PS):Prop where
 ex:∃kn ow,FB w B m n kn ow/\Tie w m kn K/\∀i,i<m.bs.length->Tie w m (ow i) (O i)
 Nk:∀j,m.no j->j<w.heap.size
theorem BR.EZ {K:Int->Option PS} {O:Nat->Int->Option PS} (h:BR w B m n K O)(hs:w.heap.size<=w'.heap.size):∀j,m.no j->j<w'.heap.size:=λj Z=>Nat.lt_of_lt_of_le (h.Nk j Z) hs
def newF(K:Int->Option PS)(own seq:Int)(es:List jv):Int:=match K own with|none=>1|some q=>l5 seq es q.1 q.2
theorem Bs(B:Nat)(m:FM)(k:Nat)(kn:Int->Option SV)(ow:Nat->Int->Option SV)(K:Int->Option PS)(own seq:Int)(a:Option dM)(n cap:Nat)(es:List jv)(w:dN)(h:FB w B m k kn ow)(X:Tie w m kn K)(Z:qS own)(T:iK w a n es)(U:n<=1000000):
 eM eN 217 #[π (μ ⟨B,0,ν⟩),.agg #[ι κ own,ι κ seq,σ a n cap]] w λe w'=>e=ρ (ι κ (newF K own seq es))/\dV w w':=by
 cases e:K own with
 |none=>
  have hv:newF K own seq es=1:=by rw[newF,e]
  rw[hv];exact Jo B m k kn ow own seq a n cap w h Z (X.xy Z e)
 |some q=>
  obtain⟨s,V,Y⟩:=X.sN Z e;have hv:newF K own seq es=l5 seq es s.seq q.2:=by rw[newF,e,Y.seq]
  rw[hv];exact Jp B m k kn ow own seq a n cap es s q.2 w h Z V T U Y.opt
def ld(K:Int->Option PS)(own seq:Int)(es:List jv):Int->Option PS:=if 0<newF K own seq es then tZ K own (seq,es)else K
def oN(K:Int->Option PS)(O:Nat->Int->Option PS)(p:Nat)(own seq:Int)(es:List jv):Nat->Int->Option PS:=λi=>
 if 0<newF K own seq es then(if i=p then yA (tZ (O p) own (seq,es)) own else tZ (O i) own (seq,es))
 else if newF K own seq es<0 then(if i=p then(match K own with|none=>O p|some q=>tZ (O p) own q)else O i)
 else(if i=p then yA (O p) own else O i)
theorem Bt(K:Int->Option PS)(own seq:Int)(es:List jv)(h:∀q:PS,l5 seq es q.1 q.2= -1 \/l5 seq es q.1 q.2=0 \/l5 seq es q.1 q.2=1):newF K own seq es= -1 \/newF K own seq es=0 \/newF K own seq es=1:=by
 unfold newF;cases K own with
 |none=>exact .inr (.inr rfl)
 |some q=>exact h q
theorem Nm(B:Nat)(m:FM)(k:Nat)(K:Int->Option PS)(O:Nat->Int->Option PS)(p:Nat)(own seq:Int)(a:Option dM)(n cap:Nat)(es:List jv)(w:dN)(h:BR w B m k K O)(Q:qS own)(E:p<m.bs.length)(S:iK w a n es)(jS:kd a cap)(u:k<=1000000)(hf:ox own seq es=0)
 (hS:∀q:PS,l5 seq es q.1 q.2= -1 \/l5 seq es q.1 q.2=0 \/l5 seq es q.1 q.2=1):
 eM eN 190 #[π (μ ⟨B,0,ν⟩),ι κ (p:Int),.agg #[ι κ own,ι κ seq,σ a n cap]] w λe w'=>e=ρ (τ #[ι κ (newF K own seq es),η])/\BR w' B m (k+1+m.bs.length) (ld K own seq es) (oN K O p own seq es)/\jc w w' m:=by
 obtain⟨kn,ow,hF,U,X⟩:=h.ex;have hn:n<=6:=by have:=(jk hf).2.2.1;rw[S.1]at this;exact this
 have G:n<=maxLen:=by unfold maxLen;omega
 have V:∀W,dV w W->eM eN 217 #[π (μ ⟨B,0,ν⟩),.agg #[ι κ own,ι κ seq,σ a n cap]] W λe w'=>e=ρ (ι κ (newF K own seq es))/\dV W w':=λW hb=>
  Bs B m k kn ow K own seq a n cap es W (hF.below hb) (U.kept (jc.iD m hb)) Q (S.below hb) dP
 rcases Bt K own seq es hS with e|e|e
 ·rw[e]at V⊢;cases J:K own with
  |none=>rw[newF,J]at e;cases e
  |some q=>
   obtain⟨s,y,t⟩:=U.sN Q J;refine(PD B m k kn ow p own seq a n cap es w hF Q E S G hf s y u V).mono ?_;rintro A D ⟨rfl,M,Z⟩;refine⟨rfl,⟨⟨_,_,M.mono dP,?_,λi hi=> ?_⟩,h.EZ Z.size⟩,Z⟩
   ·simp only[ld,e];exact U.kept Z
   ·simp only[oN,e,J];by_cases Y:i=p
    ·subst Y;simp;exact((X i hi).kept Z).put (t.kept Z)
    ·simp[Y];exact(X i hi).kept Z
 ·rw[e]at V⊢;refine(take_zero B m k kn ow p own seq a n cap es w hF Q E S G hf V).mono ?_;rintro A D ⟨rfl,M,Z⟩;refine⟨rfl,⟨⟨_,_,M.mono dP,?_,λi hi=> ?_⟩,h.EZ Z.size⟩,Z⟩
  ·simp only[ld,e];exact U.kept Z
  ·simp only[oN,e];by_cases Y:i=p
   ·subst Y;simp;exact((X i hi).kept Z).out own
   ·simp[Y];exact(X i hi).kept Z
 ·rw[e]at V⊢;refine(PE B m k kn ow p own seq a n cap es w hF Q E S G jS u hf V).mono ?_;rintro A D ⟨rfl,s,T⟩;have hs:Hc D m own (seq,es) s:=⟨T.so,T.ss,T.sn,T.so2,T.nil,hf,λj H=>(T.new j H).2,λj H=>by
   have y:=(T.new j H).1;exact⟨λe=>by have:=hF.mlt m.bm (.inl rfl);omega,λe=>by have:=hF.mlt j (.inr e);omega,λe=>by have:=h.Nk j e;omega⟩⟩
  refine⟨rfl,⟨⟨_,_,T.fb,?_,λi hi=> ?_⟩,h.EZ T.kept.size⟩,T.kept⟩
  ·simp only[ld,e];exact(U.kept T.kept).put hs
  ·simp only[oN,e];by_cases Y:i=p
   ·subst Y;simp;exact(((X i hi).kept T.kept).put hs).out own
   ·simp[Y,hi];exact((X i hi).kept T.kept).put hs
def oX(F G:Int->Option PS):Int->Option PS:=λk=>if(G k).isSome=true then G k else F k
theorem Tie.over {w:dN} {m:FM} {f g:Int->Option SV} {F G:Int->Option PS} (h:Tie w m f F)(Q:Tie w m g G):Tie w m (Go.Proofs.YtieklnlbljejdaaGreatDoor.over f g) (oX F G):=by
 intro k V;have U:=h k V;have Z:=Q k V;cases e:G k with
 |none=>
  rw[e]at Z;have Y:oX F G k=F k:=by simp[oX,e]
  have X:Go.Proofs.YtieklnlbljejdaaGreatDoor.over f g k=f k:=by simp[Go.Proofs.YtieklnlbljejdaaGreatDoor.over,Z]
  rw[Y,X];exact U
 |some q=>
  rw[e]at Z;obtain⟨s,T,S⟩:=Z;have Y:oX F G k=μ q:=by simp[oX,e]
  have X:Go.Proofs.YtieklnlbljejdaaGreatDoor.over f g k=μ s:=by simp[Go.Proofs.YtieklnlbljejdaaGreatDoor.over,T]
  rw[Y,X];exact⟨s,rfl,S⟩
theorem Nn(B:Nat)(m:FM)(k:Nat)(K:Int->Option PS)(O:Nat->Int->Option PS)(p:Nat)(w:dN)(h:BR w B m k K O)(T:p<m.bs.length):
 eM eN 124 #[π (μ ⟨B,0,ν⟩),ι κ (p:Int)] w λe w'=>e=ρ (τ #[])/\BR w' B m k K (λi=>if i=p then λ_=>ν else O i)/\jc w w' m:=by
 obtain⟨kn,ow,hF,U,V⟩:=h.ex;refine(Qv B m k kn ow p w hF T).mono ?_;rintro e w1 ⟨rfl,X,Z⟩;refine⟨rfl,⟨⟨_,_,X,U.kept Z,λi hi=> ?_⟩,h.EZ Z.size⟩,Z⟩;by_cases Y:i=p
 ·simp only[if_pos Y];exact λ_ _=>rfl
 ·simp only[if_neg Y];exact(V i hi).kept Z
theorem Np(B:Nat)(m:FM)(k:Nat)(K:Int->Option PS)(O:Nat->Int->Option PS)(p:Nat)(w:dN)(h:BR w B m k K O)(S:p<m.bs.length)(T:k<=1000000):
 eM eN 126 #[π (μ ⟨B,0,ν⟩),ι κ (p:Int)] w λe w'=>e=ρ η/\BR w' B m (k+k) K (λi=>if i=p then oX (O p) K else O i)/\jc w w' m:=by
 obtain⟨kn,ow,hF,X,Y⟩:=h.ex;refine(QA B m k kn ow p w hF S T).mono ?_;rintro e w1 ⟨rfl,U,Z⟩;refine⟨rfl,⟨⟨_,_,U,X.kept Z,λi hi=> ?_⟩,h.EZ Z.size⟩,Z⟩;by_cases V:i=p
 ·subst V;simp only[if_true];exact((Y i hi).kept Z).over (X.kept Z)
 ·simp only[if_neg V];exact(Y i hi).kept Z
theorem Hd(B:Nat)(m:FM)(k:Nat)(K:Int->Option PS)(O:Nat->Int->Option PS)(own seq:Int)(a:Option dM)(n cap:Nat)(es:List jv)(w:dN)(h:BR w B m k K O)(S:qS own)(U:iK w a n es)(Q:kd a cap)(V:k<=1000000)(hf:ox own seq es=0):
 eM eN 67 #[π (μ ⟨B,0,ν⟩),.agg #[ι κ own,ι κ seq,σ a n cap]] w λe w'=>e=ρ η/\BR w' B m (k+1+m.bs.length) (tZ K own (seq,es)) (λi=>tZ (O i) own (seq,es))/\jc w w' m:=by
 obtain⟨kn,ow,hF,X,Y⟩:=h.ex;refine(Xl B m k kn ow own seq a n cap es w hF S U Q V hf).mono ?_;rintro e M ⟨rfl,s,T⟩;have hs:Hc M m own (seq,es) s:=⟨T.so,T.ss,T.sn,T.so2,T.nil,hf,λj Z=>(T.new j Z).2,λj Z=>by
  have h1:=(T.new j Z).1;exact⟨λe=>by have:=hF.mlt m.bm (.inl rfl);omega,λe=>by have:=hF.mlt j (.inr e);omega,λe=>by have:=h.Nk j e;omega⟩⟩
 refine⟨rfl,⟨⟨_,_,T.fb,(X.kept T.kept).put hs,λi hi=> ?_⟩,h.EZ T.kept.size⟩,T.kept⟩;simp only[if_pos hi];exact((Y i hi).kept T.kept).put hs
theorem J0(B:Nat)(m:FM)(k:Nat)(K:Int->Option PS)(O:Nat->Int->Option PS)(p:Nat)(own seq:Int)(a:Option dM)(n cap:Nat)(es:List jv)(w:dN)(h:BR w B m k K O)(J:qS own)(M:p<m.bs.length)(U:iK w a n es)(hf:ox own seq es=0)
 (D:∀q:PS,l5 seq es q.1 q.2= -1 \/l5 seq es q.1 q.2=0 \/l5 seq es q.1 q.2=1):
 eM eN 191 #[π (μ ⟨B,0,ν⟩),ι κ (p:Int),.agg #[ι κ own,ι κ seq,σ a n cap]] w λe w'=>e=ρ η/\BR w' B m k K (λi=>if i=p/\0<=newF K own seq es then yA (O p) own else O i)/\jc w w' m:=by
 obtain⟨kn,ow,hF,S,T⟩:=h.ex;have hn:n<=6:=by have:=(jk hf).2.2.1;rw[U.1]at this;exact this
 have Q:n<=maxLen:=by unfold maxLen;omega
 have X:∀W,dV w W->eM eN 217 #[π (μ ⟨B,0,ν⟩),.agg #[ι κ own,ι κ seq,σ a n cap]] W λe w'=>e=ρ (ι κ (newF K own seq es))/\dV W w':=λW hb=>
  Bs B m k kn ow K own seq a n cap es W (hF.below hb) (S.kept (jc.iD m hb)) J (U.below hb) dP
 have key:∀Y,FB Y B m k kn (λi=>if i=p then del (ow p) own else ow i)->jc w Y m->0<=newF K own seq es->BR Y B m k K (λi=>if i=p/\0<=newF K own seq es then yA (O p) own else O i):=by
  intro Y V Z E;refine⟨⟨_,_,V,S.kept Z,λi hi=> ?_⟩,h.EZ Z.size⟩;by_cases G:i=p
  ·subst G;simp only[if_true,E,and_self];exact((T i hi).kept Z).out own
  ·simp only[G,if_false,false_and];exact(T i hi).kept Z
 rcases Bt K own seq es D with e|e|e
 ·rw[e]at X;refine(Nd B m k kn ow p own seq a n cap es w hF M U Q hf X).mono ?_;rintro H Y ⟨rfl,b1⟩;have Z:=jc.iD m b1;refine⟨rfl,⟨⟨_,_,hF.below b1,S.kept Z,λi hi=> ?_⟩,h.EZ Z.size⟩,Z⟩;have:¬(i=p/\0<=newF K own seq es):=by rw[e];omega
  simp only[if_neg this];exact(T i hi).kept Z
 ·rw[e]at X;refine(JW B m k kn ow p own seq a n cap es w hF J M U Q hf X).mono ?_;rintro H Y ⟨rfl,V,Z⟩;exact⟨rfl,key Y V Z dP,Z⟩
 ·rw[e]at X;refine(Nc B m k kn ow p own seq a n cap es w hF J M U Q hf X).mono ?_;rintro H Y ⟨rfl,V,Z⟩;exact⟨rfl,key Y V Z dP,Z⟩
theorem QI(p:Nat)(w:dN)(U:1<=p/\p<=3):
 eM eN 66 #[ι κ (p:Int)] w λe w'=>e=ρ (τ #[π (μ ⟨w.heap.size+1,0,ν⟩),η])/\∃m:FM,m.bs.length=p/\BR w' (w.heap.size+1) m 0 (λ_=>ν) (λ_ _=>ν)/\dV w w'/\w.heap.size<=m.bm/\w.heap.size<=m.g/\(∀b∈m.bs,w.heap.size<=b):=by
 refine(Xt p w U).mono ?_;rintro e w1 ⟨rfl,v,bs,Z,hl⟩;rcases Z.row.2 with⟨_,e⟩|⟨g,cap,e,_⟩
 ·omega
 ·obtain⟨Y,cap2,hF⟩:=Z.fb dP dP;refine⟨rfl,_,hl,⟨⟨_,_,hF,λ_ _=>rfl,λ_ _ _ _=>rfl⟩,λ_ h=>h.elim⟩,Z.nI,Nat.le_refl _,?_,λb hb=> ?_⟩
  ·have X:=hF.m9;rw[Z.m9]at X;have V:v=FM.sl {bm:=w.heap.size,g:=Y,cap:=cap2,bs:=bs}:=by simpa using X
   have:=Z.own Y (by rw[V];rfl);show w.heap.size<=Y;omega
  ·have:=Z.ge b hb;omega
def lP(F:Int->Option PS):Int->List jv:=λk=>((F k).map (·.2)).getD []
theorem Tie.fine {F:Int->Option PS} (h:Tie w m f F):Fine w f (lP F):=by
 intro k s V hs;cases e:F k with
 |none=>rw[h.xy V e]at hs;cases hs
 |some q=>
  obtain⟨t,Y,Z⟩:=h.sN V e;rw[hs]at Y;obtain rfl:=Option.some.inj Y;have X:=jk Z.ok;have U:lP F k=q.2:=by simp[lP,e]
  rw[U];exact⟨X.1,Z.own,Z.opt,Z.nil,by have:=X.2.2.1;have:=Z.n;omega⟩
structure tk(F:Int->Option PS)(n:Nat)(S:Nat->SV)(E:Nat->List jv):Prop where
 at_:∀j,j<n->qS (S j).own/\F (S j).own=μ ((S j).seq,E j)
 ok:∀j,j<n->ox (S j).own (S j).seq (E j)=0
 all:∀k,qS k->(F k).isSome=true->∃j,j<n/\(S j).own=k
 Nb:∀i j,i<j->j<n->(S i).own<(S j).own
theorem VN(ts:List SV)(j:Nat)(h:j<ts.length):ts[j]? =μ (ts.getD j SV.zero):=by
 rw[aR,av h];rfl
theorem Bq.lists {F:Int->Option PS} {ts:List SV} (U:Bq w w' f (lP F) v ts)(J:Tie w m f F):
 ∃a cap,v=σ a ts.length cap/\vm w' a ts.length (λj=>ts.getD j SV.zero) (λj=>lP F (ts.getD j SV.zero).own)/\tk F ts.length (λj=>ts.getD j SV.zero) (λj=>lP F (ts.getD j SV.zero).own)/\ts.length<=6/\(∀j,dQ v=μ j->w.heap.size<j):=by
 have Y:∀j,j<ts.length->Xn w w' f (lP F) v (ts.getD j SV.zero):=λj Z=>U.el _ (bu (VN ts j Z));have hat:∀j,j<ts.length->∃q,F (ts.getD j SV.zero).own=μ q/\q.1=(ts.getD j SV.zero).seq/\q.2=lP F (ts.getD j SV.zero).own/\ox (ts.getD j SV.zero).own q.1 q.2=0:=by
  intro j Z;have h:=Y j Z;obtain⟨t,T,hs⟩:=h.at_;cases e:F (ts.getD j SV.zero).own with
  |none=>rw[J.xy h.inr e]at T;cases T
  |some q=>
   obtain⟨t2,X,V⟩:=J.sN h.inr e;rw[T]at X;obtain rfl:=Option.some.inj X;exact⟨q,rfl,by rw[hs,V.seq],by unfold lP;rw[e];rfl,V.ok⟩
 have Q:tk F ts.length (λj=>ts.getD j SV.zero) (λj=>lP F (ts.getD j SV.zero).own):=by
  refine⟨λj Z=> ?_,λj Z=> ?_,λk A hs=> ?_,λi j H Z=> ?_⟩
  ·obtain⟨q,S,X,V,E⟩:=hat j Z;refine⟨(Y j Z).inr,?_⟩;rw[S,<-X,<-V]
  ·obtain⟨q,S,X,V,E⟩:=hat j Z;rw[<-X,<-V];exact E
  ·cases e:F k with
   |none=>rw[e]at hs;cases hs
   |some q=>
    obtain⟨t,T,_⟩:=J.sN A e;obtain⟨s,hm,y⟩:=U.all k A (by rw[T];rfl);obtain⟨j,Z,G⟩:=cW hm;refine⟨j,Z,?_⟩;have:ts.getD j SV.zero=s:=by rw[aR,av Z];exact G
    show(ts.getD j SV.zero).own=k;rw[this];exact y
  ·have hp:=U.Nb;have hi:i<ts.length:=dP;have:=dq.1 hp i j hi Z H;have M:ts.getD i SV.zero=ts[i] :=by rw[aR,av hi];rfl
   have u:ts.getD j SV.zero=ts[j] :=by rw[aR,av Z];rfl
   show(ts.getD i SV.zero).own<(ts.getD j SV.zero).own;rw[M,u];exact this
 have D:ts.length<=6:=by
  have:=sM (ts.map SV.own) [1,2,3,4,5,6] (by rw[di];exact U.Nb.imp (λh=>dP)) (λx hx=>by
   obtain⟨s,hs,rfl⟩:=bD.1 hx;obtain⟨j,Z,rfl⟩:=cW hs;have:=jk (Q.ok j Z);have M:ts.getD j SV.zero=ts[j] :=by rw[aR,av Z];rfl
   have S:=this.1;rw[M]at S;simp;omega)
  simpa using this
 have hO:∀j,j<ts.length->iK w' (ts.getD j SV.zero).a (ts.getD j SV.zero).n (lP F (ts.getD j SV.zero).own)/\kd (ts.getD j SV.zero).a (ts.getD j SV.zero).cap/\(ts.getD j SV.zero).n<=maxLen:=by
  intro j Z;have h:=Y j Z;refine⟨h.opt,h.nil,?_⟩;have:=(jk (Q.ok j Z)).2.2.1;rw[h.n];unfold maxLen;omega
 rcases U.shape with⟨rfl,rfl⟩|⟨g,cap,rfl,hS,hg⟩
 ·exact⟨ν,0,rfl,⟨.inl rfl,λj Z=>by simp at Z⟩,Q,D,λj Z=>by simp[dQ]at Z⟩
 ·refine⟨_,_,rfl,⟨.inr ⟨g,0,rfl,λj Z=> ?_⟩,hO⟩,Q,D,λj Z=> ?_⟩
  ·obtain⟨c1,c2,c3⟩:=hS.cell j _ (VN ts j Z);rw[show 0+j*3=j*3 by omega];exact⟨c1,c2,c3⟩
  ·have:g=j:=by simpa[dQ]using Z
   omega
theorem BR.below {w w':dN} {B:Nat} {m:FM} {k:Nat} {K:Int->Option PS} {O:Nat->Int->Option PS} (h:BR w B m k K O)(hb:dV w w'):BR w' B m k K O:=by
 obtain⟨kn,ow,Z,Y,X⟩:=h.ex;exact⟨⟨kn,ow,Z.below hb,Y.kept (jc.iD m hb),λi hi=>(X i hi).kept (jc.iD m hb)⟩,h.EZ hb.size⟩
def aa2(W:dN)(a:Option dM)(n cap:Nat)(S:Nat->SV):Prop:=(∀j,dQ (σ a n cap)=μ j->W.heap.size<j)/\∀i,i<n->∀j,dQ (σ (S i).a (S i).n (S i).cap)=μ j->W.heap.size<j
theorem zq(B:Nat)(m:FM)(k:Nat)(K:Int->Option PS)(O:Nat->Int->Option PS)(w:dN)(h:BR w B m k K O):
 eM eN 110 #[π (μ ⟨B,0,ν⟩)] w λe w'=>∃a n cap S E,e=ρ (σ a n cap)/\vm w' a n S E/\tk K n S E/\n<=6/\aa2 w a n cap S/\dV w w':=by
 obtain⟨kn,ow,hF,Y,hO⟩:=h.ex;refine(JZ B m k kn ow (lP K) w hF Y.fine).mono ?_;rintro e w1 ⟨v,ts,rfl,Z⟩;obtain⟨a,cap,rfl,X,V,U,T⟩:=Z.lists Y;refine⟨a,ts.length,cap,_,_,rfl,X,V,U,⟨T,λi hi j Q=> ?_⟩,Z.nI⟩;have M:ts.getD i SV.zero∈ts:=by
  have:ts.getD i SV.zero=ts[i] :=by simp[List.getD,hi]
  rw[this];exact aD hi
 exact((Z.el _ M).new j Q).1
def vz(K:Int->Option PS)(i:Int):Int:=match K i with|none=>0|some _=>i
def oY(K:Int->Option PS)(i:Int):Int:=match K i with|none=>0|some q=>q.1
theorem He(B:Nat)(m:FM)(k:Nat)(K:Int->Option PS)(O:Nat->Int->Option PS)(i:Int)(w:dN)(h:BR w B m k K O)(X:qS i):
 eM eN 177 #[π (μ ⟨B,0,ν⟩),ι κ i] w λe w'=>∃a cap,e=ρ (τ #[.agg #[ι κ (vz K i),ι κ (oY K i),σ a (lP K i).length cap],.bool (K i).isSome])/\iK w' a (lP K i).length (lP K i)/\kd a cap/\(lP K i).length<=6/\dV w w':=by
 obtain⟨kn,ow,hF,M,hO⟩:=h.ex;cases e:K i with
 |none=>
  have J:=M.xy X e;refine(LA B m k kn ow i SV.zero false [] w hF X (by rw[J];rfl) (by rw[J];rfl) ⟨rfl,.inl rfl⟩ dS (λ_=>rfl)).mono ?_;rintro Y G ⟨a,cap,rfl,T,S,Q⟩;have Y:lP K i=[] :=by simp[lP,e]
  have V:vz K i=0:=by simp[vz,e]
  have U:oY K i=0:=by simp[oY,e]
  rw[Y,V,U];exact⟨a,cap,rfl,T,S,gN,Q⟩
 |some q=>
  obtain⟨s,hs,Z⟩:=M.sN X e;have H:=(jk Z.ok).2.2.1;refine(LA B m k kn ow i s true q.2 w hF X (by rw[hs];rfl) (by rw[hs];rfl) Z.opt (by rw[Z.n];omega) Z.nil).mono ?_;rintro Y G ⟨a,cap,rfl,T,S,Q⟩;have Y:lP K i=q.2:=by simp[lP,e]
  have V:vz K i=s.own:=by simp[vz,e,Z.own]
  have U:oY K i=s.seq:=by simp[oY,e,Z.seq]
  rw[Y,V,U];exact⟨a,cap,rfl,T,S,H,Q⟩
theorem SMap.obj(h:SMap w b n f):∃es Z,w.heap[b]? =μ (.map es Z):=by
 obtain⟨D,⟨es,Z,Y,_⟩,_⟩:=h.own;exact⟨es,Z,Y⟩
theorem vA {g:Nat} {c:Array dO} {t:TypeId} {fr:Nat×Nat} (hc:w.heap[g]? =μ (γ c t fr))(Z:∃es Y,w.heap[b]? =μ (.map es Y)):g≠b:=by
 obtain⟨es,Y,Z⟩:=Z;rintro rfl;rw[hc]at Z;cases Z
theorem oO {p:dM} (hc:w.cell? p=μ v)(Z:∃es Y,w.heap[b]? =μ (.map es Y)):p.block≠b:=by
 obtain⟨es,Y,Z⟩:=Z;rintro rfl;unfold World.cell? at hc;rw[Z]at hc;cases hc
theorem BR.maps {k:Nat} {K:Int->Option PS} {O:Nat->Int->Option PS} (h:BR w B m k K O):∀b,(b=m.bm \/b∈m.bs)->∃es Y,w.heap[b]? =μ (.map es Y):=by
 obtain⟨kn,ow,Z,_,_⟩:=h.ex;intro b hb;rcases hb with rfl|hb
 ·exact Z.km.obj
 ·obtain⟨i,hi,rfl⟩:=cW hb;exact(Z.om i _ (av hi)).obj
theorem BR.mlt {k:Nat} {K:Int->Option PS} {O:Nat->Int->Option PS} (h:BR w B m k K O):∀b,(b=m.bm \/b∈m.bs)->b<w.heap.size:=by
 intro b hb;obtain⟨es,cl,Z⟩:=h.maps b hb;exact(au.1 Z).1
theorem jc.cell {w w':dN} {B:Nat} {m:FM} {k:Nat} {K:Int->Option PS} {O:Nat->Int->Option PS} (Z:jc w w' m)(h:BR w B m k K O) {p:dM} {v:dO} (hc:w.cell? p=μ v):w'.cell? p=μ v:=by
 rw[ai (w:=w) (Z.block p.block (af w _ hc) (oO hc (h.maps _ (.inl rfl))) (λe=>oO hc (h.maps _ (.inr e)) rfl))];exact hc
theorem iK.two {k:Nat} {K:Int->Option PS} {O:Nat->Int->Option PS} {a:Option dM} {es:List jv} (h:iK w a n es)(X:jc w w' m)(hb:BR w B m k K O):iK w' a n es:=by
 refine⟨h.1,?_⟩;rcases h.2 with Z|⟨b,off,rfl,Z⟩
 ·exact .inl Z
 ·exact .inr ⟨b,off,rfl,λj Y=>⟨X.cell hb (Z j Y).1,X.cell hb (Z j Y).2⟩⟩
open Go.ChangeMaps Go.MapKept
def zOf:dO->Int
 | .int _ z=>z
 |_=>0
theorem SMap.aa3(h:SMap w b n f)(hf:∀k,qS k->(f k).isSome=true->1<=k/\k<=6):SMap w b 6 f:=by
 obtain⟨D,⟨es,clock,hb,F,hs,Q⟩,hat⟩:=h.own;refine⟨⟨D,⟨es,clock,hb,F,?_,Q⟩,hat⟩⟩;have T:∀x∈es.toList,∃z:Int,x.key=.int .i64 z/\1<=z/\z<=6:=by
  intro x hx;obtain⟨y,hy⟩:=F.reads x hx;have J:=WideElems.rd_key hy;obtain⟨z,U,hl,V⟩:=cg cP J;have M:=yz V;refine⟨z,U,hf z M ?_⟩;cases e:f z with
  |some _=>rfl
  |none=>
   have S:=hat z M;rw[e]at S;have Y:=dy S;rw[Q,Maps.has_eq]at Y;have G:y∈(es.toList.map (WideElems.rg eN 3 rb)).foldr DataW.insert [] :=(Go.WideShapes.sorted_perm _).mem_iff.2 (bD.2 ⟨x,hx,WideElems.rg_of hy⟩);have:=List.any_eq_false.1 Y y G;rw[hl]at this;simp[pN]at this
 have X:=((stamped_iff es clock).1 F.stamped).2.2;have hlen:=sM (es.toList.map (λx=>zOf x.key)) [1,2,3,4,5,6] (by
  rw[di];refine X.imp_of_mem ?_;intro x y hx hy H e;obtain⟨a,Z,_⟩:=T x hx;obtain⟨c,hc,_⟩:=T y hy;rw[Z,hc]at e;simp only[zOf]at e;exact H (by rw[Z,hc,e])) (λz U=>by
  obtain⟨x,hx,rfl⟩:=bD.1 U;obtain⟨a,Z,Y,h2⟩:=T x hx;rw[Z];simp only[zOf];simp;omega)
 simpa using hlen
theorem Tie.range {F:Int->Option PS} (h:Tie w m f F):∀k,qS k->(f k).isSome=true->1<=k/\k<=6:=by
 intro k Z hs;cases e:F k with
 |none=>rw[h.xy Z e]at hs;cases hs
 |some q=>
  obtain⟨s,_,Y⟩:=h.sN Z e;exact(jk Y.ok).1
theorem BR.six {K:Int->Option PS} {O:Nat->Int->Option PS} (h:BR w B m n K O):BR w B m 6 K O:=by
 obtain⟨kn,ow,hF,Y,Z⟩:=h.ex;exact⟨⟨kn,ow,⟨hF.m9,hF.row,hF.km.aa3 Y.range,λi b e=>(hF.om i b e).aa3 (Z i (aG.1 e).1).range,hF.few,hF.nB,hF.nd⟩,Y,Z⟩,h.Nk⟩
theorem BR.avoid(h:BR w B m n (λ_=>ν) (λ_ _=>ν))(no:Nat->Prop)(V:∀j,no j->j<w.heap.size):BR w B {m with no:=no} n (λ_=>ν) (λ_ _=>ν):=by
 obtain⟨kn,ow,hF,X,Y⟩:=h.ex;exact⟨⟨kn,ow,⟨hF.m9,hF.row,hF.km,hF.om,hF.few,hF.nB,hF.nd⟩,λk Z=>X k Z,λi hi k Z=>Y i hi k Z⟩,V⟩
namespace Rt
structure kL where
 who:Int
 both:Bool
 left:Int
def nobody:kL:=⟨0,false,0⟩
structure jb where
 m:Int
 L:LS
 rd:jY
 pe:kL
 out:List UInt8
abbrev wT:=Int×Int×List UInt8
structure iy where
 id:Int
 n:Nat
 P:Nat->jb
 K:Int->Option PS
 O:Nat->Int->Option PS
 jM:List wT
 drop:Int
def kA(P:Nat->jb)(i:Nat)(p:jb):Nat->jb:=λx=>if x=i then p else P x
def iy.iE(r:iy)(i:Nat)(p:jb):iy:={r with P:=kA r.P i p}
def jb.put(p:jb)(c:UInt8)(s:List UInt8):jb:=
 if c≠76/\p.L.st≠9 then p else if s.length+1<=60 then {p with out:=p.out++Plain.mD (c::s)}else p
def jb.say(p:jb):List kr->jb
 |[] =>p
 |q::r=>(if ju q.1 q.2.1 q.2.2=0 then p.put 76 (lA q.1 q.2.1 q.2.2)else p).say r
def jb.iw(p:jb)(up:Bool):jb×Nat:=
 let e:=ko p.L (if up then 0 else 1)
 if e.2.2≠0 then(p,e.2.2)else(({p with L:=e.1,rd:=([],false,false)}:jb).say e.2.1,0)
def jB(L:LS):LS×List kr:=
 if(j5 L).st=3 then((ko (ko (j5 L) 1).1 0).1,lO L++(ko (j5 L) 1).2.1++(ko (ko (j5 L) 1).1 0).2.1)else(j5 L,lO L)
def jb.tick(p:jb):jb:=({p with L:=(jB p.L).1}:jb).say (jB p.L).2
def jb.packet(p:jb)(s:List UInt8):jb:=
 let q:=iF s
 if q.2.2.2=0 then({p with L:=(jD p.L (q.1,q.2.1,q.2.2.1)).1}:jb).say (jD p.L (q.1,q.2.1,q.2.2.1)).2.1 else p
def jA(P:Nat->jb)(n:Int):Nat->Option Nat
 |0=>none
 |k+1=>if(P k).pe.both=true/\(P k).pe.who=n/\(match jA P n k with|none=>true|some b=>decide ((P k).m<(P b).m))=true then some k else jA P n k
def iX(r:iy):List jv:=(List.range 6).filterMap λ(j:Nat)=>(jA r.P ((j:Int)+1) r.n).map λb=>((j:Int)+1,(r.P b).m)
def yB(K:Int->Option PS)(i:Int):Int:=match K i with|none=>0|some q=>q.1
def zX(K:Int->Option PS)(i:Int):List jv:=match K i with|none=>[] |some q=>q.2
def iy.Bu(r:iy)(seq:Int)(es:List jv):iy:={r with K:=tZ r.K r.id (seq,es),O:=λi=>tZ (r.O i) r.id (seq,es)}
def iy.behind(r:iy)(seq:Int):iy:=if seq<1000000 then r.Bu (seq+1) (iX r)else r
def iy.change(r:iy):iy:=if zX r.K r.id=iX r then r else r.behind (yB r.K r.id)
def iy.meet(r:iy)(i:Nat)(q:kL):iy:=
 let r1:=r.iE i {r.P i with pe:=q}
 if q.who=(r.P i).pe.who/\q.both=(r.P i).pe.both then r1 else
  let r2:=({r1 with O:=λx=>if x=i then λ_=>ν else r1.O x}:iy).change
  if q.both=true then {r2 with O:=λx=>if x=i then oX (r2.O i) r2.K else r2.O x}else r2
def iy.iw(r:iy)(i:Nat)(up:Bool):iy×Nat:=
 let e:=(r.P i).iw up
 if e.2≠0 then(r,e.2)else((r.iE i e.1).meet i nobody,0)
def LC(K:Int->Option PS):mK:=λx y=>match K x with|none=>0|some q=>((q.2.find? λe=>e.1==(y:Int)).map (·.2)).getD 0
def oB(r:iy):List HP:=xd (nY (LC r.K)) r.id.toNat
def iy.send(r:iy)(t:wT):iy:=
 if t.1=r.id then {r with jM:=r.jM++ [t] }else
  match (if 1<=t.2.1 then(ym (oB r) t.1).bind λh=>jA r.P h.tf r.n else ν)with
  |none=>{r with drop:=r.drop+1}
  |some i=>r.iE i ((r.P i).put 77 (jQ t.1::jQ (t.2.1-1)::t.2.2))
def jP(me:Int)(f s:Int):kL:=if f=me then nobody else⟨f,decide (s=me),4⟩
def iH(p:kL):kL:=if p.left<=1 then nobody else {p with left:=p.left-1}
def iy.take(r:iy)(i:Nat)(c:UInt8)(s:List UInt8):iy:=
 let r1:=if c=76 then r.iE i ((r.P i).packet s)else r
 if(r1.P i).L.st≠9 then r1.meet i nobody
 else if c=72 then(if(lL s).2.2=0 then r1.meet i (jP r1.id (lL s).1 (lL s).2.1)else r1)
 else if c=83 then
  (let q:=St.ik s
   if q.2.2.2≠0 \/(r1.P i).pe.both=false then r1
   else if q.1=r1.id/\0<newF r1.K q.1 q.2.1 q.2.2.1 then r1.behind q.2.1
   else
    let r2:iy:={r1 with K:=ld r1.K q.1 q.2.1 q.2.2.1,O:=oN r1.K r1.O i q.1 q.2.1 q.2.2.1}
    if 0<=newF r1.K q.1 q.2.1 q.2.2.1 then r2.iE i ((r2.P i).put 65 (rM q.1 q.2.1 q.2.2.1))else r2)
 else if c=65 then
  (let q:=St.ik s
   if q.2.2.2=0 then {r1 with O:=λx=>if x=i/\0<=newF r1.K q.1 q.2.1 q.2.2.1 then yA (r1.O i) q.1 else r1.O x}else r1)
 else if c=77 then(if 2<=s.length/\s.length<=22 then r1.send (((s.getD 0 0).toNat:Int),((s.getD 1 0).toNat:Int),s.drop 2)else r1)
 else r1
def iy.takes(r:iy)(i:Nat):List (List UInt8)->iy
 |[] =>r
 |t::l=>(match t with|[] =>r|c::s=>r.take i c s).takes i l
def iy.recv(r:iy)(i:Nat)(l:List UInt8):iy:=
 let a:=j2 (r.P i).rd l
 (r.iE i {r.P i with rd:=a.2.2}).takes i a.1
def lU(F:Int->Option PS):List (Int×PS):=(List.range 6).filterMap λ(j:Nat)=>(F ((j:Int)+1)).map λq=>((j:Int)+1,q)
def jb.j3(p:jb):List (Int×PS)->jb
 |[] =>p
 |q::l=>(p.put 83 (rM q.1 q.2.1 q.2.2)).j3 l
def iy.iV(r:iy)(i:Nat):iy:=
 let r1:=r.iE i (r.P i).tick
 if(r1.P i).L.st≠9 then r1.meet i nobody else
  let r2:=r1.meet i (iH (r1.P i).pe)
  let p:=(r2.P i).put 72 [jQ r2.id,jQ (r2.P i).pe.who]
  r2.iE i (if(r2.P i).pe.both=true then p.j3 (lU (r2.O i))else p)
def iy.iW(r:iy):Nat->iy
 |0=>r
 |k+1=>(r.iW k).iV k
def iy.tick(r:iy):iy:=r.iW r.n
def iy.out(r:iy)(i:Nat):iy:=r.iE i {r.P i with out:=[] }
def DI(id:Int)(m:Nat->Int)(i:Nat):jb:=⟨m i,{T7 (8*id+i+1)with st:=1},([],false,false),nobody,[]⟩
where T7 (g:Int):LS:=⟨255,g,255,g,0,0,0,255,0,0,0⟩
def jt(id:Int)(n:Nat)(m:Nat->Int):iy:=
 ⟨id,n,DI id m,λx=>if x=id then μ (1,[])else ν,λ_ x=>if x=id then μ (1,[])else ν,[],0⟩
def jR(r:iy)(t:Int)(tx:List UInt8):iy×Nat:=if t<1 \/6<t \/20<tx.length then(r,1)else(r.send (t,8,tx),0)
