import Derived.Test.YtieklnlbljejdaaGreatDoorM05
import Derived.Test.YtieklnlbljejdaaGreatDoorM06
import Derived.Test.YtieklnlbljejdaaGreatDoorM07
open Go.Value renaming int → ι, slice → σ, pointer → π, tuple → τ, nilIface → η
open Go.IntKind renaming i64 → κ
open Go.Ending renaming returned → ρ
open Go.Obj renaming cells → γ
open Option renaming none → ν, some → μ
open Go renaming World → dY, Calls → eW, Value → dZ, Addr → dX
open Go.Proofs.Tryz renaming prog → eX
open Go.Value renaming map → gh, ownBlock → eu, slice → gp
open Go.Instr renaming makeMap → gj
set_option maxRecDepth 100000
set_option maxHeartbeats 4000000
open Go.Proofs.Tryz
namespace Go.Proofs.YtieklnlbljejdaaGreatDoor
open Go.RowKit St
variable {B b n:Nat} {bs:List Nat} {f:Int->Option SV} {k:Int} {m:FM} {s:SV} {v:Value} {w w' wr:World}
def Fine(w:dY)(f:Int->Option SV)(es:Int->List jE):Prop:=∀k s,sY k->f k=μ s->(1<=k/\k<=6)/\s.own=k/\jc w s.a s.n (es k)/\kI s.a s.cap/\s.n<=1000000
theorem NA(B:Nat)(m:FM)(k:Nat)(kn:Int->Option SV)(ow:Nat->Int->Option SV)(es:Int->List jE)(w:dY)(h:FB w B m k kn ow)(hf:Fine w kn es):
 eW eX 110 #[π (μ ⟨B,0,ν⟩)] w λe w'=>∃v ts,e=ρ v/\Eh w w' kn es v ts:=by
 have Z:=Ei m.bm k kn es w h.km hf;have c0:=h.c0;have lB:=h.lt;clear h hf
 go_in
 go_wp2_with(fail);refine Z.mono ?_;rintro e w2 ⟨v,ts,rfl,Y⟩;have X:Hid _:=Y;clear Z Y
 go_wp2
 go_ret;exact⟨_,_,rfl,X.out⟩
theorem U0(B:Nat)(m:FM)(k:Nat)(kn:Int->Option SV)(ow:Nat->Int->Option SV)(es:Int->List jE)(p:Nat)(w:dY)(h:FB w B m k kn ow)(U:p<m.bs.length)(hf:Fine w (ow p) es):
 eW eX 151 #[π (μ ⟨B,0,ν⟩),ι κ (p:Int)] w λe w'=>∃v ts,e=ρ v/\Eh w w' (ow p) es v ts:=by
 have hh:=C9 B m k kn ow (p:Int) w h;have hv:(decide (0<=(p:Int))&&decide ((p:Int)<(m.bs.length:Int)))=true:=by simp;omega
 rw[hv]at hh;clear hv;have Z9:(p:Int)<(m.bs.length:Int):=eh;have yn:=h.few;have Y:m.bs[p]? =μ m.bs[p] :=az U;have Z:=Ei m.bs[p] k (ow p) es w (h.om p _ Y) hf;have c1:w.cell? ⟨B,1,ν⟩=μ (σ (μ ⟨m.g,0,ν⟩) m.bs.length m.cap):=h.c1;have lB:=h.lt;have cp:=h.port p _ Y;have gl:m.g<w.heap.size:=ag w _ cp;generalize m.bs[p] =bp at cp Z;clear Y h hf
 go_in
 go_wp2_with(fail);refine hh.mono ?_;rintro e w1 ⟨rfl,rfl⟩;clear hh;go_wp2_with(fail);refine Z.mono ?_;rintro e w2 ⟨v,ts,rfl,X⟩;have V:Hid _:=X;clear Z X
 go_wp2
 go_ret;exact⟨_,_,rfl,V.out⟩
theorem U1:(eX.info? 211).map (λi=>(i.zero,i.size,i.bytes))=μ (μ (.map ν),1,8):=gq
theorem yB(w:dY)(x:dZ)(t:TypeId)(g:Nat)(Z:w.heap.size=g):∀(j:Nat) (u:dZ),[x][j]? =μ u->(w.alloc (γ #[x] t)).cell? ((⟨g,0,ν⟩:dX).add j)=μ u:=by
 subst Z;exact qE w x t
theorem Ys(b:Option Nat):∀u∈ [gh b],u.oneCell'=true:=by simp[Value.oneCell']
theorem abY(W:dY):(gj 211 ν).run eX W=.ok (.map (μ W.heap.size)) (W.alloc (.map #[] 0)):=rfl
theorem U2(w:dY):(zeroValue 214).run eX w=.ok (.agg #[.map ν,σ ν 0 0]) w:=gq
structure Gm(w wr:dY)(v:dZ)(bs:List Nat):Prop where
 oe:wr.heap[w.heap.size+1]? =μ (γ #[.map (μ w.heap.size),v] 214 (0,0))
 row:Row wr 1 v bs.length (bs.map λb=>gh (μ b))
 km:SMap wr w.heap.size 0 (λ_=>ν)
 om:∀b∈bs,SMap wr b 0 (λ_=>ν)
 ge:∀b∈bs,w.heap.size+2<=b
 own:∀g,v.ownBlock=μ g->w.heap.size+2<=g/\g∉bs
 nd:bs.Nodup
 nT:eE w wr
theorem Gm.step {w3:dY} {v':dZ} {o:Obj} {g' jr:Nat} (h:Gm w wr v bs)(X:((wr.alloc (.map #[] 0)).alloc o).grownBy w3 v.ownBlock)(hv:v'=σ (μ ⟨g',0,ν⟩) (bs.length+1) jr)
 (D:Row w3 1 v' (bs.length+1) ((bs.map λb=>gh (μ b))++ [.map (μ wr.heap.size)])) (E:v.ownBlock=μ g' \/wr.heap.size+2<=g'):Gm w (w3.setCell ⟨w.heap.size+1,1,ν⟩ v') v' (bs++ [wr.heap.size]):=by
 have H:w.heap.size+1<wr.heap.size:=(ay.1 h.oe).1;have s2:((wr.alloc (.map #[] 0)).alloc o).heap.size=wr.heap.size+2:=gY;have b2:eE wr ((wr.alloc (.map #[] 0)).alloc o):=(gW _ _).alloc gY _;have hs3:=X.size;have U:∀i,i<wr.heap.size->v.ownBlock≠μ i->w3.heap[i]? =wr.heap[i]? :=λi hi J=>(X.block i eh (λe=>J e.symm)).trans (b2.block i hi);have V:∀i,i≠w.heap.size+1->(w3.setCell ⟨w.heap.size+1,1,ν⟩ v').heap[i]? =w3.heap[i]? :=λi hi=>aq _ _ _ i hi;have Q:w3.heap[w.heap.size+1]? =μ (γ #[.map (μ w.heap.size),v] 214 (0,0)):=(U _ H (λe=>by have:=(h.own _ e).1;omega)).trans h.oe;have Z:∀b∈bs,b<wr.heap.size:=λb hb=>(h.om b hb).lt;have T:w.heap.size+2<=g'/\g'∉bs/\g'≠wr.heap.size:=by
  rcases E with e|e
  ·have:=h.own g' e;have h2:=h.row.lt g' e;exact⟨this.1,this.2,eh⟩
  ·exact⟨eh,λY=>by have:=Z g' Y;omega,eh⟩
 refine⟨?_,?_,?_,?_,?_,?_,?_,?_⟩
 ·have s:=cE w3 (w.heap.size+1) #[.map (μ w.heap.size),v] (#[.map (μ w.heap.size),v].setIfInBounds 1 v') 214 (0,0) Q;rw[<-bP w3 (w.heap.size+1) 1 _ _ (0,0) _ Q]at s;exact s
 ·rw[aA,cU];refine D.keep gY (λk M=>V k ?_);rw[hv]at M;have:g'=k:=by simpa[eu]using M
  omega
 ·refine h.km.keep ((V _ eh).trans (U _ h.km.lt (λe=>by have:=(h.own _ e).1;omega)))
 ·intro b hb;rcases aw.1 hb with hb|hb
  ·have h1:=h.ge b hb;exact(h.om b hb).keep ((V b eh).trans (U b (Z b hb) (λe=>(h.own b e).2 hb)))
  ·have:b=wr.heap.size:=by simpa using hb
   subst this;refine(SMap.made wr).keep ((V _ eh).trans ((X.block _ eh (λe=> ?_)).trans ?_))
   ·have:=h.row.lt _ e.symm;omega
   ·exact aU _ _ _ gY
 ·intro b hb;rcases aw.1 hb with hb|hb
  ·exact h.ge b hb
  ·have:b=wr.heap.size:=by simpa using hb
   omega
 ·intro g S;rw[hv]at S;have:g'=g:=by simpa[eu]using S
  subst this;refine⟨T.1,λY=> ?_⟩;rcases aw.1 Y with Y|Y
  ·exact T.2.1 Y
  ·exact T.2.2 (by simpa using Y)
 ·rw[bF];refine⟨h.nd,gY,λa G b hb=> ?_⟩;have:b=wr.heap.size:=by simpa using hb
  have:=Z a G;omega
 ·have b3:eE w w3:=⟨X.os.trans (b2.os.trans h.nT.os),X.tape.trans (b2.tape.trans h.nT.tape),X.output.trans (b2.output.trans h.nT.output),by have:=h.nT.size;omega,λi hi=>(U i eh (λe=>by have:=(h.own i e).1;omega)).trans (h.nT.block i hi)⟩
  exact b3.setCell (by show _<=w.heap.size+1;omega) _
theorem Gm.fb(h:Gm w wr v bs)(h1:0<bs.length)(X:bs.length<=3):∃g cap,FB wr (w.heap.size+1) {bm:=w.heap.size,g:=g,cap:=cap,bs:=bs} 0 (λ_=>ν) (λ_ _=>ν):=by
 rcases h.row.2 with⟨_,e⟩|⟨g,cap,e,_⟩
 ·omega
 ·have U:=h.own g (by rw[e];rfl);have hb:=h.oe;have Z:=h.row;rw[e]at hb Z;refine⟨g,cap,hb,Z,h.km,λi b T=>h.om b (bK T),X,⟨by show w.heap.size≠w.heap.size+1;omega,by show g≠w.heap.size+1;omega,by show w.heap.size≠g;omega,λb Y=> ?_⟩,h.nd⟩;have h4:=h.ge b Y;exact⟨eh,λV=>U.2 (by rw[<-show b=g from V];exact Y),by show b≠w.heap.size;omega⟩
theorem aik(p:Int)(w:dY)(Y:p<1 \/3<p):
 eW eX 66 #[ι κ p] w λe w'=>e=ρ (τ #[π ν,jm 1])/\w=w':=by
 have Z:Hid (jm 1=.iface 128 (ι κ 1)):=rfl;by_cases h1:p<1
 ·clear Y
  go_in
  go_wp2_with(fail);rw[Z.out]
  go_ret2
  exact⟨rfl,rfl⟩
 ·have h3:3<p:=eh;clear Y
  go_in
  go_wp2_with(fail);rw[Z.out]
  go_ret2
  exact⟨rfl,rfl⟩
theorem ab0(p:Nat)(w:dY)(hp:1<=p/\p<=3):
 eW eX 66 #[ι κ (p:Int)] w λe w'=>e=ρ (τ #[π (μ ⟨w.heap.size+1,0,ν⟩),η])/\∃v bs,Gm w w' v bs/\bs.length=p:=by
 obtain⟨i0,hi,ox,u,mO⟩:=aY U1;have h1:¬((p:Int)<1):=eh;have h3:¬(3<(p:Int)):=eh;obtain⟨y,U⟩:=gg ((w.alloc (.map #[] 0)).alloc (γ #[.map (μ w.heap.size),σ ν 0 0] 214));have H:Gm w y (σ ν 0 0) [] :=by
  rw[<-U];refine⟨?_,Row.nil _ 1,(SMap.made w).alloc _,λb hb=>by simp at hb,λb hb=>by simp at hb,λg h=>by simp[eu]at h,cY,(gW _ _).alloc gY _⟩;have:=aZ (w.alloc (.map #[] 0)) (γ #[.map (μ w.heap.size),σ ν 0 0] 214);simpa using this
 have A:Hid _:=U;have ZK:∀W:dY,(gj 211 ν).run eX W=.ok (.map (μ W.heap.size)) (W.alloc (.map #[] 0)):=λW=>abY W;have hzb:=U2;clear U
 go_in
 go_wp2_with(fail);rw[A.out]
 go_loopw [16] (λi wr=>∃(j:Nat) (v:dZ) (bs:List Nat),j<=p/\i=ι κ j/\bs.length=j/\Gm w wr v bs) (λi _=>p-(intOf i).toNat)
 case atStart=>exact⟨0,_,[],Nat.zero_le _,rfl,rfl,H⟩
 case round=>
  clear H;obtain⟨j,v,bs,hj,rfl,hl,Y⟩:=hrel;by_cases kB:j<p
  ·have nQ:(j:Int)<(p:Int):=eh;have c1:wr.cell? ⟨w.heap.size+1,1,ν⟩=μ v:=ax wr _ 1 _ _ (0,0) Y.oe;have lB:w.heap.size+1<wr.heap.size:=ag wr _ c1;have S:=Y.row;rw[hl]at S;have V:Hid _:=hl;have X:Hid _:=Y;clear Y hl;go_wp2_with(at_builtin;go_must(refine iG _ rfl (.tmp 22) (.tmp 24) 212 rfl 211 i0 (.map ν) 1 8 underlying212 hi ox u mO rfl eA v j _ rfl ((S.alloc _).alloc _) _ 1 1 [.map (μ wr.heap.size)] rfl rfl eA (yB _ _ _ _ gY) (Ys _) (by unfold maxLen;omega) eh ?_));intro M J Z G T E;have Q:Z.heap[w.heap.size+1]? =μ (γ #[.map (μ w.heap.size),v] 214 (0,0)):=by
    refine(T.block _ (by simp;omega) (λe=> ?_)).trans ((((gW wr (.map #[] 0)).alloc gY _).block _ lB).trans X.out.oe);have:=(X.out.own _ e.symm).1;omega
   have c3:Z.cell? ⟨w.heap.size+1,1,ν⟩=μ v:=ax Z _ 1 _ _ (0,0) Q;have f3:=bE Z (w.heap.size+1) 1 _ _ Q;have l3:w.heap.size+1<Z.heap.size:=ag Z _ c3;have HS:Hid (Gm w (Z.setCell ⟨w.heap.size+1,1,ν⟩ (σ (μ ⟨M,0,ν⟩) (j+1) J)) (σ (μ ⟨M,0,ν⟩) (j+1) J) (bs++ [wr.heap.size])):=by
    refine X.out.step T (by rw[V.out]) (by rw[V.out];exact G) ?_;rcases E with e|e
    ·exact .inl e
    ·right;simpa using e
   clear G T E Q S
   go_wp2
   go_roundw
   case rel=>exact⟨j+1,_,_,eh,by go_num,by simp[V.out],HS.out⟩
   case measure=>simp[intOf];omega
  ·have D:j=p:=eh;subst D;have X:Hid (∃v bs,Gm w wr v bs/\bs.length=j):=⟨v,bs,Y,hl⟩
   clear Y hl
   go_wp2
   go_ret2
   exact⟨rfl,X.out⟩
abbrev PS:=Int×List jE
structure K0(w:dY)(m:FM)(k:Int)(q:PS)(s:SV):Prop where
 own:s.own=k
 seq:s.seq=q.1
 n:s.n=q.2.length
 opt:jc w s.a s.n q.2
 nil:kI s.a s.cap
 ok:oy k q.1 q.2=0
 lt:∀j,eu (σ s.a s.n s.cap)=μ j->j<w.heap.size
 far:∀j,eu (σ s.a s.n s.cap)=μ j->j≠m.bm/\j∉m.bs/\¬m.no j
def Tie(w:dY)(m:FM)(f:Int->Option SV)(F:Int->Option PS):Prop:=∀k,sY k->match F k with
 |none=>f k=none
 |some q=>∃s,f k=some s/\K0 w m k q s
theorem K0.kept {q:PS} (h:K0 w m k q s)(Y:jC w w' m):K0 w' m k q s:=⟨h.own,h.seq,h.n,h.opt.TG (cap:=s.cap) Y (λj Z=>⟨(h.far j Z).1,(h.far j Z).2.1⟩),h.nil,h.ok,λj Z=>Nat.lt_of_lt_of_le (h.lt j Z) Y.size,h.far⟩
theorem Tie.kept {w w':dY} {m:FM} {f:Int->Option SV} {F:Int->Option PS} (h:Tie w m f F)(Z:jC w w' m):Tie w' m f F:=by
 intro k V;have:=h k V;cases e:F k with
 |none=>rw[e]at this;exact this
 |some q=>rw[e]at this;obtain⟨s,Y,X⟩:=this;exact⟨s,Y,X.kept Z⟩
theorem Tie.zE {F:Int->Option PS} (h:Tie w m f F)(Z:sY k)(e:F k=ν):f k=ν:=by have:=h k Z;rw[e]at this;exact this
theorem Tie.uP {F:Int->Option PS} (h:Tie w m f F)(Z:sY k) {q:PS} (e:F k=μ q):∃s,f k=μ s/\K0 w m k q s:=by have:=h k Z;rw[e]at this;exact this
def wk(F:Int->Option PS)(k:Int)(q:PS):Int->Option PS:=λx=>if x=k then μ q else F x
def yC(F:Int->Option PS)(k:Int):Int->Option PS:=λx=>if x=k then ν else F x
theorem Tie.put {F:Int->Option PS} (h:Tie w m f F) {q:PS} (hs:K0 w m k q s):Tie w m (tL f k s) (wk F k q):=by
 intro x Z;by_cases e:x=k
 ·subst e;simp only[wk,tL,if_true];exact⟨s,rfl,hs⟩
 ·have:=h x Z;simp only[wk,tL,if_neg e];exact this
theorem Tie.out {F:Int->Option PS} (h:Tie w m f F)(k:Int):Tie w m (del f k) (yC F k):=by
 intro x Z;by_cases e:x=k
 ·subst e;simp only[yC,del,if_true]
 ·have:=h x Z;simp only[yC,del,if_neg e];exact this
structure BR(w:dY)(B:Nat)(m:FM)(n:Nat)(K:Int->Option PS)(O:Nat->Int->Option PS):Prop where
 ex:∃kn ow,FB w B m n kn ow/\Tie w m kn K/\∀i,i<m.bs.length->Tie w m (ow i) (O i)
 Q5:∀j,m.no j->j<w.heap.size
theorem BR.Jc {K:Int->Option PS} {O:Nat->Int->Option PS} (h:BR w B m n K O)(hs:w.heap.size<=w'.heap.size):∀j,m.no j->j<w'.heap.size:=λj Z=>Nat.lt_of_lt_of_le (h.Q5 j Z) hs
def newF(K:Int->Option PS)(own seq:Int)(es:List jE):Int:=match K own with|none=>1|some q=>lS seq es q.1 q.2
theorem Em(B:Nat)(m:FM)(k:Nat)(kn:Int->Option SV)(ow:Nat->Int->Option SV)(K:Int->Option PS)(own seq:Int)(a:Option dX)(n cap:Nat)(es:List jE)(w:dY)(h:FB w B m k kn ow)(Y:Tie w m kn K)(Z:sY own)(T:jc w a n es)(U:n<=1000000):
 eW eX 217 #[π (μ ⟨B,0,ν⟩),.agg #[ι κ own,ι κ seq,σ a n cap]] w λe w'=>e=ρ (ι κ (newF K own seq es))/\eE w w':=by
 cases e:K own with
 |none=>
  have hv:newF K own seq es=1:=by rw[newF,e]
  rw[hv];exact MH B m k kn ow own seq a n cap w h Z (Y.zE Z e)
 |some q=>
  obtain⟨s,V,X⟩:=Y.uP Z e;have hv:newF K own seq es=lS seq es s.seq q.2:=by rw[newF,e,X.seq]
  rw[hv];exact MI B m k kn ow own seq a n cap es s q.2 w h Z V T U X.opt
def lr(K:Int->Option PS)(own seq:Int)(es:List jE):Int->Option PS:=if 0<newF K own seq es then wk K own (seq,es)else K
def oR(K:Int->Option PS)(O:Nat->Int->Option PS)(p:Nat)(own seq:Int)(es:List jE):Nat->Int->Option PS:=λi=>
 if 0<newF K own seq es then(if i=p then yC (wk (O p) own (seq,es)) own else wk (O i) own (seq,es))
 else if newF K own seq es<0 then(if i=p then(match K own with|none=>O p|some q=>wk (O p) own q)else O i)
 else(if i=p then yC (O p) own else O i)
theorem En(K:Int->Option PS)(own seq:Int)(es:List jE)(h:∀q:PS,lS seq es q.1 q.2= -1 \/lS seq es q.1 q.2=0 \/lS seq es q.1 q.2=1):newF K own seq es= -1 \/newF K own seq es=0 \/newF K own seq es=1:=by
 unfold newF;cases K own with
 |none=>exact .inr (.inr rfl)
 |some q=>exact h q
theorem Q6(B:Nat)(m:FM)(k:Nat)(K:Int->Option PS)(O:Nat->Int->Option PS)(p:Nat)(own seq:Int)(a:Option dX)(n cap:Nat)(es:List jE)(w:dY)(h:BR w B m k K O)(U:sY own)(J:p<m.bs.length)(Q:jc w a n es)(kh:kI a cap)(D:k<=1000000)(hf:oy own seq es=0)
 (u:∀q:PS,lS seq es q.1 q.2= -1 \/lS seq es q.1 q.2=0 \/lS seq es q.1 q.2=1):
 eW eX 190 #[π (μ ⟨B,0,ν⟩),ι κ (p:Int),.agg #[ι κ own,ι κ seq,σ a n cap]] w λe w'=>e=ρ (τ #[ι κ (newF K own seq es),η])/\BR w' B m (k+1+m.bs.length) (lr K own seq es) (oR K O p own seq es)/\jC w w' m:=by
 obtain⟨kn,ow,hF,S,V⟩:=h.ex;have hn:n<=6:=by have:=(jt hf).2.2.1;rw[Q.1]at this;exact this
 have H:n<=maxLen:=by unfold maxLen;omega
 have X:∀W,eE w W->eW eX 217 #[π (μ ⟨B,0,ν⟩),.agg #[ι κ own,ι κ seq,σ a n cap]] W λe w'=>e=ρ (ι κ (newF K own seq es))/\eE W w':=λW hb=>
  Em B m k kn ow K own seq a n cap es W (hF.below hb) (S.kept (jC.iT m hb)) U (Q.below hb) eh
 rcases En K own seq es u with e|e|e
 ·rw[e]at X⊢;cases M:K own with
  |none=>rw[newF,M]at e;cases e
  |some q=>
   obtain⟨s,y,h2⟩:=S.uP U M;refine(Uy B m k kn ow p own seq a n cap es w hF U J Q H hf s y D X).mono ?_;rintro A w1 ⟨rfl,G,Z⟩;refine⟨rfl,⟨⟨_,_,G.mono eh,?_,λi hi=> ?_⟩,h.Jc Z.size⟩,Z⟩
   ·simp only[lr,e];exact S.kept Z
   ·simp only[oR,e,M];by_cases Y:i=p
    ·subst Y;simp;exact((V i hi).kept Z).put (h2.kept Z)
    ·simp[Y];exact(V i hi).kept Z
 ·rw[e]at X⊢;refine(take_zero B m k kn ow p own seq a n cap es w hF U J Q H hf X).mono ?_;rintro A w1 ⟨rfl,G,Z⟩;refine⟨rfl,⟨⟨_,_,G.mono eh,?_,λi hi=> ?_⟩,h.Jc Z.size⟩,Z⟩
  ·simp only[lr,e];exact S.kept Z
  ·simp only[oR,e];by_cases Y:i=p
   ·subst Y;simp;exact((V i hi).kept Z).out own
   ·simp[Y];exact(V i hi).kept Z
 ·rw[e]at X⊢;refine(Uz B m k kn ow p own seq a n cap es w hF U J Q H kh D hf X).mono ?_;rintro A w1 ⟨rfl,s,T⟩;have hs:K0 w1 m own (seq,es) s:=⟨T.so,T.ss,T.sn,T.so2,T.nil,hf,λj E=>(T.new j E).2,λj E=>by
   have y:=(T.new j E).1;exact⟨λe=>by have:=hF.mlt m.bm (.inl rfl);omega,λe=>by have:=hF.mlt j (.inr e);omega,λe=>by have:=h.Q5 j e;omega⟩⟩
  refine⟨rfl,⟨⟨_,_,T.fb,?_,λi hi=> ?_⟩,h.Jc T.kept.size⟩,T.kept⟩
  ·simp only[lr,e];exact(S.kept T.kept).put hs
  ·simp only[oR,e];by_cases Y:i=p
   ·subst Y;simp;exact(((V i hi).kept T.kept).put hs).out own
   ·simp[Y,hi];exact((V i hi).kept T.kept).put hs
def qw(F G:Int->Option PS):Int->Option PS:=λk=>if(G k).isSome=true then G k else F k
theorem Tie.over {w:dY} {m:FM} {f g:Int->Option SV} {F G:Int->Option PS} (h:Tie w m f F)(S:Tie w m g G):Tie w m (Go.Proofs.YtieklnlbljejdaaGreatDoor.over f g) (qw F G):=by
 intro k V;have T:=h k V;have Z:=S k V;cases e:G k with
 |none=>
  rw[e]at Z;have Y:qw F G k=F k:=by simp[qw,e]
  have X:Go.Proofs.YtieklnlbljejdaaGreatDoor.over f g k=f k:=by simp[Go.Proofs.YtieklnlbljejdaaGreatDoor.over,Z]
  rw[Y,X];exact T
 |some q=>
  rw[e]at Z;obtain⟨s,U,Q⟩:=Z;have Y:qw F G k=μ q:=by simp[qw,e]
  have X:Go.Proofs.YtieklnlbljejdaaGreatDoor.over f g k=μ s:=by simp[Go.Proofs.YtieklnlbljejdaaGreatDoor.over,U]
  rw[Y,X];exact⟨s,rfl,Q⟩
theorem Q7(B:Nat)(m:FM)(k:Nat)(K:Int->Option PS)(O:Nat->Int->Option PS)(p:Nat)(w:dY)(h:BR w B m k K O)(U:p<m.bs.length):
 eW eX 124 #[π (μ ⟨B,0,ν⟩),ι κ (p:Int)] w λe w'=>e=ρ (τ #[])/\BR w' B m k K (λi=>if i=p then λ_=>ν else O i)/\jC w w' m:=by
 obtain⟨kn,ow,hF,X,V⟩:=h.ex;refine(UB B m k kn ow p w hF U).mono ?_;rintro e w1 ⟨rfl,T,Z⟩;refine⟨rfl,⟨⟨_,_,T,X.kept Z,λi hi=> ?_⟩,h.Jc Z.size⟩,Z⟩;by_cases Y:i=p
 ·simp only[if_pos Y];exact λ_ _=>rfl
 ·simp only[if_neg Y];exact(V i hi).kept Z
theorem Q8(B:Nat)(m:FM)(k:Nat)(K:Int->Option PS)(O:Nat->Int->Option PS)(p:Nat)(w:dY)(h:BR w B m k K O)(U:p<m.bs.length)(S:k<=1000000):
 eW eX 126 #[π (μ ⟨B,0,ν⟩),ι κ (p:Int)] w λe w'=>e=ρ η/\BR w' B m (k+k) K (λi=>if i=p then qw (O p) K else O i)/\jC w w' m:=by
 obtain⟨kn,ow,hF,Y,V⟩:=h.ex;refine(UG B m k kn ow p w hF U S).mono ?_;rintro e w1 ⟨rfl,T,Z⟩;refine⟨rfl,⟨⟨_,_,T,Y.kept Z,λi hi=> ?_⟩,h.Jc Z.size⟩,Z⟩;by_cases X:i=p
 ·subst X;simp only[if_true];exact((V i hi).kept Z).over (Y.kept Z)
 ·simp only[if_neg X];exact(V i hi).kept Z
theorem K3(B:Nat)(m:FM)(k:Nat)(K:Int->Option PS)(O:Nat->Int->Option PS)(own seq:Int)(a:Option dX)(n cap:Nat)(es:List jE)(w:dY)(h:BR w B m k K O)(S:sY own)(U:jc w a n es)(X:kI a cap)(Q:k<=1000000)(hf:oy own seq es=0):
 eW eX 67 #[π (μ ⟨B,0,ν⟩),.agg #[ι κ own,ι κ seq,σ a n cap]] w λe w'=>e=ρ η/\BR w' B m (k+1+m.bs.length) (wk K own (seq,es)) (λi=>wk (O i) own (seq,es))/\jC w w' m:=by
 obtain⟨kn,ow,hF,Y,V⟩:=h.ex;refine(abK B m k kn ow own seq a n cap es w hF S U X Q hf).mono ?_;rintro e w1 ⟨rfl,s,T⟩;have hs:K0 w1 m own (seq,es) s:=⟨T.so,T.ss,T.sn,T.so2,T.nil,hf,λj Z=>(T.new j Z).2,λj Z=>by
  have h1:=(T.new j Z).1;exact⟨λe=>by have:=hF.mlt m.bm (.inl rfl);omega,λe=>by have:=hF.mlt j (.inr e);omega,λe=>by have:=h.Q5 j e;omega⟩⟩
 refine⟨rfl,⟨⟨_,_,T.fb,(Y.kept T.kept).put hs,λi hi=> ?_⟩,h.Jc T.kept.size⟩,T.kept⟩;simp only[if_pos hi];exact((V i hi).kept T.kept).put hs
theorem NB(B:Nat)(m:FM)(k:Nat)(K:Int->Option PS)(O:Nat->Int->Option PS)(p:Nat)(own seq:Int)(a:Option dX)(n cap:Nat)(es:List jE)(w:dY)(h:BR w B m k K O)(Q:sY own)(S:p<m.bs.length)(X:jc w a n es)(hf:oy own seq es=0)
 (G:∀q:PS,lS seq es q.1 q.2= -1 \/lS seq es q.1 q.2=0 \/lS seq es q.1 q.2=1):
 eW eX 191 #[π (μ ⟨B,0,ν⟩),ι κ (p:Int),.agg #[ι κ own,ι κ seq,σ a n cap]] w λe w'=>e=ρ η/\BR w' B m k K (λi=>if i=p/\0<=newF K own seq es then yC (O p) own else O i)/\jC w w' m:=by
 obtain⟨kn,ow,hF,U,T⟩:=h.ex;have hn:n<=6:=by have:=(jt hf).2.2.1;rw[X.1]at this;exact this
 have M:n<=maxLen:=by unfold maxLen;omega
 have Y:∀W,eE w W->eW eX 217 #[π (μ ⟨B,0,ν⟩),.agg #[ι κ own,ι κ seq,σ a n cap]] W λe w'=>e=ρ (ι κ (newF K own seq es))/\eE W w':=λW hb=>
  Em B m k kn ow K own seq a n cap es W (hF.below hb) (U.kept (jC.iT m hb)) Q (X.below hb) eh
 have key:∀w1,FB w1 B m k kn (λi=>if i=p then del (ow p) own else ow i)->jC w w1 m->0<=newF K own seq es->BR w1 B m k K (λi=>if i=p/\0<=newF K own seq es then yC (O p) own else O i):=by
  intro w1 V Z E;refine⟨⟨_,_,V,U.kept Z,λi hi=> ?_⟩,h.Jc Z.size⟩;by_cases J:i=p
  ·subst J;simp only[if_true,E,and_self];exact((T i hi).kept Z).out own
  ·simp only[J,if_false,false_and];exact(T i hi).kept Z
 rcases En K own seq es G with e|e|e
 ·rw[e]at Y;refine(QO B m k kn ow p own seq a n cap es w hF S X M hf Y).mono ?_;rintro H w1 ⟨rfl,b1⟩;have Z:=jC.iT m b1;refine⟨rfl,⟨⟨_,_,hF.below b1,U.kept Z,λi hi=> ?_⟩,h.Jc Z.size⟩,Z⟩;have:¬(i=p/\0<=newF K own seq es):=by rw[e];omega
  simp only[if_neg this];exact(T i hi).kept Z
 ·rw[e]at Y;refine(Np B m k kn ow p own seq a n cap es w hF Q S X M hf Y).mono ?_;rintro H w1 ⟨rfl,V,Z⟩;exact⟨rfl,key w1 V Z eh,Z⟩
 ·rw[e]at Y;refine(QN B m k kn ow p own seq a n cap es w hF Q S X M hf Y).mono ?_;rintro H w1 ⟨rfl,V,Z⟩;exact⟨rfl,key w1 V Z eh,Z⟩
theorem U3(p:Nat)(w:dY)(U:1<=p/\p<=3):
 eW eX 66 #[ι κ (p:Int)] w λe w'=>e=ρ (τ #[π (μ ⟨w.heap.size+1,0,ν⟩),η])/\∃m:FM,m.bs.length=p/\BR w' (w.heap.size+1) m 0 (λ_=>ν) (λ_ _=>ν)/\eE w w'/\w.heap.size<=m.bm/\w.heap.size<=m.g/\(∀b∈m.bs,w.heap.size<=b):=by
 refine(ab0 p w U).mono ?_;rintro e w1 ⟨rfl,v,bs,Z,hl⟩;rcases Z.row.2 with⟨_,e⟩|⟨g,cap,e,_⟩
 ·omega
 ·obtain⟨Y,cap2,hF⟩:=Z.fb eh eh;refine⟨rfl,_,hl,⟨⟨_,_,hF,λ_ _=>rfl,λ_ _ _ _=>rfl⟩,λ_ h=>h.elim⟩,Z.nT,Nat.le_refl _,?_,λb hb=> ?_⟩
  ·have X:=hF.oe;rw[Z.oe]at X;have V:v=FM.sl {bm:=w.heap.size,g:=Y,cap:=cap2,bs:=bs}:=by simpa using X
   have:=Z.own Y (by rw[V];rfl);show w.heap.size<=Y;omega
  ·have:=Z.ge b hb;omega
def mS(F:Int->Option PS):Int->List jE:=λk=>((F k).map (·.2)).getD []
theorem Tie.fine {F:Int->Option PS} (h:Tie w m f F):Fine w f (mS F):=by
 intro k s V hs;cases e:F k with
 |none=>rw[h.zE V e]at hs;cases hs
 |some q=>
  obtain⟨t,X,Z⟩:=h.uP V e;rw[hs]at X;obtain rfl:=Option.some.inj X;have Y:=jt Z.ok;have U:mS F k=q.2:=by simp[mS,e]
  rw[U];exact⟨Y.1,Z.own,Z.opt,Z.nil,by have:=Y.2.2.1;have:=Z.n;omega⟩
structure vp(F:Int->Option PS)(n:Nat)(S:Nat->SV)(E:Nat->List jE):Prop where
 at_:∀j,j<n->sY (S j).own/\F (S j).own=μ ((S j).seq,E j)
 ok:∀j,j<n->oy (S j).own (S j).seq (E j)=0
 all:∀k,sY k->(F k).isSome=true->∃j,j<n/\(S j).own=k
 Tc:∀i j,i<j->j<n->(S i).own<(S j).own
theorem aam(ts:List SV)(j:Nat)(h:j<ts.length):ts[j]? =μ (ts.getD j SV.zero):=by
 rw[aK,az h];rfl
theorem Eh.lists {F:Int->Option PS} {ts:List SV} (V:Eh w w' f (mS F) v ts)(M:Tie w m f F):
 ∃a cap,v=σ a ts.length cap/\vP w' a ts.length (λj=>ts.getD j SV.zero) (λj=>mS F (ts.getD j SV.zero).own)/\vp F ts.length (λj=>ts.getD j SV.zero) (λj=>mS F (ts.getD j SV.zero).own)/\ts.length<=6/\(∀j,eu v=μ j->w.heap.size<j):=by
 have Kz:∀j,j<ts.length->abM w w' f (mS F) v (ts.getD j SV.zero):=λj Z=>V.el _ (bK (aam ts j Z));have hat:∀j,j<ts.length->∃q,F (ts.getD j SV.zero).own=μ q/\q.1=(ts.getD j SV.zero).seq/\q.2=mS F (ts.getD j SV.zero).own/\oy (ts.getD j SV.zero).own q.1 q.2=0:=by
  intro j Z;have h:=Kz j Z;obtain⟨t,U,hs⟩:=h.at_;cases e:F (ts.getD j SV.zero).own with
  |none=>rw[M.zE h.inr e]at U;cases U
  |some q=>
   obtain⟨t2,X,Y⟩:=M.uP h.inr e;rw[U]at X;obtain rfl:=Option.some.inj X;exact⟨q,rfl,by rw[hs,Y.seq],by unfold mS;rw[e];rfl,Y.ok⟩
 have S:vp F ts.length (λj=>ts.getD j SV.zero) (λj=>mS F (ts.getD j SV.zero).own):=by
  refine⟨λj Z=> ?_,λj Z=> ?_,λk E hs=> ?_,λi j G Z=> ?_⟩
  ·obtain⟨q,T,X,Y,D⟩:=hat j Z;refine⟨(Kz j Z).inr,?_⟩;rw[T,<-X,<-Y]
  ·obtain⟨q,T,X,Y,D⟩:=hat j Z;rw[<-X,<-Y];exact D
  ·cases e:F k with
   |none=>rw[e]at hs;cases hs
   |some q=>
    obtain⟨t,U,_⟩:=M.uP E e;obtain⟨s,hm,Q⟩:=V.all k E (by rw[U];rfl);obtain⟨j,Z,H⟩:=di hm;refine⟨j,Z,?_⟩;have:ts.getD j SV.zero=s:=by rw[aK,az Z];exact H
    show(ts.getD j SV.zero).own=k;rw[this];exact Q
  ·have u:=V.Tc;have hi:i<ts.length:=eh;have:=dC.1 u i j hi Z G;have J:ts.getD i SV.zero=ts[i] :=by rw[aK,az hi];rfl
   have e2:ts.getD j SV.zero=ts[j] :=by rw[aK,az Z];rfl
   show(ts.getD i SV.zero).own<(ts.getD j SV.zero).own;rw[J,e2];exact this
 have A:ts.length<=6:=by
  have:=uN (ts.map SV.own) [1,2,3,4,5,6] (by rw[dy];exact V.Tc.imp (λh=>eh)) (λx hx=>by
   obtain⟨s,hs,rfl⟩:=bJ.1 hx;obtain⟨j,Z,rfl⟩:=di hs;have:=jt (S.ok j Z);have J:ts.getD j SV.zero=ts[j] :=by rw[aK,az Z];rfl
   have T:=this.1;rw[J]at T;simp;omega)
  simpa using this
 have hO:∀j,j<ts.length->jc w' (ts.getD j SV.zero).a (ts.getD j SV.zero).n (mS F (ts.getD j SV.zero).own)/\kI (ts.getD j SV.zero).a (ts.getD j SV.zero).cap/\(ts.getD j SV.zero).n<=maxLen:=by
  intro j Z;have h:=Kz j Z;refine⟨h.opt,h.nil,?_⟩;have:=(jt (S.ok j Z)).2.2.1;rw[h.n];unfold maxLen;omega
 rcases V.shape with⟨rfl,rfl⟩|⟨g,cap,rfl,y,hg⟩
 ·exact⟨ν,0,rfl,⟨.inl rfl,λj Z=>by simp at Z⟩,S,A,λj Z=>by simp[eu]at Z⟩
 ·refine⟨_,_,rfl,⟨.inr ⟨g,0,rfl,λj Z=> ?_⟩,hO⟩,S,A,λj Z=> ?_⟩
  ·obtain⟨c1,c2,c3⟩:=y.cell j _ (aam ts j Z);rw[show 0+j*3=j*3 by omega];exact⟨c1,c2,c3⟩
  ·have:g=j:=by simpa[eu]using Z
   omega
theorem BR.below {w w':dY} {B:Nat} {m:FM} {k:Nat} {K:Int->Option PS} {O:Nat->Int->Option PS} (h:BR w B m k K O)(hb:eE w w'):BR w' B m k K O:=by
 obtain⟨kn,ow,Y,X,Z⟩:=h.ex;exact⟨⟨kn,ow,Y.below hb,X.kept (jC.iT m hb),λi hi=>(Z i hi).kept (jC.iT m hb)⟩,h.Jc hb.size⟩
def akl(W:dY)(a:Option dX)(n cap:Nat)(S:Nat->SV):Prop:=(∀j,eu (σ a n cap)=μ j->W.heap.size<j)/\∀i,i<n->∀j,eu (σ (S i).a (S i).n (S i).cap)=μ j->W.heap.size<j
theorem K5(B:Nat)(m:FM)(k:Nat)(K:Int->Option PS)(O:Nat->Int->Option PS)(w:dY)(h:BR w B m k K O):
 eW eX 110 #[π (μ ⟨B,0,ν⟩)] w λe w'=>∃a n cap S E,e=ρ (σ a n cap)/\vP w' a n S E/\vp K n S E/\n<=6/\akl w a n cap S/\eE w w':=by
 obtain⟨kn,ow,hF,Y,hO⟩:=h.ex;refine(NA B m k kn ow (mS K) w hF Y.fine).mono ?_;rintro e w1 ⟨v,ts,rfl,Z⟩;obtain⟨a,cap,rfl,V,U,X,Q⟩:=Z.lists Y;refine⟨a,ts.length,cap,_,_,rfl,V,U,X,⟨Q,λi hi j T=> ?_⟩,Z.nT⟩;have M:ts.getD i SV.zero∈ts:=by
  have:ts.getD i SV.zero=ts[i] :=by simp[List.getD,hi]
  rw[this];exact aG hi
 exact((Z.el _ M).new j T).1
def xT(K:Int->Option PS)(i:Int):Int:=match K i with|none=>0|some _=>i
def qy(K:Int->Option PS)(i:Int):Int:=match K i with|none=>0|some q=>q.1
theorem K6(B:Nat)(m:FM)(k:Nat)(K:Int->Option PS)(O:Nat->Int->Option PS)(i:Int)(w:dY)(h:BR w B m k K O)(X:sY i):
 eW eX 177 #[π (μ ⟨B,0,ν⟩),ι κ i] w λe w'=>∃a cap,e=ρ (τ #[.agg #[ι κ (xT K i),ι κ (qy K i),σ a (mS K i).length cap],.bool (K i).isSome])/\jc w' a (mS K i).length (mS K i)/\kI a cap/\(mS K i).length<=6/\eE w w':=by
 obtain⟨kn,ow,hF,M,hO⟩:=h.ex;cases e:K i with
 |none=>
  have J:=M.zE X e;refine(Pb B m k kn ow i SV.zero false [] w hF X (by rw[J];rfl) (by rw[J];rfl) ⟨rfl,.inl rfl⟩ eA (λ_=>rfl)).mono ?_;rintro Y w1 ⟨a,cap,rfl,U,S,V⟩;have Y:mS K i=[] :=by simp[mS,e]
  have Q:xT K i=0:=by simp[xT,e]
  have T:qy K i=0:=by simp[qy,e]
  rw[Y,Q,T];exact⟨a,cap,rfl,U,S,gY,V⟩
 |some q=>
  obtain⟨s,hs,Z⟩:=M.uP X e;have H:=(jt Z.ok).2.2.1;refine(Pb B m k kn ow i s true q.2 w hF X (by rw[hs];rfl) (by rw[hs];rfl) Z.opt (by rw[Z.n];omega) Z.nil).mono ?_;rintro Y w1 ⟨a,cap,rfl,U,S,V⟩;have Y:mS K i=q.2:=by simp[mS,e]
  have Q:xT K i=s.own:=by simp[xT,e,Z.own]
  have T:qy K i=s.seq:=by simp[qy,e,Z.seq]
  rw[Y,Q,T];exact⟨a,cap,rfl,U,S,H,V⟩
theorem SMap.obj(h:SMap w b n f):∃es cl,w.heap[b]? =μ (.map es cl):=by
 obtain⟨D,⟨es,cl,Z,_⟩,_⟩:=h.own;exact⟨es,cl,Z⟩
theorem xU {g:Nat} {c:Array dZ} {t:TypeId} {fr:Nat×Nat} (hc:w.heap[g]? =μ (γ c t fr))(Z:∃es cl,w.heap[b]? =μ (.map es cl)):g≠b:=by
 obtain⟨es,cl,Z⟩:=Z;rintro rfl;rw[hc]at Z;cases Z
theorem qh {p:dX} (hc:w.cell? p=μ v)(Z:∃es cl,w.heap[b]? =μ (.map es cl)):p.block≠b:=by
 obtain⟨es,cl,Z⟩:=Z;rintro rfl;unfold World.cell? at hc;rw[Z]at hc;cases hc
theorem BR.maps {k:Nat} {K:Int->Option PS} {O:Nat->Int->Option PS} (h:BR w B m k K O):∀b,(b=m.bm \/b∈m.bs)->∃es cl,w.heap[b]? =μ (.map es cl):=by
 obtain⟨kn,ow,Z,_,_⟩:=h.ex;intro b hb;rcases hb with rfl|hb
 ·exact Z.km.obj
 ·obtain⟨i,hi,rfl⟩:=di hb;exact(Z.om i _ (az hi)).obj
theorem BR.mlt {k:Nat} {K:Int->Option PS} {O:Nat->Int->Option PS} (h:BR w B m k K O):∀b,(b=m.bm \/b∈m.bs)->b<w.heap.size:=by
 intro b hb;obtain⟨es,cl,Z⟩:=h.maps b hb;exact(ay.1 Z).1
theorem jC.cell {w w':dY} {B:Nat} {m:FM} {k:Nat} {K:Int->Option PS} {O:Nat->Int->Option PS} (Z:jC w w' m)(h:BR w B m k K O) {p:dX} {v:dZ} (hc:w.cell? p=μ v):w'.cell? p=μ v:=by
 rw[aj (w:=w) (Z.block p.block (ag w _ hc) (qh hc (h.maps _ (.inl rfl))) (λe=>qh hc (h.maps _ (.inr e)) rfl))];exact hc
theorem jc.two {k:Nat} {K:Int->Option PS} {O:Nat->Int->Option PS} {a:Option dX} {es:List jE} (h:jc w a n es)(Y:jC w w' m)(hb:BR w B m k K O):jc w' a n es:=by
 refine⟨h.1,?_⟩;rcases h.2 with Z|⟨b,off,rfl,Z⟩
 ·exact .inl Z
 ·exact .inr ⟨b,off,rfl,λj X=>⟨Y.cell hb (Z j X).1,Y.cell hb (Z j X).2⟩⟩
open Go.ChangeMaps Go.MapKept
def zOf:dZ->Int
 | .int _ z=>z
 |_=>0
theorem SMap.afw(h:SMap w b n f)(hf:∀k,sY k->(f k).isSome=true->1<=k/\k<=6):SMap w b 6 f:=by
 obtain⟨D,⟨es,clock,hb,F,hs,S⟩,hat⟩:=h.own;refine⟨⟨D,⟨es,clock,hb,F,?_,S⟩,hat⟩⟩;have V:∀x∈es.toList,∃z:Int,x.key=.int .i64 z/\1<=z/\z<=6:=by
  intro x hx;obtain⟨y,hy⟩:=F.reads x hx;have H:=WideElems.rd_key hy;obtain⟨z,U,hl,Y⟩:=cB underlying3 H;have M:=AX Y;refine⟨z,U,hf z M ?_⟩;cases e:f z with
  |some _=>rfl
  |none=>
   have Q:=hat z M;rw[e]at Q;have X:=dJ Q;rw[S,Maps.has_eq]at X;have G:y∈(es.toList.map (WideElems.rg eX 3 tq)).foldr DataW.insert [] :=(Go.WideShapes.sorted_perm _).mem_iff.2 (bJ.2 ⟨x,hx,WideElems.rg_of hy⟩);have:=List.any_eq_false.1 X y G;rw[hl]at this;simp[rm]at this
 have T:=((stamped_iff es clock).1 F.stamped).2.2;have hlen:=uN (es.toList.map (λx=>zOf x.key)) [1,2,3,4,5,6] (by
  rw[dy];refine T.imp_of_mem ?_;intro x y hx hy J e;obtain⟨a,Z,_⟩:=V x hx;obtain⟨c,hc,_⟩:=V y hy;rw[Z,hc]at e;simp only[zOf]at e;exact J (by rw[Z,hc,e])) (λz U=>by
  obtain⟨x,hx,rfl⟩:=bJ.1 U;obtain⟨a,Z,X,h2⟩:=V x hx;rw[Z];simp only[zOf];simp;omega)
 simpa using hlen
theorem Tie.range {F:Int->Option PS} (h:Tie w m f F):∀k,sY k->(f k).isSome=true->1<=k/\k<=6:=by
 intro k Z hs;cases e:F k with
 |none=>rw[h.zE Z e]at hs;cases hs
 |some q=>
  obtain⟨s,_,Y⟩:=h.uP Z e;exact(jt Y.ok).1
theorem BR.six {K:Int->Option PS} {O:Nat->Int->Option PS} (h:BR w B m n K O):BR w B m 6 K O:=by
 obtain⟨kn,ow,hF,Z,Y⟩:=h.ex;exact⟨⟨kn,ow,⟨hF.oe,hF.row,hF.km.afw Z.range,λi b e=>(hF.om i b e).afw (Y i (aL.1 e).1).range,hF.few,hF.nB,hF.nd⟩,Z,Y⟩,h.Q5⟩
theorem BR.avoid(h:BR w B m n (λ_=>ν) (λ_ _=>ν))(no:Nat->Prop)(V:∀j,no j->j<w.heap.size):BR w B {m with no:=no} n (λ_=>ν) (λ_ _=>ν):=by
 obtain⟨kn,ow,hF,X,Y⟩:=h.ex;exact⟨⟨kn,ow,⟨hF.oe,hF.row,hF.km,hF.om,hF.few,hF.nB,hF.nd⟩,λk Z=>X k Z,λi hi k Z=>Y i hi k Z⟩,V⟩
def Still(a b:dY):Prop:=∀(j:Nat) (C:Array dZ) (t:TypeId) (fr:Nat×Nat),a.heap[j]? =μ (Obj.cells C t fr)->b.heap[j]? =a.heap[j]?
namespace Rt
variable {B g o:Nat} {v:Value} {w w' w1:World}
structure lD where
 who:Int
 both:Bool
 left:Int
def nobody:lD:=⟨0,false,0⟩
structure jw where
 m:Int
 L:LS
 rd:kC
 pe:lD
 out:List UInt8
abbrev za:=Int×Int×List UInt8
structure iM where
 id:Int
 n:Nat
 P:Nat->jw
 K:Int->Option PS
 O:Nat->Int->Option PS
 j8:List za
 drop:Int
def la(P:Nat->jw)(i:Nat)(p:jw):Nat->jw:=λx=>if x=i then p else P x
def iM.iU(r:iM)(i:Nat)(p:jw):iM:={r with P:=la r.P i p}
def jw.put(p:jw)(c:UInt8)(s:List UInt8):jw:=
 if c≠76/\p.L.st≠9 then p else if s.length+1<=60 then {p with out:=p.out++Plain.lL (c::s)}else p
def jw.say(p:jw):List kM->jw
 |[] =>p
 |q::r=>(if jS q.1 q.2.1 q.2.2=0 then p.put 76 (mD q.1 q.2.1 q.2.2)else p).say r
def jw.iL(p:jw)(up:Bool):jw×Nat:=
 let e:=kY p.L (if up then 0 else 1)
 if e.2.2≠0 then(p,e.2.2)else(({p with L:=e.1,rd:=([],false,false)}:jw).say e.2.1,0)
def jd(L:LS):LS×List kM:=
 if(kj L).st=3 then((kY (kY (kj L) 1).1 0).1,lM L++(kY (kj L) 1).2.1++(kY (kY (kj L) 1).1 0).2.1)else(kj L,lM L)
def jw.tick(p:jw):jw:=({p with L:=(jd p.L).1}:jw).say (jd p.L).2
def jw.packet(p:jw)(s:List UInt8):jw:=
 let q:=iY s
 if q.2.2.2=0 then({p with L:=(jK p.L (q.1,q.2.1,q.2.2.1)).1}:jw).say (jK p.L (q.1,q.2.1,q.2.2.1)).2.1 else p
def jP(P:Nat->jw)(n:Int):Nat->Option Nat
 |0=>none
 |k+1=>if(P k).pe.both=true/\(P k).pe.who=n/\(match jP P n k with|none=>true|some b=>decide ((P k).m<(P b).m))=true then some k else jP P n k
def jx(r:iM):List jE:=(List.range 6).filterMap λ(j:Nat)=>(jP r.P ((j:Int)+1) r.n).map λb=>((j:Int)+1,(r.P b).m)
def A1(K:Int->Option PS)(i:Int):Int:=match K i with|none=>0|some q=>q.1
def CS(K:Int->Option PS)(i:Int):List jE:=match K i with|none=>[] |some q=>q.2
def iM.Eo(r:iM)(seq:Int)(es:List jE):iM:={r with K:=wk r.K r.id (seq,es),O:=λi=>wk (r.O i) r.id (seq,es)}
def iM.behind(r:iM)(seq:Int):iM:=if seq<1000000 then r.Eo (seq+1) (jx r)else r
def iM.change(r:iM):iM:=if CS r.K r.id=jx r then r else r.behind (A1 r.K r.id)
def iM.meet(r:iM)(i:Nat)(q:lD):iM:=
 let r1:=r.iU i {r.P i with pe:=q}
 if q.who=(r.P i).pe.who/\q.both=(r.P i).pe.both then r1 else
  let r2:=({r1 with O:=λx=>if x=i then λ_=>ν else r1.O x}:iM).change
  if q.both=true then {r2 with O:=λx=>if x=i then qw (r2.O i) r2.K else r2.O x}else r2
def iM.iL(r:iM)(i:Nat)(up:Bool):iM×Nat:=
 let e:=(r.P i).iL up
 if e.2≠0 then(r,e.2)else((r.iU i e.1).meet i nobody,0)
def xV(K:Int->Option PS):kV:=λx y=>match K x with|none=>0|some q=>((q.2.find? λe=>e.1==(y:Int)).map (·.2)).getD 0
def mc(r:iM):List HP:=qb (kK (xV r.K)) r.id.toNat
def iM.send(r:iM)(t:za):iM:=
 if t.1=r.id then {r with j8:=r.j8++ [t] }else
  match (if 1<=t.2.1 then(AL (mc r) t.1).bind λh=>jP r.P h.rG r.n else ν)with
  |none=>{r with drop:=r.drop+1}
  |some i=>r.iU i ((r.P i).put 77 (jY t.1::jY (t.2.1-1)::t.2.2))
def jg(me:Int)(f s:Int):lD:=if f=me then nobody else⟨f,decide (s=me),4⟩
def iI(p:lD):lD:=if p.left<=1 then nobody else {p with left:=p.left-1}
def iM.take(r:iM)(i:Nat)(c:UInt8)(s:List UInt8):iM:=
 let r1:=if c=76 then r.iU i ((r.P i).packet s)else r
 if(r1.P i).L.st≠9 then r1.meet i nobody
 else if c=72 then(if(kG s).2.2=0 then r1.meet i (jg r1.id (kG s).1 (kG s).2.1)else r1)
 else if c=83 then
  (let q:=St.il s
   if q.2.2.2≠0 \/(r1.P i).pe.both=false then r1
   else if q.1=r1.id/\0<newF r1.K q.1 q.2.1 q.2.2.1 then r1.behind q.2.1
   else
    let r2:iM:={r1 with K:=lr r1.K q.1 q.2.1 q.2.2.1,O:=oR r1.K r1.O i q.1 q.2.1 q.2.2.1}
    if 0<=newF r1.K q.1 q.2.1 q.2.2.1 then r2.iU i ((r2.P i).put 65 (rb q.1 q.2.1 q.2.2.1))else r2)
 else if c=65 then
  (let q:=St.il s
   if q.2.2.2=0 then {r1 with O:=λx=>if x=i/\0<=newF r1.K q.1 q.2.1 q.2.2.1 then yC (r1.O i) q.1 else r1.O x}else r1)
 else if c=77 then(if 2<=s.length/\s.length<=22 then r1.send (((s.getD 0 0).toNat:Int),((s.getD 1 0).toNat:Int),s.drop 2)else r1)
 else r1
def iM.takes(r:iM)(i:Nat):List (List UInt8)->iM
 |[] =>r
 |t::l=>(match t with|[] =>r|c::s=>r.take i c s).takes i l
def iM.recv(r:iM)(i:Nat)(l:List UInt8):iM:=
 let a:=kx (r.P i).rd l
 (r.iU i {r.P i with rd:=a.2.2}).takes i a.1
def lE(F:Int->Option PS):List (Int×PS):=(List.range 6).filterMap λ(j:Nat)=>(F ((j:Int)+1)).map λq=>((j:Int)+1,q)
def jw.kH(p:jw):List (Int×PS)->jw
 |[] =>p
 |q::l=>(p.put 83 (rb q.1 q.2.1 q.2.2)).kH l
def iM.iV(r:iM)(i:Nat):iM:=
 let r1:=r.iU i (r.P i).tick
 if(r1.P i).L.st≠9 then r1.meet i nobody else
  let r2:=r1.meet i (iI (r1.P i).pe)
  let p:=(r2.P i).put 72 [jY r2.id,jY (r2.P i).pe.who]
  r2.iU i (if(r2.P i).pe.both=true then p.kH (lE (r2.O i))else p)
def iM.ja(r:iM):Nat->iM
 |0=>r
 |k+1=>(r.ja k).iV k
def iM.tick(r:iM):iM:=r.ja r.n
def iM.out(r:iM)(i:Nat):iM:=r.iU i {r.P i with out:=[] }
def Hl(id:Int)(m:Nat->Int)(i:Nat):jw:=⟨m i,{Yu (8*id+i+1)with st:=1},([],false,false),nobody,[]⟩
where Yu (g:Int):LS:=⟨255,g,255,g,0,0,0,255,0,0,0⟩
def jN(id:Int)(n:Nat)(m:Nat->Int):iM:=
 ⟨id,n,Hl id m,λx=>if x=id then μ (1,[])else ν,λ_ x=>if x=id then μ (1,[])else ν,[],0⟩
def kd(r:iM)(t:Int)(tx:List UInt8):iM×Nat:=if t<1 \/6<t \/20<tx.length then(r,1)else(r.send (t,8,tx),0)
def xk(p:jw)(B:Nat)(v:dZ)(F:Nat->dZ):Nat->dZ:=λj=>
 if j=0 then .int .i64 p.m else if j=1 then π (μ ⟨B,0,ν⟩)else if j<67 then F (j-2)else if j=67 then .int .i64 p.pe.who else if j=68 then .bool p.pe.both else if j=69 then .int .i64 p.pe.left else v
structure qz(w:dY)(g o B:Nat)(v:dZ)(p:jw):Prop where
 xm:∃F,qp w g o 71 (xk p B v F)/\Df F p.rd.1 p.rd.2.1 p.rd.2.2
 lk:Lk w B (p.L.c (σ ν 0 0))
 ou:Row w 1 v p.out.length (iO p.out)
 few:p.out.length<=1000000000
 ok:zt p.L
 gB:g≠B
 vg:v.ownBlock≠μ g
 vB:v.ownBlock≠μ B
 nz:g≠0/\B≠0/\v.ownBlock≠μ 0
theorem qz.c0 {p:jw} (h:qz w g o B v p):w.cell? ⟨g,o,ν⟩=μ (ι κ p.m):=by obtain⟨F,hC,_⟩:=h.xm;exact hC.cell 0 eA
theorem qz.c1 {p:jw} (h:qz w g o B v p):w.cell? ⟨g,o+1,ν⟩=μ (π (μ ⟨B,0,ν⟩)):=by obtain⟨F,hC,_⟩:=h.xm;exact hC.cell 1 eA
theorem qz.c67 {p:jw} (h:qz w g o B v p):w.cell? ⟨g,o+67,ν⟩=μ (ι κ p.pe.who):=by obtain⟨F,hC,_⟩:=h.xm;exact hC.cell 67 eA
theorem qz.c68 {p:jw} (h:qz w g o B v p):w.cell? ⟨g,o+68,ν⟩=μ (.bool p.pe.both):=by obtain⟨F,hC,_⟩:=h.xm;exact hC.cell 68 eA
theorem qz.c69 {p:jw} (h:qz w g o B v p):w.cell? ⟨g,o+69,ν⟩=μ (.int .i64 p.pe.left):=by obtain⟨F,hC,_⟩:=h.xm;exact hC.cell 69 eA
theorem qz.c70 {p:jw} (h:qz w g o B v p):w.cell? ⟨g,o+70,ν⟩=μ v:=by obtain⟨F,hC,_⟩:=h.xm;exact hC.cell 70 eA
theorem qz.fz {w:dY} {g o B:Nat} {v:dZ} {p:jw} (h:qz w g o B v p):∀j,j<71->w.frozen? ⟨g,o+j,ν⟩=false:=by obtain⟨F,hC,_⟩:=h.xm;exact λj Z=>hC.fz j Z
theorem qz.lt {w:dY} {g o B:Nat} {v:dZ} {p:jw} (h:qz w g o B v p):g<w.heap.size:=by obtain⟨F,hC,_⟩:=h.xm;exact hC.lt eA
theorem qz.below {w w':dY} {g o B:Nat} {v:dZ} {p:jw} (h:qz w g o B v p)(hb:eE w w'):qz w' g o B v p:=by
 obtain⟨F,hC,Z⟩:=h.xm;exact⟨⟨F,hC.below eA hb,Z⟩,h.lk.below hb,h.ou.below hb,h.few,h.ok,h.gB,h.vg,h.vB,h.nz⟩
structure nP(w w':dY)(g o B:Nat)(v:dZ):Prop where
 os:w'.os=w.os
 tape:w'.tape=w.tape
 output:w'.output=w.output
 size:w.heap.size<=w'.heap.size
 block:∀i,i<w.heap.size->i≠g->i≠B->v.ownBlock≠μ i->w'.heap[i]? =w.heap[i]?
 cell:∀j,j<o \/o+71<=j->w'.cell? ⟨g,j,ν⟩=w.cell? ⟨g,j,ν⟩
 fz:∀j,w'.frozen? ⟨g,j,ν⟩=w.frozen? ⟨g,j,ν⟩
theorem nP.refl(w:dY)(g o B:Nat)(v:dZ):nP w w g o B v:=⟨rfl,rfl,rfl,Nat.le_refl _,λ_ _ _ _ _=>rfl,λ_ _=>rfl,λ_=>rfl⟩
theorem nP.iT(o B:Nat)(v:dZ)(h:eE w w')(Z:g<w.heap.size):nP w w' g o B v:=
 ⟨h.os,h.tape,h.output,h.size,λi hi _ _ _=>h.block i hi,λj _=>aj (a:=⟨g,j,ν⟩) (h.block g Z),λj=>aM (a:=⟨g,j,ν⟩) (h.block g Z)⟩
theorem nP.trans {a b c:dY} {g o B:Nat} {v v':dZ} (h:nP a b g o B v)(k:nP b c g o B v')(hv:∀i,v'.ownBlock=μ i->v.ownBlock=μ i \/a.heap.size<=i):nP a c g o B v:=
 ⟨k.os.trans h.os,k.tape.trans h.tape,k.output.trans h.output,Nat.le_trans h.size k.size,λi hi Y X Z=>(k.block i (Nat.lt_of_lt_of_le hi h.size) Y X (λe=>by
  rcases hv i e with V|V
  ·exact Z V
  ·omega)).trans (h.block i hi Y X Z),λj U=>(k.cell j U).trans (h.cell j U),λj=>(k.fz j).trans (h.fz j)⟩
theorem yD(g o B:Nat)(v:dZ)(p:jw)(w:dY)(h:qz w g o B v p):
 eW eX 83 #[π (μ ⟨g,o,ν⟩)] w λe w'=>e=ρ (.bool (p.L.st==9))/\w=w':=by
 have c1:=h.c1;have hl:=h.lt;have hs:=G9 B _ p.L _ [] w (rI.rest h.lk);clear h
 go_in
 go_wp2_with(fail);refine hs.mono ?_;rintro e w1 ⟨rfl,rfl⟩;clear hs
 go_wp2
 go_ret;exact⟨rfl,rfl⟩
theorem U4:(eX.info? 5).map (λi=>(i.zero,i.size,i.bytes))=μ (μ (.int .u8 0),1,1):=gq
theorem Pm(p:jw)(B:Nat)(v v':dZ)(F:Nat->dZ)(l:List UInt8):∀j,j<71->sZ (xk p B v F) 70 v' j=xk {p with out:=l} B v' F j:=by
 intro j hj;by_cases e:j=70
 ·subst e;rw[pM];rfl
 ·rw[jJ _ _ e];unfold xk;by_cases Z:j=0
  ·simp[Z]
  ·by_cases Y:j=1
   ·simp[Y]
   ·by_cases U:j<67
    ·simp[Z,Y,U]
    ·by_cases X:j=67
     ·simp[X]
     ·by_cases T:j=68
      ·simp[T]
      ·have V:j=69:=eh;simp[V]
theorem qz.grow {W x:dY} {p:jw} (h:qz w g o B v p)(hb:eE w W)(V:W.grownBy x v.ownBlock)(v':dZ)(l:List UInt8)(G:Row x 1 v' (p.out++l).length (iO (p.out++l)))(J:(p.out++l).length<=1000000000)(H:v'.ownBlock=v.ownBlock \/ ∃k,v'.ownBlock=μ k/\W.heap.size<=k):
 qz (x.setCell ⟨g,o+70,ν⟩ v') g o B v' {p with out:=p.out++l} /\nP w (x.setCell ⟨g,o+70,ν⟩ v') g o B v/\(∀i,v'.ownBlock=μ i->v.ownBlock=μ i \/w.heap.size<=i):=by
 have hW:=h.below hb;have Y:∀i,i<w.heap.size->v.ownBlock≠μ i->x.heap[i]? =w.heap[i]? :=λi hi hv=>(V.block i (Nat.lt_of_lt_of_le hi hb.size) (λe=>hv e.symm)).trans (hb.block i hi);have hv:∀i,v'.ownBlock=μ i->v.ownBlock=μ i \/w.heap.size<=i:=λi e=>by
  rcases H with Z|⟨k,Z,e2⟩
  ·exact .inl (by rw[<-Z];exact e)
  ·rw[e]at Z;have:i=k:=by simpa using Z
   have:=hb.size;exact .inr eh
 have X:v'.ownBlock≠μ g:=λe=>by
  rcases hv g e with Z|Z
  ·exact h.vg Z
  ·have:=h.lt;omega
 have U:v'.ownBlock≠μ B:=λe=>by
  rcases hv B e with Z|Z
  ·exact h.vB Z
  ·have:=h.lk.lt;omega
 obtain⟨F,hC,M⟩:=h.xm;have T:qp x g o 71 (xk p B v F):=hC.keep (Y g h.lt h.vg);refine⟨⟨⟨F,(T.set 70 eA v').congr (Pm p B v v' F _),M⟩,?_,?_,J,h.ok,h.gB,X,U,h.nz.1,h.nz.2.1,λe=>by
  rcases hv 0 e with Z|Z
  ·exact h.nz.2.2 Z
  ·have:=h.lt;omega⟩,⟨?_,?_,?_,?_,?_,?_,?_⟩,hv⟩
 ·exact h.lk.keep ((aq _ _ _ B (λe=>h.gB e.symm)).trans (Y B h.lk.lt h.vB))
 ·exact G.keep gY (λk E=>aq _ _ _ k (λe=>X (by rw[E];exact congrArg μ e)))
 ·exact((av 0 x).setCell (Nat.zero_le _) _).os.trans (V.os.trans hb.os)
 ·exact((av 0 x).setCell (Nat.zero_le _) _).tape.trans (V.tape.trans hb.tape)
 ·exact((av 0 x).setCell (Nat.zero_le _) _).output.trans (V.output.trans hb.output)
 ·exact Nat.le_trans hb.size (Nat.le_trans V.size gY)
 ·exact λi hi Q _ S=>(aq _ _ _ i Q).trans (Y i hi S)
 ·exact λj hj=>(aW _ _ _ _ (λe=>by have:=congrArg Addr.off e;simp at this;omega)).trans (aj (a:=⟨g,j,ν⟩) (Y g h.lt h.vg))
 ·exact λj=>(mE _ _ _ _).trans (aM (a:=⟨g,j,ν⟩) (Y g h.lt h.vg))
structure lO(w w':dY)(g o B:Nat)(v:dZ)(p:jw):Prop where
 ex:∃v',qz w' g o B v' p/\(∀i,v'.ownBlock=μ i->v.ownBlock=μ i \/w.heap.size<=i)
 kept:nP w w' g o B v
theorem lO.still {p:jw} (h:qz w g o B v p)(hb:eE w w'):lO w w' g o B v p:=⟨⟨v,h.below hb,λ_ e=>.inl e⟩,nP.iT o B v hb h.lt⟩
theorem lO.trans {a b c:dY} {g o B:Nat} {v v':dZ} {p:jw} (X:nP a b g o B v)(hv:∀i,v'.ownBlock=μ i->v.ownBlock=μ i \/a.heap.size<=i)(V:lO b c g o B v' p):lO a c g o B v p:=by
 obtain⟨⟨v2,T,Z⟩,U⟩:=V;refine⟨⟨v2,T,λi e=> ?_⟩,X.trans U hv⟩;rcases Z i e with Y|Y
 ·exact hv i Y
 ·exact .inr (Nat.le_trans X.size Y)
theorem yE(l:List UInt8)(h:l.length<=60):(Plain.lL l).length<=126:=by
 have:=QM l;omega
theorem Dj(g o B:Nat)(v:dZ)(p:jw)(T s:ByteArray)(c:UInt8)(w:dY)(h:qz w g o B v p)(hT:T.data.toList=[c])(hs:s.size<=1000)(hn:p.out.length<=900000000):
 eW eX 150 #[π (μ ⟨g,o,ν⟩),.string T,.string s] w λe w'=>e=ρ (τ #[])/\lO w w' g o B v (p.put c s.data.toList):=by
 obtain⟨i0,hi,ox,nh,mO⟩:=aY U4;have hop:=yD g o B v p w h;have hTs:T.size=1:=by have:=congrArg List.length hT;simpa using this
 have V:T.toList=[c] :=by rw[dj];exact hT
 have MQ:(T++s).size=s.size+1:=by rw[ByteArray.size_append,hTs];omega
 have Z:(T++s).data.toList=c::s.data.toList:=by rw[ByteArray.data_append];simp[hT]
 have hsl:s.data.toList.length=s.size:=gY;have c70:=h.c70;have f70:=h.fz 70 eA;have hl:=h.lt;have HP:Hid _:=h;have ll:∀W:dY,eE w W->jw.put p c s.data.toList=p->lO w W g o B v (p.put c s.data.toList):=λW hW e=>by rw[e];exact lO.still HP.out hW
 have D:Hid _:=ll;clear ll;have main:(c=76 \/p.L.st=9)->Hid (s.size+1<=60->p.put c s.data.toList={p with out:=p.out++Plain.lL (c::s.data.toList)})/\Hid (¬s.size+1<=60->p.put c s.data.toList=p):=λhc=>by
  have jX:¬(c≠76/\p.L.st≠9):=λ⟨a,b⟩=>by rcases hc with e|e<;>contradiction
  refine⟨λh1=> ?_,λh1=> ?_⟩
  ·unfold jw.put;rw[af jX,ai (by rw[hsl];exact h1)]
  ·unfold jw.put;rw[af jX,af (by rw[hsl];exact h1)]
 by_cases Q:c=76
 ·have q:(T.toList==[76])=true:=by rw[V,Q];rfl
  obtain⟨H,E⟩:=main (.inl Q);clear main V hop h;by_cases U:s.size+1<=60
  ·have Y:=Kq (T++s) w eh;rw[Z]at Y;have xf:=yE (c::s.data.toList) (by simp;omega);have E1:Hid _:=H.out U;obtain⟨L,hL⟩:=gg (Plain.lL (c::s.data.toList));rw[hL]at Y xf E1;clear H E Z hL
   go_in
   go_wp2_with(fail);refine Y.mono ?_;rintro e w1 ⟨rfl,b1⟩;have X:=HP.out.below b1;have G:=X.c70;have A:=X.fz 70 eA;have dl:=X.lt;have Ms:=X.ou;have HV:Hid (v.ownBlock≠μ g):=X.vg;clear Y c70 f70;go_wp2_with(at_builtin;go_must(refine tr _ rfl (.tmp 28) (.tmp 29) 140 9 rfl 5 i0 (.int .u8 0) underlying140 underlying9 hi ox nh mO rfl v p.out.length (iO p.out) rfl Ms ⟨L.toArray⟩ rfl (by show L.toArray.size<=1000000;simp;omega) eh ?_));intro v' x J M j;have Yv:∃a' n' c',v'=gp a' n' c':=by
    rcases J.2 with⟨e,_⟩|⟨g',c',e,_⟩
    ·exact⟨_,_,_,e⟩
    ·exact⟨_,_,_,e⟩
   obtain⟨a',n',c',rfl⟩:=Yv;have u:Row x 1 (σ a' n' c') (p.out++L).length (iO (p.out++L)):=by
    rw[aA,lI];exact J
   obtain⟨G1,G2,G3⟩:=qz.grow HP.out b1 M (σ a' n' c') L u (by rw[aA];omega) j;have y:x.cell? ⟨g,o+70,ν⟩=μ v:=(aj (a:=⟨g,o+70,ν⟩) (M.block g dl (λe=>HV.out e.symm))).trans G;have z70:x.frozen? ⟨g,o+70,ν⟩=false:=(aM (a:=⟨g,o+70,ν⟩) (M.block g dl (λe=>HV.out e.symm))).trans A;have xl:g<x.heap.size:=ag x _ y;have S:Hid (lO w (x.setCell ⟨g,o+70,ν⟩ (σ a' n' c')) g o B v (p.put c s.data.toList)):=by
    show lO _ _ _ _ _ _ _;rw[E1.out];exact⟨⟨_,G1,G3⟩,G2⟩
   clear G1 G2 G3 J u M j Ms X
   go_wp2
   first|go_end0|refine iJ rfl rfl ?_
   exact⟨rfl,S.out⟩
  ·have Y:=OU (T++s) w eh (by unfold maxLen;omega);have S:Hid (lO w w g o B v (p.put c s.data.toList)):=D.out w (av _ _) (E.out U);clear H E Z
   go_in
   go_wp2_with(fail);refine Y.mono ?_;rintro e w1 ⟨rfl,rfl⟩;clear Y
   go_wp2
   first|go_end0|refine iJ rfl rfl ?_
   exact⟨rfl,S.out⟩
 ·have q:(T.toList==[76])=false:=by
   rw[V,cT];intro e;exact Q (by simpa using e)
  cases h9:(p.L.st==9)
  ·have ki:p.L.st≠9:=by simpa using h9
   have S:Hid (lO w w g o B v (p.put c s.data.toList)):=D.out w (av _ _) (by unfold jw.put;rw[ai ⟨Q,ki⟩]);rw[h9]at hop;clear main V h Z
   go_in
   go_wp2_with(fail);refine hop.mono ?_;rintro e w1 ⟨rfl,rfl⟩;clear hop
   go_wp2
   first|go_end0|refine iJ rfl rfl ?_
   exact⟨rfl,S.out⟩
  ·have ki:p.L.st=9:=by simpa using h9
   obtain⟨H,E⟩:=main (.inr ki);rw[h9]at hop;clear main V h ki;by_cases U:s.size+1<=60
   ·have Y:=Kq (T++s) w eh;rw[Z]at Y;have xf:=yE (c::s.data.toList) (by simp;omega);have E1:Hid _:=H.out U;obtain⟨L,hL⟩:=gg (Plain.lL (c::s.data.toList));rw[hL]at Y xf E1;clear H E Z hL
    go_in
    go_wp2_with(fail);refine hop.mono ?_;rintro e w1 ⟨rfl,rfl⟩;clear hop;go_wp2_with(fail);refine Y.mono ?_;rintro e w1 ⟨rfl,b1⟩;have X:=HP.out.below b1;have G:=X.c70;have A:=X.fz 70 eA;have dl:=X.lt;have Ms:=X.ou;have HV:Hid (v.ownBlock≠μ g):=X.vg;clear Y c70 f70;go_wp2_with(at_builtin;go_must(refine tr _ rfl (.tmp 28) (.tmp 29) 140 9 rfl 5 i0 (.int .u8 0) underlying140 underlying9 hi ox nh mO rfl v p.out.length (iO p.out) rfl Ms ⟨L.toArray⟩ rfl (by show L.toArray.size<=1000000;simp;omega) eh ?_));intro v' x J M j;have Yv:∃a' n' c',v'=gp a' n' c':=by
     rcases J.2 with⟨e,_⟩|⟨g',c',e,_⟩
     ·exact⟨_,_,_,e⟩
     ·exact⟨_,_,_,e⟩
    obtain⟨a',n',c',rfl⟩:=Yv;have u:Row x 1 (σ a' n' c') (p.out++L).length (iO (p.out++L)):=by
     rw[aA,lI];exact J
    obtain⟨G1,G2,G3⟩:=qz.grow HP.out b1 M (σ a' n' c') L u (by rw[aA];omega) j;have y:x.cell? ⟨g,o+70,ν⟩=μ v:=(aj (a:=⟨g,o+70,ν⟩) (M.block g dl (λe=>HV.out e.symm))).trans G;have z70:x.frozen? ⟨g,o+70,ν⟩=false:=(aM (a:=⟨g,o+70,ν⟩) (M.block g dl (λe=>HV.out e.symm))).trans A;have xl:g<x.heap.size:=ag x _ y;have S:Hid (lO w (x.setCell ⟨g,o+70,ν⟩ (σ a' n' c')) g o B v (p.put c s.data.toList)):=by
     show lO _ _ _ _ _ _ _;rw[E1.out];exact⟨⟨_,G1,G3⟩,G2⟩
    clear G1 G2 G3 J u M j Ms X
    go_wp2
    first|go_end0|refine iJ rfl rfl ?_
    exact⟨rfl,S.out⟩
   ·have Y:=OU (T++s) w eh (by unfold maxLen;omega);have S:Hid (lO w w g o B v (p.put c s.data.toList)):=D.out w (av _ _) (E.out U);clear H E Z
    go_in
    go_wp2_with(fail);refine hop.mono ?_;rintro e w1 ⟨rfl,rfl⟩;clear hop;go_wp2_with(fail);refine Y.mono ?_;rintro e w1 ⟨rfl,rfl⟩;clear Y
    go_wp2
    first|go_end0|refine iJ rfl rfl ?_
    exact⟨rfl,S.out⟩
def wm(p:jw)(q:kM):jw:=if jS q.1 q.2.1 q.2.2=0 then p.put 76 (mD q.1 q.2.1 q.2.2)else p
theorem Ep:∀(l:List kM) (p:jw) (q:kM),p.say (l++ [q])=wm (p.say l) q
 |[],_,_=>rfl
 |x::l,p,q=>by
  show(wm p x).say (l++ [q])=wm ((wm p x).say l) q;exact Ep l (wm p x) q
theorem xr(p:jw)(c:UInt8)(s:List UInt8):(p.put c s).out.length<=p.out.length+126:=by
 unfold jw.put;split
 ·omega
 ·split
  ·rename_i h
   have:=yE (c::s) (by simpa using h);simp only[List.length_append];omega
  ·omega
theorem U5(p:jw)(q:kM):(wm p q).out.length<=p.out.length+126:=by
 unfold wm;split
 ·exact xr _ _ _
 ·omega
theorem zF:∀(l:List kM) (p:jw),(p.say l).out.length<=p.out.length+126*l.length
 |[],p=>by simp[jw.say]
 |x::l,p=>by
  have h1:=zF l (wm p x);have h2:=U5 p x;have e:p.say (x::l)=(wm p x).say l:=rfl;rw[e,cO];omega
structure PtQ(w:dY)(g o B:Nat)(v:dZ)(p:jw)(X:Nat->Prop)(vl:dZ)(qs:List PV):Prop where
 xm:∃F,qp w g o 71 (xk p B v F)/\Df F p.rd.1 p.rd.2.1 p.rd.2.2
 rep:rI w B X p.L vl qs
 ou:Row w 1 v p.out.length (iO p.out)
 few:p.out.length<=1000000000
 ok:zt p.L
 gB:g≠B
 vg:v.ownBlock≠μ g
 vB:v.ownBlock≠μ B
 nz:g≠0/\B≠0/\v.ownBlock≠μ 0
 xg:X g
 xv:∀k,v.ownBlock=μ k->X k
theorem Q9 {code id:Int} {os:List jE} (h:jS code id os=0):(mD code id os).length<=100:=by
 have h8:os.length<=8:=by
  unfold jS at h;split at h
  ·simp at h
  ·split at h
   ·simp at h
   ·omega
 have:=rT os;simp only[mD,List.length_cons];omega
theorem U6(g o B:Nat)(v:dZ)(p:jw)(X:Nat->Prop)(vl:dZ)(qs:List PV)(w:dY)(h:PtQ w g o B v p X vl qs)(hq:qs.length<=40)(hn:p.out.length<=800000000):
 eW eX 123 #[π (μ ⟨g,o,ν⟩)] w λe w'=>e=ρ (τ #[])/\lO w w' g o B v (p.say (qs.map PV.abs)):=by
 have vA:=X2 B X p.L vl qs w h.rep;have c1:w.cell? ⟨g,o+1,ν⟩=μ (π (μ ⟨B,0,ν⟩)):=by obtain⟨F,hC,_⟩:=h.xm;exact hC.cell 1 eA
 have OT:g<w.heap.size:=by obtain⟨F,hC,_⟩:=h.xm;exact hC.lt eA
 have Z:Hid _:=h;clear h
 go_in
 go_wp2_with(fail);refine vA.mono ?_;rintro e w1 ⟨rfl,hR,iW,y,S⟩;have ZL:qz w1 g o B v p:=by
  obtain⟨F,hC,hF⟩:=Z.out.xm;have hkv:∀k,v.ownBlock=μ k->w1.heap[k]? =w.heap[k]? :=λk Q=>S.block k (Z.out.ou.lt k Q) (λe=>Z.out.vB (by rw[Q,e])) gY;exact⟨⟨F,hC.keep (S.block g OT Z.out.gB gY),hF⟩,hR.lk,Z.out.ou.keep S.size hkv,Z.out.few,Z.out.ok,Z.out.gB,Z.out.vg,Z.out.vB,Z.out.nz⟩
 have Xd:nP w w1 g o B v:=⟨S.os,S.tape,S.output,S.size,λi hi _ h2 _=>S.block i hi h2 gY,λj _=>aj (a:=⟨g,j,ν⟩) (S.block g OT Z.out.gB gY),λj=>aM (a:=⟨g,j,ν⟩) (S.block g OT Z.out.gB gY)⟩
 have D:∀W:dY,nP w1 W g o B v->abD W vl qs:=λW kW=>by
  refine⟨iW.keep kW.size (λk Q=>kW.block k (iW.lt k Q) (λY=>Z.out.rep.own k Q (by rw[Y];exact Z.out.xg)) (λY=>Z.out.rep.own k Q (by rw[Y];exact Z.out.rep.self)) (λY=>Z.out.rep.own k Q (Z.out.xv k Y))),λq OP=>⟨(y q OP).opt.OC (λk Q=> ?_),(y q OP).few⟩⟩;obtain⟨f1,_,f3⟩:=(y q OP).far k Q;exact kW.block k f3 (λY=>f1 (by rw[Y];exact Z.out.xg)) (λY=>f1 (by rw[Y];exact Z.out.rep.self)) (λY=>f1 (Z.out.xv k Y))
 have u:∀q∈qs,q.n<=q.cap:=λq OP=>(y q OP).le;have IC:g<w1.heap.size:=ZL.lt;obtain⟨a,ca,rfl,_⟩:=(D w1 (nP.refl _ _ _ _ _)).shape;obtain⟨n,vG⟩:=gg (qs.length);have H1:Hid _:=ZL;have HK1:Hid _:=Xd;have HPk:Hid _:=D;have HLe:Hid _:=u;have HN:Hid _:=vG;rw[vG]at hq;rw[vG];clear vA hR iW y S ZL Xd D u vG c1
 go_wp2
 go_loopw [12] (λi wr=>∃(k:Nat) (E:dZ),k<=n/\i=ι κ k/\qz wr g o B E (p.say ((qs.map PV.abs).take k))/\nP w1 wr g o B v/\(∀i,E.ownBlock=μ i->v.ownBlock=μ i \/w1.heap.size<=i)) (λi _=>n-(intOf i).toNat)
 case atStart=>exact⟨0,v,Nat.zero_le _,rfl,H1.out,nP.refl _ _ _ _ _,λ_ e=>.inl e⟩
 case round=>
  obtain⟨k,E,Q,rfl,hP,T,H⟩:=hrel;by_cases kB:k<n
  ·have nQ:(k:Int)<(n:Int):=eh;have G6:(0:Int)<=(k:Int):=eh;have lk:k<qs.length:=by have:=HN.out;omega
   have PK:=HPk.out wr T;obtain⟨a',ca',Y,f1⟩:=PK.shape;obtain⟨g1,ea,x0,x1,x2⟩:=f1 k qs[k] (az lk);have e1':a=a':=by simpa using(bQ Y).1
   rw[ea]at e1';subst e1';have A:=PK.opt qs[k] (aG lk);have Da:=HLe.out qs[k] (aG lk);have Yw:Hid ((qs.map PV.abs).take (k+1)=(qs.map PV.abs).take k++ [qs[k].abs]):=by
    show _=_;rw[aB (by simpa using lk)];simp
   generalize qs[k] =q at x0 x1 x2 A Da Yw;obtain⟨V,U,qa,qn,Yx,M⟩:=q;simp only at x0 x1 x2 A Da;have z0:wr.cell? ⟨g1,k*3,ν⟩=μ (ι κ V):=by rw[Nat.zero_add]at x0;exact x0
   have z1:wr.cell? ⟨g1,k*3+1,ν⟩=μ (ι κ U):=by rw[Nat.zero_add]at x1;exact x1
   have z2:wr.cell? ⟨g1,k*3+2,ν⟩=μ (σ qa qn Yx):=by rw[Nat.zero_add]at x2;exact x2
   have hln:(p.say ((qs.map PV.abs).take k)).out.length<=900000000:=by
    have h1:=zF ((qs.map PV.abs).take k) p;have h2:((qs.map PV.abs).take k).length<=k:=cy _ _;omega
   have ba:=gW wr (γ #[ι κ V,ι κ U,σ qa qn Yx] 37);have HP:Hid _:=hP;have HKk:Hid _:=T;have J:Hid _:=H;clear PK f1 Y ea x0 x1 x2 hP T H;by_cases hf:jS V U M=0
   ·have G:=IU V U qa qn Yx M _ Da (A.1.below ba) hf;have Dk:=Q9 hf;have E1:Hid (p.say ((qs.map PV.abs).take (k+1))=(p.say ((qs.map PV.abs).take k)).put 76 (mD V U M)):=by
     show _=_;rw[Yw.out,Ep];show wm _ (V,U,M)=_;unfold wm;rw[ai hf]
    clear hf A;obtain⟨L,hL⟩:=gg (mD V U M);rw[hL]at G Dk E1;clear hL;go_wp2_with(fail);refine G.mono ?_;rintro e w3 ⟨rfl,b3⟩;have k3:=gk ba b3;have oh:=Dj g o B E (p.say ((qs.map PV.abs).take k)) ⟨#[76]⟩ ⟨L.toArray⟩ 76 w3 (HP.out.below k3) rfl (by show L.toArray.size<=1000;simp;omega) hln;have eL:(⟨L.toArray⟩:ByteArray).data.toList=L:=gY;rw[eL]at oh;clear G b3;go_wp2_with(fail);refine oh.mono ?_;rintro e w4 ⟨rfl,hW⟩;have nr:lO w1 w4 g o B v (p.say ((qs.map PV.abs).take (k+1))):=by
     rw[E1.out];exact lO.trans (HKk.out.trans (nP.iT o B E k3 HP.out.lt) J.out) J.out hW
    have HW:Hid _:=nr;clear oh hW nr k3 ba
    go_wp2
    go_roundw
    case rel=>
     obtain⟨⟨v5,h5,h6⟩,h7⟩:=HW.out;exact⟨k+1,v5,eh,by go_num,h5,h7,h6⟩
    case measure=>simp[intOf];omega
   ·have G:=Kr V U qa qn Yx M _ eh Da (A.1.below ba) hf;have ee:jm (jS V U M)=.iface 128 (ι κ (jS V U M:Int)):=by simp only[jm];rw[af hf]
    rw[ee]at G;have E1:Hid (p.say ((qs.map PV.abs).take (k+1))=p.say ((qs.map PV.abs).take k)):=by
     show _=_;rw[Yw.out,Ep];show wm _ (V,U,M)=_;unfold wm;rw[af hf]
    clear hf A ee;generalize jS V U M=f at G;go_wp2_with(fail);refine G.mono ?_;rintro e w3 ⟨rfl,b3⟩;have Gh:Hid _:=gk ba b3;clear G b3 ba
    go_wp2
    go_roundw
    case rel=>exact⟨k+1,E,eh,by go_num,by rw[E1.out];exact HP.out.below Gh.out,HKk.out.trans (nP.iT o B E Gh.out HP.out.lt) J.out,J.out⟩
    case measure=>simp[intOf];omega
  ·have xP:¬(k:Int)<(n:Int):=eh;have HE:Hid (lO w wr g o B v (p.say (qs.map PV.abs))):=by
    have Y:(qs.map PV.abs).take k=qs.map PV.abs:=aJ (by have:=HN.out;simp;omega);rw[Y]at hP;exact lO.trans HK1.out (λ_ e=>.inl e) ⟨⟨E,hP,H⟩,T⟩
   clear hP T H
   go_wp2
   first|go_end0|refine iJ rfl rfl ?_
   exact⟨rfl,HE.out⟩
structure BX(w w1:dY)(g o B:Nat)(v:dZ)(p:jw)(out:List kM):Prop where
 ex:∃vl qs,PtQ w1 g o B v p (λk=>k<w.heap.size) vl qs/\qs.map PV.abs=out
 kept:nP w w1 g o B v
theorem qz.begin {p:jw} (h:qz w g o B v p):BX w w g o B v p [] :=
 ⟨⟨σ ν 0 0,[],⟨h.xm,rI.rest h.lk,h.ou,h.few,h.ok,h.gB,h.vg,h.vB,h.nz,h.lt,λk Z=>h.ou.lt k Z⟩,rfl⟩,nP.refl _ _ _ _ _⟩
theorem BX.tab {p:jw} {out:List kM} (h:BX w w1 g o B v p out)(Y:jf w):jf w1:=λe s X hs=>by
 obtain⟨vl,qs,Z,_⟩:=h.ex;exact(aj (a:=⟨0,e*10+s,ν⟩) (h.kept.block 0 Y.lt (λe=>Z.nz.1 e.symm) (λe=>Z.nz.2.1 e.symm) Z.nz.2.2)).trans (Y e s X hs)
theorem BX.went {w2:dY} {p:jw} {out afC:List kM} {vl:dZ} {qs:List PV} {s':LS} (Z:PtQ w1 g o B v p (λk=>k<w.heap.size) vl qs)(E:qs.map PV.abs=out)(Y:nP w w1 g o B v)
 (H:nE w1 w2 B (λk=>k<w.heap.size) s' vl qs afC) (y:zt s'):BX w w2 g o B v {p with L:=s'} (out++afC):=by
 obtain⟨⟨v2,q2,G,J,hv2⟩,V⟩:=H;obtain⟨F,hC,hF⟩:=Z.xm;have hlg:g<w1.heap.size:=hC.lt eA;have Q:∀i,vl.ownBlock=μ i->¬i<w.heap.size:=λi e=>Z.rep.own i e;have hb:∀i,i<w.heap.size->i≠B->w2.heap[i]? =w1.heap[i]? :=λi hi D=>V.block i (Nat.lt_of_lt_of_le hi Y.size) D (λe=>Q i e hi);have X:w2.heap[g]? =w1.heap[g]? :=hb g Z.xg Z.gB;refine⟨⟨v2,qs++q2,⟨⟨F,hC.keep X,hF⟩,G,Z.ou.keep V.size (λk T=>hb k (Z.xv k T) (λe=>Z.vB (by rw[T,e]))),Z.few,y,Z.gB,Z.vg,Z.vB,Z.nz,Z.xg,Z.xv⟩,by rw[cU,E,J]⟩,?_⟩;exact⟨V.os.trans Y.os,V.tape.trans Y.tape,V.output.trans Y.output,Nat.le_trans Y.size V.size,λi hi M U S=>(hb i hi U).trans (Y.block i hi M U S),λj A=>(aj (a:=⟨g,j,ν⟩) X).trans (Y.cell j A),λj=>(aM (a:=⟨g,j,ν⟩) X).trans (Y.fz j)⟩
theorem BX.say {w w1:dY} {g o B:Nat} {v:dZ} {p:jw} {out:List kM} (h:BX w w1 g o B v p out)(V:out.length<=40)(X:p.out.length<=800000000):
 eW eX 123 #[π (μ ⟨g,o,ν⟩)] w1 λe w'=>e=ρ (τ #[])/\lO w w' g o B v (p.say out):=by
 obtain⟨Y,qs,U,rfl⟩:=h.ex;refine(U6 g o B v p _ Y qs w1 U (by simpa using V) X).mono ?_;rintro e w' ⟨rfl,Z⟩;exact⟨rfl,lO.trans h.kept (λ_ e=>.inl e) Z⟩
theorem BX.do_ {p:jw} {out:List kM} (h:BX w w1 g o B v p out)(T:jf w)(hq:out.length<=40)(ev:Int):
 eW eX 120 #[π (μ ⟨B,0,ν⟩),ι κ ev] w1 λe w'=>e=ρ (jm (kY p.L ev).2.2)/\BX w w' g o B v {p with L:=(kY p.L ev).1} (out++(kY p.L ev).2.1):=by
 have X:=h.tab T;obtain⟨U,qs,Z,Y⟩:=h.ex;have hl:qs.length=out.length:=by rw[<-Y];simp
 refine(abF ev B _ p.L U qs w1 X Z.rep Z.ok.bd eh).mono ?_;rintro e w' ⟨rfl,V⟩;exact⟨rfl,BX.went Z Y h.kept V (Z.ok.kY ev)⟩
theorem BX.tick {w:dY} {g o B:Nat} {v:dZ} {p:jw} (h:qz w g o B v p)(V:jf w):
 eW eX 147 #[π (μ ⟨B,0,ν⟩)] w λe w'=>e=ρ (τ #[])/\BX w w' g o B v {p with L:=kj p.L} (lM p.L):=by
 have hw:=h.ok.wt;have hb:=h.begin;obtain⟨X,qs,Y,S⟩:=hb.ex;have T:qs=[] :=by simpa using S
 subst T;have Z:X.ownBlock≠μ 0:=λe=>Y.rep.own 0 e V.lt;refine(Um B _ p.L X [] w V h.nz.2.1 Z Y.rep h.ok.bd gY eh eh).mono ?_;rintro e w' ⟨rfl,U⟩;refine⟨rfl,?_⟩;have:=BX.went Y rfl hb.kept U h.ok.tick;simpa using this
theorem BX.state {p:jw} {out:List kM} (h:BX w w1 g o B v p out):
 eW eX 114 #[π (μ ⟨B,0,ν⟩)] w1 λe w'=>e=ρ (ι κ p.L.st)/\w1=w':=by
 obtain⟨Z,qs,Y,ho⟩:=h.ex;exact G9 B _ p.L Z qs w1 Y.rep
theorem BX.ptr {p:jw} {out:List kM} (h:BX w w1 g o B v p out):w1.cell? ⟨g,o+1,ν⟩=μ (π (μ ⟨B,0,ν⟩))/\g<w1.heap.size:=by
 obtain⟨vl,qs,Z,ho⟩:=h.ex;obtain⟨F,hC,hF⟩:=Z.xm;exact⟨hC.cell 1 eA,hC.lt eA⟩
end Rt
theorem BR.still {w w':dY} {B:Nat} {m:FM} {n:Nat} {K:Int->Option PS} {O:Nat->Int->Option PS} (h:BR w B m n K O)(hs:w.heap.size<=w'.heap.size)(X:∀j,j<w.heap.size->¬m.no j->w'.heap[j]? =w.heap[j]?)
 (A:¬m.no B) (J:¬m.no m.g) (y:∀b,(b=m.bm \/b∈m.bs)->¬m.no b) (no':Nat->Prop) (Q:∀j,no' j->m.no j \/w.heap.size<=j) (M:∀j,no' j->j<w'.heap.size):BR w' B {m with no:=no'} n K O:=by
 have E:=h.mlt;obtain⟨kn,ow,hF,H,G⟩:=h.ex;have mp:∀b,(b=m.bm \/b∈m.bs)->w'.heap[b]? =w.heap[b]? :=λb hb=>X b (E b hb) (y b hb);have tie:∀ {f:Int->Option SV} {F:Int->Option PS},Tie w m f F->Tie w' {m with no:=no'} f F:=by
  intro f F S x D;have:=S x D;cases e:F x with
  |none=>rw[e]at this;exact this
  |some q=>
   rw[e]at this;obtain⟨s,T,Z⟩:=this;refine⟨s,T,⟨Z.own,Z.seq,Z.n,Z.opt.kept (cap:=s.cap) (λj Y=>X j (Z.lt j Y) (Z.far j Y).2.2),Z.nil,Z.ok,λj Y=>Nat.lt_of_lt_of_le (Z.lt j Y) hs,λj Y=>⟨(Z.far j Y).1,(Z.far j Y).2.1,λe=> ?_⟩⟩⟩;rcases Q j e with U|U
   ·exact(Z.far j Y).2.2 U
   ·have:=Z.lt j Y;omega
 refine⟨⟨kn,ow,⟨(X B hF.lt A).trans hF.oe,hF.row.keep hs (λx hx=> ?_),hF.km.keep (mp _ (.inl rfl)),λi b e=>(hF.om i b e).keep (mp b (.inr (bK e))),hF.few,hF.nB,hF.nd⟩,tie H,λi hi=>tie (G i hi)⟩,M⟩;have V:m.g=x:=by simpa[FM.sl,eu]using hx
 subst V;exact X m.g (hF.row.lt _ hx) J
