import Derived.Test.YtieklnlbljejdaaGreatDoorG11
import Derived.Test.YtieklnlbljejdaaGreatDoorG12
open Go.Value renaming int → ι, slice → σ, pointer → π, tuple → τ, nilIface → η
open Go.IntKind renaming i64 → κ
open Go.Ending renaming returned → ρ
open Go.Obj renaming cells → γ
open Option renaming none → ν, some → μ
open Go.Proofs.Tryz renaming prog → fk
open Go renaming World → eB, Value → eD, Addr → eA, Calls → fj
open Go.Value renaming map → gF, ownBlock → eF
open Go.Instr renaming makeMap → gG
set_option maxRecDepth 100000
set_option maxHeartbeats 4000000
namespace Go.Proofs.YtieklnlbljejdaaGreatDoor
open Go.RowKit St
variable {B b n:Nat} {bs:List Nat} {f:Int->Option SV} {k:Int} {m:FM} {s:SV} {v:Value} {w w' wr:World}
theorem RL:(fk.info? 211).map (λi=>(i.zero,i.size,i.bytes))=μ (μ (.map ν),1,8):=gT
theorem wY(w:eB)(x:eD)(t:TypeId)(g:Nat)(hg:w.heap.size=g):∀(j:Nat) (u:eD),[x][j]? =μ u->(w.alloc (γ #[x] t)).cell? ((⟨g,0,ν⟩:eA).add j)=μ u:=by
 subst hg;exact pT w x t
theorem Vb(b:Option Nat):∀u∈ [gF b],u.oneCell'=true:=by simp[Value.oneCell']
theorem YD(W:eB):(gG 211 ν).run fk W=.ok (.map (μ W.heap.size)) (W.alloc (.map #[] 0)):=rfl
theorem RM(w:eB):(zeroValue 214).run fk w=.ok (.agg #[.map ν,σ ν 0 0]) w:=gT
structure DV(w wr:eB)(v:eD)(bs:List Nat):Prop where
 nN:wr.heap[w.heap.size+1]? =μ (γ #[.map (μ w.heap.size),v] 214 (0,0))
 row:Row wr 1 v bs.length (bs.map λb=>gF (μ b))
 km:SMap wr w.heap.size 0 (λ_=>ν)
 om:∀b∈bs,SMap wr b 0 (λ_=>ν)
 ge:∀b∈bs,w.heap.size+2<=b
 own:∀g,v.ownBlock=μ g->w.heap.size+2<=g/\g∉bs
 nd:bs.Nodup
 nU:eN w wr
theorem DV.step {w3:eB} {v':eD} {o:Obj} {g' jL:Nat} (h:DV w wr v bs)(tI:((wr.alloc (.map #[] 0)).alloc o).grownBy w3 v.ownBlock)(hv:v'=σ (μ ⟨g',0,ν⟩) (bs.length+1) jL)
 (hr:Row w3 1 v' (bs.length+1) ((bs.map λb=>gF (μ b))++ [.map (μ wr.heap.size)])) (ho:v.ownBlock=μ g' \/wr.heap.size+2<=g'):DV w (w3.setCell ⟨w.heap.size+1,1,ν⟩ v') v' (bs++ [wr.heap.size]):=by
 have lB:w.heap.size+1<wr.heap.size:=(aw.1 h.nN).1;have s2:((wr.alloc (.map #[] 0)).alloc o).heap.size=wr.heap.size+2:=iC;have b2:eN wr ((wr.alloc (.map #[] 0)).alloc o):=(iB _ _).alloc iC _;have hs3:=tI.size;have hK:∀i,i<wr.heap.size->v.ownBlock≠μ i->w3.heap[i]? =wr.heap[i]? :=λi hi jV=>(tI.block i eE (λe=>jV e.symm)).trans (b2.block i hi);have hS:∀i,i≠w.heap.size+1->(w3.setCell ⟨w.heap.size+1,1,ν⟩ v').heap[i]? =w3.heap[i]? :=λi hi=>ak _ _ _ i hi;have Qb:w3.heap[w.heap.size+1]? =μ (γ #[.map (μ w.heap.size),v] 214 (0,0)):=(hK _ lB (λe=>by have:=(h.own _ e).1;omega)).trans h.nN;have YE:∀b∈bs,b<wr.heap.size:=λb hb=>(h.om b hb).lt;have Dy:w.heap.size+2<=g'/\g'∉bs/\g'≠wr.heap.size:=by
  rcases ho with e|e
  ·have:=h.own g' e;have h2:=h.row.lt g' e;exact⟨this.1,this.2,eE⟩
  ·exact⟨eE,λhm=>by have:=YE g' hm;omega,eE⟩
 refine⟨?_,?_,?_,?_,?_,?_,?_,?_⟩
 ·have s:=cD w3 (w.heap.size+1) #[.map (μ w.heap.size),v] (#[.map (μ w.heap.size),v].setIfInBounds 1 v') 214 (0,0) Qb;rw[<-bF w3 (w.heap.size+1) 1 _ _ (0,0) _ Qb]at s;exact s
 ·rw[aA,dh];refine hr.keep iC (λk hk=>hS k ?_);rw[hv]at hk;have:g'=k:=by simpa[eF]using hk
  omega
 ·refine h.km.keep ((hS _ eE).trans (hK _ h.km.lt (λe=>by have:=(h.own _ e).1;omega)))
 ·intro b hb;rcases aD.1 hb with hb|hb
  ·have h1:=h.ge b hb;exact(h.om b hb).keep ((hS b eE).trans (hK b (YE b hb) (λe=>(h.own b e).2 hb)))
  ·have:b=wr.heap.size:=by simpa using hb
   subst this;refine(SMap.made wr).keep ((hS _ eE).trans ((tI.block _ eE (λe=> ?_)).trans ?_))
   ·have:=h.row.lt _ e.symm;omega
   ·exact aT _ _ _ iC
 ·intro b hb;rcases aD.1 hb with hb|hb
  ·exact h.ge b hb
  ·have:b=wr.heap.size:=by simpa using hb
   omega
 ·intro g hg;rw[hv]at hg;have:g'=g:=by simpa[eF]using hg
  subst this;refine⟨Dy.1,λhm=> ?_⟩;rcases aD.1 hm with hm|hm
  ·exact Dy.2.1 hm
  ·exact Dy.2.2 (by simpa using hm)
 ·rw[cG];refine⟨h.nd,iC,λa ha b hb=> ?_⟩;have:b=wr.heap.size:=by simpa using hb
  have:=YE a ha;omega
 ·have b3:eN w w3:=⟨tI.os.trans (b2.os.trans h.nU.os),tI.tape.trans (b2.tape.trans h.nU.tape),tI.output.trans (b2.output.trans h.nU.output),by have:=h.nU.size;omega,λi hi=>(hK i eE (λe=>by have:=(h.own i e).1;omega)).trans (h.nU.block i hi)⟩
  exact b3.setCell (by show _<=w.heap.size+1;omega) _
theorem DV.fb(h:DV w wr v bs)(h1:0<bs.length)(h3:bs.length<=3):∃g cap,FB wr (w.heap.size+1) {bm:=w.heap.size,g:=g,cap:=cap,bs:=bs} 0 (λ_=>ν) (λ_ _=>ν):=by
 rcases h.row.2 with⟨_,e⟩|⟨g,cap,e,_⟩
 ·omega
 ·have hg:=h.own g (by rw[e];rfl);have hb:=h.nN;have hr:=h.row;rw[e]at hb hr;refine⟨g,cap,hb,hr,h.km,λi b e2=>h.om b (bC e2),h3,⟨by show w.heap.size≠w.heap.size+1;omega,by show g≠w.heap.size+1;omega,by show w.heap.size≠g;omega,λb mf=> ?_⟩,h.nd⟩;have h4:=h.ge b mf;exact⟨eE,λe3=>hg.2 (by rw[<-show b=g from e3];exact mf),by show b≠w.heap.size;omega⟩
theorem aem(p:Int)(w:eB)(hp:p<1 \/3<p):
 fj fk 66 #[ι κ p] w λe w'=>e=ρ (τ #[π ν,jy 1])/\w=w':=by
 have E1:Hid (jy 1=.iface 128 (ι κ 1)):=rfl;by_cases h1:p<1
 ·clear hp
  go_in
  go_wp2_with(fail);rw[E1.out]
  go_ret2
  exact⟨rfl,rfl⟩
 ·have h3:3<p:=eE;clear hp
  go_in
  go_wp2_with(fail);rw[E1.out]
  go_ret2
  exact⟨rfl,rfl⟩
theorem YF(p:Nat)(w:eB)(hp:1<=p/\p<=3):
 fj fk 66 #[ι κ (p:Int)] w λe w'=>e=ρ (τ #[π (μ ⟨w.heap.size+1,0,ν⟩),η])/\∃v bs,DV w w' v bs/\bs.length=p:=by
 obtain⟨i0,hi,oz,mW,nT⟩:=aW RL;have h1:¬((p:Int)<1):=eE;have h3:¬(3<(p:Int)):=eE;obtain⟨W1,ke⟩:=gH ((w.alloc (.map #[] 0)).alloc (γ #[.map (μ w.heap.size),σ ν 0 0] 214));have hN:DV w W1 (σ ν 0 0) [] :=by
  rw[<-ke];refine⟨?_,Row.nil _ 1,(SMap.made w).alloc _,λb hb=>by simp at hb,λb hb=>by simp at hb,λg hg=>by simp[eF]at hg,dv,(iB _ _).alloc iC _⟩;have:=aV (w.alloc (.map #[] 0)) (γ #[.map (μ w.heap.size),σ ν 0 0] 214);simpa using this
 have HW:Hid _:=ke;have T6:∀W:eB,(gG 211 ν).run fk W=.ok (.map (μ W.heap.size)) (W.alloc (.map #[] 0)):=λW=>YD W;have hzb:=RM;clear ke
 go_in
 go_wp2_with(fail);rw[HW.out]
 go_loopw [16] (λi wr=>∃(j:Nat) (v:eD) (bs:List Nat),j<=p/\i=ι κ j/\bs.length=j/\DV w wr v bs) (λi _=>p-(intOf i).toNat)
 case atStart=>exact⟨0,_,[],Nat.zero_le _,rfl,rfl,hN⟩
 case round=>
  clear hN;obtain⟨j,v,bs,hj,rfl,hl,hR⟩:=hrel;by_cases kH:j<p
  ·have nG:(j:Int)<(p:Int):=eE;have c1:wr.cell? ⟨w.heap.size+1,1,ν⟩=μ v:=av wr _ 1 _ _ (0,0) hR.nN;have lB:w.heap.size+1<wr.heap.size:=af wr _ c1;have ji:=hR.row;rw[hl]at ji;have HL:Hid _:=hl;have HR:Hid _:=hR;clear hR hl;go_wp2_with(at_builtin;go_must(refine iX _ rfl (.tmp 22) (.tmp 24) 212 rfl 211 i0 (.map ν) 1 8 Tryz.underlying212 hi oz mW nT rfl eH v j _ rfl ((ji.alloc _).alloc _) _ 1 1 [.map (μ wr.heap.size)] rfl rfl eH (wY _ _ _ _ iC) (Vb _) (by unfold maxLen;omega) eE ?_));intro g' jL w3 sM tI xS;have Qb:w3.heap[w.heap.size+1]? =μ (γ #[.map (μ w.heap.size),v] 214 (0,0)):=by
    refine(tI.block _ (by simp;omega) (λe=> ?_)).trans ((((iB wr (.map #[] 0)).alloc iC _).block _ lB).trans HR.out.nN);have:=(HR.out.own _ e.symm).1;omega
   have c3:w3.cell? ⟨w.heap.size+1,1,ν⟩=μ v:=av w3 _ 1 _ _ (0,0) Qb;have f3:=bw w3 (w.heap.size+1) 1 _ _ Qb;have l3:w.heap.size+1<w3.heap.size:=af w3 _ c3;have HS:Hid (DV w (w3.setCell ⟨w.heap.size+1,1,ν⟩ (σ (μ ⟨g',0,ν⟩) (j+1) jL)) (σ (μ ⟨g',0,ν⟩) (j+1) jL) (bs++ [wr.heap.size])):=by
    refine HR.out.step tI (by rw[HL.out]) (by rw[HL.out];exact sM) ?_;rcases xS with e|e
    ·exact .inl e
    ·right;simpa using e
   clear sM tI xS Qb ji
   go_wp2
   go_roundw
   case rel=>exact⟨j+1,_,_,eE,by go_num,by simp[HL.out],HS.out⟩
   case measure=>simp[intOf];omega
  ·have Me:j=p:=eE;subst Me;have HR:Hid (∃v bs,DV w wr v bs/\bs.length=j):=⟨v,bs,hR,hl⟩
   clear hR hl
   go_wp2
   go_ret2
   exact⟨rfl,HR.out⟩
abbrev PS:=Int×List j2
structure Iz(w:eB)(m:FM)(k:Int)(q:PS)(s:SV):Prop where
 own:s.own=k
 seq:s.seq=q.1
 n:s.n=q.2.length
 opt:jm w s.a s.n q.2
 nil:kM s.a s.cap
 ok:pj k q.1 q.2=0
 lt:∀j,eF (σ s.a s.n s.cap)=μ j->j<w.heap.size
 far:∀j,eF (σ s.a s.n s.cap)=μ j->j≠m.bm/\j∉m.bs/\¬m.no j
def Tie(w:eB)(m:FM)(f:Int->Option SV)(F:Int->Option PS):Prop:=∀k,rS k->match F k with
 |none=>f k=none
 |some q=>∃s,f k=some s/\Iz w m k q s
theorem Iz.kept {q:PS} (h:Iz w m k q s)(hk:jN w w' m):Iz w' m k q s:=⟨h.own,h.seq,h.n,h.opt.QE (cap:=s.cap) hk (λj hj=>⟨(h.far j hj).1,(h.far j hj).2.1⟩),h.nil,h.ok,λj hj=>Nat.lt_of_lt_of_le (h.lt j hj) hk.size,h.far⟩
theorem Tie.kept {w w':eB} {m:FM} {f:Int->Option SV} {F:Int->Option PS} (h:Tie w m f F)(hk:jN w w' m):Tie w' m f F:=by
 intro k hr;have:=h k hr;cases e:F k with
 |none=>rw[e]at this;exact this
 |some q=>rw[e]at this;obtain⟨s,h1,h2⟩:=this;exact⟨s,h1,h2.kept hk⟩
theorem Tie.xX {F:Int->Option PS} (h:Tie w m f F)(hr:rS k)(e:F k=ν):f k=ν:=by have:=h k hr;rw[e]at this;exact this
theorem Tie.tU {F:Int->Option PS} (h:Tie w m f F)(hr:rS k) {q:PS} (e:F k=μ q):∃s,f k=μ s/\Iz w m k q s:=by have:=h k hr;rw[e]at this;exact this
def uO(F:Int->Option PS)(k:Int)(q:PS):Int->Option PS:=λx=>if x=k then μ q else F x
def zc(F:Int->Option PS)(k:Int):Int->Option PS:=λx=>if x=k then ν else F x
theorem Tie.put {F:Int->Option PS} (h:Tie w m f F) {q:PS} (hs:Iz w m k q s):Tie w m (wv f k s) (uO F k q):=by
 intro x hr;by_cases e:x=k
 ·subst e;simp only[uO,wv,if_true];exact⟨s,rfl,hs⟩
 ·have:=h x hr;simp only[uO,wv,if_neg e];exact this
theorem Tie.out {F:Int->Option PS} (h:Tie w m f F)(k:Int):Tie w m (del f k) (zc F k):=by
 intro x hr;by_cases e:x=k
 ·subst e;simp only[zc,del,if_true]
 ·have:=h x hr;simp only[zc,del,if_neg e];exact this
structure BR(w:eB)(B:Nat)(m:FM)(n:Nat)(K:Int->Option PS)(O:Nat->Int->Option PS):Prop where
 ex:∃kn ow,FB w B m n kn ow/\Tie w m kn K/\∀i,i<m.bs.length->Tie w m (ow i) (O i)
 Oh:∀j,m.no j->j<w.heap.size
theorem BR.F9 {K:Int->Option PS} {O:Nat->Int->Option PS} (h:BR w B m n K O)(hs:w.heap.size<=w'.heap.size):∀j,m.no j->j<w'.heap.size:=λj hj=>Nat.lt_of_lt_of_le (h.Oh j hj) hs
def newF(K:Int->Option PS)(own seq:Int)(es:List j2):Int:=match K own with|none=>1|some q=>mU seq es q.1 q.2
theorem Cj(B:Nat)(m:FM)(k:Nat)(kn:Int->Option SV)(ow:Nat->Int->Option SV)(K:Int->Option PS)(own seq:Int)(a:Option eA)(n cap:Nat)(es:List j2)(w:eB)(h:FB w B m k kn ow)(ht:Tie w m kn K)(hr:rS own)(ho:jm w a n es)(hn:n<=1000000):
 fj fk 217 #[π (μ ⟨B,0,ν⟩),.agg #[ι κ own,ι κ seq,σ a n cap]] w λe w'=>e=ρ (ι κ (newF K own seq es))/\eN w w':=by
 cases e:K own with
 |none=>
  have hv:newF K own seq es=1:=by rw[newF,e]
  rw[hv];exact Kf B m k kn ow own seq a n cap w h hr (ht.xX hr e)
 |some q=>
  obtain⟨s,h1,h2⟩:=ht.tU hr e;have hv:newF K own seq es=mU seq es s.seq q.2:=by rw[newF,e,h2.seq]
  rw[hv];exact Kg B m k kn ow own seq a n cap es s q.2 w h hr h1 ho hn h2.opt
def lR(K:Int->Option PS)(own seq:Int)(es:List j2):Int->Option PS:=if 0<newF K own seq es then uO K own (seq,es)else K
def oW(K:Int->Option PS)(O:Nat->Int->Option PS)(p:Nat)(own seq:Int)(es:List j2):Nat->Int->Option PS:=λi=>
 if 0<newF K own seq es then(if i=p then zc (uO (O p) own (seq,es)) own else uO (O i) own (seq,es))
 else if newF K own seq es<0 then(if i=p then(match K own with|none=>O p|some q=>uO (O p) own q)else O i)
 else(if i=p then zc (O p) own else O i)
theorem Ck(K:Int->Option PS)(own seq:Int)(es:List j2)(h:∀q:PS,mU seq es q.1 q.2= -1 \/mU seq es q.1 q.2=0 \/mU seq es q.1 q.2=1):newF K own seq es= -1 \/newF K own seq es=0 \/newF K own seq es=1:=by
 unfold newF;cases K own with
 |none=>exact .inr (.inr rfl)
 |some q=>exact h q
theorem Oi(B:Nat)(m:FM)(k:Nat)(K:Int->Option PS)(O:Nat->Int->Option PS)(p:Nat)(own seq:Int)(a:Option eA)(n cap:Nat)(es:List j2)(w:eB)(h:BR w B m k K O)(hr:rS own)(hp:p<m.bs.length)(ho:jm w a n es)(kj:kM a cap)(hk:k<=1000000)(hf:pj own seq es=0)
 (hS:∀q:PS,mU seq es q.1 q.2= -1 \/mU seq es q.1 q.2=0 \/mU seq es q.1 q.2=1):
 fj fk 190 #[π (μ ⟨B,0,ν⟩),ι κ (p:Int),.agg #[ι κ own,ι κ seq,σ a n cap]] w λe w'=>e=ρ (τ #[ι κ (newF K own seq es),η])/\BR w' B m (k+1+m.bs.length) (lR K own seq es) (oW K O p own seq es)/\jN w w' m:=by
 obtain⟨kn,ow,hF,hT,hO⟩:=h.ex;have hn:n<=6:=by have:=(jT hf).2.2.1;rw[ho.1]at this;exact this
 have hm:n<=maxLen:=by unfold maxLen;omega
 have rM:∀W,eN w W->fj fk 217 #[π (μ ⟨B,0,ν⟩),.agg #[ι κ own,ι κ seq,σ a n cap]] W λe w'=>e=ρ (ι κ (newF K own seq es))/\eN W w':=λW hb=>
  Cj B m k kn ow K own seq a n cap es W (hF.below hb) (hT.kept (jN.je m hb)) hr (ho.below hb) eE
 rcases Ck K own seq es hS with e|e|e
 ·rw[e]at rM⊢;cases eK:K own with
  |none=>rw[newF,eK]at e;cases e
  |some q=>
   obtain⟨s,h1,h2⟩:=hT.tU hr eK;refine(Rl B m k kn ow p own seq a n cap es w hF hr hp ho hm hf s h1 hk rM).mono ?_;rintro e1 w1 ⟨rfl,F1,M1⟩;refine⟨rfl,⟨⟨_,_,F1.mono eE,?_,λi hi=> ?_⟩,h.F9 M1.size⟩,M1⟩
   ·simp only[lR,e];exact hT.kept M1
   ·simp only[oW,e,eK];by_cases yI:i=p
    ·subst yI;simp;exact((hO i hi).kept M1).put (h2.kept M1)
    ·simp[yI];exact(hO i hi).kept M1
 ·rw[e]at rM⊢;refine(take_zero B m k kn ow p own seq a n cap es w hF hr hp ho hm hf rM).mono ?_;rintro e1 w1 ⟨rfl,F1,M1⟩;refine⟨rfl,⟨⟨_,_,F1.mono eE,?_,λi hi=> ?_⟩,h.F9 M1.size⟩,M1⟩
  ·simp only[lR,e];exact hT.kept M1
  ·simp only[oW,e];by_cases yI:i=p
   ·subst yI;simp;exact((hO i hi).kept M1).out own
   ·simp[yI];exact(hO i hi).kept M1
 ·rw[e]at rM⊢;refine(Rm B m k kn ow p own seq a n cap es w hF hr hp ho hm kj hk hf rM).mono ?_;rintro e1 w1 ⟨rfl,s,T⟩;have hs:Iz w1 m own (seq,es) s:=⟨T.so,T.ss,T.sn,T.so2,T.nil,hf,λj hj=>(T.new j hj).2,λj hj=>by
   have h1:=(T.new j hj).1;exact⟨λe=>by have:=hF.mlt m.bm (.inl rfl);omega,λe=>by have:=hF.mlt j (.inr e);omega,λe=>by have:=h.Oh j e;omega⟩⟩
  refine⟨rfl,⟨⟨_,_,T.fb,?_,λi hi=> ?_⟩,h.F9 T.kept.size⟩,T.kept⟩
  ·simp only[lR,e];exact(hT.kept T.kept).put hs
  ·simp only[oW,e];by_cases yI:i=p
   ·subst yI;simp;exact(((hO i hi).kept T.kept).put hs).out own
   ·simp[yI,hi];exact((hO i hi).kept T.kept).put hs
def pP(F G:Int->Option PS):Int->Option PS:=λk=>if(G k).isSome=true then G k else F k
theorem Tie.over {w:eB} {m:FM} {f g:Int->Option SV} {F G:Int->Option PS} (h:Tie w m f F)(hg:Tie w m g G):Tie w m (Go.Proofs.YtieklnlbljejdaaGreatDoor.over f g) (pP F G):=by
 intro k hr;have h1:=h k hr;have h2:=hg k hr;cases e:G k with
 |none=>
  rw[e]at h2;have e1:pP F G k=F k:=by simp[pP,e]
  have e2:Go.Proofs.YtieklnlbljejdaaGreatDoor.over f g k=f k:=by simp[Go.Proofs.YtieklnlbljejdaaGreatDoor.over,h2]
  rw[e1,e2];exact h1
 |some q=>
  rw[e]at h2;obtain⟨s,h3,h4⟩:=h2;have e1:pP F G k=μ q:=by simp[pP,e]
  have e2:Go.Proofs.YtieklnlbljejdaaGreatDoor.over f g k=μ s:=by simp[Go.Proofs.YtieklnlbljejdaaGreatDoor.over,h3]
  rw[e1,e2];exact⟨s,rfl,h4⟩
theorem Oj(B:Nat)(m:FM)(k:Nat)(K:Int->Option PS)(O:Nat->Int->Option PS)(p:Nat)(w:eB)(h:BR w B m k K O)(hp:p<m.bs.length):
 fj fk 124 #[π (μ ⟨B,0,ν⟩),ι κ (p:Int)] w λe w'=>e=ρ (τ #[])/\BR w' B m k K (λi=>if i=p then λ_=>ν else O i)/\jN w w' m:=by
 obtain⟨kn,ow,hF,hT,hO⟩:=h.ex;refine(Ro B m k kn ow p w hF hp).mono ?_;rintro e w1 ⟨rfl,F1,M1⟩;refine⟨rfl,⟨⟨_,_,F1,hT.kept M1,λi hi=> ?_⟩,h.F9 M1.size⟩,M1⟩;by_cases yI:i=p
 ·simp only[if_pos yI];exact λ_ _=>rfl
 ·simp only[if_neg yI];exact(hO i hi).kept M1
theorem Ok(B:Nat)(m:FM)(k:Nat)(K:Int->Option PS)(O:Nat->Int->Option PS)(p:Nat)(w:eB)(h:BR w B m k K O)(hp:p<m.bs.length)(hk:k<=1000000):
 fj fk 126 #[π (μ ⟨B,0,ν⟩),ι κ (p:Int)] w λe w'=>e=ρ η/\BR w' B m (k+k) K (λi=>if i=p then pP (O p) K else O i)/\jN w w' m:=by
 obtain⟨kn,ow,hF,hT,hO⟩:=h.ex;refine(Ru B m k kn ow p w hF hp hk).mono ?_;rintro e w1 ⟨rfl,F1,M1⟩;refine⟨rfl,⟨⟨_,_,F1,hT.kept M1,λi hi=> ?_⟩,h.F9 M1.size⟩,M1⟩;by_cases yI:i=p
 ·subst yI;simp only[if_true];exact((hO i hi).kept M1).over (hT.kept M1)
 ·simp only[if_neg yI];exact(hO i hi).kept M1
theorem IA(B:Nat)(m:FM)(k:Nat)(K:Int->Option PS)(O:Nat->Int->Option PS)(own seq:Int)(a:Option eA)(n cap:Nat)(es:List j2)(w:eB)(h:BR w B m k K O)(hr:rS own)(ho:jm w a n es)(kj:kM a cap)(hk:k<=1000000)(hf:pj own seq es=0):
 fj fk 67 #[π (μ ⟨B,0,ν⟩),.agg #[ι κ own,ι κ seq,σ a n cap]] w λe w'=>e=ρ η/\BR w' B m (k+1+m.bs.length) (uO K own (seq,es)) (λi=>uO (O i) own (seq,es))/\jN w w' m:=by
 obtain⟨kn,ow,hF,hT,hO⟩:=h.ex;refine(Yw B m k kn ow own seq a n cap es w hF hr ho kj hk hf).mono ?_;rintro e w1 ⟨rfl,s,T⟩;have hs:Iz w1 m own (seq,es) s:=⟨T.so,T.ss,T.sn,T.so2,T.nil,hf,λj hj=>(T.new j hj).2,λj hj=>by
  have h1:=(T.new j hj).1;exact⟨λe=>by have:=hF.mlt m.bm (.inl rfl);omega,λe=>by have:=hF.mlt j (.inr e);omega,λe=>by have:=h.Oh j e;omega⟩⟩
 refine⟨rfl,⟨⟨_,_,T.fb,(hT.kept T.kept).put hs,λi hi=> ?_⟩,h.F9 T.kept.size⟩,T.kept⟩;simp only[if_pos hi];exact((hO i hi).kept T.kept).put hs
theorem KO(B:Nat)(m:FM)(k:Nat)(K:Int->Option PS)(O:Nat->Int->Option PS)(p:Nat)(own seq:Int)(a:Option eA)(n cap:Nat)(es:List j2)(w:eB)(h:BR w B m k K O)(hr:rS own)(hp:p<m.bs.length)(ho:jm w a n es)(hf:pj own seq es=0)
 (hS:∀q:PS,mU seq es q.1 q.2= -1 \/mU seq es q.1 q.2=0 \/mU seq es q.1 q.2=1):
 fj fk 191 #[π (μ ⟨B,0,ν⟩),ι κ (p:Int),.agg #[ι κ own,ι κ seq,σ a n cap]] w λe w'=>e=ρ η/\BR w' B m k K (λi=>if i=p/\0<=newF K own seq es then zc (O p) own else O i)/\jN w w' m:=by
 obtain⟨kn,ow,hF,hT,hO⟩:=h.ex;have hn:n<=6:=by have:=(jT hf).2.2.1;rw[ho.1]at this;exact this
 have hm:n<=maxLen:=by unfold maxLen;omega
 have rM:∀W,eN w W->fj fk 217 #[π (μ ⟨B,0,ν⟩),.agg #[ι κ own,ι κ seq,σ a n cap]] W λe w'=>e=ρ (ι κ (newF K own seq es))/\eN W w':=λW hb=>
  Cj B m k kn ow K own seq a n cap es W (hF.below hb) (hT.kept (jN.je m hb)) hr (ho.below hb) eE
 have key:∀w1,FB w1 B m k kn (λi=>if i=p then del (ow p) own else ow i)->jN w w1 m->0<=newF K own seq es->BR w1 B m k K (λi=>if i=p/\0<=newF K own seq es then zc (O p) own else O i):=by
  intro w1 F1 M1 h0;refine⟨⟨_,_,F1,hT.kept M1,λi hi=> ?_⟩,h.F9 M1.size⟩;by_cases yI:i=p
  ·subst yI;simp only[if_true,h0,and_self];exact((hO i hi).kept M1).out own
  ·simp only[yI,if_false,false_and];exact(hO i hi).kept M1
 rcases Ck K own seq es hS with e|e|e
 ·rw[e]at rM;refine(N8 B m k kn ow p own seq a n cap es w hF hp ho hm hf rM).mono ?_;rintro e1 w1 ⟨rfl,b1⟩;have M1:=jN.je m b1;refine⟨rfl,⟨⟨_,_,hF.below b1,hT.kept M1,λi hi=> ?_⟩,h.F9 M1.size⟩,M1⟩;have:¬(i=p/\0<=newF K own seq es):=by rw[e];omega
  simp only[if_neg this];exact(hO i hi).kept M1
 ·rw[e]at rM;refine(Kz B m k kn ow p own seq a n cap es w hF hr hp ho hm hf rM).mono ?_;rintro e1 w1 ⟨rfl,F1,M1⟩;exact⟨rfl,key w1 F1 M1 eE,M1⟩
 ·rw[e]at rM;refine(N7 B m k kn ow p own seq a n cap es w hF hr hp ho hm hf rM).mono ?_;rintro e1 w1 ⟨rfl,F1,M1⟩;exact⟨rfl,key w1 F1 M1 eE,M1⟩
theorem RN(p:Nat)(w:eB)(hp:1<=p/\p<=3):
 fj fk 66 #[ι κ (p:Int)] w λe w'=>e=ρ (τ #[π (μ ⟨w.heap.size+1,0,ν⟩),η])/\∃m:FM,m.bs.length=p/\BR w' (w.heap.size+1) m 0 (λ_=>ν) (λ_ _=>ν)/\eN w w'/\w.heap.size<=m.bm/\w.heap.size<=m.g/\(∀b∈m.bs,w.heap.size<=b):=by
 refine(YF p w hp).mono ?_;rintro e w1 ⟨rfl,v,bs,hN,hl⟩;rcases hN.row.2 with⟨_,e⟩|⟨g,cap,e,_⟩
 ·omega
 ·obtain⟨g2,cap2,hF⟩:=hN.fb eE eE;refine⟨rfl,_,hl,⟨⟨_,_,hF,λ_ _=>rfl,λ_ _ _ _=>rfl⟩,λ_ h=>h.elim⟩,hN.nU,Nat.le_refl _,?_,λb hb=> ?_⟩
  ·have h1:=hF.nN;rw[hN.nN]at h1;have h2:v=FM.sl {bm:=w.heap.size,g:=g2,cap:=cap2,bs:=bs}:=by simpa using h1
   have:=hN.own g2 (by rw[h2];rfl);show w.heap.size<=g2;omega
  ·have:=hN.ge b hb;omega
def mK(F:Int->Option PS):Int->List j2:=λk=>((F k).map (·.2)).getD []
theorem Tie.fine {F:Int->Option PS} (h:Tie w m f F):Fine w f (mK F):=by
 intro k s hr hs;cases e:F k with
 |none=>rw[h.xX hr e]at hs;cases hs
 |some q=>
  obtain⟨t,h1,h2⟩:=h.tU hr e;rw[hs]at h1;obtain rfl:=Option.some.inj h1;have h3:=jT h2.ok;have h4:mK F k=q.2:=by simp[mK,e]
  rw[h4];exact⟨h3.1,h2.own,h2.opt,h2.nil,by have:=h3.2.2.1;have:=h2.n;omega⟩
structure wB(F:Int->Option PS)(n:Nat)(S:Nat->SV)(E:Nat->List j2):Prop where
 at_:∀j,j<n->rS (S j).own/\F (S j).own=μ ((S j).seq,E j)
 ok:∀j,j<n->pj (S j).own (S j).seq (E j)=0
 all:∀k,rS k->(F k).isSome=true->∃j,j<n/\(S j).own=k
 P8:∀i j,i<j->j<n->(S i).own<(S j).own
theorem W7(ts:List SV)(j:Nat)(h:j<ts.length):ts[j]? =μ (ts.getD j SV.zero):=by
 rw[aY,ay h];rfl
theorem Cc.lists {F:Int->Option PS} {ts:List SV} (hR:Cc w w' f (mK F) v ts)(hT:Tie w m f F):
 ∃a cap,v=σ a ts.length cap/\yO w' a ts.length (λj=>ts.getD j SV.zero) (λj=>mK F (ts.getD j SV.zero).own)/\wB F ts.length (λj=>ts.getD j SV.zero) (λj=>mK F (ts.getD j SV.zero).own)/\ts.length<=6/\(∀j,eF v=μ j->w.heap.size<j):=by
 have hel:∀j,j<ts.length->Yz w w' f (mK F) v (ts.getD j SV.zero):=λj hj=>hR.el _ (bC (W7 ts j hj));have hat:∀j,j<ts.length->∃q,F (ts.getD j SV.zero).own=μ q/\q.1=(ts.getD j SV.zero).seq/\q.2=mK F (ts.getD j SV.zero).own/\pj (ts.getD j SV.zero).own q.1 q.2=0:=by
  intro j hj;have h:=hel j hj;obtain⟨t,ht,hs⟩:=h.at_;cases e:F (ts.getD j SV.zero).own with
  |none=>rw[hT.xX h.inr e]at ht;cases ht
  |some q=>
   obtain⟨t2,h2,h3⟩:=hT.tU h.inr e;rw[ht]at h2;obtain rfl:=Option.some.inj h2;exact⟨q,rfl,by rw[hs,h3.seq],by unfold mK;rw[e];rfl,h3.ok⟩
 have hL:wB F ts.length (λj=>ts.getD j SV.zero) (λj=>mK F (ts.getD j SV.zero).own):=by
  refine⟨λj hj=> ?_,λj hj=> ?_,λk hk hs=> ?_,λi j hij hj=> ?_⟩
  ·obtain⟨q,h1,h2,h3,h4⟩:=hat j hj;refine⟨(hel j hj).inr,?_⟩;rw[h1,<-h2,<-h3]
  ·obtain⟨q,h1,h2,h3,h4⟩:=hat j hj;rw[<-h2,<-h3];exact h4
  ·cases e:F k with
   |none=>rw[e]at hs;cases hs
   |some q=>
    obtain⟨t,ht,_⟩:=hT.tU hk e;obtain⟨s,hm,hs2⟩:=hR.all k hk (by rw[ht];rfl);obtain⟨j,hj,hjs⟩:=dr hm;refine⟨j,hj,?_⟩;have:ts.getD j SV.zero=s:=by rw[aY,ay hj];exact hjs
    show(ts.getD j SV.zero).own=k;rw[this];exact hs2
  ·have hp:=hR.P8;have hi:i<ts.length:=eE;have:=dL.1 hp i j hi hj hij;have e1:ts.getD i SV.zero=ts[i] :=by rw[aY,ay hi];rfl
   have e2:ts.getD j SV.zero=ts[j] :=by rw[aY,ay hj];rfl
   show(ts.getD i SV.zero).own<(ts.getD j SV.zero).own;rw[e1,e2];exact this
 have h6:ts.length<=6:=by
  have:=tS (ts.map SV.own) [1,2,3,4,5,6] (by rw[dG];exact hR.P8.imp (λh=>eE)) (λx hx=>by
   obtain⟨s,hs,rfl⟩:=bI.1 hx;obtain⟨j,hj,rfl⟩:=dr hs;have:=jT (hL.ok j hj);have e1:ts.getD j SV.zero=ts[j] :=by rw[aY,ay hj];rfl
   have h1:=this.1;rw[e1]at h1;simp;omega)
  simpa using this
 have hO:∀j,j<ts.length->jm w' (ts.getD j SV.zero).a (ts.getD j SV.zero).n (mK F (ts.getD j SV.zero).own)/\kM (ts.getD j SV.zero).a (ts.getD j SV.zero).cap/\(ts.getD j SV.zero).n<=maxLen:=by
  intro j hj;have h:=hel j hj;refine⟨h.opt,h.nil,?_⟩;have:=(jT (hL.ok j hj)).2.2.1;rw[h.n];unfold maxLen;omega
 rcases hR.shape with⟨rfl,rfl⟩|⟨g,cap,rfl,hS,hg⟩
 ·exact⟨ν,0,rfl,⟨.inl rfl,λj hj=>by simp at hj⟩,hL,h6,λj hj=>by simp[eF]at hj⟩
 ·refine⟨_,_,rfl,⟨.inr ⟨g,0,rfl,λj hj=> ?_⟩,hO⟩,hL,h6,λj hj=> ?_⟩
  ·obtain⟨c1,c2,c3⟩:=hS.cell j _ (W7 ts j hj);rw[show 0+j*3=j*3 by omega];exact⟨c1,c2,c3⟩
  ·have:g=j:=by simpa[eF]using hj
   omega
theorem BR.below {w w':eB} {B:Nat} {m:FM} {k:Nat} {K:Int->Option PS} {O:Nat->Int->Option PS} (h:BR w B m k K O)(hb:eN w w'):BR w' B m k K O:=by
 obtain⟨kn,ow,h1,h2,h3⟩:=h.ex;exact⟨⟨kn,ow,h1.below hb,h2.kept (jN.je m hb),λi hi=>(h3 i hi).kept (jN.je m hb)⟩,h.F9 hb.size⟩
def afX(W:eB)(a:Option eA)(n cap:Nat)(S:Nat->SV):Prop:=(∀j,eF (σ a n cap)=μ j->W.heap.size<j)/\∀i,i<n->∀j,eF (σ (S i).a (S i).n (S i).cap)=μ j->W.heap.size<j
theorem IB(B:Nat)(m:FM)(k:Nat)(K:Int->Option PS)(O:Nat->Int->Option PS)(w:eB)(h:BR w B m k K O):
 fj fk 110 #[π (μ ⟨B,0,ν⟩)] w λe w'=>∃a n cap S E,e=ρ (σ a n cap)/\yO w' a n S E/\wB K n S E/\n<=6/\afX w a n cap S/\eN w w':=by
 obtain⟨kn,ow,hF,hT,hO⟩:=h.ex;refine(KH B m k kn ow (mK K) w hF hT.fine).mono ?_;rintro e w1 ⟨v,ts,rfl,hR⟩;obtain⟨a,cap,rfl,h1,h2,h3,h4⟩:=hR.lists hT;refine⟨a,ts.length,cap,_,_,rfl,h1,h2,h3,⟨h4,λi hi j hj=> ?_⟩,hR.nU⟩;have hm:ts.getD i SV.zero∈ts:=by
  have:ts.getD i SV.zero=ts[i] :=by simp[List.getD,hi]
  rw[this];exact aE hi
 exact((hR.el _ hm).new j hj).1
def wC(K:Int->Option PS)(i:Int):Int:=match K i with|none=>0|some _=>i
def pQ(K:Int->Option PS)(i:Int):Int:=match K i with|none=>0|some q=>q.1
theorem IC(B:Nat)(m:FM)(k:Nat)(K:Int->Option PS)(O:Nat->Int->Option PS)(i:Int)(w:eB)(h:BR w B m k K O)(hr:rS i):
 fj fk 177 #[π (μ ⟨B,0,ν⟩),ι κ i] w λe w'=>∃a cap,e=ρ (τ #[.agg #[ι κ (wC K i),ι κ (pQ K i),σ a (mK K i).length cap],.bool (K i).isSome])/\jm w' a (mK K i).length (mK K i)/\kM a cap/\(mK K i).length<=6/\eN w w':=by
 obtain⟨kn,ow,hF,hT,hO⟩:=h.ex;cases e:K i with
 |none=>
  have hk:=hT.xX hr e;refine(ME B m k kn ow i SV.zero false [] w hF hr (by rw[hk];rfl) (by rw[hk];rfl) ⟨rfl,.inl rfl⟩ eH (λ_=>rfl)).mono ?_;rintro e1 w1 ⟨a,cap,rfl,h1,h2,h3⟩;have e1:mK K i=[] :=by simp[mK,e]
  have e2:wC K i=0:=by simp[wC,e]
  have e3:pQ K i=0:=by simp[pQ,e]
  rw[e1,e2,e3];exact⟨a,cap,rfl,h1,h2,iC,h3⟩
 |some q=>
  obtain⟨s,hs,hq⟩:=hT.tU hr e;have h6:=(jT hq.ok).2.2.1;refine(ME B m k kn ow i s true q.2 w hF hr (by rw[hs];rfl) (by rw[hs];rfl) hq.opt (by rw[hq.n];omega) hq.nil).mono ?_;rintro e1 w1 ⟨a,cap,rfl,h1,h2,h3⟩;have e1:mK K i=q.2:=by simp[mK,e]
  have e2:wC K i=s.own:=by simp[wC,e,hq.own]
  have e3:pQ K i=s.seq:=by simp[pQ,e,hq.seq]
  rw[e1,e2,e3];exact⟨a,cap,rfl,h1,h2,h6,h3⟩
theorem SMap.obj(h:SMap w b n f):∃es cl,w.heap[b]? =μ (.map es cl):=by
 obtain⟨D,⟨es,cl,h1,_⟩,_⟩:=h.own;exact⟨es,cl,h1⟩
theorem wD {g:Nat} {c:Array eD} {t:TypeId} {fr:Nat×Nat} (hc:w.heap[g]? =μ (γ c t fr))(hm:∃es cl,w.heap[b]? =μ (.map es cl)):g≠b:=by
 obtain⟨es,cl,hm⟩:=hm;rintro rfl;rw[hc]at hm;cases hm
theorem pD {p:eA} (hc:w.cell? p=μ v)(hm:∃es cl,w.heap[b]? =μ (.map es cl)):p.block≠b:=by
 obtain⟨es,cl,hm⟩:=hm;rintro rfl;unfold World.cell? at hc;rw[hm]at hc;cases hc
theorem BR.maps {k:Nat} {K:Int->Option PS} {O:Nat->Int->Option PS} (h:BR w B m k K O):∀b,(b=m.bm \/b∈m.bs)->∃es cl,w.heap[b]? =μ (.map es cl):=by
 obtain⟨kn,ow,h1,_,_⟩:=h.ex;intro b hb;rcases hb with rfl|hb
 ·exact h1.km.obj
 ·obtain⟨i,hi,rfl⟩:=dr hb;exact(h1.om i _ (ay hi)).obj
theorem BR.mlt {k:Nat} {K:Int->Option PS} {O:Nat->Int->Option PS} (h:BR w B m k K O):∀b,(b=m.bm \/b∈m.bs)->b<w.heap.size:=by
 intro b hb;obtain⟨es,cl,h1⟩:=h.maps b hb;exact(aw.1 h1).1
theorem jN.cell {w w':eB} {B:Nat} {m:FM} {k:Nat} {K:Int->Option PS} {O:Nat->Int->Option PS} (hk:jN w w' m)(h:BR w B m k K O) {p:eA} {v:eD} (hc:w.cell? p=μ v):w'.cell? p=μ v:=by
 rw[ai (w:=w) (hk.block p.block (af w _ hc) (pD hc (h.maps _ (.inl rfl))) (λe=>pD hc (h.maps _ (.inr e)) rfl))];exact hc
theorem jm.two {k:Nat} {K:Int->Option PS} {O:Nat->Int->Option PS} {a:Option eA} {es:List j2} (h:jm w a n es)(hk:jN w w' m)(hb:BR w B m k K O):jm w' a n es:=by
 refine⟨h.1,?_⟩;rcases h.2 with h2|⟨b,off,rfl,h2⟩
 ·exact .inl h2
 ·exact .inr ⟨b,off,rfl,λj hj=>⟨hk.cell hb (h2 j hj).1,hk.cell hb (h2 j hj).2⟩⟩
open Go.ChangeMaps Go.MapKept
def zOf:eD->Int
 | .int _ z=>z
 |_=>0
theorem SMap.abN(h:SMap w b n f)(hf:∀k,rS k->(f k).isSome=true->1<=k/\k<=6):SMap w b 6 f:=by
 obtain⟨D,⟨es,clock,hb,F,hs,hD⟩,hat⟩:=h.own;refine⟨⟨D,⟨es,clock,hb,F,?_,hD⟩,hat⟩⟩;have wX:∀x∈es.toList,∃z:Int,x.key=.int .i64 z/\1<=z/\z<=6:=by
  intro x hx;obtain⟨y,hy⟩:=F.reads x hx;have hk:=WideElems.rd_key hy;obtain⟨z,hz,hl,hwf⟩:=cB aJ hk;have hr:=za hwf;refine⟨z,hz,hf z hr ?_⟩;cases e:f z with
  |some _=>rfl
  |none=>
   have h0:=hat z hr;rw[e]at h0;have h1:=dR h0;rw[hD,Maps.has_eq]at h1;have sW:y∈(es.toList.map (WideElems.rg fk 3 rR)).foldr DataW.insert [] :=(Go.WideShapes.sorted_perm _).mem_iff.2 (bI.2 ⟨x,hx,WideElems.rg_of hy⟩);have:=List.any_eq_false.1 h1 y sW;rw[hl]at this;simp[qv]at this
 have hpw:=((stamped_iff es clock).1 F.stamped).2.2;have hlen:=tS (es.toList.map (λx=>zOf x.key)) [1,2,3,4,5,6] (by
  rw[dG];refine hpw.imp_of_mem ?_;intro x y hx hy jV e;obtain⟨a,ha,_⟩:=wX x hx;obtain⟨c,hc,_⟩:=wX y hy;rw[ha,hc]at e;simp only[zOf]at e;exact jV (by rw[ha,hc,e])) (λz hz=>by
  obtain⟨x,hx,rfl⟩:=bI.1 hz;obtain⟨a,ha,h1,h2⟩:=wX x hx;rw[ha];simp only[zOf];simp;omega)
 simpa using hlen
theorem Tie.range {F:Int->Option PS} (h:Tie w m f F):∀k,rS k->(f k).isSome=true->1<=k/\k<=6:=by
 intro k hr hs;cases e:F k with
 |none=>rw[h.xX hr e]at hs;cases hs
 |some q=>
  obtain⟨s,_,h2⟩:=h.tU hr e;exact(jT h2.ok).1
theorem BR.six {K:Int->Option PS} {O:Nat->Int->Option PS} (h:BR w B m n K O):BR w B m 6 K O:=by
 obtain⟨kn,ow,hF,hT,hO⟩:=h.ex;exact⟨⟨kn,ow,⟨hF.nN,hF.row,hF.km.abN hT.range,λi b e=>(hF.om i b e).abN (hO i (aH.1 e).1).range,hF.few,hF.nB,hF.nd⟩,hT,hO⟩,h.Oh⟩
theorem BR.avoid(h:BR w B m n (λ_=>ν) (λ_ _=>ν))(no:Nat->Prop)(mr:∀j,no j->j<w.heap.size):BR w B {m with no:=no} n (λ_=>ν) (λ_ _=>ν):=by
 obtain⟨kn,ow,hF,hT,hO⟩:=h.ex;exact⟨⟨kn,ow,⟨hF.nN,hF.row,hF.km,hF.om,hF.few,hF.nB,hF.nd⟩,λk hr=>hT k hr,λi hi k hr=>hO i hi k hr⟩,mr⟩
theorem BR.still {K:Int->Option PS} {O:Nat->Int->Option PS} (h:BR w B m n K O)(hs:w.heap.size<=w'.heap.size)(hk:∀j,j<w.heap.size->¬m.no j->w'.heap[j]? =w.heap[j]?)
 (hB:¬m.no B) (hg:¬m.no m.g) (hm:∀b,(b=m.bm \/b∈m.bs)->¬m.no b) (no':Nat->Prop) (h1:∀j,no' j->m.no j \/w.heap.size<=j) (h2:∀j,no' j->j<w'.heap.size):BR w' B {m with no:=no'} n K O:=by
 have Mg:=h.mlt;obtain⟨kn,ow,hF,hT,hO⟩:=h.ex;have mp:∀b,(b=m.bm \/b∈m.bs)->w'.heap[b]? =w.heap[b]? :=λb hb=>hk b (Mg b hb) (hm b hb);have tie:∀ {f:Int->Option SV} {F:Int->Option PS},Tie w m f F->Tie w' {m with no:=no'} f F:=by
  intro f F ht x hr;have:=ht x hr;cases e:F x with
  |none=>rw[e]at this;exact this
  |some q=>
   rw[e]at this;obtain⟨s,h3,h4⟩:=this;refine⟨s,h3,⟨h4.own,h4.seq,h4.n,h4.opt.kept (cap:=s.cap) (λj hj=>hk j (h4.lt j hj) (h4.far j hj).2.2),h4.nil,h4.ok,λj hj=>Nat.lt_of_lt_of_le (h4.lt j hj) hs,λj hj=>⟨(h4.far j hj).1,(h4.far j hj).2.1,λe=> ?_⟩⟩⟩;rcases h1 j e with e1|e1
   ·exact(h4.far j hj).2.2 e1
   ·have:=h4.lt j hj;omega
 refine⟨⟨kn,ow,⟨(hk B hF.lt hB).trans hF.nN,hF.row.keep hs (λx hx=> ?_),hF.km.keep (mp _ (.inl rfl)),λi b e=>(hF.om i b e).keep (mp b (.inr (bC e))),hF.few,hF.nB,hF.nd⟩,tie hT,λi hi=>tie (hO i hi)⟩,h2⟩;have hgx:m.g=x:=by simpa[FM.sl,eF]using hx
 subst hgx;exact hk m.g (hF.row.lt _ hx) hg
end Go.Proofs.YtieklnlbljejdaaGreatDoor
