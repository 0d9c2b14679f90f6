import Derived.Test.YtieklnlbljejdaaGreatDoorW04
open Go.Value renaming int → ι, slice → σ, pointer → π, tuple → τ, nilIface → η
open Go.IntKind renaming i64 → κ
open Go.Ending renaming returned → ρ
open Go.Obj renaming cells → γ
open Option renaming none → ν, some → μ
open Go.Value renaming ownBlock → eu, int → eB, slice → gh, oneCell' → eD, map → gk
open Go renaming World → dY, Calls → eZ, Value → dZ, Addr → dX
open Go.Proofs.Tryz renaming prog → e7
open List renaming length_cons → eT
open List.Pairwise renaming nil → gj
open Go.Instr renaming makeMap → gp
set_option maxRecDepth 100000
set_option maxHeartbeats 4000000
open Go.Proofs.Tryz
namespace Go.Proofs.YtieklnlbljejdaaGreatDoor
open Go.RowKit St
variable {B b cap g n:Nat} {bs:List Nat} {es:Int->List jH} {k:Int} {left:Lit->Bool} {m:FM} {o:Obj} {v v':Value} {w w' w1 w3 wr:World}
theorem jF.U9(g:w.grownBy w' (μ b))(hb:b=m.bm \/b∈m.bs):jF w w' m:=by
 refine⟨g.os,g.tape,g.output,g.size,λi hi Z Y=>g.block i hi (λe=> ?_)⟩;have:i=b:=by simpa using e
 subst this;rcases hb with hb|hb
 ·exact Z hb
 ·exact Y hb
theorem tL {x:Nat} (h:w.grownBy w' (μ b))(hx:x<w.heap.size)(Z:x≠b):w'.heap[x]? =w.heap[x]? :=h.block x hx (λe=>Z (by simpa using e))
theorem FB.akI {n':Nat} {kn:Int->Option SV} {ow:Nat->Int->Option SV} {f:Int->Option SV} {i:Nat} (h:FB w B m n kn ow)(hi:m.bs[i]? =μ b)(Z:w.grownBy w' (μ b))(S:SMap w' b n' f)(X:n<=n'):FB w' B m n' kn (λj=>if j=i then f else ow j):=by
 have hb:=h.nB.2.2.2 b (bI hi);refine⟨(tL Z h.lt (λe=>hb.1 e.symm)).trans h.oh,h.row.keep Z.size (λk V=> ?_),(h.km.keep (tL Z h.km.lt (λe=>hb.2.2 e.symm))).mono X,λj c e=> ?_,h.few,h.nB,h.nd⟩
 ·have T:m.g=k:=by simpa[FM.sl,eu]using V
  subst T;exact tL Z (h.row.lt _ V) (λe=>hb.2.1 e.symm)
 ·by_cases Y:j=i
  ·subst Y;rw[hi]at e;obtain rfl:=Option.some.inj e;simp only[if_true];exact S
  ·rw[af Y];have Q:c≠b:=λU=>by
    subst U;exact Y ((List.getElem?_inj (aK.1 e).1 h.nd).1 (e.trans hi.symm))
   exact((h.om j c e).keep (tL Z (h.om j c e).lt Q)).mono X
theorem Va(B:Nat)(m:FM)(k:Nat)(kn:Int->Option SV)(ow:Nat->Int->Option SV)(p:Nat)(w:dY)(h:FB w B m k kn ow)(S:p<m.bs.length)(hk:k<=1000000):
 eZ e7 126 #[π (μ ⟨B,0,ν⟩),ι κ (p:Int)] w λe w'=>e=ρ η/\FB w' B m (k+k) kn (λi=>if i=p then over (ow p) kn else ow i)/\jF w w' m:=by
 have hh:=Dl B m k kn ow (p:Int) w h;have hv:(decide (0<=(p:Int))&&decide ((p:Int)<(m.bs.length:Int)))=true:=by simp;omega
 rw[hv]at hh;clear hv;have hpi:(p:Int)<(m.bs.length:Int):=eh;have yy:=h.few;have X:m.bs[p]? =μ m.bs[p] :=ay S;have bd:eE w w.drew:=below_drewN (au _ _) 1;have Fd:=h.below bd;have V:=QS m.bs[p] m.bm k k (ow p) kn w.drew (Fd.om p _ X) Fd.km (Fd.nB.2.2.2 _ (aF _)).2.2 eh;have U:Hid (∀w',SMap w' m.bs[p] (k+k) (over (ow p) kn)->w.drew.grownBy w' (μ m.bs[p])->FB w' B m (k+k) kn (λi=>if i=p then over (ow p) kn else ow i)/\jF w w' m):=λw' Y Z=>⟨Fd.akI X Z Y eh,(jF.iW m bd).trans (jF.U9 Z (.inr (aF _)))⟩
 have c0:=h.c0;have c1:w.cell? ⟨B,1,ν⟩=μ (σ (μ ⟨m.g,0,ν⟩) m.bs.length m.cap):=h.c1;have lB:=h.lt;have cp:=h.port p _ X;have gl:m.g<w.heap.size:=ag w _ cp;generalize m.bs[p] =bp at cp V U;clear X Fd bd
 go_in
 go_wp2_with(fail);refine hh.mono ?_;rintro e w1 ⟨rfl,rfl⟩;clear hh
 go_upto_region 3 with fail
 go_region_with(first|(go_at_call 181;refine V.mono ?_;rintro e w2 ⟨rfl,Y,Z⟩)|fail)
 all_goals
  have T:Hid _:=U.out _ Y Z;clear Y Z
  go_wp2
  go_ret;exact⟨rfl,T.out⟩
def SV.cells(s:SV):List dZ:=[ι κ s.own,ι κ s.seq,σ s.a s.n s.cap]
def Lf(ss:List SV):List dZ:=ss.flatMap SV.cells
theorem Lg(ss:List SV)(s:SV):Lf (ss++ [s])=Lf ss++ [ι κ s.own,ι κ s.seq,σ s.a s.n s.cap] :=by simp[Lf,SV.cells]
theorem Jo:∀(ss:List SV) (j:Nat) (s:SV),ss[j]? =μ s->(Lf ss)[j*3]? =μ (ι κ s.own)/\(Lf ss)[j*3+1]? =μ (ι κ s.seq)/\(Lf ss)[j*3+2]? =μ (σ s.a s.n s.cap)
 |[],j,s,h=>by simp at h
 |x::l,0,s,h=>by
  have:x=s:=by simpa using h
  subst this;exact⟨rfl,rfl,rfl⟩
 |x::l,j+1,s,h=>by
  have V:l[j]? =μ s:=by simpa using h
  obtain⟨a,b,c⟩:=Jo l j s V;have e:Lf (x::l)=ι κ x.own::ι κ x.seq::σ x.a x.n x.cap::Lf l:=rfl;have Z:(j+1)*3=j*3+3:=eh;have Y:(j+1)*3+1=j*3+1+3:=eh;have X:(j+1)*3+2=j*3+2+3:=eh;rw[e,Y,X,Z];simp only[List.getElem?_cons_succ];exact⟨a,b,c⟩
theorem Row.sr {ss:List SV} (h:Row w 3 (σ (μ ⟨g,0,ν⟩) ss.length cap) ss.length (Lf ss)):SR w g cap ss:=by
 rcases h.2 with⟨e,_⟩|⟨g',jv,e,_,Z,Y,_,hs⟩
 ·cases e
 ·cases e;refine⟨h.lt g rfl,λj s e=> ?_,hs,Z,Y⟩;obtain⟨a,b,c⟩:=Jo ss j s e;exact⟨Row.cell h _ _ a,Row.cell h _ _ b,Row.cell h _ _ c⟩
theorem uX:∀(l m:List Int),l.Pairwise (· ≠·)->(∀x∈l,x∈m)->l.length<=m.length
 |[],_,_,_=>Nat.zero_le _
 |x::l,m,hp,hs=>by
  obtain⟨Z,Y⟩:=cA.1 hp;have hx:=hs x gZ;have:=uX l (m.erase x) Y (λy hy=>(db (λe=>Z y hy e.symm)).2 (hs y (cM _ hy)));rw[cV hx]at this;have hm:0<m.length:=dN hx;simp only[eT];omega
structure ach(w wr:dY)(f:Int->Option SV)(es:Int->List jH)(v:dZ)(s:SV):Prop where
 at_:∃t,f s.own=μ t/\s.seq=t.seq
 inr:sJ s.own
 n:s.n=(es s.own).length
 opt:jg wr s.a s.n (es s.own)
 nil:kN s.a s.cap
 new:∀j,eu (σ s.a s.n s.cap)=μ j->w.heap.size<j/\j<wr.heap.size/\v.ownBlock≠μ j
structure Vb(w wr:dY)(f:Int->Option SV)(es:Int->List jH)(left:Lit->Bool)(v:dZ)(out:List SV):Prop where
 row:Row wr 3 v out.length (Lf out)
 own:∀g,v.ownBlock=μ g->w.heap.size<g
 el:∀s∈out,ach w wr f es v s/\left (.int .i64 s.own)=false
 df:out.Pairwise (λx y=>x.own≠y.own)
 all:∀k,sJ k->(f k).isSome=true->left (.int .i64 k)=false->∃s∈out,s.own=k
 nU:eE w wr
theorem Vb.step {f:Int->Option SV} {out:List SV} {s t:SV} (h:Vb w wr f es left v out)
 (Y:wr.grownBy w1 (μ w.heap.size)) (G:w1.grownBy w3 v.ownBlock) (A:Row w3 3 v' (out.length+1) (Lf out++ [ι κ s.own,ι κ s.seq,σ s.a s.n s.cap]))
 (hv:∀g,v'.ownBlock=μ g->v.ownBlock=μ g \/wr.heap.size<=g) (hw:w.heap.size<wr.heap.size) (y:∀j,eu (σ s.a s.n s.cap)=μ j->wr.heap.size<=j/\j<w3.heap.size/\v'.ownBlock≠μ j)
 (hx:sJ s.own) (S:left (.int .i64 s.own)=true) (T:f s.own=μ t) (Z:s.seq=t.seq) (E:s.n=(es s.own).length) (D:jg w3 s.a s.n (es s.own)) (u:kN s.a s.cap):
 Vb w w3 f es (λz=>left z&& !z.sameKey (.int .i64 s.own)) v' (out++ [s]):=by
 have rV:wr.heap.size<=w3.heap.size:=Nat.le_trans Y.size G.size;have Q:∀i,i<wr.heap.size->i≠w.heap.size->v.ownBlock≠μ i->w3.heap[i]? =wr.heap[i]? :=λi hi V U=>
  (G.block i (Nat.lt_of_lt_of_le hi Y.size) (λe=>U e.symm)).trans (Y.block i hi (λe=>V (by simpa using e)))
 refine⟨?_,?_,?_,?_,?_,?_⟩
 ·rw[Lg,az];exact A
 ·intro g J;rcases hv g J with e|e
  ·exact h.own g e
  ·omega
 ·intro q Z;rcases av.1 Z with Z|Z
  ·obtain⟨a,b⟩:=h.el q Z;refine⟨⟨a.at_,a.inr,a.n,a.opt.kept (cap:=q.cap) (λj X=> ?_),a.nil,λj X=> ?_⟩,by simp[b]⟩
   ·obtain⟨c1,c2,c3⟩:=a.new j X;exact Q j c2 eh c3
   ·obtain⟨c1,c2,c3⟩:=a.new j X;refine⟨c1,eh,λe=> ?_⟩;rcases hv j e with e|e
    ·exact c3 e
    ·omega
  ·have:q=s:=by simpa using Z
   subst this;refine⟨⟨⟨t,T,jf⟩,hx,E,D,u,λj X=> ?_⟩,by simp[ry]⟩;obtain⟨c1,c2,c3⟩:=y j X;exact⟨eh,c2,c3⟩
 ·rw[br];refine⟨h.df,List.pairwise_singleton _ _,λa M b hb=> ?_⟩;have:b=s:=by simpa using hb
  subst this;intro e;have:=(h.el a M).2;rw[e,S]at this;cases this
 ·intro k H hs hl;by_cases e:k=s.own
  ·exact⟨s,gZ,e.symm⟩
  ·have:left (.int .i64 k)=false:=by simpa[ry,e]using hl
   obtain⟨q,V,U⟩:=h.all k H hs this;exact⟨q,by simp[V],U⟩
 ·refine⟨?_,?_,?_,?_,?_⟩
  ·exact G.os.trans (Y.os.trans h.nU.os)
  ·exact G.tape.trans (Y.tape.trans h.nU.tape)
  ·exact G.output.trans (Y.output.trans h.nU.output)
  ·exact Nat.le_trans h.nU.size rV
  ·intro i hi;refine(Q i eh eh (λe=> ?_)).trans (h.nU.block i hi);have:=h.own i e;omega
theorem Vb.few {f:Int->Option SV} {out:List SV} (h:Vb w wr f es left v out)(hf:∀k s,sJ k->f k=μ s->1<=k/\k<=6):out.length<=6:=by
 have Z:=uX (out.map SV.own) [1,2,3,4,5,6] (by rw[dA];exact h.df) (λx hx=>by
  obtain⟨s,hs,rfl⟩:=bH.1 hx;obtain⟨t,Y,_⟩:=(h.el s hs).1.at_;have:=hf _ t (h.el s hs).1.inr Y;simp;omega)
 simpa using Z
theorem infoState:(e7.info? 40).map (λi=>(i.zero,i.size,i.bytes))=μ (μ (.agg #[ι κ 0,ι κ 0,σ ν 0 0]),3,40):=gX
theorem Ce(w:dY)(x y z:dZ)(t:TypeId)(g:Nat)(Z:w.heap.size=g):∀(j:Nat) (u:dZ),[x,y,z][j]? =μ u->(w.alloc (γ #[x,y,z] t)).cell? ((⟨g,0,ν⟩:dX).add j)=μ u:=by
 subst Z;intro j u Y;rw[add_plain,aq];simpa using Y
theorem Vc(x y:Int)(a:Option dX)(n c:Nat):∀u∈ [eB .i64 x,eB .i64 y,gh a n c],u.oneCell'=true:=by simp[eD]
structure Ew(w w':dY)(f:Int->Option SV)(es:Int->List jH)(v:dZ)(ts:List SV):Prop where
 shape:(v=σ ν 0 0/\ts=[]) \/ ∃g cap,v=σ (μ ⟨g,0,ν⟩) ts.length cap/\SR w' g cap ts/\w.heap.size<g
 el:∀s∈ts,ach w w' f es v s
 Q6:Nr ts
 all:∀k,sJ k->(f k).isSome=true->∃s∈ts,s.own=k
 nU:eE w w'
theorem Vb.aci {f:Int->Option SV} {out:List SV} (h:Vb w wr f es left v out)(hl:∀X,left X=false)(hv:v=σ ν 0 0):Ew w wr f es v [] /\out=[] :=by
 have Y:out=[] :=by
  rcases h.row.2 with⟨_,e⟩|⟨g,cap,e,_⟩
  ·exact aH e
  ·rw[hv]at e;cases e
 subst Y;exact⟨⟨.inl ⟨hv,rfl⟩,λs hs=>by simp at hs,gj,λk Z hs=>h.all k Z hs (hl _),h.nU⟩,rfl⟩
theorem Vb.afR {f:Int->Option SV} {out ts:List SV} (h:Vb w wr f es left (σ (μ ⟨g,0,ν⟩) out.length cap) out)(hl:∀H,left H=false)
 (hs:SR w' g cap ts) (X:ts.Perm out) (J:Nr ts) (Z:wr.grownBy w' (μ g)):Ew w w' f es (σ (μ ⟨g,0,ν⟩) out.length cap) ts:=by
 have V:w.heap.size<g:=h.own g rfl;refine⟨.inr ⟨g,cap,by rw[X.length_eq],hs,V⟩,λs M=> ?_,J,λk Q U=> ?_,?_⟩
 ·have a:=(h.el s (X.mem_iff.1 M)).1;refine⟨a.at_,a.inr,a.n,a.opt.kept (cap:=s.cap) (λj Y=> ?_),a.nil,λj Y=> ?_⟩
  ·obtain⟨c1,c2,c3⟩:=a.new j Y;exact Z.block j c2 (λe=>c3 e.symm)
  ·obtain⟨c1,c2,c3⟩:=a.new j Y;exact⟨c1,Nat.lt_of_lt_of_le c2 Z.size,c3⟩
 ·obtain⟨s,T,S⟩:=h.all k Q U (hl _);exact⟨s,X.mem_iff.2 T,S⟩
 ·refine⟨Z.os.trans h.nU.os,Z.tape.trans h.nU.tape,Z.output.trans h.nU.output,Nat.le_trans h.nU.size Z.size,λi hi=>(Z.block i (Nat.lt_of_lt_of_le hi h.nU.size) (λe=> ?_)).trans (h.nU.block i hi)⟩;have:i=g:=by simpa using e
  omega
theorem Vd(w:dY):eZ e7 202 #[σ ν 0 0,.func (.func 203) #[] #[]] w λe w'=>e=ρ (τ #[])/\w=w':=by
 have Z:=Po 0 eA w;have X:eZ e7 232 #[σ ν 0 0,ι κ 0,ι κ 0,.func (.func 203) #[] #[]] w λe w'=>e=ρ (τ #[])/\w=w':=by
  go_in
  go_wp2_with(fail);refine bZ 1 ?_;rw[bR]
  go_wp2
  first|go_end0|refine iM rfl rfl ?_
  exact⟨rfl,rfl⟩
 have Y:∀L:Int,eZ e7 220 #[σ ν 0 0,ι κ 0,ι κ 0,ι κ L,.func (.func 203) #[] #[]] w λe w'=>e=ρ (τ #[])/\w=w':=by
  intro L
  go_in
  go_wp2_with(fail);refine bZ 1 ?_;rw[bR];go_wp2_with(fail);refine X.mono ?_;rintro e w1 ⟨rfl,rfl⟩
  go_wp2
  first|go_end0|refine iM rfl rfl ?_
  exact⟨rfl,rfl⟩
 go_in
 go_wp2_with(fail);refine Z.mono ?_;rintro e w1 ⟨r,rfl,rfl⟩;go_wp2_with(fail);refine(Y r).mono ?_;rintro e w2 ⟨rfl,rfl⟩
 go_wp2
 first|go_end0|refine iM rfl rfl ?_
 exact⟨rfl,rfl⟩
theorem NN {w2:dY} {o2:Obj} {row:Option Nat} (k2:Below (w1.alloc o).heap.size (w1.alloc o) w2)(Z:(w2.alloc o2).grownBy w3 row):w1.grownBy w3 row:=by
 have s1:(w1.alloc o).heap.size=w1.heap.size+1:=gZ;have s2:(w2.alloc o2).heap.size=w2.heap.size+1:=gZ;have hk:=k2.size;have b1:=gY w1 o;have b2:=gY w2 o2;refine⟨Z.os.trans (b2.os.trans (k2.os.trans b1.os)),Z.tape.trans (b2.tape.trans (k2.tape.trans b1.tape)),Z.output.trans (b2.output.trans (k2.output.trans b1.output)),by have:=Z.size;omega,λi hi Y=> ?_⟩;exact(Z.block i eh Y).trans ((b2.block i eh).trans ((k2.block i eh).trans (b1.block i hi)))
theorem Ex(b n:Nat)(f:Int->Option SV)(es:Int->List jH)(w:dY)(h:SMap w b n f)
 (hf:∀k s,sJ k->f k=μ s->(1<=k/\k<=6)/\s.own=k/\jg w s.a s.n (es k)/\kN s.a s.cap/\s.n<=1000000):
 eZ e7 160 #[.map (μ b)] w λe w'=>∃v ts,e=ρ v/\Ew w w' f es v ts:=by
 obtain⟨i0,hi,oB,np,mI⟩:=aX infoState;obtain⟨D,jq,Nc⟩:=h.own;have AJ:=h.lt;have hz:=pQ;have H0:Hid (∀k,sJ k->f k=ν->∀z,D.atKey (.int .i64 k) z=z):=λk Y e=>by have:=Nc k Y;rw[e]at this;exact this
 have H1:Hid (∀k s,sJ k->f k=μ s->∀z,D.atKey (.int .i64 k) z=.held s):=λk s Y e=>by have:=Nc k Y;rw[e]at this;exact this
 have HF:Hid _:=hf;clear Nc h hf
 go_in
 go_wp2_with(first
  |(at_range;refine wpList_range_own _ rfl _ 211 rfl 3 40 uT underlying211 tG b n _ rfl jq ?_;intro w0 Un A hs0)
  |fail)
 go_frame
 go_loopw [3] (λv wr=>∃(left:Lit->Bool) (Q:Nat) (out:List SV),wr.ranges e7 3 tG b w.heap.size n D left Q/\w.heap.size<wr.heap.size/\Vb w wr f es left v out)
  (λ_ wr=>wr.rangeLeft b w.heap.size)
 case atStart=>
  refine⟨_,_,[],Un,eh,⟨Row.nil _ 3,λg hg=>by simp[eu]at hg,λs hs=>by simp at hs,gj,λk Y S h2=> ?_,⟨A.os,A.tape,A.output,A.size,λi hi=>A.block i hi gZ⟩⟩⟩;cases e:f k with
  |none=>rw[e]at S;cases S
  |some s=>
   rw[dM (H1.out k s Y e)]at h2;cases h2
 case round=>
  clear Un A hs0 jq;obtain⟨left,Q,out,Hh,hww,hC⟩:=hrel;go_wp2_with(first
   |(at_next;refine wpList_next_ranges _ rfl _ rfl 3 uT tG (eB .i64) SV.v (λkey kl yz=>by obtain⟨x,rfl,_⟩:=cz underlying3 yz;exact⟨x,rfl⟩) (λv y hv=>by obtain⟨s,rfl,_⟩:=xr hv;exact⟨s,rfl⟩) b w.heap.size n _ _ _ rfl Hh ?_ ?_)
   |fail)
  ·intro rL vY;have u:=hC.few (λk s Y e=>(HF.out k s Y e).1);rcases hC.row.2 with⟨hv,Ve⟩|⟨g,cap,hv,_⟩
   ·subst hv;have E:Hid _:=(hC.aci vY rfl).1;have Yu:=Vd wr;clear hC Hh vY Ve u;go_wp2_with(fail);refine Yu.mono ?_;rintro e w2 ⟨rfl,rfl⟩;clear Yu
    go_wp2
    go_ret;exact⟨_,_,rfl,E.out⟩
   ·subst hv;have Yu:=UE g out.length cap out wr hC.row.sr rfl u hC.df;have T:Hid _:=hC;have HL:Hid _:=vY;clear hC Hh vY u;go_wp2_with(fail);refine Yu.mono ?_;rintro e w2 ⟨rfl,ts,hS,hp,hr,hg⟩;have E:Hid _:=T.out.afR HL.out hS hp hr hg;clear Yu hS hp hr hg
    go_wp2
    go_ret;exact⟨_,_,rfl,E.out⟩
  ·intro x c kl yd yp w1 KB yz hlx hv hat Uo Gn H DV Az;obtain⟨x',ex,rfl,hwx⟩:=cz underlying3 yz;cases ex;have zv:=AP hwx;obtain⟨Z,cs,ca,V,X⟩:=c;rw[zu]at hv;have hy:yd=.held ⟨Z,cs,ca,V,X⟩:=by have:=Option.some.inj hv;simp only[Prod.mk.injEq]at this;exact this.1.symm
   have J:f x=μ ⟨Z,cs,ca,V,X⟩:=by
    cases e:f x with
    |none=>
     have S:=H0.out x zv e .nil;rw[hat,hy]at S;cases S
    |some s=>
     have S:=H1.out x s zv e .nil;rw[hat,hy]at S;cases S;rfl
   obtain⟨hx6,hxo,CV,kr,M⟩:=HF.out x _ zv J;simp only at hxo CV kr M;subst hxo;have u:=hC.few (λk s Y e=>(HF.out k s Y e).1);have afl:(Instr.entry (π (μ ⟨w.heap.size,0,ν⟩))).run e7 w1=.ok (τ #[ι κ Z,.agg #[ι κ Z,ι κ cs,σ ca V X]]) w1:=Az;have kC:eE w w1:=⟨H.os.trans hC.nU.os,H.tape.trans hC.nU.tape,H.output.trans hC.nU.output,Nat.le_trans hC.nU.size H.size,λi hi=>(H.block i eh (λe=>by simp at e;omega)).trans (hC.nU.block i hi)⟩
   have Dm:=D6 Z cs ca V X (es Z) (w1.alloc (γ #[ι κ Z,ι κ cs,σ ca V X] 40)) M kr (CV.below (kC.alloc kC.size _));have T:Hid _:=hC;have HX:Hid (left (.int .i64 Z)=true/\sJ Z/\f Z=μ ⟨Z,cs,ca,V,X⟩/\wr.grownBy w1 (μ w.heap.size)/\w1.heap.size=wr.heap.size/\w.heap.size<wr.heap.size/\out.length<=6):=⟨hlx,zv,J,H,DV,hww,u⟩
   have HG:Hid (w1.ranges e7 3 tG b w.heap.size n D (λz=>left z&& !z.sameKey (.int .i64 Z)) KB):=Uo;have HM:Hid _:=Gn;have HO:Hid (wr.rangeLeft b w.heap.size=Q):=Hh.left_eq;clear hC hlx zv J H DV hww u Uo Gn Hh Az hat hy hv yz hwx hx6 CV kr M kC;go_wp2_with(fail);refine Dm.mono ?_;rintro e w2 ⟨⟨va,vc,rfl,vo,vn,vl,Gm⟩,k2⟩;clear Dm afl;have wA:Row w2 3 u3 out.length (Lf out):=by
    obtain⟨q1,q2,q3,q4,q5,q6,q7⟩:=HX.out;have s1:(w1.alloc (γ #[ι κ Z,ι κ cs,σ ca V X] 40)).heap.size=w1.heap.size+1:=gZ;refine T.out.row.keep (by have:=k2.size;omega) (λk Y=> ?_);have XA:=T.out.row.lt k Y;have rO:=T.out.own k Y;exact(k2.block k eh).trans (((gY w1 _).block k eh).trans (q4.block k XA (λe=>by simp at e;omega)))
   have h7:out.length<=6:=HX.out.2.2.2.2.2.2;obtain⟨m,hm⟩:=gq (out.length);rw[hm]at wA h7;have HN:Hid _:=hm;clear hm;go_wp2_with(at_builtin;go_must(refine iI _ rfl (.tmp 12) (.tmp 15) 91 rfl 40 i0 (.agg #[ι κ 0,ι κ 0,σ ν 0 0]) 3 40 underlying91 hi oB np mI rfl eA u3 m (Lf out) rfl (wA.alloc _) _ 1 1 [ι κ Z,ι κ cs,σ va (es Z).length vc] rfl rfl eA (Ce _ _ _ _ _ _ gZ) (Vc _ _ _ _ _) (by unfold maxLen;omega) eh ?_));intro g' jv w3 sM rZ sN;have E:Hid (w3.ranges e7 3 tG b w.heap.size n D (λz=>left z&& !z.sameKey (.int .i64 Z)) KB/\w.heap.size<w3.heap.size/\Vb w w3 f es (λz=>left z&& !z.sameKey (.int .i64 Z)) (σ (μ ⟨g',0,ν⟩) (m+1) jv) (out++ [⟨Z,cs,va,(es Z).length,vc⟩])):=by
    obtain⟨q1,q2,q3,q4,q5,q6,q7⟩:=HX.out;have G:=NN k2 rZ;have s1:(w1.alloc (γ #[ι κ Z,ι κ cs,σ ca V X] 40)).heap.size=w1.heap.size+1:=gZ;have s2:(w2.alloc (γ #[ι κ Z,ι κ cs,σ va (es Z).length vc] 40)).heap.size=w2.heap.size+1:=gZ;have k2s:=k2.size;have g3s:=rZ.size;have U:∀k,u3.ownBlock=μ k->w.heap.size<k/\k<wr.heap.size:=λk Y=>⟨T.out.own k Y,T.out.row.lt k Y⟩
    refine⟨World.ranges.kept HG.out G (λe=>by have:=U b e.symm;omega) (λe=>by have:=U _ e.symm;omega),eh,?_⟩;refine T.out.step (s:=⟨Z,cs,va,(es Z).length,vc⟩) (t:=⟨Z,cs,ca,V,X⟩) q4 G (by rw[HN.out];exact sM) (λg hg=> ?_) q6 (λj hj=> ?_) q2 q1 q3 rfl rfl (vo.kept (cap:=vc) (λj hj=> ?_)) vn
    ·have QH:g'=g:=by simpa[eu]using hg
     subst QH;rcases sN with e|e
     ·exact .inl e
     ·right;omega
    ·obtain⟨c1,c2⟩:=Gm j hj;refine⟨eh,eh,λe=> ?_⟩;have QH:g'=j:=by simpa[eu]using e
     subst QH;rcases sN with e|e
     ·have:=U _ e;omega
     ·omega
    ·obtain⟨c1,c2⟩:=Gm j hj;exact(rZ.block j eh (λe=>by have:=U j e.symm;omega)).trans ((gY w2 _).block j c2)
   have Hq:Hid (w3.rangeLeft b w.heap.size<wr.rangeLeft b w.heap.size):=by
    show _<_;rw[World.ranges.left_eq E.out.1,HO.out];exact HM.out
   clear sM rZ sN k2 vo Gm wA HO
   go_wp2
   go_roundw
   case rel=>exact⟨_,KB,_,E.out⟩
   case measure=>exact Hq.out
def Fine(w:dY)(f:Int->Option SV)(es:Int->List jH):Prop:=∀k s,sJ k->f k=μ s->(1<=k/\k<=6)/\s.own=k/\jg w s.a s.n (es k)/\kN s.a s.cap/\s.n<=1000000
theorem NP(B:Nat)(m:FM)(k:Nat)(kn:Int->Option SV)(ow:Nat->Int->Option SV)(es:Int->List jH)(w:dY)(h:FB w B m k kn ow)(hf:Fine w kn es):
 eZ e7 110 #[π (μ ⟨B,0,ν⟩)] w λe w'=>∃v ts,e=ρ v/\Ew w w' kn es v ts:=by
 have Z:=Ex m.bm k kn es w h.km hf;have c0:=h.c0;have lB:=h.lt;clear h hf
 go_in
 go_wp2_with(fail);refine Z.mono ?_;rintro e w2 ⟨v,ts,rfl,Y⟩;have X:Hid _:=Y;clear Z Y
 go_wp2
 go_ret;exact⟨_,_,rfl,X.out⟩
theorem Vf(B:Nat)(m:FM)(k:Nat)(kn:Int->Option SV)(ow:Nat->Int->Option SV)(es:Int->List jH)(p:Nat)(w:dY)(h:FB w B m k kn ow)(U:p<m.bs.length)(hf:Fine w (ow p) es):
 eZ e7 151 #[π (μ ⟨B,0,ν⟩),ι κ (p:Int)] w λe w'=>∃v ts,e=ρ v/\Ew w w' (ow p) es v ts:=by
 have hh:=Dl B m k kn ow (p:Int) w h;have hv:(decide (0<=(p:Int))&&decide ((p:Int)<(m.bs.length:Int)))=true:=by simp;omega
 rw[hv]at hh;clear hv;have hpi:(p:Int)<(m.bs.length:Int):=eh;have yy:=h.few;have Y:m.bs[p]? =μ m.bs[p] :=ay U;have Z:=Ex m.bs[p] k (ow p) es w (h.om p _ Y) hf;have c1:w.cell? ⟨B,1,ν⟩=μ (σ (μ ⟨m.g,0,ν⟩) m.bs.length m.cap):=h.c1;have lB:=h.lt;have cp:=h.port p _ Y;have gl:m.g<w.heap.size:=ag w _ cp;generalize m.bs[p] =bp at cp Z;clear Y h hf
 go_in
 go_wp2_with(fail);refine hh.mono ?_;rintro e w1 ⟨rfl,rfl⟩;clear hh;go_wp2_with(fail);refine Z.mono ?_;rintro e w2 ⟨v,ts,rfl,X⟩;have V:Hid _:=X;clear Z X
 go_wp2
 go_ret;exact⟨_,_,rfl,V.out⟩
theorem Vg:(e7.info? 211).map (λi=>(i.zero,i.size,i.bytes))=μ (μ (.map ν),1,8):=gX
theorem yH(w:dY)(x:dZ)(t:TypeId)(g:Nat)(Z:w.heap.size=g):∀(j:Nat) (u:dZ),[x][j]? =μ u->(w.alloc (γ #[x] t)).cell? ((⟨g,0,ν⟩:dX).add j)=μ u:=by
 subst Z;exact qJ w x t
theorem YJ(b:Option Nat):∀u∈ [gk b],u.oneCell'=true:=by simp[eD]
theorem acj(W:dY):(gp 211 ν).run e7 W=.ok (.map (μ W.heap.size)) (W.alloc (.map #[] 0)):=rfl
theorem Vh(w:dY):(zeroValue 214).run e7 w=.ok (.agg #[.map ν,σ ν 0 0]) w:=gX
structure Gz(w wr:dY)(v:dZ)(bs:List Nat):Prop where
 oh:wr.heap[w.heap.size+1]? =μ (γ #[.map (μ w.heap.size),v] 214 (0,0))
 row:Row wr 1 v bs.length (bs.map λb=>gk (μ b))
 km:SMap wr w.heap.size 0 (λ_=>ν)
 om:∀b∈bs,SMap wr b 0 (λ_=>ν)
 ge:∀b∈bs,w.heap.size+2<=b
 own:∀g,v.ownBlock=μ g->w.heap.size+2<=g/\g∉bs
 nd:bs.Nodup
 nU:eE w wr
theorem Gz.step {g' jv:Nat} (h:Gz w wr v bs)(X:((wr.alloc (.map #[] 0)).alloc o).grownBy w3 v.ownBlock)(hv:v'=σ (μ ⟨g',0,ν⟩) (bs.length+1) jv)
 (G:Row w3 1 v' (bs.length+1) ((bs.map λb=>gk (μ b))++ [.map (μ wr.heap.size)])) (H:v.ownBlock=μ g' \/wr.heap.size+2<=g'):Gz w (w3.setCell ⟨w.heap.size+1,1,ν⟩ v') v' (bs++ [wr.heap.size]):=by
 have D:w.heap.size+1<wr.heap.size:=(ax.1 h.oh).1;have s2:((wr.alloc (.map #[] 0)).alloc o).heap.size=wr.heap.size+2:=gZ;have b2:eE wr ((wr.alloc (.map #[] 0)).alloc o):=(gY _ _).alloc gZ _;have hs3:=X.size;have V:∀i,i<wr.heap.size->v.ownBlock≠μ i->w3.heap[i]? =wr.heap[i]? :=λi hi E=>(X.block i eh (λe=>E e.symm)).trans (b2.block i hi);have U:∀i,i≠w.heap.size+1->(w3.setCell ⟨w.heap.size+1,1,ν⟩ v').heap[i]? =w3.heap[i]? :=λi hi=>ak _ _ _ i hi;have S:w3.heap[w.heap.size+1]? =μ (γ #[.map (μ w.heap.size),v] 214 (0,0)):=(V _ D (λe=>by have:=(h.own _ e).1;omega)).trans h.oh;have Z:∀b∈bs,b<wr.heap.size:=λb hb=>(h.om b hb).lt;have T:w.heap.size+2<=g'/\g'∉bs/\g'≠wr.heap.size:=by
  rcases H with e|e
  ·have:=h.own g' e;have h2:=h.row.lt g' e;exact⟨this.1,this.2,eh⟩
  ·exact⟨eh,λY=>by have:=Z g' Y;omega,eh⟩
 refine⟨?_,?_,?_,?_,?_,?_,?_,?_⟩
 ·have s:=cC w3 (w.heap.size+1) #[.map (μ w.heap.size),v] (#[.map (μ w.heap.size),v].setIfInBounds 1 v') 214 (0,0) S;rw[<-bL w3 (w.heap.size+1) 1 _ _ (0,0) _ S]at s;exact s
 ·rw[az,cS];refine G.keep gZ (λk M=>U k ?_);rw[hv]at M;have:g'=k:=by simpa[eu]using M
  omega
 ·refine h.km.keep ((U _ eh).trans (V _ h.km.lt (λe=>by have:=(h.own _ e).1;omega)))
 ·intro b hb;rcases av.1 hb with hb|hb
  ·have h1:=h.ge b hb;exact(h.om b hb).keep ((U b eh).trans (V b (Z b hb) (λe=>(h.own b e).2 hb)))
  ·have:b=wr.heap.size:=by simpa using hb
   subst this;refine(SMap.made wr).keep ((U _ eh).trans ((X.block _ eh (λe=> ?_)).trans ?_))
   ·have:=h.row.lt _ e.symm;omega
   ·exact aU _ _ _ gZ
 ·intro b hb;rcases av.1 hb with hb|hb
  ·exact h.ge b hb
  ·have:b=wr.heap.size:=by simpa using hb
   omega
 ·intro g Q;rw[hv]at Q;have:g'=g:=by simpa[eu]using Q
  subst this;refine⟨T.1,λY=> ?_⟩;rcases av.1 Y with Y|Y
  ·exact T.2.1 Y
  ·exact T.2.2 (by simpa using Y)
 ·rw[bD];refine⟨h.nd,gZ,λa J b hb=> ?_⟩;have:b=wr.heap.size:=by simpa using hb
  have:=Z a J;omega
 ·have b3:eE w w3:=⟨X.os.trans (b2.os.trans h.nU.os),X.tape.trans (b2.tape.trans h.nU.tape),X.output.trans (b2.output.trans h.nU.output),by have:=h.nU.size;omega,λi hi=>(V i eh (λe=>by have:=(h.own i e).1;omega)).trans (h.nU.block i hi)⟩
  exact b3.setCell (by show _<=w.heap.size+1;omega) _
theorem Gz.fb(h:Gz w wr v bs)(h1:0<bs.length)(U:bs.length<=3):∃g cap,FB wr (w.heap.size+1) {bm:=w.heap.size,g:=g,cap:=cap,bs:=bs} 0 (λ_=>ν) (λ_ _=>ν):=by
 rcases h.row.2 with⟨_,e⟩|⟨g,cap,e,_⟩
 ·omega
 ·have T:=h.own g (by rw[e];rfl);have hb:=h.oh;have Z:=h.row;rw[e]at hb Z;refine⟨g,cap,hb,Z,h.km,λi b X=>h.om b (bI X),U,⟨by show w.heap.size≠w.heap.size+1;omega,by show g≠w.heap.size+1;omega,by show w.heap.size≠g;omega,λb Y=> ?_⟩,h.nd⟩;have h4:=h.ge b Y;exact⟨eh,λV=>T.2 (by rw[<-show b=g from V];exact Y),by show b≠w.heap.size;omega⟩
theorem aiU(p:Int)(w:dY)(Y:p<1 \/3<p):
 eZ e7 66 #[ι κ p] w λe w'=>e=ρ (τ #[π ν,jk 1])/\w=w':=by
 have Z:Hid (jk 1=.iface 128 (ι κ 1)):=rfl;by_cases h1:p<1
 ·clear Y
  go_in
  go_wp2_with(fail);rw[Z.out]
  go_ret2
  exact⟨rfl,rfl⟩
 ·have h3:3<p:=eh;clear Y
  go_in
  go_wp2_with(fail);rw[Z.out]
  go_ret2
  exact⟨rfl,rfl⟩
theorem acn(p:Nat)(w:dY)(hp:1<=p/\p<=3):
 eZ e7 66 #[ι κ (p:Int)] w λe w'=>e=ρ (τ #[π (μ ⟨w.heap.size+1,0,ν⟩),η])/\∃v bs,Gz w w' v bs/\bs.length=p:=by
 obtain⟨i0,hi,oB,np,mI⟩:=aX Vg;have h1:¬((p:Int)<1):=eh;have h3:¬(3<(p:Int)):=eh;obtain⟨y,T⟩:=gq ((w.alloc (.map #[] 0)).alloc (γ #[.map (μ w.heap.size),σ ν 0 0] 214));have M:Gz w y (σ ν 0 0) [] :=by
  rw[<-T];refine⟨?_,Row.nil _ 1,(SMap.made w).alloc _,λb hb=>by simp at hb,λb hb=>by simp at hb,λg u=>by simp[eu]at u,cW,(gY _ _).alloc gZ _⟩;have:=aY (w.alloc (.map #[] 0)) (γ #[.map (μ w.heap.size),σ ν 0 0] 214);simpa using this
 have D:Hid _:=T;have hmk:∀W:dY,(gp 211 ν).run e7 W=.ok (.map (μ W.heap.size)) (W.alloc (.map #[] 0)):=λW=>acj W;have hzb:=Vh;clear T
 go_in
 go_wp2_with(fail);rw[D.out]
 go_loopw [16] (λi wr=>∃(j:Nat) (v:dZ) (bs:List Nat),j<=p/\i=ι κ j/\bs.length=j/\Gz w wr v bs) (λi _=>p-(intOf i).toNat)
 case atStart=>exact⟨0,_,[],Nat.zero_le _,rfl,rfl,M⟩
 case round=>
  clear M;obtain⟨j,v,bs,hj,rfl,hl,Z⟩:=hrel;by_cases kD:j<p
  ·have nS:(j:Int)<(p:Int):=eh;have c1:wr.cell? ⟨w.heap.size+1,1,ν⟩=μ v:=aw wr _ 1 _ _ (0,0) Z.oh;have h:w.heap.size+1<wr.heap.size:=ag wr _ c1;have U:=Z.row;rw[hl]at U;have X:Hid _:=hl;have Y:Hid _:=Z;clear Z hl;go_wp2_with(at_builtin;go_must(refine iI _ rfl (.tmp 22) (.tmp 24) 212 rfl 211 i0 (.map ν) 1 8 underlying212 hi oB np mI rfl eA v j _ rfl ((U.alloc _).alloc _) _ 1 1 [.map (μ wr.heap.size)] rfl rfl eA (yH _ _ _ _ gZ) (YJ _) (by unfold maxLen;omega) eh ?_));intro Q J w3 H S G;have V:w3.heap[w.heap.size+1]? =μ (γ #[.map (μ w.heap.size),v] 214 (0,0)):=by
    refine(S.block _ (by simp;omega) (λe=> ?_)).trans ((((gY wr (.map #[] 0)).alloc gZ _).block _ h).trans Y.out.oh);have:=(Y.out.own _ e.symm).1;omega
   have c3:w3.cell? ⟨w.heap.size+1,1,ν⟩=μ v:=aw w3 _ 1 _ _ (0,0) V;have f3:=bB w3 (w.heap.size+1) 1 _ _ V;have l3:w.heap.size+1<w3.heap.size:=ag w3 _ c3;have E:Hid (Gz w (w3.setCell ⟨w.heap.size+1,1,ν⟩ (σ (μ ⟨Q,0,ν⟩) (j+1) J)) (σ (μ ⟨Q,0,ν⟩) (j+1) J) (bs++ [wr.heap.size])):=by
    refine Y.out.step S (by rw[X.out]) (by rw[X.out];exact H) ?_;rcases G with e|e
    ·exact .inl e
    ·right;simpa using e
   clear H S G V U
   go_wp2
   go_roundw
   case rel=>exact⟨j+1,_,_,eh,by go_num,by simp[X.out],E.out⟩
   case measure=>simp[intOf];omega
  ·have A:j=p:=eh;subst A;have Y:Hid (∃v bs,Gz w wr v bs/\bs.length=j):=⟨v,bs,Z,hl⟩
   clear Z hl
   go_wp2
   go_ret2
   exact⟨rfl,Y.out⟩
abbrev PS:=Int×List jH
structure Lh(w:dY)(m:FM)(k:Int)(q:PS)(s:SV):Prop where
 own:s.own=k
 seq:s.seq=q.1
 n:s.n=q.2.length
 opt:jg w s.a s.n q.2
 nil:kN s.a s.cap
 ok:oD k q.1 q.2=0
 lt:∀j,eu (σ s.a s.n s.cap)=μ j->j<w.heap.size
 far:∀j,eu (σ s.a s.n s.cap)=μ j->j≠m.bm/\j∉m.bs/\¬m.no j
def Tie(w:dY)(m:FM)(f:Int->Option SV)(F:Int->Option PS):Prop:=∀k,sJ k->match F k with
 |none=>f k=none
 |some q=>∃s,f k=some s/\Lh w m k q s
theorem Lh.kept {q:PS} {s:SV} (h:Lh w m k q s)(Y:jF w w' m):Lh w' m k q s:=⟨h.own,h.seq,h.n,h.opt.Uf (cap:=s.cap) Y (λj Z=>⟨(h.far j Z).1,(h.far j Z).2.1⟩),h.nil,h.ok,λj Z=>Nat.lt_of_lt_of_le (h.lt j Z) Y.size,h.far⟩
theorem Tie.kept {w w':dY} {m:FM} {f:Int->Option SV} {F:Int->Option PS} (h:Tie w m f F)(X:jF w w' m):Tie w' m f F:=by
 intro k V;have:=h k V;cases e:F k with
 |none=>rw[e]at this;exact this
 |some q=>rw[e]at this;obtain⟨s,Z,Y⟩:=this;exact⟨s,Z,Y.kept X⟩
theorem Tie.zL {f:Int->Option SV} {F:Int->Option PS} (h:Tie w m f F)(Z:sJ k)(e:F k=ν):f k=ν:=by have:=h k Z;rw[e]at this;exact this
theorem Tie.uY {f:Int->Option SV} {F:Int->Option PS} (h:Tie w m f F)(Z:sJ k) {q:PS} (e:F k=μ q):∃s,f k=μ s/\Lh w m k q s:=by have:=h k Z;rw[e]at this;exact this
def wD(F:Int->Option PS)(k:Int)(q:PS):Int->Option PS:=λx=>if x=k then μ q else F x
def yI(F:Int->Option PS)(k:Int):Int->Option PS:=λx=>if x=k then ν else F x
theorem Tie.put {f:Int->Option SV} {F:Int->Option PS} (h:Tie w m f F) {q:PS} {s:SV} (hs:Lh w m k q s):Tie w m (tT f k s) (wD F k q):=by
 intro x Z;by_cases e:x=k
 ·subst e;simp only[wD,tT,if_true];exact⟨s,rfl,hs⟩
 ·have:=h x Z;simp only[wD,tT,if_neg e];exact this
theorem Tie.out {f:Int->Option SV} {F:Int->Option PS} (h:Tie w m f F)(k:Int):Tie w m (del f k) (yI F k):=by
 intro x Z;by_cases e:x=k
 ·subst e;simp only[yI,del,if_true]
 ·have:=h x Z;simp only[yI,del,if_neg e];exact this
structure BR(w:dY)(B:Nat)(m:FM)(n:Nat)(K:Int->Option PS)(O:Nat->Int->Option PS):Prop where
 ex:∃kn ow,FB w B m n kn ow/\Tie w m kn K/\∀i,i<m.bs.length->Tie w m (ow i) (O i)
 Ro:∀j,m.no j->j<w.heap.size
theorem BR.Jp {K:Int->Option PS} {O:Nat->Int->Option PS} (h:BR w B m n K O)(hs:w.heap.size<=w'.heap.size):∀j,m.no j->j<w'.heap.size:=λj Z=>Nat.lt_of_lt_of_le (h.Ro j Z) hs
def newF(K:Int->Option PS)(own seq:Int)(es:List jH):Int:=match K own with|none=>1|some q=>l5 seq es q.1 q.2
theorem Ey(B:Nat)(m:FM)(k:Nat)(kn:Int->Option SV)(ow:Nat->Int->Option SV)(K:Int->Option PS)(own seq:Int)(a:Option dX)(n cap:Nat)(es:List jH)(w:dY)(h:FB w B m k kn ow)(X:Tie w m kn K)(Z:sJ own)(T:jg w a n es)(U:n<=1000000):
 eZ e7 217 #[π (μ ⟨B,0,ν⟩),.agg #[ι κ own,ι κ seq,σ a n cap]] w λe w'=>e=ρ (ι κ (newF K own seq es))/\eE w w':=by
 cases e:K own with
 |none=>
  have hv:newF K own seq es=1:=by rw[newF,e]
  rw[hv];exact M6 B m k kn ow own seq a n cap w h Z (X.zL Z e)
 |some q=>
  obtain⟨s,V,Y⟩:=X.uY Z e;have hv:newF K own seq es=l5 seq es s.seq q.2:=by rw[newF,e,Y.seq]
  rw[hv];exact M7 B m k kn ow own seq a n cap es s q.2 w h Z V T U Y.opt
def lF(K:Int->Option PS)(own seq:Int)(es:List jH):Int->Option PS:=if 0<newF K own seq es then wD K own (seq,es)else K
def oX(K:Int->Option PS)(O:Nat->Int->Option PS)(p:Nat)(own seq:Int)(es:List jH):Nat->Int->Option PS:=λi=>
 if 0<newF K own seq es then(if i=p then yI (wD (O p) own (seq,es)) own else wD (O i) own (seq,es))
 else if newF K own seq es<0 then(if i=p then(match K own with|none=>O p|some q=>wD (O p) own q)else O i)
 else(if i=p then yI (O p) own else O i)
theorem Ez(K:Int->Option PS)(own seq:Int)(es:List jH)(h:∀q:PS,l5 seq es q.1 q.2= -1 \/l5 seq es q.1 q.2=0 \/l5 seq es q.1 q.2=1):newF K own seq es= -1 \/newF K own seq es=0 \/newF K own seq es=1:=by
 unfold newF;cases K own with
 |none=>exact .inr (.inr rfl)
 |some q=>exact h q
theorem Rp(B:Nat)(m:FM)(k:Nat)(K:Int->Option PS)(O:Nat->Int->Option PS)(p:Nat)(own seq:Int)(a:Option dX)(n cap:Nat)(es:List jH)(w:dY)(h:BR w B m k K O)(Q:sJ own)(E:p<m.bs.length)(S:jg w a n es)(kr:kN a cap)(y:k<=1000000)(hf:oD own seq es=0)
 (hS:∀q:PS,l5 seq es q.1 q.2= -1 \/l5 seq es q.1 q.2=0 \/l5 seq es q.1 q.2=1):
 eZ e7 190 #[π (μ ⟨B,0,ν⟩),ι κ (p:Int),.agg #[ι κ own,ι κ seq,σ a n cap]] w λe w'=>e=ρ (τ #[ι κ (newF K own seq es),η])/\BR w' B m (k+1+m.bs.length) (lF K own seq es) (oX K O p own seq es)/\jF w w' m:=by
 obtain⟨kn,ow,hF,U,X⟩:=h.ex;have hn:n<=6:=by have:=(jw hf).2.2.1;rw[S.1]at this;exact this
 have G:n<=maxLen:=by unfold maxLen;omega
 have V:∀W,eE w W->eZ e7 217 #[π (μ ⟨B,0,ν⟩),.agg #[ι κ own,ι κ seq,σ a n cap]] W λe w'=>e=ρ (ι κ (newF K own seq es))/\eE W w':=λW hb=>
  Ey B m k kn ow K own seq a n cap es W (hF.below hb) (U.kept (jF.iW m hb)) Q (S.below hb) eh
 rcases Ez K own seq es hS with e|e|e
 ·rw[e]at V⊢;cases J:K own with
  |none=>rw[newF,J]at e;cases e
  |some q=>
   obtain⟨s,A,u⟩:=U.uY Q J;refine(Ui B m k kn ow p own seq a n cap es w hF Q E S G hf s A y V).mono ?_;rintro D w1 ⟨rfl,M,Z⟩;refine⟨rfl,⟨⟨_,_,M.mono eh,?_,λi hi=> ?_⟩,h.Jp Z.size⟩,Z⟩
   ·simp only[lF,e];exact U.kept Z
   ·simp only[oX,e,J];by_cases Y:i=p
    ·subst Y;simp;exact((X i hi).kept Z).put (u.kept Z)
    ·simp[Y];exact(X i hi).kept Z
 ·rw[e]at V⊢;refine(take_zero B m k kn ow p own seq a n cap es w hF Q E S G hf V).mono ?_;rintro D w1 ⟨rfl,M,Z⟩;refine⟨rfl,⟨⟨_,_,M.mono eh,?_,λi hi=> ?_⟩,h.Jp Z.size⟩,Z⟩
  ·simp only[lF,e];exact U.kept Z
  ·simp only[oX,e];by_cases Y:i=p
   ·subst Y;simp;exact((X i hi).kept Z).out own
   ·simp[Y];exact(X i hi).kept Z
 ·rw[e]at V⊢;refine(Uj B m k kn ow p own seq a n cap es w hF Q E S G kr y hf V).mono ?_;rintro D w1 ⟨rfl,s,T⟩;have hs:Lh w1 m own (seq,es) s:=⟨T.so,T.ss,T.sn,T.so2,T.nil,hf,λj H=>(T.new j H).2,λj H=>by
   have A:=(T.new j H).1;exact⟨λe=>by have:=hF.mlt m.bm (.inl rfl);omega,λe=>by have:=hF.mlt j (.inr e);omega,λe=>by have:=h.Ro j e;omega⟩⟩
  refine⟨rfl,⟨⟨_,_,T.fb,?_,λi hi=> ?_⟩,h.Jp T.kept.size⟩,T.kept⟩
  ·simp only[lF,e];exact(U.kept T.kept).put hs
  ·simp only[oX,e];by_cases Y:i=p
   ·subst Y;simp;exact(((X i hi).kept T.kept).put hs).out own
   ·simp[Y,hi];exact((X i hi).kept T.kept).put hs
def qC(F G:Int->Option PS):Int->Option PS:=λk=>if(G k).isSome=true then G k else F k
theorem Tie.over {w:dY} {m:FM} {f g:Int->Option SV} {F G:Int->Option PS} (h:Tie w m f F)(Q:Tie w m g G):Tie w m (Go.Proofs.YtieklnlbljejdaaGreatDoor.over f g) (qC F G):=by
 intro k V;have U:=h k V;have Z:=Q k V;cases e:G k with
 |none=>
  rw[e]at Z;have Y:qC F G k=F k:=by simp[qC,e]
  have X:Go.Proofs.YtieklnlbljejdaaGreatDoor.over f g k=f k:=by simp[Go.Proofs.YtieklnlbljejdaaGreatDoor.over,Z]
  rw[Y,X];exact U
 |some q=>
  rw[e]at Z;obtain⟨s,T,S⟩:=Z;have Y:qC F G k=μ q:=by simp[qC,e]
  have X:Go.Proofs.YtieklnlbljejdaaGreatDoor.over f g k=μ s:=by simp[Go.Proofs.YtieklnlbljejdaaGreatDoor.over,T]
  rw[Y,X];exact⟨s,rfl,S⟩
theorem Rq(B:Nat)(m:FM)(k:Nat)(K:Int->Option PS)(O:Nat->Int->Option PS)(p:Nat)(w:dY)(h:BR w B m k K O)(T:p<m.bs.length):
 eZ e7 124 #[π (μ ⟨B,0,ν⟩),ι κ (p:Int)] w λe w'=>e=ρ (τ #[])/\BR w' B m k K (λi=>if i=p then λ_=>ν else O i)/\jF w w' m:=by
 obtain⟨kn,ow,hF,U,V⟩:=h.ex;refine(Ul B m k kn ow p w hF T).mono ?_;rintro e w1 ⟨rfl,X,Z⟩;refine⟨rfl,⟨⟨_,_,X,U.kept Z,λi hi=> ?_⟩,h.Jp Z.size⟩,Z⟩;by_cases Y:i=p
 ·simp only[if_pos Y];exact λ_ _=>rfl
 ·simp only[if_neg Y];exact(V i hi).kept Z
theorem Rr(B:Nat)(m:FM)(k:Nat)(K:Int->Option PS)(O:Nat->Int->Option PS)(p:Nat)(w:dY)(h:BR w B m k K O)(S:p<m.bs.length)(T:k<=1000000):
 eZ e7 126 #[π (μ ⟨B,0,ν⟩),ι κ (p:Int)] w λe w'=>e=ρ η/\BR w' B m (k+k) K (λi=>if i=p then qC (O p) K else O i)/\jF w w' m:=by
 obtain⟨kn,ow,hF,V,X⟩:=h.ex;refine(Va B m k kn ow p w hF S T).mono ?_;rintro e w1 ⟨rfl,U,Z⟩;refine⟨rfl,⟨⟨_,_,U,V.kept Z,λi hi=> ?_⟩,h.Jp Z.size⟩,Z⟩;by_cases Y:i=p
 ·subst Y;simp only[if_true];exact((X i hi).kept Z).over (V.kept Z)
 ·simp only[if_neg Y];exact(X i hi).kept Z
theorem Li(B:Nat)(m:FM)(k:Nat)(K:Int->Option PS)(O:Nat->Int->Option PS)(own seq:Int)(a:Option dX)(n cap:Nat)(es:List jH)(w:dY)(h:BR w B m k K O)(S:sJ own)(U:jg w a n es)(Q:kN a cap)(V:k<=1000000)(hf:oD own seq es=0):
 eZ e7 67 #[π (μ ⟨B,0,ν⟩),.agg #[ι κ own,ι κ seq,σ a n cap]] w λe w'=>e=ρ η/\BR w' B m (k+1+m.bs.length) (wD K own (seq,es)) (λi=>wD (O i) own (seq,es))/\jF w w' m:=by
 obtain⟨kn,ow,hF,X,Y⟩:=h.ex;refine(abN B m k kn ow own seq a n cap es w hF S U Q V hf).mono ?_;rintro e w1 ⟨rfl,s,T⟩;have hs:Lh w1 m own (seq,es) s:=⟨T.so,T.ss,T.sn,T.so2,T.nil,hf,λj Z=>(T.new j Z).2,λj Z=>by
  have h1:=(T.new j Z).1;exact⟨λe=>by have:=hF.mlt m.bm (.inl rfl);omega,λe=>by have:=hF.mlt j (.inr e);omega,λe=>by have:=h.Ro j e;omega⟩⟩
 refine⟨rfl,⟨⟨_,_,T.fb,(X.kept T.kept).put hs,λi hi=> ?_⟩,h.Jp T.kept.size⟩,T.kept⟩;simp only[if_pos hi];exact((Y i hi).kept T.kept).put hs
theorem NQ(B:Nat)(m:FM)(k:Nat)(K:Int->Option PS)(O:Nat->Int->Option PS)(p:Nat)(own seq:Int)(a:Option dX)(n cap:Nat)(es:List jH)(w:dY)(h:BR w B m k K O)(M:sJ own)(Q:p<m.bs.length)(V:jg w a n es)(hf:oD own seq es=0)
 (E:∀q:PS,l5 seq es q.1 q.2= -1 \/l5 seq es q.1 q.2=0 \/l5 seq es q.1 q.2=1):
 eZ e7 191 #[π (μ ⟨B,0,ν⟩),ι κ (p:Int),.agg #[ι κ own,ι κ seq,σ a n cap]] w λe w'=>e=ρ η/\BR w' B m k K (λi=>if i=p/\0<=newF K own seq es then yI (O p) own else O i)/\jF w w' m:=by
 obtain⟨kn,ow,hF,T,U⟩:=h.ex;have hn:n<=6:=by have:=(jw hf).2.2.1;rw[V.1]at this;exact this
 have S:n<=maxLen:=by unfold maxLen;omega
 have Y:∀W,eE w W->eZ e7 217 #[π (μ ⟨B,0,ν⟩),.agg #[ι κ own,ι κ seq,σ a n cap]] W λe w'=>e=ρ (ι κ (newF K own seq es))/\eE W w':=λW hb=>
  Ey B m k kn ow K own seq a n cap es W (hF.below hb) (T.kept (jF.iW m hb)) M (V.below hb) eh
 have key:∀w1,FB w1 B m k kn (λi=>if i=p then del (ow p) own else ow i)->jF w w1 m->0<=newF K own seq es->BR w1 B m k K (λi=>if i=p/\0<=newF K own seq es then yI (O p) own else O i):=by
  intro w1 X Z G;refine⟨⟨_,_,X,T.kept Z,λi hi=> ?_⟩,h.Jp Z.size⟩;by_cases J:i=p
  ·subst J;simp only[if_true,G,and_self];exact((U i hi).kept Z).out own
  ·simp only[J,if_false,false_and];exact(U i hi).kept Z
 rcases Ez K own seq es E with e|e|e
 ·rw[e]at Y;refine(QR B m k kn ow p own seq a n cap es w hF Q V S hf Y).mono ?_;rintro H w1 ⟨rfl,b1⟩;have Z:=jF.iW m b1;refine⟨rfl,⟨⟨_,_,hF.below b1,T.kept Z,λi hi=> ?_⟩,h.Jp Z.size⟩,Z⟩;have:¬(i=p/\0<=newF K own seq es):=by rw[e];omega
  simp only[if_neg this];exact(U i hi).kept Z
 ·rw[e]at Y;refine(Na B m k kn ow p own seq a n cap es w hF M Q V S hf Y).mono ?_;rintro H w1 ⟨rfl,X,Z⟩;exact⟨rfl,key w1 X Z eh,Z⟩
 ·rw[e]at Y;refine(QQ B m k kn ow p own seq a n cap es w hF M Q V S hf Y).mono ?_;rintro H w1 ⟨rfl,X,Z⟩;exact⟨rfl,key w1 X Z eh,Z⟩
theorem Vi(p:Nat)(w:dY)(U:1<=p/\p<=3):
 eZ e7 66 #[ι κ (p:Int)] w λe w'=>e=ρ (τ #[π (μ ⟨w.heap.size+1,0,ν⟩),η])/\∃m:FM,m.bs.length=p/\BR w' (w.heap.size+1) m 0 (λ_=>ν) (λ_ _=>ν)/\eE w w'/\w.heap.size<=m.bm/\w.heap.size<=m.g/\(∀b∈m.bs,w.heap.size<=b):=by
 refine(acn p w U).mono ?_;rintro e w1 ⟨rfl,v,bs,Z,hl⟩;rcases Z.row.2 with⟨_,e⟩|⟨g,cap,e,_⟩
 ·omega
 ·obtain⟨Y,cap2,hF⟩:=Z.fb eh eh;refine⟨rfl,_,hl,⟨⟨_,_,hF,λ_ _=>rfl,λ_ _ _ _=>rfl⟩,λ_ h=>h.elim⟩,Z.nU,Nat.le_refl _,?_,λb hb=> ?_⟩
  ·have X:=hF.oh;rw[Z.oh]at X;have V:v=FM.sl {bm:=w.heap.size,g:=Y,cap:=cap2,bs:=bs}:=by simpa using X
   have:=Z.own Y (by rw[V];rfl);show w.heap.size<=Y;omega
  ·have:=Z.ge b hb;omega
def mY(F:Int->Option PS):Int->List jH:=λk=>((F k).map (·.2)).getD []
theorem Tie.fine {f:Int->Option SV} {F:Int->Option PS} (h:Tie w m f F):Fine w f (mY F):=by
 intro k s V hs;cases e:F k with
 |none=>rw[h.zL V e]at hs;cases hs
 |some q=>
  obtain⟨t,Y,Z⟩:=h.uY V e;rw[hs]at Y;obtain rfl:=Option.some.inj Y;have X:=jw Z.ok;have U:mY F k=q.2:=by simp[mY,e]
  rw[U];exact⟨X.1,Z.own,Z.opt,Z.nil,by have:=X.2.2.1;have:=Z.n;omega⟩
structure sQ(F:Int->Option PS)(n:Nat)(S:Nat->SV)(E:Nat->List jH):Prop where
 at_:∀j,j<n->sJ (S j).own/\F (S j).own=μ ((S j).seq,E j)
 ok:∀j,j<n->oD (S j).own (S j).seq (E j)=0
 all:∀k,sJ k->(F k).isSome=true->∃j,j<n/\(S j).own=k
 Q6:∀i j,i<j->j<n->(S i).own<(S j).own
theorem aaL(ts:List SV)(j:Nat)(h:j<ts.length):ts[j]? =μ (ts.getD j SV.zero):=by
 rw[aJ,ay h];rfl
theorem Ew.lists {f:Int->Option SV} {F:Int->Option PS} {ts:List SV} (V:Ew w w' f (mY F) v ts)(M:Tie w m f F):
 ∃a cap,v=σ a ts.length cap/\uv w' a ts.length (λj=>ts.getD j SV.zero) (λj=>mY F (ts.getD j SV.zero).own)/\sQ F ts.length (λj=>ts.getD j SV.zero) (λj=>mY F (ts.getD j SV.zero).own)/\ts.length<=6/\(∀j,eu v=μ j->w.heap.size<j):=by
 have KU:∀j,j<ts.length->ach w w' f (mY F) v (ts.getD j SV.zero):=λj Z=>V.el _ (bI (aaL ts j Z));have hat:∀j,j<ts.length->∃q,F (ts.getD j SV.zero).own=μ q/\q.1=(ts.getD j SV.zero).seq/\q.2=mY F (ts.getD j SV.zero).own/\oD (ts.getD j SV.zero).own q.1 q.2=0:=by
  intro j Z;have h:=KU j Z;obtain⟨t,U,hs⟩:=h.at_;cases e:F (ts.getD j SV.zero).own with
  |none=>rw[M.zL h.inr e]at U;cases U
  |some q=>
   obtain⟨t2,Y,X⟩:=M.uY h.inr e;rw[U]at Y;obtain rfl:=Option.some.inj Y;exact⟨q,rfl,by rw[hs,X.seq],by unfold mY;rw[e];rfl,X.ok⟩
 have S:sQ F ts.length (λj=>ts.getD j SV.zero) (λj=>mY F (ts.getD j SV.zero).own):=by
  refine⟨λj Z=> ?_,λj Z=> ?_,λk A hs=> ?_,λi j J Z=> ?_⟩
  ·obtain⟨q,T,Y,X,E⟩:=hat j Z;refine⟨(KU j Z).inr,?_⟩;rw[T,<-Y,<-X]
  ·obtain⟨q,T,Y,X,E⟩:=hat j Z;rw[<-Y,<-X];exact E
  ·cases e:F k with
   |none=>rw[e]at hs;cases hs
   |some q=>
    obtain⟨t,U,_⟩:=M.uY A e;obtain⟨s,hm,G⟩:=V.all k A (by rw[U];rfl);obtain⟨j,Z,H⟩:=dh hm;refine⟨j,Z,?_⟩;have:ts.getD j SV.zero=s:=by rw[aJ,ay Z];exact H
    show(ts.getD j SV.zero).own=k;rw[this];exact G
  ·have hp:=V.Q6;have hi:i<ts.length:=eh;have:=dC.1 hp i j hi Z J;have Q:ts.getD i SV.zero=ts[i] :=by rw[aJ,ay hi];rfl
   have y:ts.getD j SV.zero=ts[j] :=by rw[aJ,ay Z];rfl
   show(ts.getD i SV.zero).own<(ts.getD j SV.zero).own;rw[Q,y];exact this
 have D:ts.length<=6:=by
  have:=uX (ts.map SV.own) [1,2,3,4,5,6] (by rw[dA];exact V.Q6.imp (λh=>eh)) (λx hx=>by
   obtain⟨s,hs,rfl⟩:=bH.1 hx;obtain⟨j,Z,rfl⟩:=dh hs;have:=jw (S.ok j Z);have Q:ts.getD j SV.zero=ts[j] :=by rw[aJ,ay Z];rfl
   have T:=this.1;rw[Q]at T;simp;omega)
  simpa using this
 have u:∀j,j<ts.length->jg w' (ts.getD j SV.zero).a (ts.getD j SV.zero).n (mY F (ts.getD j SV.zero).own)/\kN (ts.getD j SV.zero).a (ts.getD j SV.zero).cap/\(ts.getD j SV.zero).n<=maxLen:=by
  intro j Z;have h:=KU j Z;refine⟨h.opt,h.nil,?_⟩;have:=(jw (S.ok j Z)).2.2.1;rw[h.n];unfold maxLen;omega
 rcases V.shape with⟨rfl,rfl⟩|⟨g,cap,rfl,hS,hg⟩
 ·exact⟨ν,0,rfl,⟨.inl rfl,λj Z=>by simp at Z⟩,S,D,λj Z=>by simp[eu]at Z⟩
 ·refine⟨_,_,rfl,⟨.inr ⟨g,0,rfl,λj Z=> ?_⟩,u⟩,S,D,λj Z=> ?_⟩
  ·obtain⟨c1,c2,c3⟩:=hS.cell j _ (aaL ts j Z);rw[show 0+j*3=j*3 by omega];exact⟨c1,c2,c3⟩
  ·have:g=j:=by simpa[eu]using Z
   omega
theorem BR.below {w w':dY} {B:Nat} {m:FM} {k:Nat} {K:Int->Option PS} {O:Nat->Int->Option PS} (h:BR w B m k K O)(hb:eE w w'):BR w' B m k K O:=by
 obtain⟨kn,ow,Z,Y,X⟩:=h.ex;exact⟨⟨kn,ow,Z.below hb,Y.kept (jF.iW m hb),λi hi=>(X i hi).kept (jF.iW m hb)⟩,h.Jp hb.size⟩
def aco(W:dY)(a:Option dX)(n cap:Nat)(S:Nat->SV):Prop:=(∀j,eu (σ a n cap)=μ j->W.heap.size<j)/\∀i,i<n->∀j,eu (σ (S i).a (S i).n (S i).cap)=μ j->W.heap.size<j
theorem Cf(B:Nat)(m:FM)(k:Nat)(K:Int->Option PS)(O:Nat->Int->Option PS)(w:dY)(h:BR w B m k K O):
 eZ e7 110 #[π (μ ⟨B,0,ν⟩)] w λe w'=>∃a n cap S E,e=ρ (σ a n cap)/\uv w' a n S E/\sQ K n S E/\n<=6/\aco w a n cap S/\eE w w':=by
 obtain⟨kn,ow,hF,Y,hO⟩:=h.ex;refine(NP B m k kn ow (mY K) w hF Y.fine).mono ?_;rintro e w1 ⟨v,ts,rfl,Z⟩;obtain⟨a,cap,rfl,X,V,U,T⟩:=Z.lists Y;refine⟨a,ts.length,cap,_,_,rfl,X,V,U,⟨T,λi hi j Q=> ?_⟩,Z.nU⟩;have M:ts.getD i SV.zero∈ts:=by
  have:ts.getD i SV.zero=ts[i] :=by simp[List.getD,hi]
  rw[this];exact aF hi
 exact((Z.el _ M).new j Q).1
def ya(K:Int->Option PS)(i:Int):Int:=match K i with|none=>0|some _=>i
def qD(K:Int->Option PS)(i:Int):Int:=match K i with|none=>0|some q=>q.1
theorem Lj(B:Nat)(m:FM)(k:Nat)(K:Int->Option PS)(O:Nat->Int->Option PS)(i:Int)(w:dY)(h:BR w B m k K O)(X:sJ i):
 eZ e7 177 #[π (μ ⟨B,0,ν⟩),ι κ i] w λe w'=>∃a cap,e=ρ (τ #[.agg #[ι κ (ya K i),ι κ (qD K i),σ a (mY K i).length cap],.bool (K i).isSome])/\jg w' a (mY K i).length (mY K i)/\kN a cap/\(mY K i).length<=6/\eE w w':=by
 obtain⟨kn,ow,hF,M,hO⟩:=h.ex;cases e:K i with
 |none=>
  have J:=M.zL X e;refine(Pc B m k kn ow i SV.zero false [] w hF X (by rw[J];rfl) (by rw[J];rfl) ⟨rfl,.inl rfl⟩ eA (λ_=>rfl)).mono ?_;rintro Y w1 ⟨a,cap,rfl,T,S,Q⟩;have Y:mY K i=[] :=by simp[mY,e]
  have V:ya K i=0:=by simp[ya,e]
  have U:qD K i=0:=by simp[qD,e]
  rw[Y,V,U];exact⟨a,cap,rfl,T,S,gZ,Q⟩
 |some q=>
  obtain⟨s,hs,Z⟩:=M.uY X e;have H:=(jw Z.ok).2.2.1;refine(Pc B m k kn ow i s true q.2 w hF X (by rw[hs];rfl) (by rw[hs];rfl) Z.opt (by rw[Z.n];omega) Z.nil).mono ?_;rintro Y w1 ⟨a,cap,rfl,T,S,Q⟩;have Y:mY K i=q.2:=by simp[mY,e]
  have V:ya K i=s.own:=by simp[ya,e,Z.own]
  have U:qD K i=s.seq:=by simp[qD,e,Z.seq]
  rw[Y,V,U];exact⟨a,cap,rfl,T,S,H,Q⟩
theorem NR {F:Int->Option PS} {S:Nat->SV} {E:Nat->List jH} (h:sQ F n S E)(k:Int)(X:sJ k)(Y:(F k).isSome=true)(Z:∀x,x≠k->F x=ν):n=1:=by
 obtain⟨j,hj,ho⟩:=h.all k X Y;by_cases h2n:2<=n
 ·have e0:(S 0).own=k:=by
   by_cases e:(S 0).own=k
   ·exact e
   ·have:=(h.at_ 0 eh).2;rw[Z _ e]at this;cases this
  have e1:(S 1).own=k:=by
   by_cases e:(S 1).own=k
   ·exact e
   ·have:=(h.at_ 1 eh).2;rw[Z _ e]at this;cases this
  have:=h.Q6 0 1 eh eh;omega
 ·omega
theorem SMap.obj {f:Int->Option SV} (h:SMap w b n f):∃es cl,w.heap[b]? =μ (.map es cl):=by
 obtain⟨D,⟨es,cl,Z,_⟩,_⟩:=h.own;exact⟨es,cl,Z⟩
theorem yb {c:Array dZ} {t:TypeId} {fr:Nat×Nat} (hc:w.heap[g]? =μ (γ c t fr))(Z:∃es cl,w.heap[b]? =μ (.map es cl)):g≠b:=by
 obtain⟨es,cl,Z⟩:=Z;rintro rfl;rw[hc]at Z;cases Z
theorem qo {p:dX} (hc:w.cell? p=μ v)(Z:∃es cl,w.heap[b]? =μ (.map es cl)):p.block≠b:=by
 obtain⟨es,cl,Z⟩:=Z;rintro rfl;unfold World.cell? at hc;rw[Z]at hc;cases hc
theorem BR.maps {k:Nat} {K:Int->Option PS} {O:Nat->Int->Option PS} (h:BR w B m k K O):∀b,(b=m.bm \/b∈m.bs)->∃es cl,w.heap[b]? =μ (.map es cl):=by
 obtain⟨kn,ow,Z,_,_⟩:=h.ex;intro b hb;rcases hb with rfl|hb
 ·exact Z.km.obj
 ·obtain⟨i,hi,rfl⟩:=dh hb;exact(Z.om i _ (ay hi)).obj
theorem BR.mlt {k:Nat} {K:Int->Option PS} {O:Nat->Int->Option PS} (h:BR w B m k K O):∀b,(b=m.bm \/b∈m.bs)->b<w.heap.size:=by
 intro b hb;obtain⟨es,cl,Z⟩:=h.maps b hb;exact(ax.1 Z).1
theorem jF.cell {w w':dY} {B:Nat} {m:FM} {k:Nat} {K:Int->Option PS} {O:Nat->Int->Option PS} (Z:jF w w' m)(h:BR w B m k K O) {p:dX} {v:dZ} (hc:w.cell? p=μ v):w'.cell? p=μ v:=by
 rw[aj (w:=w) (Z.block p.block (ag w _ hc) (qo hc (h.maps _ (.inl rfl))) (λe=>qo hc (h.maps _ (.inr e)) rfl))];exact hc
theorem jg.two {k:Nat} {K:Int->Option PS} {O:Nat->Int->Option PS} {a:Option dX} {es:List jH} (h:jg w a n es)(X:jF w w' m)(hb:BR w B m k K O):jg w' a n es:=by
 refine⟨h.1,?_⟩;rcases h.2 with Z|⟨b,off,rfl,Z⟩
 ·exact .inl Z
 ·exact .inr ⟨b,off,rfl,λj Y=>⟨X.cell hb (Z j Y).1,X.cell hb (Z j Y).2⟩⟩
open Go.ChangeMaps Go.MapKept
def zOf:dZ->Int
 | .int _ z=>z
 |_=>0
theorem SMap.afS {f:Int->Option SV} (h:SMap w b n f)(hf:∀k,sJ k->(f k).isSome=true->1<=k/\k<=6):SMap w b 6 f:=by
 obtain⟨D,⟨es,clock,hb,F,hs,Q⟩,hat⟩:=h.own;refine⟨⟨D,⟨es,clock,hb,F,?_,Q⟩,hat⟩⟩;have T:∀x∈es.toList,∃z:Int,x.key=.int .i64 z/\1<=z/\z<=6:=by
  intro x hx;obtain⟨y,hy⟩:=F.reads x hx;have J:=WideElems.rd_key hy;obtain⟨z,U,hl,V⟩:=cz underlying3 J;have M:=AP V;refine⟨z,U,hf z M ?_⟩;cases e:f z with
  |some _=>rfl
  |none=>
   have S:=hat z M;rw[e]at S;have Y:=dK S;rw[Q,Maps.has_eq]at Y;have G:y∈(es.toList.map (WideElems.rg e7 3 tG)).foldr DataW.insert [] :=(Go.WideShapes.sorted_perm _).mem_iff.2 (bH.2 ⟨x,hx,WideElems.rg_of hy⟩);have:=List.any_eq_false.1 Y y G;rw[hl]at this;simp[ry]at this
 have X:=((stamped_iff es clock).1 F.stamped).2.2;have hlen:=uX (es.toList.map (λx=>zOf x.key)) [1,2,3,4,5,6] (by
  rw[dA];refine X.imp_of_mem ?_;intro x y hx hy H e;obtain⟨a,Z,_⟩:=T x hx;obtain⟨c,hc,_⟩:=T y hy;rw[Z,hc]at e;simp only[zOf]at e;exact H (by rw[Z,hc,e])) (λz U=>by
  obtain⟨x,hx,rfl⟩:=bH.1 U;obtain⟨a,Z,Y,h2⟩:=T x hx;rw[Z];simp only[zOf];simp;omega)
 simpa using hlen
theorem Tie.range {f:Int->Option SV} {F:Int->Option PS} (h:Tie w m f F):∀k,sJ k->(f k).isSome=true->1<=k/\k<=6:=by
 intro k Z hs;cases e:F k with
 |none=>rw[h.zL Z e]at hs;cases hs
 |some q=>
  obtain⟨s,_,Y⟩:=h.uY Z e;exact(jw Y.ok).1
theorem BR.six {K:Int->Option PS} {O:Nat->Int->Option PS} (h:BR w B m n K O):BR w B m 6 K O:=by
 obtain⟨kn,ow,hF,Y,Z⟩:=h.ex;exact⟨⟨kn,ow,⟨hF.oh,hF.row,hF.km.afS Y.range,λi b e=>(hF.om i b e).afS (Z i (aK.1 e).1).range,hF.few,hF.nB,hF.nd⟩,Y,Z⟩,h.Ro⟩
theorem BR.avoid(h:BR w B m n (λ_=>ν) (λ_ _=>ν))(no:Nat->Prop)(V:∀j,no j->j<w.heap.size):BR w B {m with no:=no} n (λ_=>ν) (λ_ _=>ν):=by
 obtain⟨kn,ow,hF,X,Y⟩:=h.ex;exact⟨⟨kn,ow,⟨hF.oh,hF.row,hF.km,hF.om,hF.few,hF.nB,hF.nd⟩,λk Z=>X k Z,λi hi k Z=>Y i hi k Z⟩,V⟩
def Still(a b:dY):Prop:=∀(j:Nat) (C:Array dZ) (t:TypeId) (fr:Nat×Nat),a.heap[j]? =μ (Obj.cells C t fr)->b.heap[j]? =a.heap[j]?
namespace Rt
variable {B g o:Nat} {v:Value} {w w' w1:World}
structure lr where
 who:Int
 both:Bool
 left:Int
def nobody:lr:=⟨0,false,0⟩
structure jy where
 m:Int
 L:LS
 rd:kE
 pe:lr
 out:List UInt8
abbrev zi:=Int×Int×List UInt8
structure iO where
 id:Int
 n:Nat
 P:Nat->jy
 K:Int->Option PS
 O:Nat->Int->Option PS
 kd:List zi
 drop:Int
def ll(P:Nat->jy)(i:Nat)(p:jy):Nat->jy:=λx=>if x=i then p else P x
def iO.iU(r:iO)(i:Nat)(p:jy):iO:={r with P:=ll r.P i p}
def jy.put(p:jy)(c:UInt8)(s:List UInt8):jy:=
 if c≠76/\p.L.st≠9 then p else if s.length+1<=60 then {p with out:=p.out++Plain.lS (c::s)}else p
def jy.say(p:jy):List kP->jy
 |[] =>p
 |q::r=>(if jU q.1 q.2.1 q.2.2=0 then p.put 76 (mL q.1 q.2.1 q.2.2)else p).say r
def jy.iL(p:jy)(up:Bool):jy×Nat:=
 let e:=k8 p.L (if up then 0 else 1)
 if e.2.2≠0 then(p,e.2.2)else(({p with L:=e.1,rd:=([],false,false)}:jy).say e.2.1,0)
def je(L:LS):LS×List kP:=
 if(kt L).st=3 then((k8 (k8 (kt L) 1).1 0).1,lT L++(k8 (kt L) 1).2.1++(k8 (k8 (kt L) 1).1 0).2.1)else(kt L,lT L)
def jy.tick(p:jy):jy:=({p with L:=(je p.L).1}:jy).say (je p.L).2
def jy.packet(p:jy)(s:List UInt8):jy:=
 let q:=ja s
 if q.2.2.2=0 then({p with L:=(jN p.L (q.1,q.2.1,q.2.2.1)).1}:jy).say (jN p.L (q.1,q.2.1,q.2.2.1)).2.1 else p
def jR(P:Nat->jy)(n:Int):Nat->Option Nat
 |0=>none
 |k+1=>if(P k).pe.both=true/\(P k).pe.who=n/\(match jR P n k with|none=>true|some b=>decide ((P k).m<(P b).m))=true then some k else jR P n k
def jz(r:iO):List jH:=(List.range 6).filterMap λ(j:Nat)=>(jR r.P ((j:Int)+1) r.n).map λb=>((j:Int)+1,(r.P b).m)
def Bc(K:Int->Option PS)(i:Int):Int:=match K i with|none=>0|some q=>q.1
def C5(K:Int->Option PS)(i:Int):List jH:=match K i with|none=>[] |some q=>q.2
def iO.EA(r:iO)(seq:Int)(es:List jH):iO:={r with K:=wD r.K r.id (seq,es),O:=λi=>wD (r.O i) r.id (seq,es)}
def iO.behind(r:iO)(seq:Int):iO:=if seq<1000000 then r.EA (seq+1) (jz r)else r
def iO.change(r:iO):iO:=if C5 r.K r.id=jz r then r else r.behind (Bc r.K r.id)
def iO.meet(r:iO)(i:Nat)(q:lr):iO:=
 let r1:=r.iU i {r.P i with pe:=q}
 if q.who=(r.P i).pe.who/\q.both=(r.P i).pe.both then r1 else
  let r2:=({r1 with O:=λx=>if x=i then λ_=>ν else r1.O x}:iO).change
  if q.both=true then {r2 with O:=λx=>if x=i then qC (r2.O i) r2.K else r2.O x}else r2
def iO.iL(r:iO)(i:Nat)(up:Bool):iO×Nat:=
 let e:=(r.P i).iL up
 if e.2≠0 then(r,e.2)else((r.iU i e.1).meet i nobody,0)
def uC(K:Int->Option PS):kT:=λx y=>match K x with|none=>0|some q=>((q.2.find? λe=>e.1==(y:Int)).map (·.2)).getD 0
def la(r:iO):List HP:=pw (kL (uC r.K)) r.id.toNat
def iO.send(r:iO)(t:zi):iO:=
 if t.1=r.id then {r with kd:=r.kd++ [t] }else
  match (if 1<=t.2.1 then(A3 (la r) t.1).bind λh=>jR r.P h.rM r.n else ν)with
  |none=>{r with drop:=r.drop+1}
  |some i=>r.iU i ((r.P i).put 77 (j1 t.1::j1 (t.2.1-1)::t.2.2))
def ji(me:Int)(f s:Int):lr:=if f=me then nobody else⟨f,decide (s=me),4⟩
def iK(p:lr):lr:=if p.left<=1 then nobody else {p with left:=p.left-1}
def iO.take(r:iO)(i:Nat)(c:UInt8)(s:List UInt8):iO:=
 let r1:=if c=76 then r.iU i ((r.P i).packet s)else r
 if(r1.P i).L.st≠9 then r1.meet i nobody
 else if c=72 then(if(kI s).2.2=0 then r1.meet i (ji r1.id (kI s).1 (kI s).2.1)else r1)
 else if c=83 then
  (let q:=St.iu s
   if q.2.2.2≠0 \/(r1.P i).pe.both=false then r1
   else if q.1=r1.id/\0<newF r1.K q.1 q.2.1 q.2.2.1 then r1.behind q.2.1
   else
    let r2:iO:={r1 with K:=lF r1.K q.1 q.2.1 q.2.2.1,O:=oX r1.K r1.O i q.1 q.2.1 q.2.2.1}
    if 0<=newF r1.K q.1 q.2.1 q.2.2.1 then r2.iU i ((r2.P i).put 65 (ru q.1 q.2.1 q.2.2.1))else r2)
 else if c=65 then
  (let q:=St.iu s
   if q.2.2.2=0 then {r1 with O:=λx=>if x=i/\0<=newF r1.K q.1 q.2.1 q.2.2.1 then yI (r1.O i) q.1 else r1.O x}else r1)
 else if c=77 then(if 2<=s.length/\s.length<=22 then r1.send (((s.getD 0 0).toNat:Int),((s.getD 1 0).toNat:Int),s.drop 2)else r1)
 else r1
def iO.takes(r:iO)(i:Nat):List (List UInt8)->iO
 |[] =>r
 |t::l=>(match t with|[] =>r|c::s=>r.take i c s).takes i l
def iO.recv(r:iO)(i:Nat)(l:List UInt8):iO:=
 let a:=kB (r.P i).rd l
 (r.iU i {r.P i with rd:=a.2.2}).takes i a.1
def lJ(F:Int->Option PS):List (Int×PS):=(List.range 6).filterMap λ(j:Nat)=>(F ((j:Int)+1)).map λq=>((j:Int)+1,q)
def jy.kJ(p:jy):List (Int×PS)->jy
 |[] =>p
 |q::l=>(p.put 83 (ru q.1 q.2.1 q.2.2)).kJ l
def iO.iY(r:iO)(i:Nat):iO:=
 let r1:=r.iU i (r.P i).tick
 if(r1.P i).L.st≠9 then r1.meet i nobody else
  let r2:=r1.meet i (iK (r1.P i).pe)
  let p:=(r2.P i).put 72 [j1 r2.id,j1 (r2.P i).pe.who]
  r2.iU i (if(r2.P i).pe.both=true then p.kJ (lJ (r2.O i))else p)
def iO.jc(r:iO):Nat->iO
 |0=>r
 |k+1=>(r.jc k).iY k
def iO.tick(r:iO):iO:=r.jc r.n
def iO.out(r:iO)(i:Nat):iO:=r.iU i {r.P i with out:=[] }
def Hz(id:Int)(m:Nat->Int)(i:Nat):jy:=⟨m i,{YK (8*id+i+1)with st:=1},([],false,false),nobody,[]⟩
where YK (g:Int):LS:=⟨255,g,255,g,0,0,0,255,0,0,0⟩
def jO(id:Int)(n:Nat)(m:Nat->Int):iO:=
 ⟨id,n,Hz id m,λx=>if x=id then μ (1,[])else ν,λ_ x=>if x=id then μ (1,[])else ν,[],0⟩
def kg(r:iO)(t:Int)(tx:List UInt8):iO×Nat:=if t<1 \/6<t \/20<tx.length then(r,1)else(r.send (t,8,tx),0)
def xB(p:jy)(B:Nat)(v:dZ)(F:Nat->dZ):Nat->dZ:=λj=>
 if j=0 then .int .i64 p.m else if j=1 then π (μ ⟨B,0,ν⟩)else if j<67 then F (j-2)else if j=67 then .int .i64 p.pe.who else if j=68 then .bool p.pe.both else if j=69 then .int .i64 p.pe.left else v
structure qE(w:dY)(g o B:Nat)(v:dZ)(p:jy):Prop where
 xC:∃F,qz w g o 71 (xB p B v F)/\Dp F p.rd.1 p.rd.2.1 p.rd.2.2
 lk:Lk w B (p.L.c (σ ν 0 0))
 ou:Row w 1 v p.out.length (iR p.out)
 few:p.out.length<=1000000000
 ok:AE p.L
 gB:g≠B
 vg:v.ownBlock≠μ g
 vB:v.ownBlock≠μ B
 nz:g≠0/\B≠0/\v.ownBlock≠μ 0
theorem qE.c0 {p:jy} (h:qE w g o B v p):w.cell? ⟨g,o,ν⟩=μ (ι κ p.m):=by obtain⟨F,hC,_⟩:=h.xC;exact hC.cell 0 eA
theorem qE.c1 {p:jy} (h:qE w g o B v p):w.cell? ⟨g,o+1,ν⟩=μ (π (μ ⟨B,0,ν⟩)):=by obtain⟨F,hC,_⟩:=h.xC;exact hC.cell 1 eA
theorem qE.c67 {p:jy} (h:qE w g o B v p):w.cell? ⟨g,o+67,ν⟩=μ (ι κ p.pe.who):=by obtain⟨F,hC,_⟩:=h.xC;exact hC.cell 67 eA
theorem qE.c68 {p:jy} (h:qE w g o B v p):w.cell? ⟨g,o+68,ν⟩=μ (.bool p.pe.both):=by obtain⟨F,hC,_⟩:=h.xC;exact hC.cell 68 eA
theorem qE.c69 {p:jy} (h:qE w g o B v p):w.cell? ⟨g,o+69,ν⟩=μ (.int .i64 p.pe.left):=by obtain⟨F,hC,_⟩:=h.xC;exact hC.cell 69 eA
theorem qE.c70 {p:jy} (h:qE w g o B v p):w.cell? ⟨g,o+70,ν⟩=μ v:=by obtain⟨F,hC,_⟩:=h.xC;exact hC.cell 70 eA
theorem qE.fz {w:dY} {g o B:Nat} {v:dZ} {p:jy} (h:qE w g o B v p):∀j,j<71->w.frozen? ⟨g,o+j,ν⟩=false:=by obtain⟨F,hC,_⟩:=h.xC;exact λj Z=>hC.fz j Z
theorem qE.lt {w:dY} {g o B:Nat} {v:dZ} {p:jy} (h:qE w g o B v p):g<w.heap.size:=by obtain⟨F,hC,_⟩:=h.xC;exact hC.lt eA
theorem qE.below {w w':dY} {g o B:Nat} {v:dZ} {p:jy} (h:qE w g o B v p)(hb:eE w w'):qE w' g o B v p:=by
 obtain⟨F,hC,Z⟩:=h.xC;exact⟨⟨F,hC.below eA hb,Z⟩,h.lk.below hb,h.ou.below hb,h.few,h.ok,h.gB,h.vg,h.vB,h.nz⟩
structure nR(w w':dY)(g o B:Nat)(v:dZ):Prop where
 os:w'.os=w.os
 tape:w'.tape=w.tape
 output:w'.output=w.output
 size:w.heap.size<=w'.heap.size
 block:∀i,i<w.heap.size->i≠g->i≠B->v.ownBlock≠μ i->w'.heap[i]? =w.heap[i]?
 cell:∀j,j<o \/o+71<=j->w'.cell? ⟨g,j,ν⟩=w.cell? ⟨g,j,ν⟩
 fz:∀j,w'.frozen? ⟨g,j,ν⟩=w.frozen? ⟨g,j,ν⟩
theorem nR.refl(w:dY)(g o B:Nat)(v:dZ):nR w w g o B v:=⟨rfl,rfl,rfl,Nat.le_refl _,λ_ _ _ _ _=>rfl,λ_ _=>rfl,λ_=>rfl⟩
theorem nR.iW(o B:Nat)(v:dZ)(h:eE w w')(Z:g<w.heap.size):nR w w' g o B v:=
 ⟨h.os,h.tape,h.output,h.size,λi hi _ _ _=>h.block i hi,λj _=>aj (a:=⟨g,j,ν⟩) (h.block g Z),λj=>aL (a:=⟨g,j,ν⟩) (h.block g Z)⟩
theorem nR.trans {a b c:dY} {g o B:Nat} {v v':dZ} (h:nR a b g o B v)(k:nR b c g o B v')(hv:∀i,v'.ownBlock=μ i->v.ownBlock=μ i \/a.heap.size<=i):nR a c g o B v:=
 ⟨k.os.trans h.os,k.tape.trans h.tape,k.output.trans h.output,Nat.le_trans h.size k.size,λi hi Y X V=>(k.block i (Nat.lt_of_lt_of_le hi h.size) Y X (λe=>by
  rcases hv i e with Z|Z
  ·exact V Z
  ·omega)).trans (h.block i hi Y X V),λj U=>(k.cell j U).trans (h.cell j U),λj=>(k.fz j).trans (h.fz j)⟩
theorem yJ(g o B:Nat)(v:dZ)(p:jy)(w:dY)(h:qE w g o B v p):
 eZ e7 83 #[π (μ ⟨g,o,ν⟩)] w λe w'=>e=ρ (.bool (p.L.st==9))/\w=w':=by
 have c1:=h.c1;have hl:=h.lt;have hs:=Hv B _ p.L _ [] w (rK.rest h.lk);clear h
 go_in
 go_wp2_with(fail);refine hs.mono ?_;rintro e w1 ⟨rfl,rfl⟩;clear hs
 go_wp2
 go_ret;exact⟨rfl,rfl⟩
theorem Vj:(e7.info? 5).map (λi=>(i.zero,i.size,i.bytes))=μ (μ (.int .u8 0),1,1):=gX
theorem PD(p:jy)(B:Nat)(v v':dZ)(F:Nat->dZ)(l:List UInt8):∀j,j<71->tC (xB p B v F) 70 v' j=xB {p with out:=l} B v' F j:=by
 intro j hj;by_cases e:j=70
 ·subst e;rw[pS];rfl
 ·rw[jM _ _ e];unfold xB;by_cases Z:j=0
  ·simp[Z]
  ·by_cases Y:j=1
   ·simp[Y]
   ·by_cases X:j<67
    ·simp[Z,Y,X]
    ·by_cases V:j=67
     ·simp[V]
     ·by_cases U:j=68
      ·simp[U]
      ·have T:j=69:=eh;simp[T]
theorem qE.grow {W x:dY} {p:jy} (h:qE w g o B v p)(hb:eE w W)(X:W.grownBy x v.ownBlock)(v':dZ)(l:List UInt8)(G:Row x 1 v' (p.out++l).length (iR (p.out++l)))(H:(p.out++l).length<=1000000000)(E:v'.ownBlock=v.ownBlock \/ ∃k,v'.ownBlock=μ k/\W.heap.size<=k):
 qE (x.setCell ⟨g,o+70,ν⟩ v') g o B v' {p with out:=p.out++l} /\nR w (x.setCell ⟨g,o+70,ν⟩ v') g o B v/\(∀i,v'.ownBlock=μ i->v.ownBlock=μ i \/w.heap.size<=i):=by
 have hW:=h.below hb;have Y:∀i,i<w.heap.size->v.ownBlock≠μ i->x.heap[i]? =w.heap[i]? :=λi hi hv=>(X.block i (Nat.lt_of_lt_of_le hi hb.size) (λe=>hv e.symm)).trans (hb.block i hi);have hv:∀i,v'.ownBlock=μ i->v.ownBlock=μ i \/w.heap.size<=i:=λi e=>by
  rcases E with Z|⟨k,Z,e2⟩
  ·exact .inl (by rw[<-Z];exact e)
  ·rw[e]at Z;have:i=k:=by simpa using Z
   have:=hb.size;exact .inr eh
 have V:v'.ownBlock≠μ g:=λe=>by
  rcases hv g e with Z|Z
  ·exact h.vg Z
  ·have:=h.lt;omega
 have T:v'.ownBlock≠μ B:=λe=>by
  rcases hv B e with Z|Z
  ·exact h.vB Z
  ·have:=h.lk.lt;omega
 obtain⟨F,hC,M⟩:=h.xC;have U:qz x g o 71 (xB p B v F):=hC.keep (Y g h.lt h.vg);refine⟨⟨⟨F,(U.set 70 eA v').congr (PD p B v v' F _),M⟩,?_,?_,H,h.ok,h.gB,V,T,h.nz.1,h.nz.2.1,λe=>by
  rcases hv 0 e with Z|Z
  ·exact h.nz.2.2 Z
  ·have:=h.lt;omega⟩,⟨?_,?_,?_,?_,?_,?_,?_⟩,hv⟩
 ·exact h.lk.keep ((ak _ _ _ B (λe=>h.gB e.symm)).trans (Y B h.lk.lt h.vB))
 ·exact G.keep gZ (λk J=>ak _ _ _ k (λe=>V (by rw[J];exact congrArg μ e)))
 ·exact((au 0 x).setCell (Nat.zero_le _) _).os.trans (X.os.trans hb.os)
 ·exact((au 0 x).setCell (Nat.zero_le _) _).tape.trans (X.tape.trans hb.tape)
 ·exact((au 0 x).setCell (Nat.zero_le _) _).output.trans (X.output.trans hb.output)
 ·exact Nat.le_trans hb.size (Nat.le_trans X.size gZ)
 ·exact λi hi S _ Q=>(ak _ _ _ i S).trans (Y i hi Q)
 ·exact λj hj=>(aW _ _ _ _ (λe=>by have:=congrArg Addr.off e;simp at this;omega)).trans (aj (a:=⟨g,j,ν⟩) (Y g h.lt h.vg))
 ·exact λj=>(mJ _ _ _ _).trans (aL (a:=⟨g,j,ν⟩) (Y g h.lt h.vg))
structure lU(w w':dY)(g o B:Nat)(v:dZ)(p:jy):Prop where
 ex:∃v',qE w' g o B v' p/\(∀i,v'.ownBlock=μ i->v.ownBlock=μ i \/w.heap.size<=i)
 kept:nR w w' g o B v
theorem lU.still {p:jy} (h:qE w g o B v p)(hb:eE w w'):lU w w' g o B v p:=⟨⟨v,h.below hb,λ_ e=>.inl e⟩,nR.iW o B v hb h.lt⟩
theorem lU.trans {a b c:dY} {g o B:Nat} {v v':dZ} {p:jy} (X:nR a b g o B v)(hv:∀i,v'.ownBlock=μ i->v.ownBlock=μ i \/a.heap.size<=i)(V:lU b c g o B v' p):lU a c g o B v p:=by
 obtain⟨⟨v2,T,Y⟩,U⟩:=V;refine⟨⟨v2,T,λi e=> ?_⟩,X.trans U hv⟩;rcases Y i e with Z|Z
 ·exact hv i Z
 ·exact .inr (Nat.le_trans X.size Z)
theorem yK(l:List UInt8)(h:l.length<=60):(Plain.lS l).length<=126:=by
 have:=Q5 l;omega
theorem Dv(g o B:Nat)(v:dZ)(p:jy)(T s:ByteArray)(c:UInt8)(w:dY)(h:qE w g o B v p)(hT:T.data.toList=[c])(hs:s.size<=1000)(hn:p.out.length<=900000000):
 eZ e7 150 #[π (μ ⟨g,o,ν⟩),.string T,.string s] w λe w'=>e=ρ (τ #[])/\lU w w' g o B v (p.put c s.data.toList):=by
 obtain⟨i0,hi,oB,np,mI⟩:=aX Vj;have hop:=yJ g o B v p w h;have hTs:T.size=1:=by have:=congrArg List.length hT;simpa using this
 have U:T.toList=[c] :=by rw[di];exact hT
 have MX:(T++s).size=s.size+1:=by rw[ByteArray.size_append,hTs];omega
 have Y:(T++s).data.toList=c::s.data.toList:=by rw[ByteArray.data_append];simp[hT]
 have hsl:s.data.toList.length=s.size:=gZ;have c70:=h.c70;have f70:=h.fz 70 eA;have hl:=h.lt;have HP:Hid _:=h;have lh:∀W:dY,eE w W->jy.put p c s.data.toList=p->lU w W g o B v (p.put c s.data.toList):=λW hW e=>by rw[e];exact lU.still HP.out hW
 have G:Hid _:=lh;clear lh;have main:(c=76 \/p.L.st=9)->Hid (s.size+1<=60->p.put c s.data.toList={p with out:=p.out++Plain.lS (c::s.data.toList)})/\Hid (¬s.size+1<=60->p.put c s.data.toList=p):=λhc=>by
  have j0:¬(c≠76/\p.L.st≠9):=λ⟨a,b⟩=>by rcases hc with e|e<;>contradiction
  refine⟨λh1=> ?_,λh1=> ?_⟩
  ·unfold jy.put;rw[af j0,ai (by rw[hsl];exact h1)]
  ·unfold jy.put;rw[af j0,af (by rw[hsl];exact h1)]
 by_cases Q:c=76
 ·have q:(T.toList==[76])=true:=by rw[U,Q];rfl
  obtain⟨J,H⟩:=main (.inl Q);clear main U hop h;by_cases V:s.size+1<=60
  ·have Z:=KE (T++s) w eh;rw[Y]at Z;have xx:=yK (c::s.data.toList) (by simp;omega);have u:Hid _:=J.out V;obtain⟨L,hL⟩:=gq (Plain.lS (c::s.data.toList));rw[hL]at Z xx u;clear J H Y hL
   go_in
   go_wp2_with(fail);refine Z.mono ?_;rintro e w1 ⟨rfl,b1⟩;have X:=HP.out.below b1;have E:=X.c70;have D:=X.fz 70 eA;have dl:=X.lt;have MI:=X.ou;have HV:Hid (v.ownBlock≠μ g):=X.vg;clear Z c70 f70;go_wp2_with(at_builtin;go_must(refine tI _ rfl (.tmp 28) (.tmp 29) 140 9 rfl 5 i0 (.int .u8 0) underlying140 underlying9 hi oB np mI rfl v p.out.length (iR p.out) rfl MI ⟨L.toArray⟩ rfl (by show L.toArray.size<=1000000;simp;omega) eh ?_));intro v' x A M jq;have YL:∃a' n' c',v'=gh a' n' c':=by
    rcases A.2 with⟨e,_⟩|⟨g',c',e,_⟩
    ·exact⟨_,_,_,e⟩
    ·exact⟨_,_,_,e⟩
   obtain⟨a',n',c',rfl⟩:=YL;have XK:Row x 1 (σ a' n' c') (p.out++L).length (iR (p.out++L)):=by
    rw[az,lM];exact A
   obtain⟨j,G2,G3⟩:=qE.grow HP.out b1 M (σ a' n' c') L XK (by rw[az];omega) jq;have y:x.cell? ⟨g,o+70,ν⟩=μ v:=(aj (a:=⟨g,o+70,ν⟩) (M.block g dl (λe=>HV.out e.symm))).trans E;have z70:x.frozen? ⟨g,o+70,ν⟩=false:=(aL (a:=⟨g,o+70,ν⟩) (M.block g dl (λe=>HV.out e.symm))).trans D;have xl:g<x.heap.size:=ag x _ y;have S:Hid (lU w (x.setCell ⟨g,o+70,ν⟩ (σ a' n' c')) g o B v (p.put c s.data.toList)):=by
    show lU _ _ _ _ _ _ _;rw[u.out];exact⟨⟨_,j,G3⟩,G2⟩
   clear j G2 G3 A XK M jq MI X
   go_wp2
   first|go_end0|refine iM rfl rfl ?_
   exact⟨rfl,S.out⟩
  ·have Z:=Pj (T++s) w eh (by unfold maxLen;omega);have S:Hid (lU w w g o B v (p.put c s.data.toList)):=G.out w (au _ _) (H.out V);clear J H Y
   go_in
   go_wp2_with(fail);refine Z.mono ?_;rintro e w1 ⟨rfl,rfl⟩;clear Z
   go_wp2
   first|go_end0|refine iM rfl rfl ?_
   exact⟨rfl,S.out⟩
 ·have q:(T.toList==[76])=false:=by
   rw[U,cR];intro e;exact Q (by simpa using e)
  cases h9:(p.L.st==9)
  ·have kj:p.L.st≠9:=by simpa using h9
   have S:Hid (lU w w g o B v (p.put c s.data.toList)):=G.out w (au _ _) (by unfold jy.put;rw[ai ⟨Q,kj⟩]);rw[h9]at hop;clear main U h Y
   go_in
   go_wp2_with(fail);refine hop.mono ?_;rintro e w1 ⟨rfl,rfl⟩;clear hop
   go_wp2
   first|go_end0|refine iM rfl rfl ?_
   exact⟨rfl,S.out⟩
  ·have kj:p.L.st=9:=by simpa using h9
   obtain⟨J,H⟩:=main (.inr kj);rw[h9]at hop;clear main U h kj;by_cases V:s.size+1<=60
   ·have Z:=KE (T++s) w eh;rw[Y]at Z;have xx:=yK (c::s.data.toList) (by simp;omega);have u:Hid _:=J.out V;obtain⟨L,hL⟩:=gq (Plain.lS (c::s.data.toList));rw[hL]at Z xx u;clear J H Y hL
    go_in
    go_wp2_with(fail);refine hop.mono ?_;rintro e w1 ⟨rfl,rfl⟩;clear hop;go_wp2_with(fail);refine Z.mono ?_;rintro e w1 ⟨rfl,b1⟩;have X:=HP.out.below b1;have E:=X.c70;have D:=X.fz 70 eA;have dl:=X.lt;have MI:=X.ou;have HV:Hid (v.ownBlock≠μ g):=X.vg;clear Z c70 f70;go_wp2_with(at_builtin;go_must(refine tI _ rfl (.tmp 28) (.tmp 29) 140 9 rfl 5 i0 (.int .u8 0) underlying140 underlying9 hi oB np mI rfl v p.out.length (iR p.out) rfl MI ⟨L.toArray⟩ rfl (by show L.toArray.size<=1000000;simp;omega) eh ?_));intro v' x A M jq;have YL:∃a' n' c',v'=gh a' n' c':=by
     rcases A.2 with⟨e,_⟩|⟨g',c',e,_⟩
     ·exact⟨_,_,_,e⟩
     ·exact⟨_,_,_,e⟩
    obtain⟨a',n',c',rfl⟩:=YL;have XK:Row x 1 (σ a' n' c') (p.out++L).length (iR (p.out++L)):=by
     rw[az,lM];exact A
    obtain⟨j,G2,G3⟩:=qE.grow HP.out b1 M (σ a' n' c') L XK (by rw[az];omega) jq;have y:x.cell? ⟨g,o+70,ν⟩=μ v:=(aj (a:=⟨g,o+70,ν⟩) (M.block g dl (λe=>HV.out e.symm))).trans E;have z70:x.frozen? ⟨g,o+70,ν⟩=false:=(aL (a:=⟨g,o+70,ν⟩) (M.block g dl (λe=>HV.out e.symm))).trans D;have xl:g<x.heap.size:=ag x _ y;have S:Hid (lU w (x.setCell ⟨g,o+70,ν⟩ (σ a' n' c')) g o B v (p.put c s.data.toList)):=by
     show lU _ _ _ _ _ _ _;rw[u.out];exact⟨⟨_,j,G3⟩,G2⟩
    clear j G2 G3 A XK M jq MI X
    go_wp2
    first|go_end0|refine iM rfl rfl ?_
    exact⟨rfl,S.out⟩
   ·have Z:=Pj (T++s) w eh (by unfold maxLen;omega);have S:Hid (lU w w g o B v (p.put c s.data.toList)):=G.out w (au _ _) (H.out V);clear J H Y
    go_in
    go_wp2_with(fail);refine hop.mono ?_;rintro e w1 ⟨rfl,rfl⟩;clear hop;go_wp2_with(fail);refine Z.mono ?_;rintro e w1 ⟨rfl,rfl⟩;clear Z
    go_wp2
    first|go_end0|refine iM rfl rfl ?_
    exact⟨rfl,S.out⟩
def wE(p:jy)(q:kP):jy:=if jU q.1 q.2.1 q.2.2=0 then p.put 76 (mL q.1 q.2.1 q.2.2)else p
theorem EB:∀(l:List kP) (p:jy) (q:kP),p.say (l++ [q])=wE (p.say l) q
 |[],_,_=>rfl
 |x::l,p,q=>by
  show(wE p x).say (l++ [q])=wE ((wE p x).say l) q;exact EB l (wE p x) q
theorem xD(p:jy)(c:UInt8)(s:List UInt8):(p.put c s).out.length<=p.out.length+126:=by
 unfold jy.put;split
 ·omega
 ·split
  ·rename_i h
   have:=yK (c::s) (by simpa using h);simp only[List.length_append];omega
  ·omega
theorem Vk(p:jy)(q:kP):(wE p q).out.length<=p.out.length+126:=by
 unfold wE;split
 ·exact xD _ _ _
 ·omega
theorem zM:∀(l:List kP) (p:jy),(p.say l).out.length<=p.out.length+126*l.length
 |[],p=>by simp[jy.say]
 |x::l,p=>by
  have h1:=zM l (wE p x);have h2:=Vk p x;have e:p.say (x::l)=(wE p x).say l:=rfl;rw[e,cN];omega
structure PtQ(w:dY)(g o B:Nat)(v:dZ)(p:jy)(X:Nat->Prop)(vl:dZ)(qs:List PV):Prop where
 xC:∃F,qz w g o 71 (xB p B v F)/\Dp F p.rd.1 p.rd.2.1 p.rd.2.2
 rep:rK w B X p.L vl qs
 ou:Row w 1 v p.out.length (iR p.out)
 few:p.out.length<=1000000000
 ok:AE p.L
 gB:g≠B
 vg:v.ownBlock≠μ g
 vB:v.ownBlock≠μ B
 nz:g≠0/\B≠0/\v.ownBlock≠μ 0
 xg:X g
 xv:∀k,v.ownBlock=μ k->X k
theorem Rs {code id:Int} {os:List jH} (h:jU code id os=0):(mL code id os).length<=100:=by
 have h8:os.length<=8:=by
  unfold jU at h;split at h
  ·simp at h
  ·split at h
   ·simp at h
   ·omega
 have:=r9 os;simp only[mL,eT];omega
theorem Vl(g o B:Nat)(v:dZ)(p:jy)(X:Nat->Prop)(vl:dZ)(qs:List PV)(w:dY)(h:PtQ w g o B v p X vl qs)(hq:qs.length<=40)(hn:p.out.length<=800000000):
 eZ e7 123 #[π (μ ⟨g,o,ν⟩)] w λe w'=>e=ρ (τ #[])/\lU w w' g o B v (p.say (qs.map PV.abs)):=by
 have vL:=YE B X p.L vl qs w h.rep;have c1:w.cell? ⟨g,o+1,ν⟩=μ (π (μ ⟨B,0,ν⟩)):=by obtain⟨F,hC,_⟩:=h.xC;exact hC.cell 1 eA
 have KF:g<w.heap.size:=by obtain⟨F,hC,_⟩:=h.xC;exact hC.lt eA
 have Z:Hid _:=h;clear h
 go_in
 go_wp2_with(fail);refine vL.mono ?_;rintro e w1 ⟨rfl,hR,iX,Jq,T⟩;have D:qE w1 g o B v p:=by
  obtain⟨F,hC,hF⟩:=Z.out.xC;have hkv:∀k,v.ownBlock=μ k->w1.heap[k]? =w.heap[k]? :=λk M=>T.block k (Z.out.ou.lt k M) (λe=>Z.out.vB (by rw[M,e])) gZ;exact⟨⟨F,hC.keep (T.block g KF Z.out.gB gZ),hF⟩,hR.lk,Z.out.ou.keep T.size hkv,Z.out.few,Z.out.ok,Z.out.gB,Z.out.vg,Z.out.vB,Z.out.nz⟩
 have XG:nR w w1 g o B v:=⟨T.os,T.tape,T.output,T.size,λi hi _ h2 _=>T.block i hi h2 gZ,λj _=>aj (a:=⟨g,j,ν⟩) (T.block g KF Z.out.gB gZ),λj=>aL (a:=⟨g,j,ν⟩) (T.block g KF Z.out.gB gZ)⟩
 have A:∀W:dY,nR w1 W g o B v->abX W vl qs:=λW kW=>by
  refine⟨iX.keep kW.size (λk M=>kW.block k (iX.lt k M) (λY=>Z.out.rep.own k M (by rw[Y];exact Z.out.xg)) (λY=>Z.out.rep.own k M (by rw[Y];exact Z.out.rep.self)) (λY=>Z.out.rep.own k M (Z.out.xv k Y))),λq Pg=>⟨(Jq q Pg).opt.O1 (λk M=> ?_),(Jq q Pg).few⟩⟩;obtain⟨f1,_,f3⟩:=(Jq q Pg).far k M;exact kW.block k f3 (λY=>f1 (by rw[Y];exact Z.out.xg)) (λY=>f1 (by rw[Y];exact Z.out.rep.self)) (λY=>f1 (Z.out.xv k Y))
 have hle:∀q∈qs,q.n<=q.cap:=λq Pg=>(Jq q Pg).le;have I1:g<w1.heap.size:=D.lt;obtain⟨a,ca,rfl,_⟩:=(A w1 (nR.refl _ _ _ _ _)).shape;obtain⟨n,vQ⟩:=gq (qs.length);have H1:Hid _:=D;have HK1:Hid _:=XG;have HPk:Hid _:=A;have HLe:Hid _:=hle;have HN:Hid _:=vQ;rw[vQ]at hq;rw[vQ];clear vL hR iX Jq T D XG A hle vQ c1
 go_wp2
 go_loopw [12] (λi wr=>∃(k:Nat) (E:dZ),k<=n/\i=ι κ k/\qE wr g o B E (p.say ((qs.map PV.abs).take k))/\nR w1 wr g o B v/\(∀i,E.ownBlock=μ i->v.ownBlock=μ i \/w1.heap.size<=i)) (λi _=>n-(intOf i).toNat)
 case atStart=>exact⟨0,v,Nat.zero_le _,rfl,H1.out,nR.refl _ _ _ _ _,λ_ e=>.inl e⟩
 case round=>
  obtain⟨k,E,M,rfl,hP,S,H⟩:=hrel;by_cases kD:k<n
  ·have nS:(k:Int)<(n:Int):=eh;have Hr:(0:Int)<=(k:Int):=eh;have lk:k<qs.length:=by have:=HN.out;omega
   have PK:=HPk.out wr S;obtain⟨a',ca',Y,f1⟩:=PK.shape;obtain⟨g1,ea,x0,x1,x2⟩:=f1 k qs[k] (ay lk);have e1':a=a':=by simpa using(bO Y).1
   rw[ea]at e1';subst e1';have y:=PK.opt qs[k] (aF lk);have Dm:=HLe.out qs[k] (aF lk);have YM:Hid ((qs.map PV.abs).take (k+1)=(qs.map PV.abs).take k++ [qs[k].abs]):=by
    show _=_;rw[aA (by simpa using lk)];simp
   generalize qs[k] =q at x0 x1 x2 y Dm YM;obtain⟨V,U,qa,qn,YO,Q⟩:=q;simp only at x0 x1 x2 y Dm;have z0:wr.cell? ⟨g1,k*3,ν⟩=μ (ι κ V):=by rw[Nat.zero_add]at x0;exact x0
   have z1:wr.cell? ⟨g1,k*3+1,ν⟩=μ (ι κ U):=by rw[Nat.zero_add]at x1;exact x1
   have z2:wr.cell? ⟨g1,k*3+2,ν⟩=μ (σ qa qn YO):=by rw[Nat.zero_add]at x2;exact x2
   have hln:(p.say ((qs.map PV.abs).take k)).out.length<=900000000:=by
    have h1:=zM ((qs.map PV.abs).take k) p;have h2:((qs.map PV.abs).take k).length<=k:=ct _ _;omega
   have ba:=gY wr (γ #[ι κ V,ι κ U,σ qa qn YO] 37);have HP:Hid _:=hP;have u:Hid _:=S;have J:Hid _:=H;clear PK f1 Y ea x0 x1 x2 hP S H;by_cases hf:jU V U Q=0
   ·have G:=Je V U qa qn YO Q _ Dm (y.1.below ba) hf;have Dw:=Rs hf;have E1:Hid (p.say ((qs.map PV.abs).take (k+1))=(p.say ((qs.map PV.abs).take k)).put 76 (mL V U Q)):=by
     show _=_;rw[YM.out,EB];show wE _ (V,U,Q)=_;unfold wE;rw[ai hf]
    clear hf y;obtain⟨L,hL⟩:=gq (mL V U Q);rw[hL]at G Dw E1;clear hL;go_wp2_with(fail);refine G.mono ?_;rintro e w3 ⟨rfl,b3⟩;have k3:=gu ba b3;have oq:=Dv g o B E (p.say ((qs.map PV.abs).take k)) ⟨#[76]⟩ ⟨L.toArray⟩ 76 w3 (HP.out.below k3) rfl (by show L.toArray.size<=1000;simp;omega) hln;have eL:(⟨L.toArray⟩:ByteArray).data.toList=L:=gZ;rw[eL]at oq;clear G b3;go_wp2_with(fail);refine oq.mono ?_;rintro e w4 ⟨rfl,hW⟩;have ny:lU w1 w4 g o B v (p.say ((qs.map PV.abs).take (k+1))):=by
     rw[E1.out];exact lU.trans (u.out.trans (nR.iW o B E k3 HP.out.lt) J.out) J.out hW
    have HW:Hid _:=ny;clear oq hW ny k3 ba
    go_wp2
    go_roundw
    case rel=>
     obtain⟨⟨v5,h5,h6⟩,h7⟩:=HW.out;exact⟨k+1,v5,eh,by go_num,h5,h7,h6⟩
    case measure=>simp[intOf];omega
   ·have G:=KK V U qa qn YO Q _ eh Dm (y.1.below ba) hf;have ee:jk (jU V U Q)=.iface 128 (ι κ (jU V U Q:Int)):=by simp only[jk];rw[af hf]
    rw[ee]at G;have E1:Hid (p.say ((qs.map PV.abs).take (k+1))=p.say ((qs.map PV.abs).take k)):=by
     show _=_;rw[YM.out,EB];show wE _ (V,U,Q)=_;unfold wE;rw[af hf]
    clear hf y ee;generalize jU V U Q=f at G;go_wp2_with(fail);refine G.mono ?_;rintro e w3 ⟨rfl,b3⟩;have Hs:Hid _:=gu ba b3;clear G b3 ba
    go_wp2
    go_roundw
    case rel=>exact⟨k+1,E,eh,by go_num,by rw[E1.out];exact HP.out.below Hs.out,u.out.trans (nR.iW o B E Hs.out HP.out.lt) J.out,J.out⟩
    case measure=>simp[intOf];omega
  ·have xZ:¬(k:Int)<(n:Int):=eh;have HE:Hid (lU w wr g o B v (p.say (qs.map PV.abs))):=by
    have Y:(qs.map PV.abs).take k=qs.map PV.abs:=aI (by have:=HN.out;simp;omega);rw[Y]at hP;exact lU.trans HK1.out (λ_ e=>.inl e) ⟨⟨E,hP,H⟩,S⟩
   clear hP S H
   go_wp2
   first|go_end0|refine iM rfl rfl ?_
   exact⟨rfl,HE.out⟩
structure Cg(w w1:dY)(g o B:Nat)(v:dZ)(p:jy)(out:List kP):Prop where
 ex:∃vl qs,PtQ w1 g o B v p (λk=>k<w.heap.size) vl qs/\qs.map PV.abs=out
 kept:nR w w1 g o B v
theorem qE.begin {p:jy} (h:qE w g o B v p):Cg w w g o B v p [] :=
 ⟨⟨σ ν 0 0,[],⟨h.xC,rK.rest h.lk,h.ou,h.few,h.ok,h.gB,h.vg,h.vB,h.nz,h.lt,λk Z=>h.ou.lt k Z⟩,rfl⟩,nR.refl _ _ _ _ _⟩
theorem Cg.tab {p:jy} {out:List kP} (h:Cg w w1 g o B v p out)(Y:jh w):jh w1:=λe s X hs=>by
 obtain⟨vl,qs,Z,_⟩:=h.ex;exact(aj (a:=⟨0,e*10+s,ν⟩) (h.kept.block 0 Y.lt (λe=>Z.nz.1 e.symm) (λe=>Z.nz.2.1 e.symm) Z.nz.2.2)).trans (Y e s X hs)
theorem Cg.went {w2:dY} {p:jy} {out afY:List kP} {vl:dZ} {qs:List PV} {s':LS} (Z:PtQ w1 g o B v p (λk=>k<w.heap.size) vl qs)(D:qs.map PV.abs=out)(Y:nR w w1 g o B v)
 (G:nF w1 w2 B (λk=>k<w.heap.size) s' vl qs afY) (A:AE s'):Cg w w2 g o B v {p with L:=s'} (out++afY):=by
 obtain⟨⟨v2,q2,H,S,hv2⟩,V⟩:=G;obtain⟨F,hC,hF⟩:=Z.xC;have hlg:g<w1.heap.size:=hC.lt eA;have y:∀i,vl.ownBlock=μ i->¬i<w.heap.size:=λi e=>Z.rep.own i e;have hb:∀i,i<w.heap.size->i≠B->w2.heap[i]? =w1.heap[i]? :=λi hi J=>V.block i (Nat.lt_of_lt_of_le hi Y.size) J (λe=>y i e hi);have X:w2.heap[g]? =w1.heap[g]? :=hb g Z.xg Z.gB;refine⟨⟨v2,qs++q2,⟨⟨F,hC.keep X,hF⟩,H,Z.ou.keep V.size (λk T=>hb k (Z.xv k T) (λe=>Z.vB (by rw[T,e]))),Z.few,A,Z.gB,Z.vg,Z.vB,Z.nz,Z.xg,Z.xv⟩,by rw[cS,D,S]⟩,?_⟩;exact⟨V.os.trans Y.os,V.tape.trans Y.tape,V.output.trans Y.output,Nat.le_trans Y.size V.size,λi hi Q U M=>(hb i hi U).trans (Y.block i hi Q U M),λj E=>(aj (a:=⟨g,j,ν⟩) X).trans (Y.cell j E),λj=>(aL (a:=⟨g,j,ν⟩) X).trans (Y.fz j)⟩
theorem Cg.say {w w1:dY} {g o B:Nat} {v:dZ} {p:jy} {out:List kP} (h:Cg w w1 g o B v p out)(V:out.length<=40)(X:p.out.length<=800000000):
 eZ e7 123 #[π (μ ⟨g,o,ν⟩)] w1 λe w'=>e=ρ (τ #[])/\lU w w' g o B v (p.say out):=by
 obtain⟨U,qs,Z,rfl⟩:=h.ex;refine(Vl g o B v p _ U qs w1 Z (by simpa using V) X).mono ?_;rintro e w' ⟨rfl,Y⟩;exact⟨rfl,lU.trans h.kept (λ_ e=>.inl e) Y⟩
theorem Cg.do_ {p:jy} {out:List kP} (h:Cg w w1 g o B v p out)(V:jh w)(hq:out.length<=40)(ev:Int):
 eZ e7 120 #[π (μ ⟨B,0,ν⟩),ι κ ev] w1 λe w'=>e=ρ (jk (k8 p.L ev).2.2)/\Cg w w' g o B v {p with L:=(k8 p.L ev).1} (out++(k8 p.L ev).2.1):=by
 have X:=h.tab V;obtain⟨T,qs,Z,Y⟩:=h.ex;have hl:qs.length=out.length:=by rw[<-Y];simp
 refine(acf ev B _ p.L T qs w1 X Z.rep Z.ok.bd eh).mono ?_;rintro e w' ⟨rfl,U⟩;exact⟨rfl,Cg.went Z Y h.kept U (Z.ok.k8 ev)⟩
theorem Cg.tick {w:dY} {g o B:Nat} {v:dZ} {p:jy} (h:qE w g o B v p)(X:jh w):
 eZ e7 147 #[π (μ ⟨B,0,ν⟩)] w λe w'=>e=ρ (τ #[])/\Cg w w' g o B v {p with L:=kt p.L} (lT p.L):=by
 have hw:=h.ok.wt;have hb:=h.begin;obtain⟨V,qs,Z,T⟩:=hb.ex;have S:qs=[] :=by simpa using T
 subst S;have Y:V.ownBlock≠μ 0:=λe=>Z.rep.own 0 e X.lt;refine(U4 B _ p.L V [] w X h.nz.2.1 Y Z.rep h.ok.bd gZ eh eh).mono ?_;rintro e w' ⟨rfl,U⟩;refine⟨rfl,?_⟩;have:=Cg.went Z rfl hb.kept U h.ok.tick;simpa using this
theorem Cg.state {p:jy} {out:List kP} (h:Cg w w1 g o B v p out):
 eZ e7 114 #[π (μ ⟨B,0,ν⟩)] w1 λe w'=>e=ρ (ι κ p.L.st)/\w1=w':=by
 obtain⟨Y,qs,Z,ho⟩:=h.ex;exact Hv B _ p.L Y qs w1 Z.rep
theorem Cg.ptr {p:jy} {out:List kP} (h:Cg w w1 g o B v p out):w1.cell? ⟨g,o+1,ν⟩=μ (π (μ ⟨B,0,ν⟩))/\g<w1.heap.size:=by
 obtain⟨vl,qs,Z,ho⟩:=h.ex;obtain⟨F,hC,hF⟩:=Z.xC;exact⟨hC.cell 1 eA,hC.lt eA⟩
end Rt
theorem BR.still {w w':dY} {B:Nat} {m:FM} {n:Nat} {K:Int->Option PS} {O:Nat->Int->Option PS} (h:BR w B m n K O)(hs:w.heap.size<=w'.heap.size)(X:∀j,j<w.heap.size->¬m.no j->w'.heap[j]? =w.heap[j]?)
 (J:¬m.no B) (E:¬m.no m.g) (D:∀b,(b=m.bm \/b∈m.bs)->¬m.no b) (no':Nat->Prop) (S:∀j,no' j->m.no j \/w.heap.size<=j) (Q:∀j,no' j->j<w'.heap.size):BR w' B {m with no:=no'} n K O:=by
 have T:=h.mlt;obtain⟨kn,ow,hF,G,H⟩:=h.ex;have mp:∀b,(b=m.bm \/b∈m.bs)->w'.heap[b]? =w.heap[b]? :=λb hb=>X b (T b hb) (D b hb);have tie:∀ {f:Int->Option SV} {F:Int->Option PS},Tie w m f F->Tie w' {m with no:=no'} f F:=by
  intro f F y x A;have:=y x A;cases e:F x with
  |none=>rw[e]at this;exact this
  |some q=>
   rw[e]at this;obtain⟨s,M,Z⟩:=this;refine⟨s,M,⟨Z.own,Z.seq,Z.n,Z.opt.kept (cap:=s.cap) (λj Y=>X j (Z.lt j Y) (Z.far j Y).2.2),Z.nil,Z.ok,λj Y=>Nat.lt_of_lt_of_le (Z.lt j Y) hs,λj Y=>⟨(Z.far j Y).1,(Z.far j Y).2.1,λe=> ?_⟩⟩⟩;rcases S j e with U|U
   ·exact(Z.far j Y).2.2 U
   ·have:=Z.lt j Y;omega
 refine⟨⟨kn,ow,⟨(X B hF.lt J).trans hF.oh,hF.row.keep hs (λx hx=> ?_),hF.km.keep (mp _ (.inl rfl)),λi b e=>(hF.om i b e).keep (mp b (.inr (bI e))),hF.few,hF.nB,hF.nd⟩,tie G,λi hi=>tie (H i hi)⟩,Q⟩;have V:m.g=x:=by simpa[FM.sl,eu]using hx
 subst V;exact X m.g (hF.row.lt _ hx) E
namespace Rt
variable {id n:Int} {k:Nat}
structure ot(id:Int)(q:lr):Prop where
 who:0<=q.who/\q.who<=6
 me:q.who≠id
 both:q.both=true->1<=q.who
 left:0<=q.left/\q.left<=4
def XO(K:Int->Option PS):Prop:=∀x,(K x).isSome=true->1<=x/\x<=6
theorem XO.tT {K:Int->Option PS} (h:XO K) {k:Int} (hk:1<=k/\k<=6)(q:PS):XO (wD K k q):=λx hx=>by
 unfold wD at hx;split at hx
 ·omega
 ·exact h x hx
structure lD(r:iO):Prop where
 id:1<=r.id/\r.id<=6
 m:∀i,i<r.n->1<=(r.P i).m/\(r.P i).m<=20
 pe:∀i,i<r.n->ot r.id (r.P i).pe
 own:∃q,r.K r.id=μ q/\oD r.id q.1 q.2=0
 PE:XO r.K
theorem ot.nobody {id:Int} (h:1<=id):ot id Rt.nobody:=⟨⟨eA,eA⟩,λe=>(by have e2:(0:Int)=id:=e;omega),λe=>absurd e eA,⟨eA,eA⟩⟩
theorem ot.tick {q:lr} (hi:1<=id)(h:ot id q):ot id (iK q):=by
 unfold iK;split
 ·exact ot.nobody hi
 ·exact⟨h.who,h.me,h.both,by have:=h.left;simp;omega⟩
theorem ot.YQ {f s:Int} (hi:1<=id)(hf:1<=f/\f<=6):ot id (ji id f s):=by
 unfold ji;split
 ·exact ot.nobody hi
 ·rename_i h
  exact⟨by simp;omega,by simpa using h,λ_=>by simp;omega,gZ⟩
def Ch(P:Nat->jy)(n:Int)(k:Nat):Prop:=(P k).pe.both=true/\(P k).pe.who=n/\(match jR P n k with|none=>true|some b=>decide ((P k).m<(P b).m))=true
instance(P:Nat->jy)(n:Int)(k:Nat):Decidable (Ch P n k):=by unfold Ch;infer_instance
theorem xE {P:Nat->jy} (h:Ch P n k):jR P n (k+1)=μ k:=by
 unfold jR;exact ai h
theorem wF {P:Nat->jy} (h:¬Ch P n k):jR P n (k+1)=jR P n k:=by
 have:jR P n (k+1)=if Ch P n k then μ k else jR P n k:=by
  rw[jR];by_cases hc:Ch P n k
  ·rw[ai hc];exact ai hc
  ·rw[af hc];exact af hc
 rw[this,af h]
theorem oE {P:Nat->jy} {n:Int}:∀ {k b:Nat},jR P n k=μ b->b<k/\(P b).pe.both=true/\(P b).pe.who=n
 |0,b,h=>by simp[jR]at h
 |k+1,b,h=>by
  by_cases hc:Ch P n k
  ·rw[xE hc]at h;have:=Option.some.inj h;subst this;exact⟨eh,hc.1,hc.2.1⟩
  ·rw[wF hc]at h;have:=oE h;exact⟨eh,this.2⟩
def oT(r:iO)(j n:Nat):List jH:=(List.range' j n).filterMap λ(j:Nat)=>(jR r.P ((j:Int)+1) r.n).map λb=>((j:Int)+1,(r.P b).m)
theorem Ci(r:iO):jz r=oT r 0 6:=by unfold jz oT;rw[dc]
theorem sg {r:iO} (h:lD r):∀(n j:Nat) (Z:Int),Z<=j->j+n<=6->qy r.id Z (oT r j n)=0/\(oT r j n).length<=n
 |0,j,Z,_,_=>by simp[oT,qy]
 |n+1,j,Z,h1,h2=>by
  have ih:=sg h n (j+1) ((j:Int)+1) eh eh;have ih2:=sg h n (j+1) Z eh eh;have e:oT r j (n+1)=(match jR r.P ((j:Int)+1) r.n with|none=>oT r (j+1) n|some b=>((j:Int)+1,(r.P b).m)::oT r (j+1) n):=by
   unfold oT;rw[dG,bh];cases jR r.P ((j:Int)+1) r.n<;>simp
  cases hb:jR r.P ((j:Int)+1) r.n with
  |none=>
   rw[hb]at e;simp only at e;rw[e];exact⟨ih2.1,eh⟩
  |some b=>
   rw[hb]at e;simp only at e;rw[e];obtain⟨Y,Jr,X⟩:=oE hb;have hm:=h.m b Y;have U:=h.pe b Y;have V:=U.me;rw[X]at V;refine⟨?_,by simp;omega⟩;unfold qy;rw[af (by simp only;omega)];simp only
   first
    |exact ih.1
    |(rw[af eh];exact ih.1)
    |(rw[af eh,af eh];exact ih.1)
theorem zN {r:iO} (h:lD r) {seq:Int} (hs:1<=seq/\seq<=1000000):oD r.id seq (jz r)=0:=by
 have Z:=sg h 6 0 0 eh eh;rw[<-Ci]at Z;have pZ:=h.id;unfold oD;rw[af eh,af eh];exact Z.1
theorem lD.iU {r:iO} (h:lD r)(i:Nat)(p:jy)(Y:p.m=(r.P i).m)(X:i<r.n->ot r.id p.pe):lD (r.iU i p):=by
 refine⟨h.id,λj Z=> ?_,λj Z=> ?_,h.own,h.PE⟩
 ·show 1<=(ll r.P i p j).m/\(ll r.P i p j).m<=20;by_cases e:j=i
  ·subst e;simp only[ll,if_true];rw[Y];exact h.m j Z
  ·simp only[ll,if_neg e];exact h.m j Z
 ·show ot r.id (ll r.P i p j).pe;by_cases e:j=i
  ·subst e;simp only[ll,if_true];exact X Z
  ·simp only[ll,if_neg e];exact h.pe j Z
theorem lD.behind {r:iO} (h:lD r) {seq:Int} (hs:0<=seq):lD (r.behind seq):=by
 unfold iO.behind;split
 ·refine⟨h.id,h.m,h.pe,⟨(seq+1,jz r),by simp[iO.EA,wD],zN h eh⟩,h.PE.tT h.id _⟩
 ·exact h
theorem lD.seq {r:iO} (h:lD r):1<=Bc r.K r.id/\Bc r.K r.id<=1000000:=by
 obtain⟨q,Z,hs⟩:=h.own;have:=(jw hs).2.1;unfold Bc;rw[Z];exact this
theorem lD.change {r:iO} (h:lD r):lD r.change:=by
 unfold iO.change;split
 ·exact h
 ·exact h.behind (by have:=h.seq;omega)
theorem lD.yL {r:iO} (h:lD r)(Z:Nat->Int->Option PS):lD {r with O:=Z}:=⟨h.id,h.m,h.pe,h.own,h.PE⟩
theorem lD.meet {r:iO} (h:lD r)(i:Nat) {q:lr} (Y:ot r.id q):lD (r.meet i q):=by
 have Z:lD (r.iU i {r.P i with pe:=q}):=h.iU i _ rfl (λ_=>Y);unfold iO.meet;simp only;split
 ·exact Z
 ·split
  ·exact(Z.yL _).change.yL _
  ·exact(Z.yL _).change
