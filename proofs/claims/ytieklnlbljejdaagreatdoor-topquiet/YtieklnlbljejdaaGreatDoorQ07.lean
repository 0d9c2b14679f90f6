import Derived.Test.YtieklnlbljejdaaGreatDoorQ06
open Go.Value renaming int → ι, slice → σ, pointer → π, tuple → τ, nilIface → η
open Go.IntKind renaming i64 → κ
open Go.Ending renaming returned → ρ
open Go.Obj renaming cells → γ
open Option renaming none → ν, some → μ
open Go renaming World → dR, Calls → eT, Value → dT, Addr → dQ
open Go.Proofs.Tryz renaming prog → eU
open Go.Value renaming ownBlock → dV, map → fU, slice → fX
open Go.Instr renaming makeMap → fV
set_option maxRecDepth 100000
set_option maxHeartbeats 4000000
open Go.Proofs.Tryz
namespace Go.Proofs.YtieklnlbljejdaaGreatDoor
open Go.RowKit St
variable {B b n:Nat} {bs:List Nat} {f:Int->Option SV} {k:Int} {m:FM} {o:Obj} {s:SV} {v:Value} {w w' w3 wr:World}
theorem L6 {w1 w2:dR} {o2:Obj} {row:Option Nat} (k2:Below (w1.alloc o).heap.size (w1.alloc o) w2)(Z:(w2.alloc o2).grownBy w3 row):w1.grownBy w3 row:=by
 have s1:(w1.alloc o).heap.size=w1.heap.size+1:=gO;have s2:(w2.alloc o2).heap.size=w2.heap.size+1:=gO;have hk:=k2.size;have b1:=gN w1 o;have b2:=gN w2 o2;refine⟨Z.os.trans (b2.os.trans (k2.os.trans b1.os)),Z.tape.trans (b2.tape.trans (k2.tape.trans b1.tape)),Z.output.trans (b2.output.trans (k2.output.trans b1.output)),by have:=Z.size;omega,λi hi Y=> ?_⟩;exact(Z.block i dU Y).trans ((b2.block i dU).trans ((k2.block i dU).trans (b1.block i hi)))
theorem Dl(b n:Nat)(f:Int->Option SV)(es:Int->List jG)(w:dR)(h:SMap w b n f)
 (hf:∀k s,sv k->f k=μ s->(1<=k/\k<=6)/\s.own=k/\iU w s.a s.n (es k)/\kt s.a s.cap/\s.n<=1000000):
 eT eU 160 #[.map (μ b)] w λe w'=>∃v ts,e=ρ v/\CX w w' f es v ts:=by
 obtain⟨i0,hi,od,mK,mL⟩:=aY infoState;obtain⟨D,ji,Ls⟩:=h.own;have Cf:=h.lt;have hz:=oZ;have H0:Hid (∀k,sv k->f k=ν->∀z,D.atKey (.int .i64 k) z=z):=λk Y e=>by have:=Ls k Y;rw[e]at this;exact this
 have H1:Hid (∀k s,sv k->f k=μ s->∀z,D.atKey (.int .i64 k) z=.held s):=λk s Y e=>by have:=Ls k Y;rw[e]at this;exact this
 have HF:Hid _:=hf;clear Ls h hf
 go_in
 go_wp2_with(first
  |(at_range;refine wpList_range_own _ rfl _ 211 rfl 3 40 uf underlying211 su b n _ rfl ji ?_;intro w0 RQ H RS)
  |fail)
 go_frame
 go_loopw [3] (λv wr=>∃(left:Lit->Bool) (XU:Nat) (out:List SV),wr.ranges eU 3 su b w.heap.size n D left XU/\w.heap.size<wr.heap.size/\R8 w wr f es left v out)
  (λ_ wr=>wr.rangeLeft b w.heap.size)
 case atStart=>
  refine⟨_,_,[],RQ,dU,⟨Row.nil _ 3,λg hg=>by simp[dV]at hg,λs hs=>by simp at hs,List.Pairwise.nil,λk Y Q h2=> ?_,⟨H.os,H.tape,H.output,H.size,λi hi=>H.block i hi gO⟩⟩⟩;cases e:f k with
  |none=>rw[e]at Q;cases Q
  |some s=>
   rw[dD (H1.out k s Y e)]at h2;cases h2
 case round=>
  clear RQ H RS ji;obtain⟨left,XU,out,I7,hww,hC⟩:=hrel;go_wp2_with(first
   |(at_next;refine wpList_next_ranges _ rfl _ rfl 3 uf su (Value.int .i64) SV.v (λkey kl xF=>by obtain⟨x,rfl,_⟩:=cr underlying3 xF;exact⟨x,rfl⟩) (λv y hv=>by obtain⟨s,rfl,_⟩:=wv hv;exact⟨s,rfl⟩) b w.heap.size n _ _ _ rfl I7 ?_ ?_)
   |fail)
  ·intro qD wZ;have J:=hC.few (λk s Y e=>(HF.out k s Y e).1);rcases hC.row.2 with⟨hv,S7⟩|⟨g,cap,hv,_⟩
   ·subst hv;have u:Hid _:=(hC.Ze wZ rfl).1;have Zi:=Sb wr;clear hC I7 wZ S7 J;go_wp2_with(fail);refine Zi.mono ?_;rintro e A ⟨rfl,rfl⟩;clear Zi
    go_wp2
    go_ret;exact⟨_,_,rfl,u.out⟩
   ·subst hv;have Zi:=R6 g out.length cap out wr hC.row.sr rfl J hC.df;have T:Hid _:=hC;have HL:Hid _:=wZ;clear hC I7 wZ J;go_wp2_with(fail);refine Zi.mono ?_;rintro e A ⟨rfl,ts,hS,hp,hr,hg⟩;have u:Hid _:=T.out.acH HL.out hS hp hr hg;clear Zi hS hp hr hg
    go_wp2
    go_ret;exact⟨_,_,rfl,u.out⟩
  ·intro x c kl yd yp w1 I8 xF hlx hv hat RT EM M CW zC;obtain⟨x',ex,rfl,hwx⟩:=cr underlying3 xF;cases ex;have yB:=zJ hwx;obtain⟨Z,cs,ca,X,V⟩:=c;rw[yA]at hv;have hy:yd=.held ⟨Z,cs,ca,X,V⟩:=by have:=Option.some.inj hv;simp only[Prod.mk.injEq]at this;exact this.1.symm
   have XV:f x=μ ⟨Z,cs,ca,X,V⟩:=by
    cases e:f x with
    |none=>
     have Q:=H0.out x yB e .nil;rw[hat,hy]at Q;cases Q
    |some s=>
     have Q:=H1.out x s yB e .nil;rw[hat,hy]at Q;cases Q;rfl
   obtain⟨hx6,hxo,BJ,j5,S8⟩:=HF.out x _ yB XV;simp only at hxo BJ j5 S8;subst hxo;have J:=hC.few (λk s Y e=>(HF.out k s Y e).1);have acB:(Instr.entry (π (μ ⟨w.heap.size,0,ν⟩))).run eU w1=.ok (τ #[ι κ Z,.agg #[ι κ Z,ι κ cs,σ ca X V]]) w1:=zC;have j7:eh w w1:=⟨M.os.trans hC.ny.os,M.tape.trans hC.ny.tape,M.output.trans hC.ny.output,Nat.le_trans hC.ny.size M.size,λi hi=>(M.block i dU (λe=>by simp at e;omega)).trans (hC.ny.block i hi)⟩
   have Ce:=CU Z cs ca X V (es Z) (w1.alloc (γ #[ι κ Z,ι κ cs,σ ca X V] 40)) S8 j5 (BJ.below (j7.alloc j7.size _));have T:Hid _:=hC;have HX:Hid (left (.int .i64 Z)=true/\sv Z/\f Z=μ ⟨Z,cs,ca,X,V⟩/\wr.grownBy w1 (μ w.heap.size)/\w1.heap.size=wr.heap.size/\w.heap.size<wr.heap.size/\out.length<=6):=⟨hlx,yB,XV,M,CW,hww,J⟩
   have HG:Hid (w1.ranges eU 3 su b w.heap.size n D (λz=>left z&& !z.sameKey (.int .i64 Z)) I8):=RT;have HM:Hid _:=EM;have HO:Hid (wr.rangeLeft b w.heap.size=XU):=I7.left_eq;clear hC hlx yB XV M CW hww J RT EM I7 zC hat hy hv xF hwx hx6 BJ j5 S8 j7;go_wp2_with(fail);refine Ce.mono ?_;rintro e A ⟨⟨va,vc,rfl,vo,vn,vl,EL⟩,k2⟩;clear Ce acB;have vv:Row A 3 u3 out.length (OP out):=by
    obtain⟨q1,q2,q3,q4,q5,q6,q7⟩:=HX.out;have s1:(w1.alloc (γ #[ι κ Z,ι κ cs,σ ca X V] 40)).heap.size=w1.heap.size+1:=gO;refine T.out.row.keep (by have:=k2.size;omega) (λk Y=> ?_);have Vd:=T.out.row.lt k Y;have sM:=T.out.own k Y;exact(k2.block k dU).trans (((gN w1 _).block k dU).trans (q4.block k Vd (λe=>by simp at e;omega)))
   have h7:out.length<=6:=HX.out.2.2.2.2.2.2;obtain⟨m,hm⟩:=fW (out.length);rw[hm]at vv h7;have HN:Hid _:=hm;clear hm;go_wp2_with(at_builtin;go_must(refine iB _ rfl (.tmp 12) (.tmp 15) 91 rfl 40 i0 (.agg #[ι κ 0,ι κ 0,σ ν 0 0]) 3 40 underlying91 hi od mK mL rfl dX u3 m (OP out) rfl (vv.alloc _) _ 1 1 [ι κ Z,ι κ cs,σ va (es Z).length vc] rfl rfl dX (I9 _ _ _ _ _ _ gO) (Zd _ _ _ _ _) (by unfold maxLen;omega) dU ?_));intro g' jn w3 tE tV uH;have u:Hid (w3.ranges eU 3 su b w.heap.size n D (λz=>left z&& !z.sameKey (.int .i64 Z)) I8/\w.heap.size<w3.heap.size/\R8 w w3 f es (λz=>left z&& !z.sameKey (.int .i64 Z)) (σ (μ ⟨g',0,ν⟩) (m+1) jn) (out++ [⟨Z,cs,va,(es Z).length,vc⟩])):=by
    obtain⟨q1,q2,q3,q4,q5,q6,q7⟩:=HX.out;have G:=L6 k2 tV;have s1:(w1.alloc (γ #[ι κ Z,ι κ cs,σ ca X V] 40)).heap.size=w1.heap.size+1:=gO;have s2:(A.alloc (γ #[ι κ Z,ι κ cs,σ va (es Z).length vc] 40)).heap.size=A.heap.size+1:=gO;have k2s:=k2.size;have g3s:=tV.size;have U:∀k,u3.ownBlock=μ k->w.heap.size<k/\k<wr.heap.size:=λk Y=>⟨T.out.own k Y,T.out.row.lt k Y⟩
    refine⟨World.ranges.kept HG.out G (λe=>by have:=U b e.symm;omega) (λe=>by have:=U _ e.symm;omega),dU,?_⟩;refine T.out.step (s:=⟨Z,cs,va,(es Z).length,vc⟩) (t:=⟨Z,cs,ca,X,V⟩) q4 G (by rw[HN.out];exact tE) (λg hg=> ?_) q6 (λj hj=> ?_) q2 q1 q3 rfl rfl (vo.kept (cap:=vc) (λj hj=> ?_)) vn
    ·have SF:g'=g:=by simpa[dV]using hg
     subst SF;rcases uH with e|e
     ·exact .inl e
     ·right;omega
    ·obtain⟨c1,c2⟩:=EL j hj;refine⟨dU,dU,λe=> ?_⟩;have SF:g'=j:=by simpa[dV]using e
     subst SF;rcases uH with e|e
     ·have:=U _ e;omega
     ·omega
    ·obtain⟨c1,c2⟩:=EL j hj;exact(tV.block j dU (λe=>by have:=U j e.symm;omega)).trans ((gN A _).block j c2)
   have Pc:Hid (w3.rangeLeft b w.heap.size<wr.rangeLeft b w.heap.size):=by
    show _<_;rw[World.ranges.left_eq u.out.1,HO.out];exact HM.out
   clear tE tV uH k2 vo EL vv HO
   go_wp2
   go_roundw
   case rel=>exact⟨_,I8,_,u.out⟩
   case measure=>exact Pc.out
def Fine(w:dR)(f:Int->Option SV)(es:Int->List jG):Prop:=∀k s,sv k->f k=μ s->(1<=k/\k<=6)/\s.own=k/\iU w s.a s.n (es k)/\kt s.a s.cap/\s.n<=1000000
theorem L7(B:Nat)(m:FM)(k:Nat)(kn:Int->Option SV)(ow:Nat->Int->Option SV)(es:Int->List jG)(w:dR)(h:FB w B m k kn ow)(hf:Fine w kn es):
 eT eU 110 #[π (μ ⟨B,0,ν⟩)] w λe w'=>∃v ts,e=ρ v/\CX w w' kn es v ts:=by
 have Y:=Dl m.bm k kn es w h.km hf;have c0:=h.c0;have lB:=h.lt;clear h hf
 go_in
 go_wp2_with(fail);refine Y.mono ?_;rintro e w2 ⟨v,ts,rfl,Z⟩;have X:Hid _:=Z;clear Y Z
 go_wp2
 go_ret;exact⟨_,_,rfl,X.out⟩
theorem S9(B:Nat)(m:FM)(k:Nat)(kn:Int->Option SV)(ow:Nat->Int->Option SV)(es:Int->List jG)(p:Nat)(w:dR)(h:FB w B m k kn ow)(U:p<m.bs.length)(hf:Fine w (ow p) es):
 eT eU 151 #[π (μ ⟨B,0,ν⟩),ι κ (p:Int)] w λe w'=>∃v ts,e=ρ v/\CX w w' (ow p) es v ts:=by
 have hh:=Cd B m k kn ow (p:Int) w h;have hv:(decide (0<=(p:Int))&&decide ((p:Int)<(m.bs.length:Int)))=true:=by simp;omega
 rw[hv]at hh;clear hv;have XS:(p:Int)<(m.bs.length:Int):=dU;have ug:=h.few;have Z:m.bs[p]? =μ m.bs[p] :=aA U;have Y:=Dl m.bs[p] k (ow p) es w (h.om p _ Z) hf;have c1:w.cell? ⟨B,1,ν⟩=μ (σ (μ ⟨m.g,0,ν⟩) m.bs.length m.cap):=h.c1;have lB:=h.lt;have cp:=h.port p _ Z;have gl:m.g<w.heap.size:=af w _ cp;generalize m.bs[p] =bp at cp Y;clear Z h hf
 go_in
 go_wp2_with(fail);refine hh.mono ?_;rintro e w1 ⟨rfl,rfl⟩;clear hh;go_wp2_with(fail);refine Y.mono ?_;rintro e w2 ⟨v,ts,rfl,X⟩;have V:Hid _:=X;clear Y X
 go_wp2
 go_ret;exact⟨_,_,rfl,V.out⟩
theorem Ta:(eU.info? 211).map (λi=>(i.zero,i.size,i.bytes))=μ (μ (.map ν),1,8):=gL
theorem xM(w:dR)(x:dT)(t:TypeId)(g:Nat)(Z:w.heap.size=g):∀(j:Nat) (u:dT),[x][j]? =μ u->(w.alloc (γ #[x] t)).cell? ((⟨g,0,ν⟩:dQ).add j)=μ u:=by
 subst Z;exact oX w x t
theorem Wm(b:Option Nat):∀u∈ [fU b],u.oneCell'=true:=by simp[Value.oneCell']
theorem ZP(W:dR):(fV 211 ν).run eU W=.ok (.map (μ W.heap.size)) (W.alloc (.map #[] 0)):=rfl
theorem Tb(w:dR):(zeroValue 214).run eU w=.ok (.agg #[.map ν,σ ν 0 0]) w:=gL
structure EW(w wr:dR)(v:dT)(bs:List Nat):Prop where
 nN:wr.heap[w.heap.size+1]? =μ (γ #[.map (μ w.heap.size),v] 214 (0,0))
 row:Row wr 1 v bs.length (bs.map λb=>fU (μ b))
 km:SMap wr w.heap.size 0 (λ_=>ν)
 om:∀b∈bs,SMap wr b 0 (λ_=>ν)
 ge:∀b∈bs,w.heap.size+2<=b
 own:∀g,v.ownBlock=μ g->w.heap.size+2<=g/\g∉bs
 nd:bs.Nodup
 ny:eh w wr
theorem EW.step {v':dT} {g' jn:Nat} (h:EW w wr v bs)(Y:((wr.alloc (.map #[] 0)).alloc o).grownBy w3 v.ownBlock)(hv:v'=σ (μ ⟨g',0,ν⟩) (bs.length+1) jn)
 (H:Row w3 1 v' (bs.length+1) ((bs.map λb=>fU (μ b))++ [.map (μ wr.heap.size)])) (A:v.ownBlock=μ g' \/wr.heap.size+2<=g'):EW w (w3.setCell ⟨w.heap.size+1,1,ν⟩ v') v' (bs++ [wr.heap.size]):=by
 have D:w.heap.size+1<wr.heap.size:=(aw.1 h.nN).1;have s2:((wr.alloc (.map #[] 0)).alloc o).heap.size=wr.heap.size+2:=gO;have b2:eh wr ((wr.alloc (.map #[] 0)).alloc o):=(gN _ _).alloc gO _;have hs3:=Y.size;have V:∀i,i<wr.heap.size->v.ownBlock≠μ i->w3.heap[i]? =wr.heap[i]? :=λi hi G=>(Y.block i dU (λe=>G e.symm)).trans (b2.block i hi);have X:∀i,i≠w.heap.size+1->(w3.setCell ⟨w.heap.size+1,1,ν⟩ v').heap[i]? =w3.heap[i]? :=λi hi=>aq _ _ _ i hi;have M:w3.heap[w.heap.size+1]? =μ (γ #[.map (μ w.heap.size),v] 214 (0,0)):=(V _ D (λe=>by have:=(h.own _ e).1;omega)).trans h.nN;have U:∀b∈bs,b<wr.heap.size:=λb hb=>(h.om b hb).lt;have T:w.heap.size+2<=g'/\g'∉bs/\g'≠wr.heap.size:=by
  rcases A with e|e
  ·have:=h.own g' e;have h2:=h.row.lt g' e;exact⟨this.1,this.2,dU⟩
  ·exact⟨dU,λZ=>by have:=U g' Z;omega,dU⟩
 refine⟨?_,?_,?_,?_,?_,?_,?_,?_⟩
 ·have s:=cz w3 (w.heap.size+1) #[.map (μ w.heap.size),v] (#[.map (μ w.heap.size),v].setIfInBounds 1 v') 214 (0,0) M;rw[<-bD w3 (w.heap.size+1) 1 _ _ (0,0) _ M]at s;exact s
 ·rw[az,cu];refine H.keep gO (λk J=>X k ?_);rw[hv]at J;have:g'=k:=by simpa[dV]using J
  omega
 ·refine h.km.keep ((X _ dU).trans (V _ h.km.lt (λe=>by have:=(h.own _ e).1;omega)))
 ·intro b hb;rcases av.1 hb with hb|hb
  ·have h1:=h.ge b hb;exact(h.om b hb).keep ((X b dU).trans (V b (U b hb) (λe=>(h.own b e).2 hb)))
  ·have:b=wr.heap.size:=by simpa using hb
   subst this;refine(SMap.made wr).keep ((X _ dU).trans ((Y.block _ dU (λe=> ?_)).trans ?_))
   ·have:=h.row.lt _ e.symm;omega
   ·exact aT _ _ _ gO
 ·intro b hb;rcases av.1 hb with hb|hb
  ·exact h.ge b hb
  ·have:b=wr.heap.size:=by simpa using hb
   omega
 ·intro g Q;rw[hv]at Q;have:g'=g:=by simpa[dV]using Q
  subst this;refine⟨T.1,λZ=> ?_⟩;rcases av.1 Z with Z|Z
  ·exact T.2.1 Z
  ·exact T.2.2 (by simpa using Z)
 ·rw[bE];refine⟨h.nd,gO,λa y b hb=> ?_⟩;have:b=wr.heap.size:=by simpa using hb
  have:=U a y;omega
 ·have b3:eh w w3:=⟨Y.os.trans (b2.os.trans h.ny.os),Y.tape.trans (b2.tape.trans h.ny.tape),Y.output.trans (b2.output.trans h.ny.output),by have:=h.ny.size;omega,λi hi=>(V i dU (λe=>by have:=(h.own i e).1;omega)).trans (h.ny.block i hi)⟩
  exact b3.setCell (by show _<=w.heap.size+1;omega) _
theorem EW.fb(h:EW w wr v bs)(h1:0<bs.length)(X:bs.length<=3):∃g cap,FB wr (w.heap.size+1) {bm:=w.heap.size,g:=g,cap:=cap,bs:=bs} 0 (λ_=>ν) (λ_ _=>ν):=by
 rcases h.row.2 with⟨_,e⟩|⟨g,cap,e,_⟩
 ·omega
 ·have V:=h.own g (by rw[e];rfl);have hb:=h.nN;have Z:=h.row;rw[e]at hb Z;refine⟨g,cap,hb,Z,h.km,λi b T=>h.om b (bz T),X,⟨by show w.heap.size≠w.heap.size+1;omega,by show g≠w.heap.size+1;omega,by show w.heap.size≠g;omega,λb Y=> ?_⟩,h.nd⟩;have h4:=h.ge b Y;exact⟨dU,λU=>V.2 (by rw[<-show b=g from U];exact Y),by show b≠w.heap.size;omega⟩
theorem afS(p:Int)(w:dR)(Z:p<1 \/3<p):
 eT eU 66 #[ι κ p] w λe w'=>e=ρ (τ #[π ν,jb 1])/\w=w':=by
 have Y:Hid (jb 1=.iface 128 (ι κ 1)):=rfl;by_cases h1:p<1
 ·clear Z
  go_in
  go_wp2_with(fail);rw[Y.out]
  go_ret2
  exact⟨rfl,rfl⟩
 ·have h3:3<p:=dU;clear Z
  go_in
  go_wp2_with(fail);rw[Y.out]
  go_ret2
  exact⟨rfl,rfl⟩
theorem ZR(p:Nat)(w:dR)(hp:1<=p/\p<=3):
 eT eU 66 #[ι κ (p:Int)] w λe w'=>e=ρ (τ #[π (μ ⟨w.heap.size+1,0,ν⟩),η])/\∃v bs,EW w w' v bs/\bs.length=p:=by
 obtain⟨i0,hi,od,A,mL⟩:=aY Ta;have h1:¬((p:Int)<1):=dU;have h3:¬(3<(p:Int)):=dU;obtain⟨W1,Q⟩:=fW ((w.alloc (.map #[] 0)).alloc (γ #[.map (μ w.heap.size),σ ν 0 0] 214));have H:EW w W1 (σ ν 0 0) [] :=by
  rw[<-Q];refine⟨?_,Row.nil _ 1,(SMap.made w).alloc _,λb hb=>by simp at hb,λb hb=>by simp at hb,λg u=>by simp[dV]at u,cY,(gN _ _).alloc gO _⟩;have:=aW (w.alloc (.map #[] 0)) (γ #[.map (μ w.heap.size),σ ν 0 0] 214);simpa using this
 have HW:Hid _:=Q;have XM:∀W:dR,(fV 211 ν).run eU W=.ok (.map (μ W.heap.size)) (W.alloc (.map #[] 0)):=λW=>ZP W;have hzb:=Tb;clear Q
 go_in
 go_wp2_with(fail);rw[HW.out]
 go_loopw [16] (λi wr=>∃(j:Nat) (v:dT) (bs:List Nat),j<=p/\i=ι κ j/\bs.length=j/\EW w wr v bs) (λi _=>p-(intOf i).toNat)
 case atStart=>exact⟨0,_,[],Nat.zero_le _,rfl,rfl,H⟩
 case round=>
  clear H;obtain⟨j,v,bs,hj,rfl,hl,Z⟩:=hrel;by_cases ka:j<p
  ·have m8:(j:Int)<(p:Int):=dU;have c1:wr.cell? ⟨w.heap.size+1,1,ν⟩=μ v:=ax wr _ 1 _ _ (0,0) Z.nN;have lB:w.heap.size+1<wr.heap.size:=af wr _ c1;have U:=Z.row;rw[hl]at U;have V:Hid _:=hl;have Y:Hid _:=Z;clear Z hl;go_wp2_with(at_builtin;go_must(refine iB _ rfl (.tmp 22) (.tmp 24) 212 rfl 211 i0 (.map ν) 1 8 underlying212 hi od A mL rfl dX v j _ rfl ((U.alloc _).alloc _) _ 1 1 [.map (μ wr.heap.size)] rfl rfl dX (xM _ _ _ _ gO) (Wm _) (by unfold maxLen;omega) dU ?_));intro G J w3 D T M;have X:w3.heap[w.heap.size+1]? =μ (γ #[.map (μ w.heap.size),v] 214 (0,0)):=by
    refine(T.block _ (by simp;omega) (λe=> ?_)).trans ((((gN wr (.map #[] 0)).alloc gO _).block _ lB).trans Y.out.nN);have:=(Y.out.own _ e.symm).1;omega
   have c3:w3.cell? ⟨w.heap.size+1,1,ν⟩=μ v:=ax w3 _ 1 _ _ (0,0) X;have f3:=bu w3 (w.heap.size+1) 1 _ _ X;have l3:w.heap.size+1<w3.heap.size:=af w3 _ c3;have h:Hid (EW w (w3.setCell ⟨w.heap.size+1,1,ν⟩ (σ (μ ⟨G,0,ν⟩) (j+1) J)) (σ (μ ⟨G,0,ν⟩) (j+1) J) (bs++ [wr.heap.size])):=by
    refine Y.out.step T (by rw[V.out]) (by rw[V.out];exact D) ?_;rcases M with e|e
    ·exact .inl e
    ·right;simpa using e
   clear D T M X U
   go_wp2
   go_roundw
   case rel=>exact⟨j+1,_,_,dU,by go_num,by simp[V.out],h.out⟩
   case measure=>simp[intOf];omega
  ·have y:j=p:=dU;subst y;have Y:Hid (∃v bs,EW w wr v bs/\bs.length=j):=⟨v,bs,Z,hl⟩
   clear Z hl
   go_wp2
   go_ret2
   exact⟨rfl,Y.out⟩
abbrev PS:=Int×List jG
structure JG(w:dR)(m:FM)(k:Int)(q:PS)(s:SV):Prop where
 own:s.own=k
 seq:s.seq=q.1
 n:s.n=q.2.length
 opt:iU w s.a s.n q.2
 nil:kt s.a s.cap
 ok:oD k q.1 q.2=0
 lt:∀j,dV (σ s.a s.n s.cap)=μ j->j<w.heap.size
 far:∀j,dV (σ s.a s.n s.cap)=μ j->j≠m.bm/\j∉m.bs/\¬m.no j
def Tie(w:dR)(m:FM)(f:Int->Option SV)(F:Int->Option PS):Prop:=∀k,sv k->match F k with
 |none=>f k=none
 |some q=>∃s,f k=some s/\JG w m k q s
theorem JG.kept {q:PS} (h:JG w m k q s)(Y:jr w w' m):JG w' m k q s:=⟨h.own,h.seq,h.n,h.opt.RH (cap:=s.cap) Y (λj Z=>⟨(h.far j Z).1,(h.far j Z).2.1⟩),h.nil,h.ok,λj Z=>Nat.lt_of_lt_of_le (h.lt j Z) Y.size,h.far⟩
theorem Tie.kept {w w':dR} {m:FM} {f:Int->Option SV} {F:Int->Option PS} (h:Tie w m f F)(V:jr w w' m):Tie w' m f F:=by
 intro k Y;have:=h k Y;cases e:F k with
 |none=>rw[e]at this;exact this
 |some q=>rw[e]at this;obtain⟨s,X,Z⟩:=this;exact⟨s,X,Z.kept V⟩
theorem Tie.yP {F:Int->Option PS} (h:Tie w m f F)(Z:sv k)(e:F k=ν):f k=ν:=by have:=h k Z;rw[e]at this;exact this
theorem Tie.ur {F:Int->Option PS} (h:Tie w m f F)(Z:sv k) {q:PS} (e:F k=μ q):∃s,f k=μ s/\JG w m k q s:=by have:=h k Z;rw[e]at this;exact this
def vD(F:Int->Option PS)(k:Int)(q:PS):Int->Option PS:=λx=>if x=k then μ q else F x
def xN(F:Int->Option PS)(k:Int):Int->Option PS:=λx=>if x=k then ν else F x
theorem Tie.put {F:Int->Option PS} (h:Tie w m f F) {q:PS} (hs:JG w m k q s):Tie w m (sN f k s) (vD F k q):=by
 intro x Z;by_cases e:x=k
 ·subst e;simp only[vD,sN,if_true];exact⟨s,rfl,hs⟩
 ·have:=h x Z;simp only[vD,sN,if_neg e];exact this
theorem Tie.out {F:Int->Option PS} (h:Tie w m f F)(k:Int):Tie w m (del f k) (xN F k):=by
 intro x Z;by_cases e:x=k
 ·subst e;simp only[xN,del,if_true]
 ·have:=h x Z;simp only[xN,del,if_neg e];exact this
structure BR(w:dR)(B:Nat)(m:FM)(n:Nat)(K:Int->Option PS)(O:Nat->Int->Option PS):Prop where
 ex:∃kn ow,FB w B m n kn ow/\Tie w m kn K/\∀i,i<m.bs.length->Tie w m (ow i) (O i)
 Pf:∀j,m.no j->j<w.heap.size
theorem BR.Hl {K:Int->Option PS} {O:Nat->Int->Option PS} (h:BR w B m n K O)(hs:w.heap.size<=w'.heap.size):∀j,m.no j->j<w'.heap.size:=λj Z=>Nat.lt_of_lt_of_le (h.Pf j Z) hs
def newF(K:Int->Option PS)(own seq:Int)(es:List jG):Int:=match K own with|none=>1|some q=>lr seq es q.1 q.2
theorem Dm(B:Nat)(m:FM)(k:Nat)(kn:Int->Option SV)(ow:Nat->Int->Option SV)(K:Int->Option PS)(own seq:Int)(a:Option dQ)(n cap:Nat)(es:List jG)(w:dR)(h:FB w B m k kn ow)(X:Tie w m kn K)(Z:sv own)(V:iU w a n es)(T:n<=1000000):
 eT eU 217 #[π (μ ⟨B,0,ν⟩),.agg #[ι κ own,ι κ seq,σ a n cap]] w λe w'=>e=ρ (ι κ (newF K own seq es))/\eh w w':=by
 cases e:K own with
 |none=>
  have hv:newF K own seq es=1:=by rw[newF,e]
  rw[hv];exact Ll B m k kn ow own seq a n cap w h Z (X.yP Z e)
 |some q=>
  obtain⟨s,U,Y⟩:=X.ur Z e;have hv:newF K own seq es=lr seq es s.seq q.2:=by rw[newF,e,Y.seq]
  rw[hv];exact Lm B m k kn ow own seq a n cap es s q.2 w h Z U V T Y.opt
def kY(K:Int->Option PS)(own seq:Int)(es:List jG):Int->Option PS:=if 0<newF K own seq es then vD K own (seq,es)else K
def oq(K:Int->Option PS)(O:Nat->Int->Option PS)(p:Nat)(own seq:Int)(es:List jG):Nat->Int->Option PS:=λi=>
 if 0<newF K own seq es then(if i=p then xN (vD (O p) own (seq,es)) own else vD (O i) own (seq,es))
 else if newF K own seq es<0 then(if i=p then(match K own with|none=>O p|some q=>vD (O p) own q)else O i)
 else(if i=p then xN (O p) own else O i)
theorem Dn(K:Int->Option PS)(own seq:Int)(es:List jG)(h:∀q:PS,lr seq es q.1 q.2= -1 \/lr seq es q.1 q.2=0 \/lr seq es q.1 q.2=1):newF K own seq es= -1 \/newF K own seq es=0 \/newF K own seq es=1:=by
 unfold newF;cases K own with
 |none=>exact .inr (.inr rfl)
 |some q=>exact h q
theorem Pg(B:Nat)(m:FM)(k:Nat)(K:Int->Option PS)(O:Nat->Int->Option PS)(p:Nat)(own seq:Int)(a:Option dQ)(n cap:Nat)(es:List jG)(w:dR)(h:BR w B m k K O)(Q:sv own)(G:p<m.bs.length)(M:iU w a n es)(j5:kt a cap)(u:k<=1000000)(hf:oD own seq es=0)
 (hS:∀q:PS,lr seq es q.1 q.2= -1 \/lr seq es q.1 q.2=0 \/lr seq es q.1 q.2=1):
 eT eU 190 #[π (μ ⟨B,0,ν⟩),ι κ (p:Int),.agg #[ι κ own,ι κ seq,σ a n cap]] w λe w'=>e=ρ (τ #[ι κ (newF K own seq es),η])/\BR w' B m (k+1+m.bs.length) (kY K own seq es) (oq K O p own seq es)/\jr w w' m:=by
 obtain⟨kn,ow,hF,U,V⟩:=h.ex;have hn:n<=6:=by have:=(jw hf).2.2.1;rw[M.1]at this;exact this
 have H:n<=maxLen:=by unfold maxLen;omega
 have X:∀W,eh w W->eT eU 217 #[π (μ ⟨B,0,ν⟩),.agg #[ι κ own,ι κ seq,σ a n cap]] W λe w'=>e=ρ (ι κ (newF K own seq es))/\eh W w':=λW hb=>
  Dm B m k kn ow K own seq a n cap es W (hF.below hb) (U.kept (jr.iJ m hb)) Q (M.below hb) dU
 rcases Dn K own seq es hS with e|e|e
 ·rw[e]at X⊢;cases D:K own with
  |none=>rw[newF,D]at e;cases e
  |some q=>
   obtain⟨s,h1,h2⟩:=U.ur Q D;refine(RL B m k kn ow p own seq a n cap es w hF Q G M H hf s h1 u X).mono ?_;rintro y w1 ⟨rfl,A,Z⟩;refine⟨rfl,⟨⟨_,_,A.mono dU,?_,λi hi=> ?_⟩,h.Hl Z.size⟩,Z⟩
   ·simp only[kY,e];exact U.kept Z
   ·simp only[oq,e,D];by_cases Y:i=p
    ·subst Y;simp;exact((V i hi).kept Z).put (h2.kept Z)
    ·simp[Y];exact(V i hi).kept Z
 ·rw[e]at X⊢;refine(take_zero B m k kn ow p own seq a n cap es w hF Q G M H hf X).mono ?_;rintro y w1 ⟨rfl,A,Z⟩;refine⟨rfl,⟨⟨_,_,A.mono dU,?_,λi hi=> ?_⟩,h.Hl Z.size⟩,Z⟩
  ·simp only[kY,e];exact U.kept Z
  ·simp only[oq,e];by_cases Y:i=p
   ·subst Y;simp;exact((V i hi).kept Z).out own
   ·simp[Y];exact(V i hi).kept Z
 ·rw[e]at X⊢;refine(RM B m k kn ow p own seq a n cap es w hF Q G M H j5 u hf X).mono ?_;rintro y w1 ⟨rfl,s,T⟩;have hs:JG w1 m own (seq,es) s:=⟨T.so,T.ss,T.sn,T.so2,T.nil,hf,λj J=>(T.new j J).2,λj J=>by
   have h1:=(T.new j J).1;exact⟨λe=>by have:=hF.mlt m.bm (.inl rfl);omega,λe=>by have:=hF.mlt j (.inr e);omega,λe=>by have:=h.Pf j e;omega⟩⟩
  refine⟨rfl,⟨⟨_,_,T.fb,?_,λi hi=> ?_⟩,h.Hl T.kept.size⟩,T.kept⟩
  ·simp only[kY,e];exact(U.kept T.kept).put hs
  ·simp only[oq,e];by_cases Y:i=p
   ·subst Y;simp;exact(((V i hi).kept T.kept).put hs).out own
   ·simp[Y,hi];exact((V i hi).kept T.kept).put hs
def pQ(F G:Int->Option PS):Int->Option PS:=λk=>if(G k).isSome=true then G k else F k
theorem Tie.over {w:dR} {m:FM} {f g:Int->Option SV} {F G:Int->Option PS} (h:Tie w m f F)(M:Tie w m g G):Tie w m (Go.Proofs.YtieklnlbljejdaaGreatDoor.over f g) (pQ F G):=by
 intro k V;have U:=h k V;have Z:=M k V;cases e:G k with
 |none=>
  rw[e]at Z;have Y:pQ F G k=F k:=by simp[pQ,e]
  have X:Go.Proofs.YtieklnlbljejdaaGreatDoor.over f g k=f k:=by simp[Go.Proofs.YtieklnlbljejdaaGreatDoor.over,Z]
  rw[Y,X];exact U
 |some q=>
  rw[e]at Z;obtain⟨s,Q,T⟩:=Z;have Y:pQ F G k=μ q:=by simp[pQ,e]
  have X:Go.Proofs.YtieklnlbljejdaaGreatDoor.over f g k=μ s:=by simp[Go.Proofs.YtieklnlbljejdaaGreatDoor.over,Q]
  rw[Y,X];exact⟨s,rfl,T⟩
theorem Ph(B:Nat)(m:FM)(k:Nat)(K:Int->Option PS)(O:Nat->Int->Option PS)(p:Nat)(w:dR)(h:BR w B m k K O)(U:p<m.bs.length):
 eT eU 124 #[π (μ ⟨B,0,ν⟩),ι κ (p:Int)] w λe w'=>e=ρ (τ #[])/\BR w' B m k K (λi=>if i=p then λ_=>ν else O i)/\jr w w' m:=by
 obtain⟨kn,ow,hF,V,T⟩:=h.ex;refine(RO B m k kn ow p w hF U).mono ?_;rintro e w1 ⟨rfl,X,Z⟩;refine⟨rfl,⟨⟨_,_,X,V.kept Z,λi hi=> ?_⟩,h.Hl Z.size⟩,Z⟩;by_cases Y:i=p
 ·simp only[if_pos Y];exact λ_ _=>rfl
 ·simp only[if_neg Y];exact(T i hi).kept Z
theorem Pj(B:Nat)(m:FM)(k:Nat)(K:Int->Option PS)(O:Nat->Int->Option PS)(p:Nat)(w:dR)(h:BR w B m k K O)(U:p<m.bs.length)(Q:k<=1000000):
 eT eU 126 #[π (μ ⟨B,0,ν⟩),ι κ (p:Int)] w λe w'=>e=ρ η/\BR w' B m (k+k) K (λi=>if i=p then pQ (O p) K else O i)/\jr w w' m:=by
 obtain⟨kn,ow,hF,Y,X⟩:=h.ex;refine(RV B m k kn ow p w hF U Q).mono ?_;rintro e w1 ⟨rfl,T,Z⟩;refine⟨rfl,⟨⟨_,_,T,Y.kept Z,λi hi=> ?_⟩,h.Hl Z.size⟩,Z⟩;by_cases V:i=p
 ·subst V;simp only[if_true];exact((X i hi).kept Z).over (Y.kept Z)
 ·simp only[if_neg V];exact(X i hi).kept Z
theorem JH(B:Nat)(m:FM)(k:Nat)(K:Int->Option PS)(O:Nat->Int->Option PS)(own seq:Int)(a:Option dQ)(n cap:Nat)(es:List jG)(w:dR)(h:BR w B m k K O)(Y:sv own)(V:iU w a n es)(X:kt a cap)(Q:k<=1000000)(hf:oD own seq es=0):
 eT eU 67 #[π (μ ⟨B,0,ν⟩),.agg #[ι κ own,ι κ seq,σ a n cap]] w λe w'=>e=ρ η/\BR w' B m (k+1+m.bs.length) (vD K own (seq,es)) (λi=>vD (O i) own (seq,es))/\jr w w' m:=by
 obtain⟨kn,ow,hF,U,M⟩:=h.ex;refine(Za B m k kn ow own seq a n cap es w hF Y V X Q hf).mono ?_;rintro e w1 ⟨rfl,s,T⟩;have hs:JG w1 m own (seq,es) s:=⟨T.so,T.ss,T.sn,T.so2,T.nil,hf,λj Z=>(T.new j Z).2,λj Z=>by
  have h1:=(T.new j Z).1;exact⟨λe=>by have:=hF.mlt m.bm (.inl rfl);omega,λe=>by have:=hF.mlt j (.inr e);omega,λe=>by have:=h.Pf j e;omega⟩⟩
 refine⟨rfl,⟨⟨_,_,T.fb,(U.kept T.kept).put hs,λi hi=> ?_⟩,h.Hl T.kept.size⟩,T.kept⟩;simp only[if_pos hi];exact((M i hi).kept T.kept).put hs
theorem L8(B:Nat)(m:FM)(k:Nat)(K:Int->Option PS)(O:Nat->Int->Option PS)(p:Nat)(own seq:Int)(a:Option dQ)(n cap:Nat)(es:List jG)(w:dR)(h:BR w B m k K O)(U:sv own)(M:p<m.bs.length)(X:iU w a n es)(hf:oD own seq es=0)
 (D:∀q:PS,lr seq es q.1 q.2= -1 \/lr seq es q.1 q.2=0 \/lr seq es q.1 q.2=1):
 eT eU 191 #[π (μ ⟨B,0,ν⟩),ι κ (p:Int),.agg #[ι κ own,ι κ seq,σ a n cap]] w λe w'=>e=ρ η/\BR w' B m k K (λi=>if i=p/\0<=newF K own seq es then xN (O p) own else O i)/\jr w w' m:=by
 obtain⟨kn,ow,hF,Q,J⟩:=h.ex;have hn:n<=6:=by have:=(jw hf).2.2.1;rw[X.1]at this;exact this
 have T:n<=maxLen:=by unfold maxLen;omega
 have Y:∀W,eh w W->eT eU 217 #[π (μ ⟨B,0,ν⟩),.agg #[ι κ own,ι κ seq,σ a n cap]] W λe w'=>e=ρ (ι κ (newF K own seq es))/\eh W w':=λW hb=>
  Dm B m k kn ow K own seq a n cap es W (hF.below hb) (Q.kept (jr.iJ m hb)) U (X.below hb) dU
 have key:∀w1,FB w1 B m k kn (λi=>if i=p then del (ow p) own else ow i)->jr w w1 m->0<=newF K own seq es->BR w1 B m k K (λi=>if i=p/\0<=newF K own seq es then xN (O p) own else O i):=by
  intro w1 V Z A;refine⟨⟨_,_,V,Q.kept Z,λi hi=> ?_⟩,h.Hl Z.size⟩;by_cases G:i=p
  ·subst G;simp only[if_true,A,and_self];exact((J i hi).kept Z).out own
  ·simp only[G,if_false,false_and];exact(J i hi).kept Z
 rcases Dn K own seq es D with e|e|e
 ·rw[e]at Y;refine(OM B m k kn ow p own seq a n cap es w hF M X T hf Y).mono ?_;rintro H w1 ⟨rfl,b1⟩;have Z:=jr.iJ m b1;refine⟨rfl,⟨⟨_,_,hF.below b1,Q.kept Z,λi hi=> ?_⟩,h.Hl Z.size⟩,Z⟩;have:¬(i=p/\0<=newF K own seq es):=by rw[e];omega
  simp only[if_neg this];exact(J i hi).kept Z
 ·rw[e]at Y;refine(Lq B m k kn ow p own seq a n cap es w hF U M X T hf Y).mono ?_;rintro H w1 ⟨rfl,V,Z⟩;exact⟨rfl,key w1 V Z dU,Z⟩
 ·rw[e]at Y;refine(OL B m k kn ow p own seq a n cap es w hF U M X T hf Y).mono ?_;rintro H w1 ⟨rfl,V,Z⟩;exact⟨rfl,key w1 V Z dU,Z⟩
theorem Tc(p:Nat)(w:dR)(U:1<=p/\p<=3):
 eT eU 66 #[ι κ (p:Int)] w λe w'=>e=ρ (τ #[π (μ ⟨w.heap.size+1,0,ν⟩),η])/\∃m:FM,m.bs.length=p/\BR w' (w.heap.size+1) m 0 (λ_=>ν) (λ_ _=>ν)/\eh w w'/\w.heap.size<=m.bm/\w.heap.size<=m.g/\(∀b∈m.bs,w.heap.size<=b):=by
 refine(ZR p w U).mono ?_;rintro e w1 ⟨rfl,v,bs,Z,hl⟩;rcases Z.row.2 with⟨_,e⟩|⟨g,cap,e,_⟩
 ·omega
 ·obtain⟨Y,cap2,hF⟩:=Z.fb dU dU;refine⟨rfl,_,hl,⟨⟨_,_,hF,λ_ _=>rfl,λ_ _ _ _=>rfl⟩,λ_ h=>h.elim⟩,Z.ny,Nat.le_refl _,?_,λb hb=> ?_⟩
  ·have X:=hF.nN;rw[Z.nN]at X;have V:v=FM.sl {bm:=w.heap.size,g:=Y,cap:=cap2,bs:=bs}:=by simpa using X
   have:=Z.own Y (by rw[V];rfl);show w.heap.size<=Y;omega
  ·have:=Z.ge b hb;omega
def mA(F:Int->Option PS):Int->List jG:=λk=>((F k).map (·.2)).getD []
theorem Tie.fine {F:Int->Option PS} (h:Tie w m f F):Fine w f (mA F):=by
 intro k s Y hs;cases e:F k with
 |none=>rw[h.yP Y e]at hs;cases hs
 |some q=>
  obtain⟨t,X,Z⟩:=h.ur Y e;rw[hs]at X;obtain rfl:=Option.some.inj X;have V:=jw Z.ok;have U:mA F k=q.2:=by simp[mA,e]
  rw[U];exact⟨V.1,Z.own,Z.opt,Z.nil,by have:=V.2.2.1;have:=Z.n;omega⟩
structure oH(F:Int->Option PS)(n:Nat)(S:Nat->SV)(E:Nat->List jG):Prop where
 at_:∀j,j<n->sv (S j).own/\F (S j).own=μ ((S j).seq,E j)
 ok:∀j,j<n->oD (S j).own (S j).seq (E j)=0
 all:∀k,sv k->(F k).isSome=true->∃j,j<n/\(S j).own=k
 KT:∀i j,i<j->j<n->(S i).own<(S j).own
theorem Yf(ts:List SV)(j:Nat)(h:j<ts.length):ts[j]? =μ (ts.getD j SV.zero):=by
 rw[a6,aA h];rfl
theorem CX.lists {F:Int->Option PS} {ts:List SV} (U:CX w w' f (mA F) v ts)(M:Tie w m f F):
 ∃a cap,v=σ a ts.length cap/\qQ w' a ts.length (λj=>ts.getD j SV.zero) (λj=>mA F (ts.getD j SV.zero).own)/\oH F ts.length (λj=>ts.getD j SV.zero) (λj=>mA F (ts.getD j SV.zero).own)/\ts.length<=6/\(∀j,dV v=μ j->w.heap.size<j):=by
 have FN:∀j,j<ts.length->Zc w w' f (mA F) v (ts.getD j SV.zero):=λj Z=>U.el _ (bz (Yf ts j Z));have hat:∀j,j<ts.length->∃q,F (ts.getD j SV.zero).own=μ q/\q.1=(ts.getD j SV.zero).seq/\q.2=mA F (ts.getD j SV.zero).own/\oD (ts.getD j SV.zero).own q.1 q.2=0:=by
  intro j Z;have h:=FN j Z;obtain⟨t,V,hs⟩:=h.at_;cases e:F (ts.getD j SV.zero).own with
  |none=>rw[M.yP h.inr e]at V;cases V
  |some q=>
   obtain⟨t2,Y,X⟩:=M.ur h.inr e;rw[V]at Y;obtain rfl:=Option.some.inj Y;exact⟨q,rfl,by rw[hs,X.seq],by unfold mA;rw[e];rfl,X.ok⟩
 have T:oH F ts.length (λj=>ts.getD j SV.zero) (λj=>mA F (ts.getD j SV.zero).own):=by
  refine⟨λj Z=> ?_,λj Z=> ?_,λk y hs=> ?_,λi j J Z=> ?_⟩
  ·obtain⟨q,Q,Y,X,u⟩:=hat j Z;refine⟨(FN j Z).inr,?_⟩;rw[Q,<-Y,<-X]
  ·obtain⟨q,Q,Y,X,u⟩:=hat j Z;rw[<-Y,<-X];exact u
  ·cases e:F k with
   |none=>rw[e]at hs;cases hs
   |some q=>
    obtain⟨t,V,_⟩:=M.ur y e;obtain⟨s,hm,H⟩:=U.all k y (by rw[V];rfl);obtain⟨j,Z,D⟩:=cV hm;refine⟨j,Z,?_⟩;have:ts.getD j SV.zero=s:=by rw[a6,aA Z];exact D
    show(ts.getD j SV.zero).own=k;rw[this];exact H
  ·have hp:=U.KT;have hi:i<ts.length:=dU;have:=dr.1 hp i j hi Z J;have G:ts.getD i SV.zero=ts[i] :=by rw[a6,aA hi];rfl
   have e2:ts.getD j SV.zero=ts[j] :=by rw[a6,aA Z];rfl
   show(ts.getD i SV.zero).own<(ts.getD j SV.zero).own;rw[G,e2];exact this
 have A:ts.length<=6:=by
  have:=ui (ts.map SV.own) [1,2,3,4,5,6] (by rw[dj];exact U.KT.imp (λh=>dU)) (λx hx=>by
   obtain⟨s,hs,rfl⟩:=bH.1 hx;obtain⟨j,Z,rfl⟩:=cV hs;have:=jw (T.ok j Z);have G:ts.getD j SV.zero=ts[j] :=by rw[a6,aA Z];rfl
   have Q:=this.1;rw[G]at Q;simp;omega)
  simpa using this
 have hO:∀j,j<ts.length->iU w' (ts.getD j SV.zero).a (ts.getD j SV.zero).n (mA F (ts.getD j SV.zero).own)/\kt (ts.getD j SV.zero).a (ts.getD j SV.zero).cap/\(ts.getD j SV.zero).n<=maxLen:=by
  intro j Z;have h:=FN j Z;refine⟨h.opt,h.nil,?_⟩;have:=(jw (T.ok j Z)).2.2.1;rw[h.n];unfold maxLen;omega
 rcases U.shape with⟨rfl,rfl⟩|⟨g,cap,rfl,hS,hg⟩
 ·exact⟨ν,0,rfl,⟨.inl rfl,λj Z=>by simp at Z⟩,T,A,λj Z=>by simp[dV]at Z⟩
 ·refine⟨_,_,rfl,⟨.inr ⟨g,0,rfl,λj Z=> ?_⟩,hO⟩,T,A,λj Z=> ?_⟩
  ·obtain⟨c1,c2,c3⟩:=hS.cell j _ (Yf ts j Z);rw[show 0+j*3=j*3 by omega];exact⟨c1,c2,c3⟩
  ·have:g=j:=by simpa[dV]using Z
   omega
theorem BR.below {w w':dR} {B:Nat} {m:FM} {k:Nat} {K:Int->Option PS} {O:Nat->Int->Option PS} (h:BR w B m k K O)(hb:eh w w'):BR w' B m k K O:=by
 obtain⟨kn,ow,Y,Z,X⟩:=h.ex;exact⟨⟨kn,ow,Y.below hb,Z.kept (jr.iJ m hb),λi hi=>(X i hi).kept (jr.iJ m hb)⟩,h.Hl hb.size⟩
def Pk(W:dR)(a:Option dQ)(n cap:Nat)(S:Nat->SV):Prop:=(∀j,dV (σ a n cap)=μ j->W.heap.size<j)/\∀i,i<n->∀j,dV (σ (S i).a (S i).n (S i).cap)=μ j->W.heap.size<j
theorem A3(B:Nat)(m:FM)(k:Nat)(K:Int->Option PS)(O:Nat->Int->Option PS)(w:dR)(h:BR w B m k K O):
 eT eU 110 #[π (μ ⟨B,0,ν⟩)] w λe w'=>∃a n cap S E,e=ρ (σ a n cap)/\qQ w' a n S E/\oH K n S E/\n<=6/\Pk w a n cap S/\eh w w':=by
 obtain⟨kn,ow,hF,Y,hO⟩:=h.ex;refine(L7 B m k kn ow (mA K) w hF Y.fine).mono ?_;rintro e w1 ⟨v,ts,rfl,Z⟩;obtain⟨a,cap,rfl,U,X,Q,T⟩:=Z.lists Y;refine⟨a,ts.length,cap,_,_,rfl,U,X,Q,⟨T,λi hi j V=> ?_⟩,Z.ny⟩;have M:ts.getD i SV.zero∈ts:=by
  have:ts.getD i SV.zero=ts[i] :=by simp[List.getD,hi]
  rw[this];exact aK hi
 exact((Z.el _ M).new j V).1
def xd(K:Int->Option PS)(i:Int):Int:=match K i with|none=>0|some _=>i
def pR(K:Int->Option PS)(i:Int):Int:=match K i with|none=>0|some q=>q.1
theorem JI(B:Nat)(m:FM)(k:Nat)(K:Int->Option PS)(O:Nat->Int->Option PS)(i:Int)(w:dR)(h:BR w B m k K O)(X:sv i):
 eT eU 177 #[π (μ ⟨B,0,ν⟩),ι κ i] w λe w'=>∃a cap,e=ρ (τ #[.agg #[ι κ (xd K i),ι κ (pR K i),σ a (mA K i).length cap],.bool (K i).isSome])/\iU w' a (mA K i).length (mA K i)/\kt a cap/\(mA K i).length<=6/\eh w w':=by
 obtain⟨kn,ow,hF,J,hO⟩:=h.ex;cases e:K i with
 |none=>
  have H:=J.yP X e;refine(Nj B m k kn ow i SV.zero false [] w hF X (by rw[H];rfl) (by rw[H];rfl) ⟨rfl,.inl rfl⟩ dX (λ_=>rfl)).mono ?_;rintro Y w1 ⟨a,cap,rfl,U,V,T⟩;have Y:mA K i=[] :=by simp[mA,e]
  have M:xd K i=0:=by simp[xd,e]
  have Q:pR K i=0:=by simp[pR,e]
  rw[Y,M,Q];exact⟨a,cap,rfl,U,V,gO,T⟩
 |some q=>
  obtain⟨s,hs,Z⟩:=J.ur X e;have G:=(jw Z.ok).2.2.1;refine(Nj B m k kn ow i s true q.2 w hF X (by rw[hs];rfl) (by rw[hs];rfl) Z.opt (by rw[Z.n];omega) Z.nil).mono ?_;rintro Y w1 ⟨a,cap,rfl,U,V,T⟩;have Y:mA K i=q.2:=by simp[mA,e]
  have M:xd K i=s.own:=by simp[xd,e,Z.own]
  have Q:pR K i=s.seq:=by simp[pR,e,Z.seq]
  rw[Y,M,Q];exact⟨a,cap,rfl,U,V,G,T⟩
theorem SMap.obj(h:SMap w b n f):∃es cl,w.heap[b]? =μ (.map es cl):=by
 obtain⟨D,⟨es,cl,Z,_⟩,_⟩:=h.own;exact⟨es,cl,Z⟩
theorem xe {g:Nat} {c:Array dT} {t:TypeId} {fr:Nat×Nat} (hc:w.heap[g]? =μ (γ c t fr))(Z:∃es cl,w.heap[b]? =μ (.map es cl)):g≠b:=by
 obtain⟨es,cl,Z⟩:=Z;rintro rfl;rw[hc]at Z;cases Z
theorem pG {p:dQ} (hc:w.cell? p=μ v)(Z:∃es cl,w.heap[b]? =μ (.map es cl)):p.block≠b:=by
 obtain⟨es,cl,Z⟩:=Z;rintro rfl;unfold World.cell? at hc;rw[Z]at hc;cases hc
theorem BR.maps {k:Nat} {K:Int->Option PS} {O:Nat->Int->Option PS} (h:BR w B m k K O):∀b,(b=m.bm \/b∈m.bs)->∃es cl,w.heap[b]? =μ (.map es cl):=by
 obtain⟨kn,ow,Z,_,_⟩:=h.ex;intro b hb;rcases hb with rfl|hb
 ·exact Z.km.obj
 ·obtain⟨i,hi,rfl⟩:=cV hb;exact(Z.om i _ (aA hi)).obj
theorem BR.mlt {k:Nat} {K:Int->Option PS} {O:Nat->Int->Option PS} (h:BR w B m k K O):∀b,(b=m.bm \/b∈m.bs)->b<w.heap.size:=by
 intro b hb;obtain⟨es,cl,Z⟩:=h.maps b hb;exact(aw.1 Z).1
theorem jr.cell {w w':dR} {B:Nat} {m:FM} {k:Nat} {K:Int->Option PS} {O:Nat->Int->Option PS} (Z:jr w w' m)(h:BR w B m k K O) {p:dQ} {v:dT} (hc:w.cell? p=μ v):w'.cell? p=μ v:=by
 rw[ai (w:=w) (Z.block p.block (af w _ hc) (pG hc (h.maps _ (.inl rfl))) (λe=>pG hc (h.maps _ (.inr e)) rfl))];exact hc
theorem iU.two {k:Nat} {K:Int->Option PS} {O:Nat->Int->Option PS} {a:Option dQ} {es:List jG} (h:iU w a n es)(Y:jr w w' m)(hb:BR w B m k K O):iU w' a n es:=by
 refine⟨h.1,?_⟩;rcases h.2 with Z|⟨b,off,rfl,Z⟩
 ·exact .inl Z
 ·exact .inr ⟨b,off,rfl,λj X=>⟨Y.cell hb (Z j X).1,Y.cell hb (Z j X).2⟩⟩
open Go.ChangeMaps Go.MapKept
def zOf:dT->Int
 | .int _ z=>z
 |_=>0
theorem SMap.ac8(h:SMap w b n f)(hf:∀k,sv k->(f k).isSome=true->1<=k/\k<=6):SMap w b 6 f:=by
 obtain⟨D,⟨es,clock,hb,F,hs,M⟩,hat⟩:=h.own;refine⟨⟨D,⟨es,clock,hb,F,?_,M⟩,hat⟩⟩;have Y:∀x∈es.toList,∃z:Int,x.key=.int .i64 z/\1<=z/\z<=6:=by
  intro x hx;obtain⟨y,hy⟩:=F.reads x hx;have A:=WideElems.rd_key hy;obtain⟨z,V,hl,U⟩:=cr underlying3 A;have Q:=zJ U;refine⟨z,V,hf z Q ?_⟩;cases e:f z with
  |some _=>rfl
  |none=>
   have J:=hat z Q;rw[e]at J;have X:=dy J;rw[M,Maps.has_eq]at X;have H:y∈(es.toList.map (WideElems.rg eU 3 su)).foldr DataW.insert [] :=(Go.WideShapes.sorted_perm _).mem_iff.2 (bH.2 ⟨x,hx,WideElems.rg_of hy⟩);have:=List.any_eq_false.1 X y H;rw[hl]at this;simp[qE]at this
 have T:=((stamped_iff es clock).1 F.stamped).2.2;have hlen:=ui (es.toList.map (λx=>zOf x.key)) [1,2,3,4,5,6] (by
  rw[dj];refine T.imp_of_mem ?_;intro x y hx hy G e;obtain⟨a,Z,_⟩:=Y x hx;obtain⟨c,hc,_⟩:=Y y hy;rw[Z,hc]at e;simp only[zOf]at e;exact G (by rw[Z,hc,e])) (λz V=>by
  obtain⟨x,hx,rfl⟩:=bH.1 V;obtain⟨a,Z,X,h2⟩:=Y x hx;rw[Z];simp only[zOf];simp;omega)
 simpa using hlen
theorem Tie.range {F:Int->Option PS} (h:Tie w m f F):∀k,sv k->(f k).isSome=true->1<=k/\k<=6:=by
 intro k Z hs;cases e:F k with
 |none=>rw[h.yP Z e]at hs;cases hs
 |some q=>
  obtain⟨s,_,Y⟩:=h.ur Z e;exact(jw Y.ok).1
theorem BR.six {K:Int->Option PS} {O:Nat->Int->Option PS} (h:BR w B m n K O):BR w B m 6 K O:=by
 obtain⟨kn,ow,hF,Y,Z⟩:=h.ex;exact⟨⟨kn,ow,⟨hF.nN,hF.row,hF.km.ac8 Y.range,λi b e=>(hF.om i b e).ac8 (Z i (aI.1 e).1).range,hF.few,hF.nB,hF.nd⟩,Y,Z⟩,h.Pf⟩
theorem BR.avoid(h:BR w B m n (λ_=>ν) (λ_ _=>ν))(no:Nat->Prop)(Y:∀j,no j->j<w.heap.size):BR w B {m with no:=no} n (λ_=>ν) (λ_ _=>ν):=by
 obtain⟨kn,ow,hF,V,X⟩:=h.ex;exact⟨⟨kn,ow,⟨hF.nN,hF.row,hF.km,hF.om,hF.few,hF.nB,hF.nd⟩,λk Z=>V k Z,λi hi k Z=>X i hi k Z⟩,Y⟩
def Still(a b:dR):Prop:=∀(j:Nat) (C:Array dT) (t:TypeId) (fr:Nat×Nat),a.heap[j]? =μ (Obj.cells C t fr)->b.heap[j]? =a.heap[j]?
namespace Rt
variable {B g o:Nat} {v:Value} {w w':World}
structure kN where
 who:Int
 both:Bool
 left:Int
def nobody:kN:=⟨0,false,0⟩
structure jl where
 m:Int
 L:LS
 rd:kc
 pe:kN
 out:List UInt8
abbrev yn:=Int×Int×List UInt8
structure iE where
 id:Int
 n:Nat
 P:Nat->jl
 K:Int->Option PS
 O:Nat->Int->Option PS
 jZ:List yn
 drop:Int
def kR(P:Nat->jl)(i:Nat)(p:jl):Nat->jl:=λx=>if x=i then p else P x
def iE.iK(r:iE)(i:Nat)(p:jl):iE:={r with P:=kR r.P i p}
def jl.put(p:jl)(c:UInt8)(s:List UInt8):jl:=
 if c≠76/\p.L.st≠9 then p else if s.length+1<=60 then {p with out:=p.out++Plain.kF (c::s)}else p
def jl.say(p:jl):List kG->jl
 |[] =>p
 |q::r=>(if jJ q.1 q.2.1 q.2.2=0 then p.put 76 (lR q.1 q.2.1 q.2.2)else p).say r
def jl.iD(p:jl)(up:Bool):jl×Nat:=
 let e:=kL p.L (if up then 0 else 1)
 if e.2.2≠0 then(p,e.2.2)else(({p with L:=e.1,rd:=([],false,false)}:jl).say e.2.1,0)
def iW(L:LS):LS×List kG:=
 if(j6 L).st=3 then((kL (kL (j6 L) 1).1 0).1,lh L++(kL (j6 L) 1).2.1++(kL (kL (j6 L) 1).1 0).2.1)else(j6 L,lh L)
def jl.tick(p:jl):jl:=({p with L:=(iW p.L).1}:jl).say (iW p.L).2
def jl.packet(p:jl)(s:List UInt8):jl:=
 let q:=iM s
 if q.2.2.2=0 then({p with L:=(jA p.L (q.1,q.2.1,q.2.2.1)).1}:jl).say (jA p.L (q.1,q.2.1,q.2.2.1)).2.1 else p
def jX(P:Nat->jl)(n:Int):Nat->Option Nat
 |0=>none
 |k+1=>if(P k).pe.both=true/\(P k).pe.who=n/\(match jX P n k with|none=>true|some b=>decide ((P k).m<(P b).m))=true then some k else jX P n k
def jC(r:iE):List jG:=(List.range 6).filterMap λ(j:Nat)=>(jX r.P ((j:Int)+1) r.n).map λb=>((j:Int)+1,(r.P b).m)
def zX(K:Int->Option PS)(i:Int):Int:=match K i with|none=>0|some q=>q.1
def Dp(K:Int->Option PS)(i:Int):List jG:=match K i with|none=>[] |some q=>q.2
def iE.Dq(r:iE)(seq:Int)(es:List jG):iE:={r with K:=vD r.K r.id (seq,es),O:=λi=>vD (r.O i) r.id (seq,es)}
def iE.behind(r:iE)(seq:Int):iE:=if seq<1000000 then r.Dq (seq+1) (jC r)else r
def iE.change(r:iE):iE:=if Dp r.K r.id=jC r then r else r.behind (zX r.K r.id)
def iE.meet(r:iE)(i:Nat)(q:kN):iE:=
 let r1:=r.iK i {r.P i with pe:=q}
 if q.who=(r.P i).pe.who/\q.both=(r.P i).pe.both then r1 else
  let r2:=({r1 with O:=λx=>if x=i then λ_=>ν else r1.O x}:iE).change
  if q.both=true then {r2 with O:=λx=>if x=i then pQ (r2.O i) r2.K else r2.O x}else r2
def iE.iD(r:iE)(i:Nat)(up:Bool):iE×Nat:=
 let e:=(r.P i).iD up
 if e.2≠0 then(r,e.2)else((r.iK i e.1).meet i nobody,0)
def NG(K:Int->Option PS):mU:=λx y=>match K x with|none=>0|some q=>((q.2.find? λe=>e.1==(y:Int)).map (·.2)).getD 0
def pj(r:iE):List HP:=yD (oG (NG r.K)) r.id.toNat
def iE.send(r:iE)(t:yn):iE:=
 if t.1=r.id then {r with jZ:=r.jZ++ [t] }else
  match (if 1<=t.2.1 then(zN (pj r) t.1).bind λh=>jX r.P h.uF r.n else ν)with
  |none=>{r with drop:=r.drop+1}
  |some i=>r.iK i ((r.P i).put 77 (jO t.1::jO (t.2.1-1)::t.2.2))
def iY(me:Int)(f s:Int):kN:=if f=me then nobody else⟨f,decide (s=me),4⟩
def iA(p:kN):kN:=if p.left<=1 then nobody else {p with left:=p.left-1}
def iE.take(r:iE)(i:Nat)(c:UInt8)(s:List UInt8):iE:=
 let r1:=if c=76 then r.iK i ((r.P i).packet s)else r
 if(r1.P i).L.st≠9 then r1.meet i nobody
 else if c=72 then(if(kg s).2.2=0 then r1.meet i (iY r1.id (kg s).1 (kg s).2.1)else r1)
 else if c=83 then
  (let q:=St.il s
   if q.2.2.2≠0 \/(r1.P i).pe.both=false then r1
   else if q.1=r1.id/\0<newF r1.K q.1 q.2.1 q.2.2.1 then r1.behind q.2.1
   else
    let r2:iE:={r1 with K:=kY r1.K q.1 q.2.1 q.2.2.1,O:=oq r1.K r1.O i q.1 q.2.1 q.2.2.1}
    if 0<=newF r1.K q.1 q.2.1 q.2.2.1 then r2.iK i ((r2.P i).put 65 (qC q.1 q.2.1 q.2.2.1))else r2)
 else if c=65 then
  (let q:=St.il s
   if q.2.2.2=0 then {r1 with O:=λx=>if x=i/\0<=newF r1.K q.1 q.2.1 q.2.2.1 then xN (r1.O i) q.1 else r1.O x}else r1)
 else if c=77 then(if 2<=s.length/\s.length<=22 then r1.send (((s.getD 0 0).toNat:Int),((s.getD 1 0).toNat:Int),s.drop 2)else r1)
 else r1
def iE.takes(r:iE)(i:Nat):List (List UInt8)->iE
 |[] =>r
 |t::l=>(match t with|[] =>r|c::s=>r.take i c s).takes i l
def iE.recv(r:iE)(i:Nat)(l:List UInt8):iE:=
 let a:=j9 (r.P i).rd l
 (r.iK i {r.P i with rd:=a.2.2}).takes i a.1
def kO(F:Int->Option PS):List (Int×PS):=(List.range 6).filterMap λ(j:Nat)=>(F ((j:Int)+1)).map λq=>((j:Int)+1,q)
def jl.kh(p:jl):List (Int×PS)->jl
 |[] =>p
 |q::l=>(p.put 83 (qC q.1 q.2.1 q.2.2)).kh l
def iE.iL(r:iE)(i:Nat):iE:=
 let r1:=r.iK i (r.P i).tick
 if(r1.P i).L.st≠9 then r1.meet i nobody else
  let r2:=r1.meet i (iA (r1.P i).pe)
  let p:=(r2.P i).put 72 [jO r2.id,jO (r2.P i).pe.who]
  r2.iK i (if(r2.P i).pe.both=true then p.kh (kO (r2.O i))else p)
def iE.iN(r:iE):Nat->iE
 |0=>r
 |k+1=>(r.iN k).iL k
def iE.tick(r:iE):iE:=r.iN r.n
def iE.out(r:iE)(i:Nat):iE:=r.iK i {r.P i with out:=[] }
def FO(id:Int)(m:Nat->Int)(i:Nat):jl:=⟨m i,{Wn (8*id+i+1)with st:=1},([],false,false),nobody,[]⟩
where Wn (g:Int):LS:=⟨255,g,255,g,0,0,0,255,0,0,0⟩
def jE(id:Int)(n:Nat)(m:Nat->Int):iE:=
 ⟨id,n,FO id m,λx=>if x=id then μ (1,[])else ν,λ_ x=>if x=id then μ (1,[])else ν,[],0⟩
def j2(r:iE)(t:Int)(tx:List UInt8):iE×Nat:=if t<1 \/6<t \/20<tx.length then(r,1)else(r.send (t,8,tx),0)
def wB(p:jl)(B:Nat)(v:dT)(F:Nat->dT):Nat->dT:=λj=>
 if j=0 then .int .i64 p.m else if j=1 then π (μ ⟨B,0,ν⟩)else if j<67 then F (j-2)else if j=67 then .int .i64 p.pe.who else if j=68 then .bool p.pe.both else if j=69 then .int .i64 p.pe.left else v
structure pS(w:dR)(g o B:Nat)(v:dT)(p:jl):Prop where
 wC:∃F,pP w g o 71 (wB p B v F)/\Cj F p.rd.1 p.rd.2.1 p.rd.2.2
 lk:Lk w B (p.L.c (σ ν 0 0))
 ou:Row w 1 v p.out.length (iH p.out)
 few:p.out.length<=1000000000
 ok:yK p.L
 gB:g≠B
 vg:v.ownBlock≠μ g
 vB:v.ownBlock≠μ B
 nz:g≠0/\B≠0/\v.ownBlock≠μ 0
theorem pS.c0 {p:jl} (h:pS w g o B v p):w.cell? ⟨g,o,ν⟩=μ (ι κ p.m):=by obtain⟨F,hC,_⟩:=h.wC;exact hC.cell 0 dX
theorem pS.c1 {p:jl} (h:pS w g o B v p):w.cell? ⟨g,o+1,ν⟩=μ (π (μ ⟨B,0,ν⟩)):=by obtain⟨F,hC,_⟩:=h.wC;exact hC.cell 1 dX
theorem pS.c67 {p:jl} (h:pS w g o B v p):w.cell? ⟨g,o+67,ν⟩=μ (ι κ p.pe.who):=by obtain⟨F,hC,_⟩:=h.wC;exact hC.cell 67 dX
theorem pS.Wo {p:jl} (h:pS w g o B v p):w.cell? ⟨g,o+68,ν⟩=μ (.bool p.pe.both):=by obtain⟨F,hC,_⟩:=h.wC;exact hC.cell 68 dX
theorem pS.c69 {p:jl} (h:pS w g o B v p):w.cell? ⟨g,o+69,ν⟩=μ (.int .i64 p.pe.left):=by obtain⟨F,hC,_⟩:=h.wC;exact hC.cell 69 dX
theorem pS.ZS {p:jl} (h:pS w g o B v p):w.cell? ⟨g,o+70,ν⟩=μ v:=by obtain⟨F,hC,_⟩:=h.wC;exact hC.cell 70 dX
theorem pS.fz {w:dR} {g o B:Nat} {v:dT} {p:jl} (h:pS w g o B v p):∀j,j<71->w.frozen? ⟨g,o+j,ν⟩=false:=by obtain⟨F,hC,_⟩:=h.wC;exact λj Z=>hC.fz j Z
theorem pS.lt {w:dR} {g o B:Nat} {v:dT} {p:jl} (h:pS w g o B v p):g<w.heap.size:=by obtain⟨F,hC,_⟩:=h.wC;exact hC.lt dX
theorem pS.below {w w':dR} {g o B:Nat} {v:dT} {p:jl} (h:pS w g o B v p)(hb:eh w w'):pS w' g o B v p:=by
 obtain⟨F,hC,Z⟩:=h.wC;exact⟨⟨F,hC.below dX hb,Z⟩,h.lk.below hb,h.ou.below hb,h.few,h.ok,h.gB,h.vg,h.vB,h.nz⟩
structure ni(w w':dR)(g o B:Nat)(v:dT):Prop where
 os:w'.os=w.os
 tape:w'.tape=w.tape
 output:w'.output=w.output
 size:w.heap.size<=w'.heap.size
 block:∀i,i<w.heap.size->i≠g->i≠B->v.ownBlock≠μ i->w'.heap[i]? =w.heap[i]?
 cell:∀j,j<o \/o+71<=j->w'.cell? ⟨g,j,ν⟩=w.cell? ⟨g,j,ν⟩
 fz:∀j,w'.frozen? ⟨g,j,ν⟩=w.frozen? ⟨g,j,ν⟩
theorem ni.refl(w:dR)(g o B:Nat)(v:dT):ni w w g o B v:=⟨rfl,rfl,rfl,Nat.le_refl _,λ_ _ _ _ _=>rfl,λ_ _=>rfl,λ_=>rfl⟩
theorem ni.iJ(o B:Nat)(v:dT)(h:eh w w')(Z:g<w.heap.size):ni w w' g o B v:=
 ⟨h.os,h.tape,h.output,h.size,λi hi _ _ _=>h.block i hi,λj _=>ai (a:=⟨g,j,ν⟩) (h.block g Z),λj=>aJ (a:=⟨g,j,ν⟩) (h.block g Z)⟩
theorem ni.trans {a b c:dR} {g o B:Nat} {v v':dT} (h:ni a b g o B v)(k:ni b c g o B v')(hv:∀i,v'.ownBlock=μ i->v.ownBlock=μ i \/a.heap.size<=i):ni a c g o B v:=
 ⟨k.os.trans h.os,k.tape.trans h.tape,k.output.trans h.output,Nat.le_trans h.size k.size,λi hi X Z V=>(k.block i (Nat.lt_of_lt_of_le hi h.size) X Z (λe=>by
  rcases hv i e with Y|Y
  ·exact V Y
  ·omega)).trans (h.block i hi X Z V),λj U=>(k.cell j U).trans (h.cell j U),λj=>(k.fz j).trans (h.fz j)⟩
theorem xO(g o B:Nat)(v:dT)(p:jl)(w:dR)(h:pS w g o B v p):
 eT eU 83 #[π (μ ⟨g,o,ν⟩)] w λe w'=>e=ρ (.bool (p.L.st==9))/\w=w':=by
 have c1:=h.c1;have hl:=h.lt;have hs:=zV B _ p.L _ [] w (qF.rest h.lk);clear h
 go_in
 go_wp2_with(fail);refine hs.mono ?_;rintro e w1 ⟨rfl,rfl⟩;clear hs
 go_wp2
 go_ret;exact⟨rfl,rfl⟩
theorem Td:(eU.info? 5).map (λi=>(i.zero,i.size,i.bytes))=μ (μ (.int .u8 0),1,1):=gL
theorem NH(p:jl)(B:Nat)(v v':dT)(F:Nat->dT)(l:List UInt8):∀j,j<71->r9 (wB p B v F) 70 v' j=wB {p with out:=l} B v' F j:=by
 intro j hj;by_cases e:j=70
 ·subst e;rw[ph];rfl
 ·rw[jz _ _ e];unfold wB;by_cases Y:j=0
  ·simp[Y]
  ·by_cases Z:j=1
   ·simp[Z]
   ·by_cases T:j<67
    ·simp[Y,Z,T]
    ·by_cases U:j=67
     ·simp[U]
     ·by_cases V:j=68
      ·simp[V]
      ·have X:j=69:=dU;simp[X]
theorem pS.grow {W x:dR} {p:jl} (h:pS w g o B v p)(hb:eh w W)(X:W.grownBy x v.ownBlock)(v':dT)(l:List UInt8)(Q:Row x 1 v' (p.out++l).length (iH (p.out++l)))(A:(p.out++l).length<=1000000000)(J:v'.ownBlock=v.ownBlock \/ ∃k,v'.ownBlock=μ k/\W.heap.size<=k):
 pS (x.setCell ⟨g,o+70,ν⟩ v') g o B v' {p with out:=p.out++l} /\ni w (x.setCell ⟨g,o+70,ν⟩ v') g o B v/\(∀i,v'.ownBlock=μ i->v.ownBlock=μ i \/w.heap.size<=i):=by
 have hW:=h.below hb;have Y:∀i,i<w.heap.size->v.ownBlock≠μ i->x.heap[i]? =w.heap[i]? :=λi hi hv=>(X.block i (Nat.lt_of_lt_of_le hi hb.size) (λe=>hv e.symm)).trans (hb.block i hi);have hv:∀i,v'.ownBlock=μ i->v.ownBlock=μ i \/w.heap.size<=i:=λi e=>by
  rcases J with Z|⟨k,Z,e2⟩
  ·exact .inl (by rw[<-Z];exact e)
  ·rw[e]at Z;have:i=k:=by simpa using Z
   have:=hb.size;exact .inr dU
 have V:v'.ownBlock≠μ g:=λe=>by
  rcases hv g e with Z|Z
  ·exact h.vg Z
  ·have:=h.lt;omega
 have T:v'.ownBlock≠μ B:=λe=>by
  rcases hv B e with Z|Z
  ·exact h.vB Z
  ·have:=h.lk.lt;omega
 obtain⟨F,hC,D⟩:=h.wC;have U:pP x g o 71 (wB p B v F):=hC.keep (Y g h.lt h.vg);refine⟨⟨⟨F,(U.set 70 dX v').congr (NH p B v v' F _),D⟩,?_,?_,A,h.ok,h.gB,V,T,h.nz.1,h.nz.2.1,λe=>by
  rcases hv 0 e with Z|Z
  ·exact h.nz.2.2 Z
  ·have:=h.lt;omega⟩,⟨?_,?_,?_,?_,?_,?_,?_⟩,hv⟩
 ·exact h.lk.keep ((aq _ _ _ B (λe=>h.gB e.symm)).trans (Y B h.lk.lt h.vB))
 ·exact Q.keep gO (λk G=>aq _ _ _ k (λe=>V (by rw[G];exact congrArg μ e)))
 ·exact((au 0 x).setCell (Nat.zero_le _) _).os.trans (X.os.trans hb.os)
 ·exact((au 0 x).setCell (Nat.zero_le _) _).tape.trans (X.tape.trans hb.tape)
 ·exact((au 0 x).setCell (Nat.zero_le _) _).output.trans (X.output.trans hb.output)
 ·exact Nat.le_trans hb.size (Nat.le_trans X.size gO)
 ·exact λi hi M _ H=>(aq _ _ _ i M).trans (Y i hi H)
 ·exact λj hj=>(aU _ _ _ _ (λe=>by have:=congrArg Addr.off e;simp at this;omega)).trans (ai (a:=⟨g,j,ν⟩) (Y g h.lt h.vg))
 ·exact λj=>(lS _ _ _ _).trans (aJ (a:=⟨g,j,ν⟩) (Y g h.lt h.vg))
structure ll(w w':dR)(g o B:Nat)(v:dT)(p:jl):Prop where
 ex:∃v',pS w' g o B v' p/\(∀i,v'.ownBlock=μ i->v.ownBlock=μ i \/w.heap.size<=i)
 kept:ni w w' g o B v
theorem ll.still {p:jl} (h:pS w g o B v p)(hb:eh w w'):ll w w' g o B v p:=⟨⟨v,h.below hb,λ_ e=>.inl e⟩,ni.iJ o B v hb h.lt⟩
theorem ll.trans {a b c:dR} {g o B:Nat} {v v':dT} {p:jl} (X:ni a b g o B v)(hv:∀i,v'.ownBlock=μ i->v.ownBlock=μ i \/a.heap.size<=i)(V:ll b c g o B v' p):ll a c g o B v p:=by
 obtain⟨⟨v2,T,Y⟩,U⟩:=V;refine⟨⟨v2,T,λi e=> ?_⟩,X.trans U hv⟩;rcases Y i e with Z|Z
 ·exact hv i Z
 ·exact .inr (Nat.le_trans X.size Z)
theorem xP(l:List UInt8)(h:l.length<=60):(Plain.kF l).length<=126:=by
 have:=Pb l;omega
theorem Cm(g o B:Nat)(v:dT)(p:jl)(T s:ByteArray)(c:UInt8)(w:dR)(h:pS w g o B v p)(hT:T.data.toList=[c])(hs:s.size<=1000)(hn:p.out.length<=900000000):
 eT eU 150 #[π (μ ⟨g,o,ν⟩),.string T,.string s] w λe w'=>e=ρ (τ #[])/\ll w w' g o B v (p.put c s.data.toList):=by
 obtain⟨i0,hi,od,mK,mL⟩:=aY Td;have hop:=xO g o B v p w h;have hTs:T.size=1:=by have:=congrArg List.length hT;simpa using this
 have V:T.toList=[c] :=by rw[cW];exact hT
 have Le:(T++s).size=s.size+1:=by rw[ByteArray.size_append,hTs];omega
 have J:(T++s).data.toList=c::s.data.toList:=by rw[ByteArray.data_append];simp[hT]
 have hsl:s.data.toList.length=s.size:=gO;have ZS:=h.ZS;have f70:=h.fz 70 dX;have hl:=h.lt;have HP:Hid _:=h;have kT:∀W:dR,eh w W->jl.put p c s.data.toList=p->ll w W g o B v (p.put c s.data.toList):=λW hW e=>by rw[e];exact ll.still HP.out hW
 have H:Hid _:=kT;clear kT;have main:(c=76 \/p.L.st=9)->Hid (s.size+1<=60->p.put c s.data.toList={p with out:=p.out++Plain.kF (c::s.data.toList)})/\Hid (¬s.size+1<=60->p.put c s.data.toList=p):=λhc=>by
  have jN:¬(c≠76/\p.L.st≠9):=λ⟨a,b⟩=>by rcases hc with e|e<;>contradiction
  refine⟨λh1=> ?_,λh1=> ?_⟩
  ·unfold jl.put;rw[ae jN,ag (by rw[hsl];exact h1)]
  ·unfold jl.put;rw[ae jN,ae (by rw[hsl];exact h1)]
 by_cases U:c=76
 ·have q:(T.toList==[76])=true:=by rw[V,U];rfl
  obtain⟨D,A⟩:=main (.inl U);clear main V hop h;by_cases X:s.size+1<=60
  ·have Z:=Jj (T++s) w dU;rw[J]at Z;have wz:=xP (c::s.data.toList) (by simp;omega);have E1:Hid _:=D.out X;obtain⟨L,hL⟩:=fW (Plain.kF (c::s.data.toList));rw[hL]at Z wz E1;clear D A J hL
   go_in
   go_wp2_with(fail);refine Z.mono ?_;rintro e w1 ⟨rfl,b1⟩;have Y:=HP.out.below b1;have G:=Y.ZS;have u:=Y.fz 70 dX;have dl:=Y.lt;have KY:=Y.ou;have HV:Hid (v.ownBlock≠μ g):=Y.vg;clear Z ZS f70;go_wp2_with(at_builtin;go_must(refine sC _ rfl (.tmp 28) (.tmp 29) 140 9 rfl 5 i0 (.int .u8 0) underlying140 underlying9 hi od mK mL rfl v p.out.length (iH p.out) rfl KY ⟨L.toArray⟩ rfl (by show L.toArray.size<=1000000;simp;omega) dU ?_));intro v' x y Q ji;have Wp:∃a' n' c',v'=fX a' n' c':=by
    rcases y.2 with⟨e,_⟩|⟨g',c',e,_⟩
    ·exact⟨_,_,_,e⟩
    ·exact⟨_,_,_,e⟩
   obtain⟨a',n',c',rfl⟩:=Wp;have Vm:Row x 1 (σ a' n' c') (p.out++L).length (iH (p.out++L)):=by
    rw[az,la];exact y
   obtain⟨G1,G2,G3⟩:=pS.grow HP.out b1 Q (σ a' n' c') L Vm (by rw[az];omega) ji;have j:x.cell? ⟨g,o+70,ν⟩=μ v:=(ai (a:=⟨g,o+70,ν⟩) (Q.block g dl (λe=>HV.out e.symm))).trans G;have z70:x.frozen? ⟨g,o+70,ν⟩=false:=(aJ (a:=⟨g,o+70,ν⟩) (Q.block g dl (λe=>HV.out e.symm))).trans u;have xl:g<x.heap.size:=af x _ j;have M:Hid (ll w (x.setCell ⟨g,o+70,ν⟩ (σ a' n' c')) g o B v (p.put c s.data.toList)):=by
    show ll _ _ _ _ _ _ _;rw[E1.out];exact⟨⟨_,G1,G3⟩,G2⟩
   clear G1 G2 G3 y Vm Q ji KY Y
   go_wp2
   first|go_end0|refine iC rfl rfl ?_
   exact⟨rfl,M.out⟩
  ·have Z:=Nx (T++s) w dU (by unfold maxLen;omega);have M:Hid (ll w w g o B v (p.put c s.data.toList)):=H.out w (au _ _) (A.out X);clear D A J
   go_in
   go_wp2_with(fail);refine Z.mono ?_;rintro e w1 ⟨rfl,rfl⟩;clear Z
   go_wp2
   first|go_end0|refine iC rfl rfl ?_
   exact⟨rfl,M.out⟩
 ·have q:(T.toList==[76])=false:=by
   rw[V,cL];intro e;exact U (by simpa using e)
  cases h9:(p.L.st==9)
  ·have jY:p.L.st≠9:=by simpa using h9
   have M:Hid (ll w w g o B v (p.put c s.data.toList)):=H.out w (au _ _) (by unfold jl.put;rw[ag ⟨U,jY⟩]);rw[h9]at hop;clear main V h J
   go_in
   go_wp2_with(fail);refine hop.mono ?_;rintro e w1 ⟨rfl,rfl⟩;clear hop
   go_wp2
   first|go_end0|refine iC rfl rfl ?_
   exact⟨rfl,M.out⟩
  ·have jY:p.L.st=9:=by simpa using h9
   obtain⟨D,A⟩:=main (.inr jY);rw[h9]at hop;clear main V h jY;by_cases X:s.size+1<=60
   ·have Z:=Jj (T++s) w dU;rw[J]at Z;have wz:=xP (c::s.data.toList) (by simp;omega);have E1:Hid _:=D.out X;obtain⟨L,hL⟩:=fW (Plain.kF (c::s.data.toList));rw[hL]at Z wz E1;clear D A J hL
    go_in
    go_wp2_with(fail);refine hop.mono ?_;rintro e w1 ⟨rfl,rfl⟩;clear hop;go_wp2_with(fail);refine Z.mono ?_;rintro e w1 ⟨rfl,b1⟩;have Y:=HP.out.below b1;have G:=Y.ZS;have u:=Y.fz 70 dX;have dl:=Y.lt;have KY:=Y.ou;have HV:Hid (v.ownBlock≠μ g):=Y.vg;clear Z ZS f70;go_wp2_with(at_builtin;go_must(refine sC _ rfl (.tmp 28) (.tmp 29) 140 9 rfl 5 i0 (.int .u8 0) underlying140 underlying9 hi od mK mL rfl v p.out.length (iH p.out) rfl KY ⟨L.toArray⟩ rfl (by show L.toArray.size<=1000000;simp;omega) dU ?_));intro v' x y Q ji;have Wp:∃a' n' c',v'=fX a' n' c':=by
     rcases y.2 with⟨e,_⟩|⟨g',c',e,_⟩
     ·exact⟨_,_,_,e⟩
     ·exact⟨_,_,_,e⟩
    obtain⟨a',n',c',rfl⟩:=Wp;have Vm:Row x 1 (σ a' n' c') (p.out++L).length (iH (p.out++L)):=by
     rw[az,la];exact y
    obtain⟨G1,G2,G3⟩:=pS.grow HP.out b1 Q (σ a' n' c') L Vm (by rw[az];omega) ji;have j:x.cell? ⟨g,o+70,ν⟩=μ v:=(ai (a:=⟨g,o+70,ν⟩) (Q.block g dl (λe=>HV.out e.symm))).trans G;have z70:x.frozen? ⟨g,o+70,ν⟩=false:=(aJ (a:=⟨g,o+70,ν⟩) (Q.block g dl (λe=>HV.out e.symm))).trans u;have xl:g<x.heap.size:=af x _ j;have M:Hid (ll w (x.setCell ⟨g,o+70,ν⟩ (σ a' n' c')) g o B v (p.put c s.data.toList)):=by
     show ll _ _ _ _ _ _ _;rw[E1.out];exact⟨⟨_,G1,G3⟩,G2⟩
    clear G1 G2 G3 y Vm Q ji KY Y
    go_wp2
    first|go_end0|refine iC rfl rfl ?_
    exact⟨rfl,M.out⟩
   ·have Z:=Nx (T++s) w dU (by unfold maxLen;omega);have M:Hid (ll w w g o B v (p.put c s.data.toList)):=H.out w (au _ _) (A.out X);clear D A J
    go_in
    go_wp2_with(fail);refine hop.mono ?_;rintro e w1 ⟨rfl,rfl⟩;clear hop;go_wp2_with(fail);refine Z.mono ?_;rintro e w1 ⟨rfl,rfl⟩;clear Z
    go_wp2
    first|go_end0|refine iC rfl rfl ?_
    exact⟨rfl,M.out⟩
end Rt
theorem BR.still {w w':dR} {B:Nat} {m:FM} {n:Nat} {K:Int->Option PS} {O:Nat->Int->Option PS} (h:BR w B m n K O)(hs:w.heap.size<=w'.heap.size)(X:∀j,j<w.heap.size->¬m.no j->w'.heap[j]? =w.heap[j]?)
 (D:¬m.no B) (H:¬m.no m.g) (hm:∀b,(b=m.bm \/b∈m.bs)->¬m.no b) (no':Nat->Prop) (M:∀j,no' j->m.no j \/w.heap.size<=j) (T:∀j,no' j->j<w'.heap.size):BR w' B {m with no:=no'} n K O:=by
 have A:=h.mlt;obtain⟨kn,ow,hF,J,u⟩:=h.ex;have mp:∀b,(b=m.bm \/b∈m.bs)->w'.heap[b]? =w.heap[b]? :=λb hb=>X b (A b hb) (hm b hb);have tie:∀ {f:Int->Option SV} {F:Int->Option PS},Tie w m f F->Tie w' {m with no:=no'} f F:=by
  intro f F y x Q;have:=y x Q;cases e:F x with
  |none=>rw[e]at this;exact this
  |some q=>
   rw[e]at this;obtain⟨s,G,Z⟩:=this;refine⟨s,G,⟨Z.own,Z.seq,Z.n,Z.opt.kept (cap:=s.cap) (λj Y=>X j (Z.lt j Y) (Z.far j Y).2.2),Z.nil,Z.ok,λj Y=>Nat.lt_of_lt_of_le (Z.lt j Y) hs,λj Y=>⟨(Z.far j Y).1,(Z.far j Y).2.1,λe=> ?_⟩⟩⟩;rcases M j e with U|U
   ·exact(Z.far j Y).2.2 U
   ·have:=Z.lt j Y;omega
 refine⟨⟨kn,ow,⟨(X B hF.lt D).trans hF.nN,hF.row.keep hs (λx hx=> ?_),hF.km.keep (mp _ (.inl rfl)),λi b e=>(hF.om i b e).keep (mp b (.inr (bz e))),hF.few,hF.nB,hF.nd⟩,tie J,λi hi=>tie (u i hi)⟩,T⟩;have V:m.g=x:=by simpa[FM.sl,dV]using hx
 subst V;exact X m.g (hF.row.lt _ hx) H
