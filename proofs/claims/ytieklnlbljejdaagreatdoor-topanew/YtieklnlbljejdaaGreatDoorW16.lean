import Derived.Test.YtieklnlbljejdaaGreatDoorW11
open Go.Value renaming int → ι, slice → σ, pointer → π, tuple → τ, nilIface → η
open Go.IntKind renaming i64 → κ
open Go.Ending renaming returned → ρ
open Go.Obj renaming cells → γ
open Option renaming none → ν, some → μ
open Go renaming World → dY, Calls → eZ
open Go.Proofs.Tryz renaming prog → e7
open Go.RowKit renaming intOf → fa
open Go.Instr renaming makeSlice → ic
open Go.Value renaming bool → iD, ownBlock → eu
open BitVec renaming ofInt → fc
set_option maxRecDepth 100000
set_option maxHeartbeats 8000000
open Go.Proofs.Tryz
namespace Go.Proofs.YtieklnlbljejdaaGreatDoor
open St
section
variable {C:kT}
def Aw(C:kT)(r n:Nat):Int:=(jl C r 6 n).far
theorem OL(hC:∀x y,0<=C x y) {r:Nat} (hd:C r r=0)(n:Nat):0<=Aw C r n:=(ql hC hd 6).nn n
theorem Mx {r:Nat}:∀q:List Nat,Hu C r q->0<C r (xS q)/\xS q≠r/\xS q<7
 |[],h=>h.elim
 |[_],h=>h
 |_::m::l,h=>Mx (m::l) h.1
def wc(C:kT):List Nat->Int
 |[] =>0
 |[_] =>0
 |n::m::l=>wc C (m::l)+C m n
theorem Qo(H:Nat->HP):∀n h,h∈ph H n↔∃k,k<n/\h=H k/\0<(H k).far
 |0,h=>by simp[ph]
 |n+1,h=>by
  have ih:=Qo H n h;simp only[ph];split
  ·rename_i T
   rw[av,ih];constructor
   ·rintro(⟨k,U,Z,Y⟩|U)
    ·exact⟨k,eh,Z,Y⟩
    ·exact⟨n,eh,by simpa using U,T⟩
   ·rintro⟨k,U,Z,Y⟩;by_cases e:k=n
    ·subst e;exact .inr (by simp[Z])
    ·exact .inl ⟨k,eh,Z,Y⟩
  ·rename_i T
   rw[ih];constructor
   ·rintro⟨k,U,Z,Y⟩;exact⟨k,eh,Z,Y⟩
   ·rintro⟨k,U,Z,Y⟩;by_cases e:k=n
    ·subst e;exact absurd Y T
    ·exact⟨k,eh,Z,Y⟩
theorem WY(C:kT)(r:Nat)(x:HP):x∈pw C r↔∃k,k<7/\x=jl C r 6 k/\0<Aw C r k:=Qo (jl C r 6) 7 x
end
open Go.RowKit
theorem vv(a b:Option Addr)(n ca M:Nat)(L:List HP)(w:dY)(S:Gs w a n L)(H:Gs w b n L)(hn:n<=1000):
 eZ e7 46 #[σ a n ca,σ b n M] w λe w'=>e=ρ (.bool true)/\eE w w':=by
 have hl:=S.len
 go_in
 go_wp2
 go_loopw [5] (λi wr=>∃k:Nat,k<=n/\i=ι κ k/\eE w wr) (λi _=>n-(fa i).toNat)
 case atStart=>exact⟨0,Nat.zero_le _,rfl,au _ _⟩
 case round=>
  obtain⟨k,hk,rfl,Y⟩:=hrel;by_cases kD:k<n
  ·have nS:(k:Int)<(n:Int):=eh;have r1:=(S.below Y).row;have E:=(H.below Y).row;rcases r1 with J|⟨b1,o1,rfl,Z⟩
   ·omega
   rcases E with J|⟨b2,o2,rfl,T⟩
   ·omega
   have U:L[k]? =μ (L[k]'(by omega)):=ay eh;obtain⟨c0,c1,c2⟩:=Z k _ U;obtain⟨d0,d1,d2⟩:=T k _ U;generalize L[k]'(by omega)=p at c0 c1 c2 d0 d1 d2 U;obtain⟨pd,pf,px⟩:=p;simp only at c0 c1 c2 d0 d1 d2;clear Z T U;have Q:Hid _:=Y;clear Y
   go_wp2
   go_quiet(fail)
   go_wp2
   go_roundw
   case rel=>exact⟨k+1,eh,by go_num,below_drewN Q.out _⟩
   case measure=>simp[fa];omega
  ·have xZ:¬(k:Int)<(n:Int):=eh
   go_wp2
   go_ret;exact⟨rfl,Y⟩
namespace Rt
variable {L:List oQ} {N g i m:Nat} {V:Nat->AV} {W W' w w' w0:World} {X:Nat->Prop} {e:Ending} {many:Int}
structure pq(w0 w:dY)(N:Nat)(X:Nat->Prop)(n:iP):Prop where
 ex:∃y,jJ w y n/\y.N=N/\(∀b,y.all n.n b->w0.heap.size<=b)/\∀b,y.ext b↔X b
 nU:eE w0 w
theorem pq.WZ(h:Sw w many L X e w')(Z:nP many L=0)(hb:eE w0 w):∃N,e=ρ (τ #[π (μ ⟨N,0,ν⟩),η])/\pq w0 w' N X (jS many.toNat L):=by
 obtain⟨_,Y,U⟩:=h;obtain⟨y,Q,T,S,hx⟩:=Y Z;exact⟨y.N,Q,⟨y,T,rfl,λb M=>Nat.le_trans hb.size (S b M),hx⟩,gu hb U⟩
theorem pq.ad4(h:Sw w many L X e w')(Z:nP many L≠0)(hb:eE w0 w):e=ρ (τ #[π ν,jk (nP many L)])/\eE w0 w':=by
 obtain⟨Y,_,U⟩:=h;exact⟨Y Z,gu hb U⟩
theorem pq.still {n:iP} (h:pq w0 w N X n)(hb:eE w w'):pq w0 w' N X n:=by
 obtain⟨⟨y,Y,Z,U,hx⟩,T⟩:=h;exact⟨⟨y,Y.below hb,Z,U,hx⟩,gu T hb⟩
theorem pq.tab {n:iP} (h:pq w0 w N X n)(Z:jh w0):jh w:=Z.below h.nU
theorem pq.went {y:Yt} {n n':iP} (T:jJ W y n)(S:∀b,y.all n.n b->w0.heap.size<=b)(hx:∀b,y.ext b↔X b)(hb:eE w0 W)(E:n'.n=n.n)(h:iH W w' y n' n.n):
 pq w0 w' y.N X n'/\∀b,X b->w'.heap[b]? =W.heap[b]? :=by
 obtain⟨⟨y',Q,hs,H,M⟩,Y⟩:=h;have D:∀b,X b->b<W.heap.size:=λb Z=>T.lt (.inr ((hx b).2 Z));have U:∀b,X b->¬y.all n.n b:=λb Z e=>by
  rcases e with e|⟨j,J,e⟩
  ·exact T.nx b ((hx b).2 Z) e
  ·exact T.Lt J (.inr (.inl ((hx b).2 Z))) e
 refine⟨⟨⟨y',Q,hs.N,λb Z=> ?_,λb=>(M b).trans (hx b)⟩,?_⟩,λb Z=>Y.block b (D b Z) (U b Z)⟩
 ·rw[E]at Z;rcases H b Z with e|e
  ·exact S b e
  ·exact Nat.le_trans hb.size e
 ·refine⟨Y.os.trans hb.os,Y.tape.trans hb.tape,Y.output.trans hb.output,Nat.le_trans hb.size Y.size,λb Z=> ?_⟩;refine(Y.block b (Nat.lt_of_lt_of_le Z hb.size) (λe=> ?_)).trans (hb.block b Z);have:=S b e;omega
theorem pq.call {n n':iP} {f:FuncId} {args:Array Value} {E:Ending->Prop} (h:pq w0 W N X n)(S:n'.n=n.n)
 (k:∀y,jJ W y n->y.N=N->eZ e7 f args W λe w'=>E e/\iH W w' y n' n.n):eZ e7 f args W λe w'=>E e/\pq w0 w' N X n'/\∀b,X b->w'.heap[b]? =W.heap[b]? :=by
 obtain⟨⟨y,Y,Z,U,hx⟩,hb⟩:=h;refine(k y Y Z).mono ?_;rintro e w' ⟨T,Q⟩;have:=pq.went Y U hx hb S Q;rw[Z]at this;exact⟨T,this⟩
def iP.rounds(y:iP):Nat->iP
 |0=>y
 |k+1=>(y.rounds k).round
def XY:List oQ:=[⟨1,0,2,0,3⟩]
def OM:iP:=((jS 2 XY).iL 0 true).1
theorem ZT:la ((OM.rounds 6).R 1)=[⟨1,3,1⟩] :=gX
theorem ZU:((jS 2 XY).iL 0 true).2=0:=gX
theorem OO:nP 2 XY=0:=gX
theorem My(y:iP):∀k,(y.rounds k).n=y.n
 |0=>rfl
 |k+1=>(kM (y.rounds k)).1.trans (My y k)
theorem BM {y:iP} {D:Nat} (h:j5 y D 0)(Z:D<=100000000):∀k,k<=100->j5 (y.rounds k) (D+1300000*k) 0
 |0,_=>h
 |k+1,hk=>((BM h Z k eh).round eh).mono eh (Nat.le_refl _)
theorem abu:j5 OM 2 0:=(z9 (vh OO)).iL eh 0 true
theorem Tg(w:dY)(hT:jh w):eZ e7 42 #[] w λe w'=>e=ρ (.bool true)/\eE w w':=by
 obtain⟨W0,D⟩:=gq (w.alloc (γ #[ι κ 1,ι κ 0,ι κ 2,ι κ 0,ι κ 3] 81));have hb:=gY w (γ #[ι κ 1,ι κ 0,ι κ 2,ι κ 0,ι κ 3] 81);have hc:=λj=>aq w #[ι κ 1,ι κ 0,ι κ 2,ι κ 0,ι κ 3] 81 (0,0) j;rw[D]at hb;rw[D]at hc;have hL:zZ W0 (μ ⟨w.heap.size,0,ν⟩) XY:=λj J=>by
  obtain rfl:j=0:=by simp[XY]at J;exact J
  exact⟨w.heap.size,0,rfl,hc 0,hc 1,hc 2,hc 3,hc 4⟩
 have jn:eZ e7 36 #[ι κ 2,σ (μ ⟨w.heap.size,0,ν⟩) 1 1] W0 λe w'=>∃N,e=ρ (τ #[π (μ ⟨N,0,ν⟩),η])/\pq w w' N (λ_=>False) (jS 2 XY):=by
  refine(P6 2 (μ ⟨w.heap.size,0,ν⟩) 1 XY W0 hL eA (jh.below (w:=w) hT hb) (λ_=>False) (λb qq=>qq.elim)).mono ?_;rintro e w' h;exact pq.WZ h OO hb
 have M:∀W N,pq w W N (λ_=>False) (jS 2 XY)->eZ e7 57 #[π (μ ⟨N,0,ν⟩),ι κ 0,.bool true] W λe w'=>e=ρ η/\pq w w' N (λ_=>False) (OM.rounds 0):=by
  intro W N hA;refine(hA.call (E:=λe=>e=ρ η) (n':=OM) rfl λy U T=> ?_).mono (λe w' h=>⟨h.1,h.2.1⟩);rw[<-T];refine(LO y (jS 2 XY) 0 0 true W U (hA.tab hT) (z9 (vh OO)) eh).mono ?_;rintro e w' ⟨rfl,hw⟩;rw[ZU];exact⟨rfl,hw⟩
 have FU:∀W N k,k<6->pq w W N (λ_=>False) (OM.rounds k)->eZ e7 54 #[π (μ ⟨N,0,ν⟩)] W λe w'=>e=ρ (τ #[])/\pq w w' N (λ_=>False) (OM.rounds (k+1)):=by
  intro W N k hk hA;refine(hA.call (E:=λe=>e=ρ (τ #[])) (n':=OM.rounds (k+1)) (kM (OM.rounds k)).1 λy U T=> ?_).mono (λe w' h=>⟨h.1,h.2.1⟩);rw[<-T];exact Bu y (OM.rounds k) (2+1300000*k) W U (hA.tab hT) (BM abu eh k eh) eh
 have J5:∀W N,pq w W N (λ_=>False) (OM.rounds 6)->eZ e7 40 #[π (μ ⟨N,0,ν⟩),ι κ 2] W λe w'=>∃R,e=ρ (τ #[π (μ ⟨R,0,ν⟩),η])/\eE w w'/\eZ e7 64 #[π (μ ⟨R,0,ν⟩)] w' λe u=>∃b c,e=ρ (σ b 1 c)/\Gs u b 1 [⟨1,3,1⟩] /\eE w u:=by
  intro W N hA;obtain⟨⟨y,U,T,ha,hx⟩,iN⟩:=hA;rw[<-T];have hn:(OM.rounds 6).n=2:=My OM 6;refine(yT y (OM.rounds 6) 1 W U (by rw[hn];decide)).mono ?_;rintro e w' ⟨rfl,rfl⟩;refine⟨(y.z 1).R,rfl,iN,?_⟩;have iQ:=(BM abu eh 6 eh).ok 1 (by rw[hn];decide);refine(Bk (y.z 1) ((OM.rounds 6).R 1) W (U.rt 1 (by rw[hn];decide)) iQ.PE).mono ?_;rintro e u ⟨b,c,rfl,⟨Y,_⟩,H⟩;rw[ZT]at Y⊢;exact⟨b,c,rfl,Y,gu iN H⟩
 have ku:∀W b c W2,eE w W->Gs W b 1 [⟨1,3,1⟩]->W2=W.alloc (γ #[ι κ 1,ι κ 3,ι κ 1] 98)->eZ e7 46 #[σ b 1 c,σ (μ ⟨W.heap.size,0,ν⟩) 1 1] W2 λe w'=>e=ρ (.bool true)/\eE w w':=by
  rintro W b c W2 hbW Y rfl;have H:=gY W (γ #[ι κ 1,ι κ 3,ι κ 1] 98);have Ty:=λj=>aq W #[ι κ 1,ι κ 3,ι κ 1] 98 (0,0) j;refine(vv b (μ ⟨W.heap.size,0,ν⟩) 1 c 1 [⟨1,3,1⟩] _ (Y.below H) ⟨rfl,.inr ⟨W.heap.size,0,rfl,λj h J=> ?_⟩⟩ eh).mono ?_
  ·obtain⟨l,v⟩:=aK.1 J;obtain rfl:j=0:=by simp at l;exact l
   obtain rfl:_=h:=v;exact⟨Ty 0,Ty 1,Ty 2⟩
  ·rintro e w' ⟨rfl,A⟩;exact⟨rfl,gu hbW (gu H A)⟩
 have GK:Hid _:=D;have HR:Hid _:=FU;obtain⟨Q,hQ⟩:∃Q:Nat->iP,Q=OM.rounds:=⟨_,rfl⟩
 clear D hb hc hL FU;rw[<-hQ]at M HR J5;generalize jS 2 XY=z0 at jn M;clear hQ
 go_in
 go_wp2_with(fail)
 try rw[GK.out]
 go_wp2_with(fail);refine jn.mono ?_;rintro e w1 ⟨N,rfl,hA⟩;have h1:=M w1 N hA;clear jn M hA;go_wp2_with(fail);refine h1.mono ?_;rintro e u ⟨rfl,hA⟩;have HA:Hid _:=hA;clear h1 hA
 go_wp2
 go_loopw [3] (λx wr=>∃k:Nat,k<=6/\x=ι κ k/\pq w wr N (λ_=>False) (Q k)) (λx _=>6-(fa x).toNat)
 case atStart=>exact⟨0,Nat.zero_le _,rfl,HA.out⟩
 case round=>
  obtain⟨k,hk,rfl,Z⟩:=hrel;obtain⟨V,rfl⟩:∃V,V=wr:=⟨_,rfl⟩
  by_cases kD:k<6
  ·have nS:(k:Int)<6:=eh;have S:=HR.out V N k kD Z;clear Z;go_wp2_with(fail);refine S.mono ?_;rintro e w3 ⟨rfl,hA3⟩;have HA3:Hid _:=hA3;clear S hA3
   go_wp2
   go_roundw
   case rel=>exact⟨k+1,eh,by go_num,HA3.out⟩
   case measure=>simp[fa];omega
  ·have xZ:¬(k:Int)<6:=eh;obtain rfl:k=6:=eh;have S:=J5 V N Z;clear Z J5;go_wp2_with(fail);refine S.mono ?_;rintro e w3 ⟨R,rfl,A,hh⟩;have Hs:Hid _:=A;clear S A;go_wp2_with(fail);refine hh.mono ?_;rintro e w4 ⟨b,c,rfl,Y,R8⟩;obtain⟨W5,MJ⟩:∃W5,W5=w4.alloc (γ #[ι κ 1,ι κ 3,ι κ 1] 98):=⟨_,rfl⟩
   have hs:=ku w4 b c W5 R8 Y MJ;have HW5:Hid _:=MJ.symm;clear hh Y R8 ku MJ;go_wp2_with(fail)
   try rw[HW5.out]
   go_wp2_with(fail);refine hs.mono ?_;rintro e w6 ⟨rfl,XZ⟩;have Qq:Hid _:=XZ;clear hs XZ
   go_wp2
   go_ret;exact⟨rfl,Qq.out⟩
theorem Df(a:Option Addr)(n cap:Nat)(w:dY)(_hn:n<=maxLen):eZ e7 35 #[σ a n cap] w λe w'=>e=ρ (.bool (decide (n<=12)))/\w=w':=by
 by_cases h:n<=12
 ·have Z:(n:Int)<=12:=eh
  go_in
  go_wp2
  go_ret;exact⟨by simp[h],rfl⟩
 ·have Z:¬(n:Int)<=12:=eh
  go_in
  go_wp2
  go_ret;exact⟨gZ,rfl⟩
def vT(w0:dY)(N:Nat)(X:Nat->Prop)(m nc i:Nat)(n:iP)(w:dY):Prop:=pq w0 w N X n/\GN n/\j5 n (1300000*i) 0/\n.n=m/\n.nc=nc
theorem vT.act {w0:dY} {N:Nat} {X:Nat->Prop} {m nc i:Nat} {n:iP} {W:dY} (h:vT w0 N X m nc i n W)(Q:jh w0)(hi:i<=300)(v:AV):
 eZ e7 59 #[π (μ ⟨N,0,ν⟩),.agg #[.string v.kind,ι κ v.a,ι κ v.b,ι κ v.c,ι κ v.d,.string v.s,ι κ v.Pr,ι κ v.pid,σ v.po v.pn v.Eh,ι κ v.x.own,ι κ v.x.seq,σ v.x.a v.x.n v.x.cap]] W λe w'=>e=ρ (τ #[])/\vT w0 N X m nc (i+1) (sj n v) w'/\∀b,X b->w'.heap[b]? =W.heap[b]? :=by
 obtain⟨hA,U,Y,H,hc⟩:=h;obtain⟨s1,D,_,_⟩:=Sz n v;refine(hA.call (E:=λe=>e=ρ (τ #[])) (n':=sj n v) s1 λy S T=> ?_).mono ?_
 ·rw[<-T];exact Dj y n (1300000*i) v W S (hA.tab Q) Y eh
 ·rintro e w' ⟨J,Z,M⟩;exact⟨J,⟨Z,(U.act Y eh v).1,(Y.act eh v).mono eh (Nat.le_refl _),s1.trans H,D.trans hc⟩,M⟩
theorem vT.new(h:Sw w many L X e w')(Z:nP many L=0)(hb:eE w0 w):∃N,e=ρ (τ #[π (μ ⟨N,0,ν⟩),η])/\vT w0 N X many.toNat L.length 0 (jS many.toNat L) w':=by
 obtain⟨N,Y,hA⟩:=pq.WZ h Z hb;exact⟨N,Y,hA,Fk _ _,z9 (vh Z),rfl,rfl⟩
def qI(y:iP)(V:Nat->AV):Nat->iP
 |0=>y
 |k+1=>sj (qI y V k) (V k)
theorem pq.write {n:iP} (h:pq w0 W N X n)(hs:W.heap.size<=W'.heap.size)(T:∀k,k<W.heap.size->¬X k->W'.heap[k]? =W.heap[k]?)(H:∀k,X k->w0.heap.size<=k)
 (A:W'.os=W.os) (u:W'.tape=W.tape) (j:W'.output=W.output) (Z:Nat->Prop) (E:∀k,Z k->W.heap.size<=k/\k<W'.heap.size):pq w0 W' N (λb=>X b \/Z b) n:=by
 obtain⟨⟨y,J,M,D,hx⟩,hb⟩:=h;obtain⟨y',Q,U,ha',S⟩:=J.beside hs (λk uR jx=>T k uR (λe=>jx ((hx k).2 e))) Z E;refine⟨⟨y',Q,U.N.trans M,λb Y=>D b ((ha' b).1 Y),λb=> ?_⟩,A.trans hb.os,u.trans hb.tape,j.trans hb.output,Nat.le_trans hb.size hs,λb Y=> ?_⟩
 ·rw[S b,hx b]
 ·refine(T b (Nat.lt_of_lt_of_le Y hb.size) (λe=> ?_)).trans (hb.block b Y);have:=H b e;omega
theorem pq.W8 {Y:Nat->Prop} {n:iP} (h:pq w0 W N X n)(e:∀b,X b↔Y b):pq w0 W N Y n:=by
 obtain⟨⟨y,U,Z,T,hx⟩,hb⟩:=h;exact⟨⟨y,U,Z,T,λb=>(hx b).trans (e b)⟩,hb⟩
structure o9(w:dY)(N g m:Nat)(L:List oQ)(V:Nat->AV)(i j:Nat)(W:dY):Prop where
 g0:w.heap.size<=g
 at_:vT w N (λb=>b=g) m L.length i (qI (jS m L) V i) W
 row:qz W g 0 L.length (λk=>.bool ((qI (jS m L) V j).C k).iT)
def og(m:Nat):Array Value:=Array.replicate m (.bool false)
theorem ahP(W:dY):(ic 87 (ι κ 0) (ι κ 0)).run e7 W=.ok (σ (μ ⟨W.heap.size,0,ν⟩) 0 0) (W.alloc (γ (og 0) 4)):=gX
theorem ahQ(W:dY):(ic 87 (ι κ 1) (ι κ 1)).run e7 W=.ok (σ (μ ⟨W.heap.size,0,ν⟩) 1 1) (W.alloc (γ (og 1) 4)):=gX
theorem ahR(W:dY):(ic 87 (ι κ 2) (ι κ 2)).run e7 W=.ok (σ (μ ⟨W.heap.size,0,ν⟩) 2 2) (W.alloc (γ (og 2) 4)):=gX
theorem ahS(W:dY):(ic 87 (ι κ 3) (ι κ 3)).run e7 W=.ok (σ (μ ⟨W.heap.size,0,ν⟩) 3 3) (W.alloc (γ (og 3) 4)):=gX
theorem ahT(W:dY):(ic 87 (ι κ 4) (ι κ 4)).run e7 W=.ok (σ (μ ⟨W.heap.size,0,ν⟩) 4 4) (W.alloc (γ (og 4) 4)):=gX
theorem ahU(W:dY):(ic 87 (ι κ 5) (ι κ 5)).run e7 W=.ok (σ (μ ⟨W.heap.size,0,ν⟩) 5 5) (W.alloc (γ (og 5) 4)):=gX
theorem ahV(W:dY):(ic 87 (ι κ 6) (ι κ 6)).run e7 W=.ok (σ (μ ⟨W.heap.size,0,ν⟩) 6 6) (W.alloc (γ (og 6) 4)):=gX
theorem ahW(W:dY):(ic 87 (ι κ 7) (ι κ 7)).run e7 W=.ok (σ (μ ⟨W.heap.size,0,ν⟩) 7 7) (W.alloc (γ (og 7) 4)):=gX
theorem ahX(W:dY):(ic 87 (ι κ 8) (ι κ 8)).run e7 W=.ok (σ (μ ⟨W.heap.size,0,ν⟩) 8 8) (W.alloc (γ (og 8) 4)):=gX
theorem ahY(W:dY):(ic 87 (ι κ 9) (ι κ 9)).run e7 W=.ok (σ (μ ⟨W.heap.size,0,ν⟩) 9 9) (W.alloc (γ (og 9) 4)):=gX
theorem amD(p:Nat)(hp:p<=9)(W:dY):(ic 87 (ι κ (p:Int)) (ι κ (p:Int))).run e7 W=.ok (σ (μ ⟨W.heap.size,0,ν⟩) p p) (W.alloc (γ (og p) 4)):=by
 have:p=0 \/p=1 \/p=2 \/p=3 \/p=4 \/p=5 \/p=6 \/p=7 \/p=8 \/p=9:=eh;rcases this with rfl|rfl|rfl|rfl|rfl|rfl|rfl|rfl|rfl|rfl
 ·exact ahP W
 ·exact ahQ W
 ·exact ahR W
 ·exact ahS W
 ·exact ahT W
 ·exact ahU W
 ·exact ahV W
 ·exact ahW W
 ·exact ahX W
 ·exact ahY W
theorem o9.new {w W:dY} {N m:Nat} {L:List oQ} {V:Nat->AV} (h:vT w N (λ_=>False) m L.length 0 (jS m L) W):o9 w N W.heap.size m L V 0 0 (W.alloc (γ (og L.length) 4)):=by
 obtain⟨hA,Y,Q,S,hc⟩:=h;refine⟨hA.nU.size,⟨?_,Y,Q,S,hc⟩,?_⟩
 ·refine(pq.write hA (W':=W.alloc (γ (og L.length) 4)) gZ (λk T _=>aU _ _ _ T) (λk e=>e.elim) rfl rfl rfl (λb=>b=W.heap.size) (λk e=>by subst e;simp)).W8 (λb=>gZ)
 ·have Z:iZ (W.alloc (γ (og L.length) 4)) W.heap.size (og L.length) 4:=iZ.new W _ _;intro j U;have e:(og L.length)[j]? =μ (.bool false):=by simp[og,U]
  refine⟨?_,?_⟩
  ·rw[Nat.zero_add,Z.cell j,e];rfl
  ·rw[Nat.zero_add];exact Z.frozen j
theorem o9.act {w:dY} {N g m:Nat} {L:List oQ} {V:Nat->AV} {i:Nat} {W:dY} (h:o9 w N g m L V i i W)(U:jh w)(hi:i<=100):
 eZ e7 59 #[π (μ ⟨N,0,ν⟩),.agg #[.string (V i).kind,ι κ (V i).a,ι κ (V i).b,ι κ (V i).c,ι κ (V i).d,.string (V i).s,ι κ (V i).Pr,ι κ (V i).pid,σ (V i).po (V i).pn (V i).Eh,ι κ (V i).x.own,ι κ (V i).x.seq,σ (V i).x.a (V i).x.n (V i).x.cap]] W λe w'=>e=ρ (τ #[])/\o9 w N g m L V (i+1) i w':=by
 refine(h.at_.act U eh (V i)).mono ?_;rintro e w' ⟨T,Z,Y⟩;exact⟨T,h.g0,Z,h.row.keep (Y g rfl)⟩
theorem o9.iT {w:dY} {N g m:Nat} {L:List oQ} {V:Nat->AV} {i:Nat} {W:dY} (h:o9 w N g m L V i i W)(hi:i<=100)(k:Nat)(Y:k<L.length):
 ((qI (jS m L) V (i+1)).C k).iT=if Bz (V i)=true/\(k:Int)=(V i).a then(V i).b==1 else((qI (jS m L) V i).C k).iT:=by
 obtain⟨_,Z,U,_,hc⟩:=h.at_;exact(Z.act U eh (V i)).2 k (by rw[hc];exact Y)
theorem o9.same(h:o9 w N g m L V (i+1) i W)(Y:∀k,k<L.length->((qI (jS m L) V (i+1)).C k).iT=((qI (jS m L) V i).C k).iT)(U:g<W.heap.size)(hb:eE W W'):o9 w N g m L V (i+1) (i+1) W':=by
 obtain⟨hA,Z,Q,S,hc⟩:=h.at_;exact⟨h.g0,⟨hA.still hb,Z,Q,S,hc⟩,(h.row.congr (λk T=>by show iD _=iD _;rw[Y k T])).keep (hb.block g U)⟩
theorem o9.gl {j:Nat} (h:o9 w N g m L V i j W):g<W.heap.size:=by
 obtain⟨⟨⟨y,Z,_,_,hx⟩,_⟩,_⟩:=h.at_;exact Z.lt (.inr ((hx g).2 rfl))
theorem o9.set {w:dY} {N g m:Nat} {L:List oQ} {V:Nat->AV} {i k:Nat} {W W1:dY} {b:Bool} (h:o9 w N g m L V (i+1) i W)(S:k<L.length)
 (U:∀x,x<L.length->((qI (jS m L) V (i+1)).C x).iT=if x=k then b else((qI (jS m L) V i).C x).iT) (hb:eE W W1):o9 w N g m L V (i+1) (i+1) (W1.setCell ⟨g,k,ν⟩ (.bool b)):=by
 have T:=h.gl;obtain⟨hA,Y,M,Q,hc⟩:=h.at_;have hA1:=hA.still hb;refine⟨h.g0,⟨?_,Y,M,Q,hc⟩,?_⟩
 ·refine(pq.write hA1 (W':=W1.setCell ⟨g,k,ν⟩ (.bool b)) gZ (λx _ J=>ak _ _ _ x (λe=>J e)) (λx e=>by rw[e];exact h.g0) rfl rfl rfl (λ_=>False) (λ_ e=>e.elim)).W8 (λb=>gZ)
 ·have Z:=((h.row.keep (hb.block g T)).set k S (.bool b))
  rw[Nat.zero_add]at Z;refine Z.congr (λx hx=> ?_);show tC _ k (.bool b) x=iD _;rw[U x hx];by_cases e:x=k
  ·rw[e,pS,ai rfl]
  ·rw[jM _ _ e,af e]
def abv(w:dY)(many:Int)(L:List oQ)(n2:Nat)(V:Nat->AV)(e:Ending)(w':dY):Prop:=
 (e=ρ (τ #[π ν,σ ν 0 0,.bool false])/\eE w w') \/
 (nP many L=0/\n2<=40/\∃N g,e=ρ (τ #[π (μ ⟨N,0,ν⟩),σ (μ ⟨g,0,ν⟩) L.length L.length,.bool true])/\o9 w N g many.toNat L V n2 n2 w')
theorem o9.nU {w:dY} {N g m:Nat} {L:List oQ} {V:Nat->AV} {i j:Nat} {W:dY} (h:o9 w N g m L V i j W):eE w W:=h.at_.1.nU
theorem OP(many:Int)(a:Option Addr)(n cap:Nat)(L:List oQ)(a2:Option Addr)(Y cap2:Nat)(V:Nat->AV)(E:Nat->List jH)(w:dY)(hL:zZ w a L)(hl:L.length=n)(hn:n<=maxLen)(hA:Ei w a2 Y V E)(hT:jh w):
 eZ e7 43 #[ι κ many,σ a n cap,σ a2 Y cap2] w λe w'=>abv w many L Y V e w':=by
 have Z:=Df a n cap w hn;have D:eZ e7 16 #[σ a2 Y cap2,ι κ 40] w λe w'=>(∃b:Bool,e=ρ (.bool b)/\(b=true->Y<=40))/\eE w w':=by
  refine(Gr a2 Y cap2 V E 40 w hA eh).mono ?_;rintro e w' ⟨⟨b,u,kC⟩,mX⟩;exact⟨⟨b,u,λhx=>by have:=(kC hx).1;omega⟩,mX⟩
 have jn:∀W,n<=12->eE w W->eZ e7 36 #[ι κ many,σ a n cap] W λe w'=>Sw W many L (λ_=>False) e w':=by
  intro W S hb;rw[<-hl];exact P6 many a cap L W (hL.below hb) eh (jh.below (w:=w) hT hb) (λ_=>False) (λb qq=>qq.elim)
 have HA:Hid _:=hA;have HT:Hid (jh w):=hT;have J:Hid _:=hl;clear hL hA hT hl;by_cases S:n<=12
 case neg=>
  have hd:decide (n<=12)=false:=by simpa using S
  rw[hd]at Z
  go_in
  go_wp2_with(fail);refine Z.mono ?_;rintro e w2 ⟨rfl,rfl⟩;clear Z D jn;go_wp2_with(fail);refine aE (v:=τ #[π ν,σ ν 0 0,.bool false]) (by simp[results,results43,go_sem]) rfl ?_;exact .inl ⟨rfl,au _ _⟩
 case pos=>
  have hd:decide (n<=12)=true:=by simpa using S
  rw[hd]at Z
  go_in
  go_wp2_with(fail);refine Z.mono ?_;rintro e w2 ⟨rfl,rfl⟩;clear Z;go_wp2_with(fail);refine D.mono ?_;rintro e w2 ⟨⟨b,rfl,ahZ⟩,mX⟩;have tq:=jn w2 S mX;have AA:Hid _:=mX;have amE:Hid _:=ahZ;clear D jn mX ahZ;cases b
  case false=>
   go_wp2_with(fail);refine aE (v:=τ #[π ν,σ ν 0 0,.bool false]) (by simp[results,results43,go_sem]) rfl ?_;exact .inl ⟨rfl,AA.out⟩
  case true=>
   have h40:Y<=40:=amE.out rfl;go_wp2_with(fail);refine tq.mono ?_;rintro e w3 hP;clear tq;by_cases Q:nP many L=0
   case neg=>
    obtain⟨rfl,sy⟩:=pq.ad4 hP Q AA.out;have Hs:Hid _:=sy;have u:jk (nP many L)=.iface 128 (ι κ ((nP many L:Nat):Int)):=Uk Q;rw[u];clear hP sy Q u;go_wp2_with(fail);refine aE (v:=τ #[π ν,σ ν 0 0,.bool false]) (by simp[results,results43,go_sem]) rfl ?_;exact .inl ⟨rfl,Hs.out⟩
   case pos=>
    obtain⟨N,rfl,H⟩:=vT.new hP Q AA.out;have hm:=(vh Q).m;have hl9:=(vh Q).l;obtain⟨m,rfl⟩:∃m:Nat,many=(m:Int):=⟨many.toNat,eh⟩
    rw[Int.toNat_natCast]at H;have A:=o9.new (V:=V) H;rw[J.out]at hl9;have hmk:=amD n hl9;obtain⟨w4,PZ⟩:=gq (w3.alloc (γ (og n) 4));obtain⟨g,hg⟩:=gq (w3.heap.size);rw[J.out,PZ,hg]at A;have Lx:Hid _:=PZ;have HG:Hid _:=hg;have HP0:Hid _:=A;have H0:Hid _:=Q;clear hP Q H A PZ hg;go_wp2_with(fail)
    try rw[Lx.out]
    try rw[HG.out]
    go_wp2
    go_loopw [12] (λx wr=>∃i:Nat,i<=Y/\x=ι κ i/\o9 w N g m L V i i wr) (λx _=>Y-(fa x).toNat)
    case atStart=>exact⟨0,Nat.zero_le _,rfl,HP0.out⟩
    case round=>
     obtain⟨i,hi,rfl,y⟩:=hrel;obtain⟨V0,rfl⟩:∃V0,V0=wr:=⟨_,rfl⟩
     by_cases kD:i<Y
     case neg=>
      have xZ:¬(i:Int)<(Y:Int):=eh;obtain rfl:i=Y:=eh;have HR:Hid _:=y;clear y;go_wp2_with(fail);refine aE (v:=τ #[π (μ ⟨N,0,ν⟩),σ (μ ⟨g,0,ν⟩) n n,.bool true]) (by simp[results,results43,go_sem]) rfl ?_;refine .inr ⟨H0.out,h40,N,g,?_,?_⟩
      ·rw[J.out]
      ·exact HR.out
     case pos=>
      have nS:(i:Int)<(Y:Int):=eh;rcases HA.out.row with h1|⟨b,off,rfl,iX⟩
      ·omega
      have Tz:=iX i kD;have hv:=Tz.below y.nU;have HV:Hid (∀W,eE w W->(V i).at_ W b (off+i*12)):=λW hb=>Tz.below hb;have ZV:=y.act HT.out eh;have HI:Hid (∀k,k<L.length->((qI (jS m L) V (i+1)).C k).iT=if Bz (V i)=true/\(k:Int)=(V i).a then(V i).b==1 else((qI (jS m L) V i).C k).iT):=y.iT eh;clear iX y Tz;generalize V i=v at hv ZV HV HI;obtain⟨vk,j,vb,vc,vd,vs,vpc,vpi,vpo,XB,Ca,⟨xo,xq,xa,xn,xc⟩⟩:=v;obtain⟨c0,c1,c2,c3,c4,c5,c6,c7,c8,c9,TY,TX⟩:=hv;simp only at c0 c1 c2 c3 c4 c5 c6 c7 c8 c9 TY TX ZV;have gl:=ag _ _ c0;have ge:off+i*12+0=off+i*12:=rfl;go_wp2_with(fail);refine ZV.mono ?_;rintro e M ⟨rfl,U⟩;have abw:=U.nU;obtain⟨d0,d1,d2,_⟩:=HV.out M abw;simp only at d0 d1 d2;have gl5:=ag _ _ d0;have T:Hid _:=U;have HS:Hid ((∀k,k<L.length->((qI (jS m L) V (i+1)).C k).iT=((qI (jS m L) V i).C k).iT)->o9 w N g m L V (i+1) (i+1) M):=λu=>U.same u U.gl (au _ _);clear ZV c0 c1 c2 c3 c4 c5 c6 c7 c8 c9 TY TX gl U abw;cases k1:(vk.toList==[112,108,117,103])
      case false=>
       go_wp2
       go_roundw
       case rel=>
        refine⟨i+1,eh,by go_num,HS.out λk hk=> ?_⟩;rw[HI.out k hk,af (λe=>by have e1:(vk.toList==[112,108,117,103])=true:=e.1;rw[k1]at e1;cases e1)]
       case measure=>simp[fa];omega
      case true=>
       by_cases ha0:0<=j
       case neg=>
        go_wp2
        go_roundw
        case rel=>
         refine⟨i+1,eh,by go_num,HS.out λk hk=> ?_⟩;rw[HI.out k hk,af (λe=>by have e1:(k:Int)=j:=e.2;omega)]
        case measure=>simp[fa];omega
       case pos=>
        by_cases han:j<(n:Int)
        case neg=>
         go_wp2
         go_roundw
         case rel=>
          refine⟨i+1,eh,by go_num,HS.out λk hk=> ?_⟩;have hln:=J.out;rw[HI.out k hk,af (λe=>by have e1:(k:Int)=j:=e.2;omega)]
         case measure=>simp[fa];omega
        case pos=>
         obtain⟨k,rfl⟩:∃k:Nat,j=(k:Int):=⟨j.toNat,eh⟩
         have AY:k<n:=eh;have Pf:=T.out.gl;have hcell:=T.out.row.cell k (by rw[J.out];exact AY);have Tx:=T.out.row.fz k (by rw[J.out];exact AY);rw[Nat.zero_add]at hcell Tx;have XT:Hid (o9 w N g m L V (i+1) (i+1) (M.drew.setCell ⟨g,k,ν⟩ (.bool (vb==1)))):=by
          refine T.out.set (by rw[J.out];exact AY) (λx hx=> ?_) (jb M);rw[HI.out x hx];by_cases e:x=k
          ·rw[ai ⟨k1,by show(x:Int)=(k:Int);rw[e]⟩,ai e]
          ·rw[af (λh=>e (by have h2:(x:Int)=(k:Int):=h.2;omega)),af e]
         generalize ((qI (jS m L) V i).C k).iT=old at hcell;have F0:M.drew.cell? ⟨b,off+i*12,ν⟩=μ (.string vk)/\M.drew.cell? ⟨b,off+i*12+1,ν⟩=μ (ι κ (k:Int))/\M.drew.cell? ⟨b,off+i*12+2,ν⟩=μ (ι κ vb)/\M.drew.cell? ⟨g,k,ν⟩=μ (.bool old):=⟨d0,d1,d2,hcell⟩
         go_upto_region 12 with(fail)
         go_region
         all_goals
          go_wp2
          go_roundw
          case rel=>exact⟨i+1,eh,by go_num,XT.out⟩
          case measure=>simp[fa];omega
end Rt
variable {C:kT} {G:Nat->HP} {pg r:Nat} {bn:Nat->Bool} {by' far:Int} {p:List Nat}
theorem IL(S:Nat->SV)(E:Nat->List jH):∀n,(∀j,j<n->oD (S j).own (S j).seq (E j)=0)->∀x,jX S E n x x=0
 |0,_,x=>rfl
 |n+1,h,x=>by
  have ih:=IL S E n (λj hj=>h j eh) x;have T:=h n eh;have ho:=(jw T).1;have Z:=(jw T).2.2.2;simp only[jX,nr];generalize E n=es at Z;generalize jX S E n=C at ih;have Y:∃U:Int,qy (S n).own U es=0:=⟨0,Z⟩
  clear Z
  induction es generalizing C with
  |nil=>exact ih
  |cons e es ihs=>
   rw[bF];obtain⟨U,Z⟩:=Y;simp only[qy]at Z;split at Z
   ·cases Z
   ·rename_i h1
    split at Z
    ·cases Z
    ·rename_i h2
     refine ihs _ ?_ ⟨_,Z⟩;simp only[tV];rw[af eh];exact ih
theorem Qr(S:Nat->SV)(E:Nat->List jH):∀n,(∀j,j<n->oD (S j).own (S j).seq (E j)=0)->∀x y,0<jX S E n x y->(1<=x/\x<=6)/\1<=y/\y<=6
 |0,_,x,y,h=>by simp[jX]at h
 |n+1,h,x,y,hp=>by
  have ih:=Qr S E n (λj hj=>h j eh);have U:=h n eh;have ho:=(jw U).1;have Y:=qb _ (E n) 0 (jw U).2.2.2;simp only[jX,nr]at hp;generalize E n=es at Y hp;generalize jX S E n=C at ih hp
  induction es generalizing C with
  |nil=>exact ih x y hp
  |cons e es ihs=>
   rw[bF]at hp;refine ihs (λq T=>Y q (by simp[T])) _ (λu v Z=> ?_) hp;have h1:=Y e gZ;simp only[tV]at Z;split at Z
   ·rename_i h2
    omega
   ·exact ih u v Z
theorem Ti(S:Nat->SV)(E:Nat->List jH)(n:Nat)(h:∀j,j<n->oD (S j).own (S j).seq (E j)=0)(x:Nat):kL (jX S E n) x x=0:=by
 simp only[kL,IL S E n h x];rfl
theorem ZW(S:Nat->SV)(E:Nat->List jH)(n:Nat)(h:∀j,j<n->oD (S j).own (S j).seq (E j)=0)(x y:Nat)(Z:0<kL (jX S E n) x y):(1<=x/\x<=6)/\1<=y/\y<=6:=by
 simp only[kL]at Z;split at Z
 ·exact Qr S E n h x y Z
 ·omega
def bC(b:Nat->Bool):Array Value:=(Array.range 7).map λi=>.bool (b i)
theorem J6(b:Nat->Bool):(bC b).size=7:=by simp[bC]
theorem J7(b:Nat->Bool)(i:Nat)(h:i<7):(bC b)[i]? =μ (.bool (b i)):=by simp[bC,h]
def qv(b:Nat->Bool)(n:Nat):Nat->Bool:=λx=>if x=n then true else b x
theorem ad5(b:Nat->Bool)(n:Nat):(bC b).setIfInBounds n (.bool true)=bC (qv b n):=by
 apply bQ;intro i;rw[bk];by_cases hi:i<7
 ·rw[J7 _ i hi,J7 _ i hi];by_cases e:n=i
  ·subst e;simp[qv,bC,hi]
  ·have Z:¬i=n:=λh=>e h.symm;simp[qv,e,Z]
 ·have hs:∀D:Nat->Bool,(bC D)[i]? =ν:=λD=>a9 (by simp[bC];omega);rw[hs,hs];split
  ·simp[bC];omega
  ·rfl
theorem abx:(e7.info? 205).map (λi=>(i.zero,i.size))=μ (μ (.agg (bC λ_=>false)),7):=gX
theorem ah1(w:dY):(zeroValue 205).run e7 w=.ok (.agg (bC λ_=>false)) w:=(bS abx).1 w
theorem W9:(e7.info? 205).map (·.size)=μ 7:=(bS abx).2
theorem ZX:(e7.info? 204).map (λi=>(i.zero,i.size))=μ (μ (.agg (hC λ_=>HP.zero)),21):=gX
theorem ZY(w:dY):(zeroValue 204).run e7 w=.ok (.agg (hC λ_=>HP.zero)) w:=(bS ZX).1 w
section
variable {C:kT} {r:Nat}
def ad6(G:Nat->HP):Prop:=∀n,(G n).far=0->G n=HP.zero
structure RS(C:kT)(r:Nat)(G:Nat->HP):Prop where
 s:Sound C r G
 z:ad6 G
theorem ad7(h:RS C r G)(n:Nat)(p:List Nat)(Z:Hu C r p)(hh:p.head? =μ n)(hC:∀x y,0<=C x y):RS C r (rA G n ⟨n,pc C r p,(xS p:Nat)⟩):=by
 have qw:=Jk hC p Z;refine⟨⟨λx=> ?_,λx hx=> ?_⟩,λx hx=> ?_⟩
 ·simp only[rA];split
  ·simp only;omega
  ·exact h.s.nn x
 ·simp only[rA]at hx⊢;by_cases e:x=n
  ·subst e;simp only[if_true];exact⟨trivial,p,Z,hh,rfl,rfl⟩
  ·rw[af e]at hx⊢;exact h.s.way x hx
 ·simp only[rA]at hx⊢;by_cases e:x=n
  ·subst e;simp only[if_true]at hx;omega
  ·rw[af e]at hx⊢;exact h.z x hx
theorem Xa(n:Nat)(q:HP)(Z:0<q.far)(hb:ux q (G n)=true):zD (rA G n q) G:=by
 intro x hx;rw[zE]at hb;simp only[rA];by_cases e:x=n
 ·subst e;rw[ai rfl];refine⟨Z,?_⟩;simp only[xy,HP.v];omega
 ·rw[af e];exact⟨hx,xy.rfl' _⟩
theorem Du.mono {G':Nat->HP} (h:Du C r G p)(U:zD G' G):Du C r G' p:=by
 intro n T;have Z:=h n T;have Y:=U n Z.1;exact⟨Y.1,Y.2.trans Z.2⟩
def Ext(C:kT)(r:Nat)(p:List Nat)(x:Nat)(q:List Nat):Prop:=Hu C r q/\q.Nodup/\∃e,q=e++x::p
theorem Tj(hC:∀x y,0<=C x y)(hd:C r r=0)(G:Nat->HP)(S:RS C r G)(T:∀q,Hu C r q->q.Nodup->Du C r G q)(n:Nat):(G n).far=Aw C r n/\(0<Aw C r n->G n=jl C r 6 n):=by
 have h0:=OL hC hd n;have g0:=S.s.nn n;by_cases h:0<Aw C r n
 ·obtain⟨k1,q,q1,q2,j,q4,q5⟩:=K3 hC hd n h;have d1:=T q q1 q2 n j;obtain⟨s1,p,M,J,p3,u⟩:=S.s.way n d1.1;have d2:=Eo hC hd p M n J;have H:=d1.2;have E:=d2.2;have Q:Aw C r n=(jl C r 6 n).far:=rfl;simp only[xy,HP.v]at H E;have Z:(G n).far=(jl C r 6 n).far:=eh;have U:(G n).rM=(jl C r 6 n).rM:=eh;refine⟨by rw[Q];exact Z,λ_=> ?_⟩;generalize jl C r 6 n=X at k1 Z U;generalize G n=Y at s1 Z U;obtain⟨x1,x2,x3⟩:=X;obtain⟨y1,y2,y3⟩:=Y;simp only at k1 s1 Z U;rw[Z,U,k1,s1]
 ·refine⟨?_,λD=>absurd D h⟩;by_cases A:0<(G n).far
  ·obtain⟨s1,p,M,J,p3,u⟩:=S.s.way n A;exact absurd (Eo hC hd p M n J).1 h
  ·omega
end
structure Xb(C:kT)(r:Nat)(p:List Nat)(pg:Nat)(far by':Int)(bn:Nat->Bool):Prop where
 way:(p=[] /\pg=r/\far=0/\by'=0) \/(Hu C r p/\p.head? =μ pg/\pc C r p=far/\((xS p:Nat):Int)=by'/\by'≠0)
 nd:p.Nodup
 been:∀x,qv bn pg x=true↔(x∈p \/x=r)
theorem Xb.next(h:Xb C r p pg far by' bn)(n:Nat)(T:n<7)(U:0<C pg n)(hb:qv bn pg n=false):
 Hu C r (n::p)/\(n::p).Nodup/\pc C r (n::p)=far+C pg n/\((xS (n::p):Nat):Int)=(if by'=0 then(n:Int)else by'):=by
 have Z:¬(n∈p \/n=r):=λe=>by rw[(h.been n).2 e]at hb;cases hb
 rcases h.way with⟨rfl,rfl,rfl,rfl⟩|⟨Y,S,h3,Q,M⟩
 ·refine⟨⟨U,λe=>Z (.inr e),T⟩,gZ,?_,?_⟩
  ·simp[pc]
  ·simp[xS]
 ·cases p with
  |nil=>exact Y.elim
  |cons m l=>
   have:m=pg:=by simpa using S
   subst this;refine⟨⟨Y,U,λe=>Z (.inr e),T⟩,bq.2 ⟨λe=>Z (.inl e),h.nd⟩,?_,?_⟩
   ·simp only[pc];omega
   ·rw[af M];exact Q
theorem Xb.step(h:Xb C r p pg far by' bn)(n:Nat)(mT:1<=n)(Q:n<7)(S:0<C pg n)(hb:qv bn pg n=false):Xb C r (n::p) n (far+C pg n) (if by'=0 then(n:Int)else by') (qv bn pg):=by
 obtain⟨Z,Y,U,T⟩:=h.next n Q S hb;refine⟨.inr ⟨Z,rfl,U,T,?_⟩,Y,λx=> ?_⟩
 ·split
  ·omega
  ·assumption
 ·show(if x=n then true else qv bn pg x)=true↔_;by_cases e:x=n
  ·subst e;simp
  ·rw[af e,h.been x];simp[e]
theorem Xb.none(h:Xb C r p pg far by' bn)(n:Nat)(hx:C pg n=0 \/qv bn pg n=true):∀q,¬Ext C r p n q:=by
 rintro q ⟨S,Q,e,rfl⟩;have Y:∀e:List Nat,Hu C r (e++n::p)->Hu C r (n::p):=by
  intro e
  induction e with
  |nil=>exact λh=>h
  |cons a t ih=>
   intro T;refine ih ?_;cases t with
   |nil=>exact T.1
   |cons b u=>exact T.1
 have U:=Y e S;rcases hx with hx|hx
 ·rcases h.way with⟨rfl,rfl,_,_⟩|⟨k1,k2,_⟩
  ·have:=U.1;omega
  ·cases p with
   |nil=>exact k1
   |cons m l=>
    have:m=pg:=by simpa using k2
    subst this;have:=U.2.1;omega
 ·have Z:=(h.been n).1 hx;have M:=(bD.1 Q).2.1;rcases Z with Z|Z
  ·exact(bq.1 M).1 Z
  ·exact(K0 U n gZ).2 Z
theorem aby {C:kT} {r:Nat} (hC:∀x y,C x y<=20):∀p:List Nat,pc C r p<=20*p.length
 |[] =>by simp[pc]
 |[n] =>by simp only[pc];have:=hC r n;simpa using this
 |n::m::l=>by
  have:=aby (r:=r) hC (m::l);have h2:=hC m n;simp only[pc,List.length_cons]at this⊢;push_cast at this⊢;omega
theorem Xb.ad8(h:Xb C r p pg far by' bn)(hC:∀x y,0<=C x y/\C x y<=20)(hp:p.length<=7):0<=far/\far<=140:=by
 rcases h.way with⟨_,_,rfl,_⟩|⟨Z,_,rfl,_⟩
 ·exact⟨Int.le_refl _,eA⟩
 ·have h2:=Jk (λx y=>(hC x y).1) p Z;have h3:=aby (r:=r) (λx y=>(hC x y).2) p;omega
theorem Tk(a:Option Addr)(n cap:Nat)(r:Nat)(w0:dY)(C:kT)(B:Nat)(xw:w0.heap.size<=B)
 (HED:Hid (∀(u v:Nat) W,eE w0 W->eZ e7 159 #[σ a n cap,ι κ (u:Int),ι κ (v:Int)] W λe w'=>e=ρ (ι κ (C u v))/\eE W w'))
 (CZ:∀x y,0<=C x y/\C x y<=20) (HI:Hid (∀u v,0<C u v->(1<=u/\u<=6)/\1<=v/\v<=6)):
 ∀(d:Nat) (p:List Nat) (pg:Nat) (far by':Int) (bn:Nat->Bool) (G:Nat->HP) (w:dY),p.length+d=7->pg<7->Xb C r p pg far by' bn->RS C r G->iZ w B (hC G) 204->eE w0 w->
 eZ e7 109 #[σ a n cap,ι κ (pg:Int),ι κ far,ι κ by',.agg (bC bn),π (μ ⟨B,0,ν⟩)] w λe w'=>e=ρ (τ #[])/\
  (∃Z,iZ w' B (hC Z) 204/\RS C r Z/\zD Z G/\∀x q,Ext C r p x q->Du C r Z q)/\w.grownBy w' (μ B):=by
 intro d
 induction d with
 |zero=>
  intro p pg far by' bn G w hlen hat hP _ _ _
  exfalso;have lh:∀x∈p,x∈(List.range 7).erase r:=by
   intro x hx;rcases hP.way with⟨rfl,_⟩|⟨h1,_⟩
   ·cases hx
   ·have:=K0 h1 x hx;exact(db this.2).2 (aP.2 this.1)
  have h1:=Jl p _ hP.nd lh;rcases hP.way with⟨rfl,_⟩|⟨h2,h3,_⟩
  ·simp at hlen
  ·have hr:r<7 \/ ¬r<7:=eh;rcases hr with hr|hr
   ·rw[cV (aP.2 hr),dy]at h1;omega
   ·have:=Mx p h2;have:=HI.out _ _ this.1;omega
 |succ d ih=>
  intro p pg far by' bn G w hlen hat hP hG hB AJ
  have HIH:Hid _:=ih;clear ih;have HPr:Hid _:=hP;have HG:Hid _:=hG;obtain⟨hf0,VJ⟩:=hP.ad8 CZ eh;clear hP hG;have ha7:(pg:Int)<7:=eh;obtain⟨c,hc⟩:=gq (bC bn);rw[hc];have hBl:=hB.lt;obtain⟨N,XU⟩:=gq (w.heap.size);obtain⟨W1,j8⟩:=gq (w.alloc (γ c 205));have k1:eE w W1:=by rw[<-j8];exact gY _ _
  have hN:iZ W1 N (bC bn) 205:=by rw[<-j8,hc];exact iZ.Gk _ _ _ _ XU
  have E:=hB.below k1;have n0:=(hN.cell pg).trans (J7 bn pg hat);have n1:=hN.frozen pg;have lN:=hN.lt;have Zb:Hid (iZ (W1.setCell ⟨N,pg,ν⟩ (.bool true)) N (bC (qv bn pg)) 205):=by show iZ _ _ _ _;rw[<-ad5];exact hN.set pg _
  have HBN:Hid (B<N):=by show _<_;omega
  have AA:Hid (iZ (W1.setCell ⟨N,pg,ν⟩ (.bool true)) B (hC G) 204):=E.other eh _;have HG2:Hid (w.grownBy (W1.setCell ⟨N,pg,ν⟩ (.bool true)) (μ B)):=by
   have k2:eE w (W1.setCell ⟨N,pg,ν⟩ (.bool true)):=bw k1 (by show w.heap.size<=N;omega) _;exact⟨k2.os,k2.tape,k2.output,k2.size,λi hi _=>k2.block i hi⟩
  have Kg:Hid _:=j8;have HNe:Hid _:=XU;have HBW:Hid _:=AJ;clear hc XU j8 k1 hN E hB hBl AJ
  go_in
  go_upto_region 1 with fail
  rw[Kg.out,HNe.out];go_wp2_with(fail);obtain⟨W2,ny⟩:=gq (W1.setCell ⟨N,pg,ν⟩ (.bool true));rw[ny]at Zb AA HG2;rw[ny];clear ny n0 n1 lN
  go_loopw [12] (λv wr=>∃(m:Nat) (Z:Nat->HP),1<=m/\m<=7/\v=ι κ m/\(RS C r Z/\zD Z G/\∀x q,x<m->Ext C r p x q->Du C r Z q)/\iZ wr B (hC Z) 204/\iZ wr N (bC (qv bn pg)) 205/\w.grownBy wr (μ B)) (λv _=>7-(fa v).toNat)
  case atStart=>
   refine⟨1,G,eh,eh,rfl,⟨HG.out,zD.refl _,λx q hx hq=> ?_⟩,AA.out,Zb.out,HG2.out⟩;have hx0:x=0:=eh;subst hx0;have h1:=CZ pg 0;have:C pg 0=0:=by
    by_cases h2:0<C pg 0
    ·have:=HI.out _ _ h2;omega
    ·omega
   exact absurd hq (HPr.out.none 0 (.inl this) q)
  case round=>
   clear AA Zb HG2;obtain⟨m,Z,vX,hm7,rfl,hS,hB,hN,vy⟩:=hrel;have H:Hid _:=hS;clear hS;by_cases hm6:m<=6
   ·have ad9:(m:Int)<=6:=eh;have amK:(m:Int)<7:=eh;have he:=HED.out pg m wr (tE HBW.out vy xw);have HB:Hid _:=hB;have HN:Hid _:=hN;have ZZ:Hid _:=vy;clear hB hN vy;go_wp2_with(fail);refine he.mono ?_;rintro e w5 ⟨rfl,k5⟩;have hN5:=iZ.below HN.out k5;have PO:=iZ.below HB.out k5;have nb:=(hN5.cell m).trans (J7 (qv bn pg) m eh);have HN5:Hid _:=hN5;have h:Hid (w.grownBy w5 (μ B)):=⟨k5.os.trans ZZ.out.os,k5.tape.trans ZZ.out.tape,k5.output.trans ZZ.out.output,Nat.le_trans ZZ.out.size k5.size,λi hi J=>(k5.block i (Nat.lt_of_lt_of_le hi ZZ.out.size)).trans (ZZ.out.block i hi J)⟩
    have X2:Hid (C pg m=0 \/qv bn pg m=true->∀x q,x<m+1->Ext C r p x q->Du C r Z q):=by
     intro hh x q hx hq;by_cases e:x=m
     ·subst e;exact absurd hq (HPr.out.none x hh q)
     ·exact H.out.2.2 x q eh hq
    obtain⟨p0,p1,p2⟩:=A1 Z m eh;have b0:=(PO.cell (m*3)).trans p0;have b1:=(PO.cell (m*3+1)).trans p1;have b2:=(PO.cell (m*3+2)).trans p2;have Ht:Hid _:=PO;clear he k5 hN5 PO p0 p1 p2 HB HN ZZ;have hcr:=CZ pg m;by_cases hz:C pg m=0
    ·have Tv:(C pg m==0)=true:=by simpa using hz
     have aea:Hid _:=X2.out (.inl hz);generalize C pg m=cm at Tv⊢
     go_wp2
     go_roundw
     case rel=>exact⟨m+1,Z,eh,eh,by go_num,⟨H.out.1,H.out.2.1,aea.out⟩,Ht.out,HN5.out,h.out⟩
     case measure=>simp[fa];omega
    have Tv:(C pg m==0)=false:=by simpa using hz
    cases QP:qv bn pg m with
    |true=>
     rw[QP]at nb;have aea:Hid _:=X2.out (.inr QP);generalize C pg m=cm at Tv⊢
     go_wp2
     go_roundw
     case rel=>exact⟨m+1,Z,eh,eh,by go_num,⟨H.out.1,H.out.2.1,aea.out⟩,Ht.out,HN5.out,h.out⟩
     case measure=>simp[fa];omega
    |false=>
     rw[QP]at nb;have qw:0<C pg m:=eh;have HPn:Hid _:=HPr.out.next m eh qw QP;have HPs:Hid _:=HPr.out.step m vX eh qw QP;obtain⟨nx,hnx⟩:=gq ((if by'=0 then(m:Int)else by'));rw[hnx]at HPn HPs;have HNX:Hid _:=hnx;have hzo:=H.out.1.z m;have hwy:=H.out.1.s.way m;have Ay:=H.out.1.s.nn m;obtain⟨cm,Gi⟩:=gq (C pg m);rw[Gi]at Tv HPn HPs hcr qw;rw[Gi];have HW:Hid ((Z m).dst=0↔(Z m).far=0):=by
      constructor
      ·intro e;by_cases h9:0<(Z m).far
       ·have:=(hwy h9).1;omega
       ·omega
      ·intro e;rw[hzo e];rfl
     have D:Hid (ux ⟨(m:Int),far+cm,nx⟩ (Z m)=true↔(Z m).far=0 \/far+cm<(Z m).far \/(far+cm=(Z m).far/\nx<(Z m).rM)):=zE _ _;have HU:Hid (ux ⟨(m:Int),far+cm,nx⟩ (Z m)=true->RS C r (rA Z m ⟨(m:Int),far+cm,nx⟩)/\zD (rA Z m ⟨(m:Int),far+cm,nx⟩) Z/\Du C r (rA Z m ⟨(m:Int),far+cm,nx⟩) (m::p)):=by
      intro hb;obtain⟨a1,a2,a3,a4⟩:=HPn.out;have h8:=ad7 H.out.1 m (m::p) a1 rfl (λx y=>(CZ x y).1);rw[a3,a4]at h8;refine⟨h8,Xa m _ (by simp only;omega) hb,λx hx=> ?_⟩;have:m=x:=by simpa using hx
      subst this;simp only[rA,if_true,a3,a4];exact⟨eh,xy.rfl' _⟩
     have HV:Hid (¬ux ⟨(m:Int),far+cm,nx⟩ (Z m)=true->Du C r Z (m::p)):=by
      intro hb x hx;obtain⟨a1,a2,a3,a4⟩:=HPn.out;have:m=x:=by simpa using hx
      subst this;rw[D.out]at hb;rw[a3,a4];refine⟨eh,?_⟩;simp only[xy,HP.v];omega
     clear hzo hwy Gi hnx hz QP;by_cases vV:by'=0
     ·have amM:(by'==0)=true:=by simpa using vV
      have hE:nx=(m:Int):=by rw[<-HNX.out,ai vV]
      subst hE;clear vV;obtain⟨S,hqd⟩:=gq ((Z m).dst);obtain⟨U,M⟩:=gq ((Z m).far);obtain⟨qx,hqx⟩:=gq ((Z m).rM);rw[hqd]at b0 HW;rw[M]at b1 HW D;rw[hqx]at b2 D;obtain⟨Y,Z1⟩:=gq (w5.alloc (γ #[ι κ S,ι κ U,ι κ qx] 98));have Q:eE w5 Y:=by rw[<-Z1];exact gY _ _
      have hY:iZ Y w5.heap.size #[ι κ S,ι κ U,ι κ qx] 98:=by rw[<-Z1];exact iZ.new _ _ _
      have HW6:Hid _:=Z1;have ES:=iZ.below Ht.out Q;have HN6:Hid _:=iZ.below HN5.out Q;have HG6:Hid (w.grownBy Y (μ B)):=⟨Q.os.trans h.out.os,Q.tape.trans h.out.tape,Q.output.trans h.out.output,Nat.le_trans h.out.size Q.size,λi hi J=>(Q.block i (Nat.lt_of_lt_of_le hi h.out.size)).trans (h.out.block i hi J)⟩
      have y0:Y.cell? ⟨w5.heap.size,0,ν⟩=μ (ι κ S):=hY.cell 0;have y1:Y.cell? ⟨w5.heap.size,1,ν⟩=μ (ι κ U):=hY.cell 1;have y2:Y.cell? ⟨w5.heap.size,2,ν⟩=μ (ι κ qx):=hY.cell 2;have ly:=hY.lt;have f0:=ES.frozen (m*3);have f1:=ES.frozen (m*3+1);have f2:=ES.frozen (m*3+2);have g0:=(Q.cell (p:=⟨B,m*3,ν⟩) (iZ.lt Ht.out)).trans b0;have g1:=(Q.cell (p:=⟨B,m*3+1,ν⟩) (iZ.lt Ht.out)).trans b1;have g2:=(Q.cell (p:=⟨B,m*3+2,ν⟩) (iZ.lt Ht.out)).trans b2;have lB:=ES.lt;have Qq:Hid _:=ES;clear Z1 Q hY hqd M hqx ES HN5 h Ht Ay
      go_upto_region 11 with fail
      rw[HW6.out];clear b0 b1 b2 nb Tv;have Z3:Hid (ux ⟨(m:Int),far+cm,(m:Int)⟩ (Z m)=true->(∃T,iZ (((Y.setCell ⟨B,m*3,ν⟩ (ι κ (m:Int))).setCell ⟨B,m*3+1,ν⟩ (ι κ (far+cm))).setCell ⟨B,m*3+2,ν⟩ (ι κ (m:Int))) B (hC T) 204/\RS C r T/\zD T Z/\Du C r T (m::p))/\iZ (((Y.setCell ⟨B,m*3,ν⟩ (ι κ (m:Int))).setCell ⟨B,m*3+1,ν⟩ (ι κ (far+cm))).setCell ⟨B,m*3+2,ν⟩ (ι κ (m:Int))) N (bC (qv bn pg)) 205/\w.grownBy (((Y.setCell ⟨B,m*3,ν⟩ (ι κ (m:Int))).setCell ⟨B,m*3+1,ν⟩ (ι κ (far+cm))).setCell ⟨B,m*3+2,ν⟩ (ι κ (m:Int))) (μ B)):=by
       intro hb;obtain⟨u1,u2,u3⟩:=HU.out hb;have J:N≠B:=by have:=HBN.out;omega
       refine⟨⟨_,?_,u1,u2,u3⟩,iZ.other (iZ.other (iZ.other HN6.out J _) J _) J _,kQ (kQ (kQ HG6.out _ _) _ _) _ _⟩;rw[<-Ji Z m ⟨(m:Int),far+cm,(m:Int)⟩ eh];exact iZ.set (iZ.set (iZ.set Qq.out _ _) _ _) _ _
      have X2:Hid (¬ux ⟨(m:Int),far+cm,(m:Int)⟩ (Z m)=true->(∃T,iZ Y B (hC T) 204/\RS C r T/\zD T Z/\Du C r T (m::p))/\iZ Y N (bC (qv bn pg)) 205/\w.grownBy Y (μ B)):=
       λhb=>⟨⟨Z,Qq.out,H.out.1,zD.refl _,HV.out hb⟩,HN6.out,HG6.out⟩
      clear HN6 HG6 Qq HU HV HPn;have hq5:S=0 \/(¬S=0/\far+cm<U) \/(¬S=0/\¬far+cm<U/\far+cm=U/\(m:Int)<qx) \/(¬S=0/\¬far+cm<U/\far+cm=U/\¬(m:Int)<qx) \/(¬S=0/\¬far+cm<U/\¬far+cm=U):=eh;rcases hq5 with c1|⟨c1,c2⟩|⟨c1,c2,c3,c4⟩|⟨c1,c2,c3,c4⟩|⟨c1,c2,c3⟩
      have Z4:(S==0)=true:=by simpa using c1
      obtain⟨⟨T,E,Gb,qZ,Tl⟩,A,j⟩:=Z3.out (D.out.2 (.inl (HW.out.1 c1)));obtain⟨W7,OQ⟩:=gq ((((Y.setCell ⟨B,m*3,ν⟩ (ι κ (m:Int))).setCell ⟨B,m*3+1,ν⟩ (ι κ (far+cm))).setCell ⟨B,m*3+2,ν⟩ (ι κ (m:Int))));clear c1
      rotate_left
      have Z4:(S==0)=false:=by simpa using c1
      have M:¬U=0:=λe=>c1 (HW.out.2 e);obtain⟨⟨T,E,Gb,qZ,Tl⟩,A,j⟩:=Z3.out (D.out.2 (.inr (.inl c2)));obtain⟨W7,OQ⟩:=gq ((((Y.setCell ⟨B,m*3,ν⟩ (ι κ (m:Int))).setCell ⟨B,m*3+1,ν⟩ (ι κ (far+cm))).setCell ⟨B,m*3+2,ν⟩ (ι κ (m:Int))));clear c1 M
      rotate_left
      have Z4:(S==0)=false:=by simpa using c1
      have M:¬U=0:=λe=>c1 (HW.out.2 e);have c3':(far+cm==U)=true:=by simpa using c3
      obtain⟨⟨T,E,Gb,qZ,Tl⟩,A,j⟩:=Z3.out (D.out.2 (.inr (.inr ⟨c3,c4⟩)));obtain⟨W7,OQ⟩:=gq ((((Y.setCell ⟨B,m*3,ν⟩ (ι κ (m:Int))).setCell ⟨B,m*3+1,ν⟩ (ι κ (far+cm))).setCell ⟨B,m*3+2,ν⟩ (ι κ (m:Int))));clear c1 M c3
      rotate_left
      have Z4:(S==0)=false:=by simpa using c1
      have M:¬U=0:=λe=>c1 (HW.out.2 e);have c3':(far+cm==U)=true:=by simpa using c3
      obtain⟨⟨T,E,Gb,qZ,Tl⟩,A,j⟩:=X2.out (λhb=>by have:=D.out.1 hb;omega);obtain⟨W7,OQ⟩:=gq Y;clear c1 M c3
      rotate_left
      have Z4:(S==0)=false:=by simpa using c1
      have M:¬U=0:=λe=>c1 (HW.out.2 e);have c3':(far+cm==U)=false:=by simpa using c3
      obtain⟨⟨T,E,Gb,qZ,Tl⟩,A,j⟩:=X2.out (λhb=>by have:=D.out.1 hb;omega);obtain⟨W7,OQ⟩:=gq Y;clear c1 M c3
      rotate_left
      all_goals
       rw[OQ]at E A j;have kf:=HIH.out (m::p) m (far+cm) (m:Int) (qv bn pg) T W7 (by simp;omega) eh HPs.out Gb E (tE HBW.out j xw);have OT:iZ W7 N (bC (qv bn pg)) 205:=A;have X3:(e7.info? 205).map (·.size)=μ (bC (qv bn pg)).size:=by rw[J6];exact W9
       have Y4:Hid _:=qZ;have HD1:Hid _:=Tl;have HN1:Hid _:=A;have BN:Hid _:=j;have HW7:Hid _:=OQ;clear E Gb qZ Tl A j OQ X2 Z3 D HW;obtain⟨bb,Jr⟩:=gq (bC (qv bn pg));rw[Jr]at kf OT X3;have YX:Hid _:=Jr;clear Jr
       go_upto_region 13 with fail
       rw[HW7.out];go_wp2_with(first
        |refine lq _ rfl (.tmp 10) 205 rfl N bb _ _ rfl OT underlying205 X3 ?_)
       refine kf.mono ?_;rintro e w8 ⟨rfl,⟨G2,hB8,hR8,Z5,hD8⟩,ze⟩;have hN8:iZ w8 N (bC (qv bn pg)) 205:=iZ.keep HN1.out (ze.block N (iZ.lt HN1.out) (λe=>by have:=HBN.out;simp at e;omega));have RX:Hid (RS C r G2/\zD G2 G/\∀x q,x<m+1->Ext C r p x q->Du C r G2 q):=by
        refine⟨hR8,Z5.trans (zD.trans Y4.out H.out.2.1),λx q hx hq=> ?_⟩;by_cases ex:x=m
        ·subst ex;obtain⟨q1,q2,e,rfl⟩:=hq;rcases cG e with rfl|⟨e',y,Cb⟩
         ·exact Du.mono HD1.out Z5
         ·rw[cH]at Cb;subst Cb;exact hD8 y _ ⟨q1,q2,e',gZ⟩
        ·exact Du.mono (Du.mono (H.out.2.2 x q eh hq) Y4.out) Z5
       have HB8:Hid _:=hB8;have HN8:Hid _:=hN8;have HG8:Hid (w.grownBy w8 (μ B)):=⟨ze.os.trans BN.out.os,ze.tape.trans BN.out.tape,ze.output.trans BN.out.output,Nat.le_trans BN.out.size ze.size,λi hi J=>(ze.block i (Nat.lt_of_lt_of_le hi BN.out.size) J).trans (BN.out.block i hi J)⟩
       clear kf hB8 hR8 Z5 hD8 ze hN8 OT X3
       go_wp2
       go_roundw
       case rel=>exact⟨m+1,G2,eh,eh,by go_num,RX.out,HB8.out,HN8.out,HG8.out⟩
       case measure=>simp[fa];omega
     ·have amM:(by'==0)=false:=by simpa using vV
      have hE:nx=by':=by rw[<-HNX.out,af vV]
      subst hE;clear vV;obtain⟨S,hqd⟩:=gq ((Z m).dst);obtain⟨U,M⟩:=gq ((Z m).far);obtain⟨qx,hqx⟩:=gq ((Z m).rM);rw[hqd]at b0 HW;rw[M]at b1 HW D;rw[hqx]at b2 D;obtain⟨Y,Z1⟩:=gq (w5.alloc (γ #[ι κ S,ι κ U,ι κ qx] 98));have Q:eE w5 Y:=by rw[<-Z1];exact gY _ _
      have hY:iZ Y w5.heap.size #[ι κ S,ι κ U,ι κ qx] 98:=by rw[<-Z1];exact iZ.new _ _ _
      have HW6:Hid _:=Z1;have ES:=iZ.below Ht.out Q;have HN6:Hid _:=iZ.below HN5.out Q;have HG6:Hid (w.grownBy Y (μ B)):=⟨Q.os.trans h.out.os,Q.tape.trans h.out.tape,Q.output.trans h.out.output,Nat.le_trans h.out.size Q.size,λi hi J=>(Q.block i (Nat.lt_of_lt_of_le hi h.out.size)).trans (h.out.block i hi J)⟩
      have y0:Y.cell? ⟨w5.heap.size,0,ν⟩=μ (ι κ S):=hY.cell 0;have y1:Y.cell? ⟨w5.heap.size,1,ν⟩=μ (ι κ U):=hY.cell 1;have y2:Y.cell? ⟨w5.heap.size,2,ν⟩=μ (ι κ qx):=hY.cell 2;have ly:=hY.lt;have f0:=ES.frozen (m*3);have f1:=ES.frozen (m*3+1);have f2:=ES.frozen (m*3+2);have g0:=(Q.cell (p:=⟨B,m*3,ν⟩) (iZ.lt Ht.out)).trans b0;have g1:=(Q.cell (p:=⟨B,m*3+1,ν⟩) (iZ.lt Ht.out)).trans b1;have g2:=(Q.cell (p:=⟨B,m*3+2,ν⟩) (iZ.lt Ht.out)).trans b2;have lB:=ES.lt;have Qq:Hid _:=ES;clear Z1 Q hY hqd M hqx ES HN5 h Ht Ay
      go_upto_region 11 with fail
      rw[HW6.out];clear b0 b1 b2 nb Tv;have Z3:Hid (ux ⟨(m:Int),far+cm,nx⟩ (Z m)=true->(∃T,iZ (((Y.setCell ⟨B,m*3,ν⟩ (ι κ (m:Int))).setCell ⟨B,m*3+1,ν⟩ (ι κ (far+cm))).setCell ⟨B,m*3+2,ν⟩ (ι κ nx)) B (hC T) 204/\RS C r T/\zD T Z/\Du C r T (m::p))/\iZ (((Y.setCell ⟨B,m*3,ν⟩ (ι κ (m:Int))).setCell ⟨B,m*3+1,ν⟩ (ι κ (far+cm))).setCell ⟨B,m*3+2,ν⟩ (ι κ nx)) N (bC (qv bn pg)) 205/\w.grownBy (((Y.setCell ⟨B,m*3,ν⟩ (ι κ (m:Int))).setCell ⟨B,m*3+1,ν⟩ (ι κ (far+cm))).setCell ⟨B,m*3+2,ν⟩ (ι κ nx)) (μ B)):=by
       intro hb;obtain⟨u1,u2,u3⟩:=HU.out hb;have J:N≠B:=by have:=HBN.out;omega
       refine⟨⟨_,?_,u1,u2,u3⟩,iZ.other (iZ.other (iZ.other HN6.out J _) J _) J _,kQ (kQ (kQ HG6.out _ _) _ _) _ _⟩;rw[<-Ji Z m ⟨(m:Int),far+cm,nx⟩ eh];exact iZ.set (iZ.set (iZ.set Qq.out _ _) _ _) _ _
      have X2:Hid (¬ux ⟨(m:Int),far+cm,nx⟩ (Z m)=true->(∃T,iZ Y B (hC T) 204/\RS C r T/\zD T Z/\Du C r T (m::p))/\iZ Y N (bC (qv bn pg)) 205/\w.grownBy Y (μ B)):=
       λhb=>⟨⟨Z,Qq.out,H.out.1,zD.refl _,HV.out hb⟩,HN6.out,HG6.out⟩
      clear HN6 HG6 Qq HU HV HPn;have hq5:S=0 \/(¬S=0/\far+cm<U) \/(¬S=0/\¬far+cm<U/\far+cm=U/\nx<qx) \/(¬S=0/\¬far+cm<U/\far+cm=U/\¬nx<qx) \/(¬S=0/\¬far+cm<U/\¬far+cm=U):=eh;rcases hq5 with c1|⟨c1,c2⟩|⟨c1,c2,c3,c4⟩|⟨c1,c2,c3,c4⟩|⟨c1,c2,c3⟩
      have Z4:(S==0)=true:=by simpa using c1
      obtain⟨⟨T,E,Gb,qZ,Tl⟩,A,j⟩:=Z3.out (D.out.2 (.inl (HW.out.1 c1)));obtain⟨W7,OQ⟩:=gq ((((Y.setCell ⟨B,m*3,ν⟩ (ι κ (m:Int))).setCell ⟨B,m*3+1,ν⟩ (ι κ (far+cm))).setCell ⟨B,m*3+2,ν⟩ (ι κ nx)));clear c1
      rotate_left
      have Z4:(S==0)=false:=by simpa using c1
      have M:¬U=0:=λe=>c1 (HW.out.2 e);obtain⟨⟨T,E,Gb,qZ,Tl⟩,A,j⟩:=Z3.out (D.out.2 (.inr (.inl c2)));obtain⟨W7,OQ⟩:=gq ((((Y.setCell ⟨B,m*3,ν⟩ (ι κ (m:Int))).setCell ⟨B,m*3+1,ν⟩ (ι κ (far+cm))).setCell ⟨B,m*3+2,ν⟩ (ι κ nx)));clear c1 M
      rotate_left
      have Z4:(S==0)=false:=by simpa using c1
      have M:¬U=0:=λe=>c1 (HW.out.2 e);have c3':(far+cm==U)=true:=by simpa using c3
      obtain⟨⟨T,E,Gb,qZ,Tl⟩,A,j⟩:=Z3.out (D.out.2 (.inr (.inr ⟨c3,c4⟩)));obtain⟨W7,OQ⟩:=gq ((((Y.setCell ⟨B,m*3,ν⟩ (ι κ (m:Int))).setCell ⟨B,m*3+1,ν⟩ (ι κ (far+cm))).setCell ⟨B,m*3+2,ν⟩ (ι κ nx)));clear c1 M c3
      rotate_left
      have Z4:(S==0)=false:=by simpa using c1
      have M:¬U=0:=λe=>c1 (HW.out.2 e);have c3':(far+cm==U)=true:=by simpa using c3
      obtain⟨⟨T,E,Gb,qZ,Tl⟩,A,j⟩:=X2.out (λhb=>by have:=D.out.1 hb;omega);obtain⟨W7,OQ⟩:=gq Y;clear c1 M c3
      rotate_left
      have Z4:(S==0)=false:=by simpa using c1
      have M:¬U=0:=λe=>c1 (HW.out.2 e);have c3':(far+cm==U)=false:=by simpa using c3
      obtain⟨⟨T,E,Gb,qZ,Tl⟩,A,j⟩:=X2.out (λhb=>by have:=D.out.1 hb;omega);obtain⟨W7,OQ⟩:=gq Y;clear c1 M c3
      rotate_left
      all_goals
       rw[OQ]at E A j;have kf:=HIH.out (m::p) m (far+cm) nx (qv bn pg) T W7 (by simp;omega) eh HPs.out Gb E (tE HBW.out j xw);have OT:iZ W7 N (bC (qv bn pg)) 205:=A;have X3:(e7.info? 205).map (·.size)=μ (bC (qv bn pg)).size:=by rw[J6];exact W9
       have Y4:Hid _:=qZ;have HD1:Hid _:=Tl;have HN1:Hid _:=A;have BN:Hid _:=j;have HW7:Hid _:=OQ;clear E Gb qZ Tl A j OQ X2 Z3 D HW;obtain⟨bb,Jr⟩:=gq (bC (qv bn pg));rw[Jr]at kf OT X3;have YX:Hid _:=Jr;clear Jr
       go_upto_region 13 with fail
       rw[HW7.out];go_wp2_with(first
        |refine lq _ rfl (.tmp 10) 205 rfl N bb _ _ rfl OT underlying205 X3 ?_)
       refine kf.mono ?_;rintro e w8 ⟨rfl,⟨G2,hB8,hR8,Z5,hD8⟩,ze⟩;have hN8:iZ w8 N (bC (qv bn pg)) 205:=iZ.keep HN1.out (ze.block N (iZ.lt HN1.out) (λe=>by have:=HBN.out;simp at e;omega));have RX:Hid (RS C r G2/\zD G2 G/\∀x q,x<m+1->Ext C r p x q->Du C r G2 q):=by
        refine⟨hR8,Z5.trans (zD.trans Y4.out H.out.2.1),λx q hx hq=> ?_⟩;by_cases ex:x=m
        ·subst ex;obtain⟨q1,q2,e,rfl⟩:=hq;rcases cG e with rfl|⟨e',y,Cb⟩
         ·exact Du.mono HD1.out Z5
         ·rw[cH]at Cb;subst Cb;exact hD8 y _ ⟨q1,q2,e',gZ⟩
        ·exact Du.mono (Du.mono (H.out.2.2 x q eh hq) Y4.out) Z5
       have HB8:Hid _:=hB8;have HN8:Hid _:=hN8;have HG8:Hid (w.grownBy w8 (μ B)):=⟨ze.os.trans BN.out.os,ze.tape.trans BN.out.tape,ze.output.trans BN.out.output,Nat.le_trans BN.out.size ze.size,λi hi J=>(ze.block i (Nat.lt_of_lt_of_le hi BN.out.size) J).trans (BN.out.block i hi J)⟩
       clear kf hB8 hR8 Z5 hD8 ze hN8 OT X3
       go_wp2
       go_roundw
       case rel=>exact⟨m+1,G2,eh,eh,by go_num,RX.out,HB8.out,HN8.out,HG8.out⟩
       case measure=>simp[fa];omega
   ·have ad9:¬(m:Int)<=6:=eh;have HR:Hid (∃Z,iZ wr B (hC Z) 204/\RS C r Z/\zD Z G/\∀x q,Ext C r p x q->Du C r Z q):=by
     refine⟨Z,hB,H.out.1,H.out.2.1,λx q hq=>H.out.2.2 x q ?_ hq⟩;obtain⟨q1,_,e,rfl⟩:=hq;have:=(K0 q1 x gZ).1;omega
    have ZZ:Hid _:=vy;clear hB hN vy
    go_wp2
    first|go_end0|refine iM rfl rfl ?_
    exact⟨rfl,HR.out,ZZ.out⟩
theorem Tm(a:Option Addr)(n cap:Nat)(S:Nat->SV)(E:Nat->List jH)(r:Nat)(w:dY)(h:uv w a n S E)(hn:n<=1000)(iQ:∀j,j<n->oD (S j).own (S j).seq (E j)=0)(lg:1<=r)(hr6:r<=6):
 eZ e7 48 #[σ a n cap,ι κ (r:Int)] w λe w'=>∃b c,e=ρ (σ b (pw (kL (jX S E n)) r).length c)/\Gs w' b (pw (kL (jX S E n)) r).length (pw (kL (jX S E n)) r)/\eE w w':=by
 have T:Hid (∀(u v:Nat) W,eE w W->eZ e7 159 #[σ a n cap,ι κ (u:Int),ι κ (v:Int)] W λe w'=>e=ρ (ι κ (kL (jX S E n) u v))/\eE W w'):=
  λu v W hW=>UR a n cap S E u v W (h.below hW) hn iQ
 have CZ:=Cd (wy S E n iQ);have hD:=Ti S E n iQ;have HI:Hid (∀u v,0<kL (jX S E n) u v->(1<=u/\u<=6)/\1<=v/\v<=6):=ZW S E n iQ;generalize kL (jX S E n)=C at T CZ hD HI⊢;clear iQ;have Gd:∀x y,0<=C x y:=λx y=>(CZ x y).1;have hz:=ah1;have mI:=ZY;have r1:¬(r:Int)<1:=eh;have r2:¬6<(r:Int):=eh;obtain⟨Z,hZ⟩:=gq (bC (λ_=>false));obtain⟨Z2,XC⟩:=gq (hC (λ_=>HP.zero));rw[hZ]at hz;rw[XC]at mI;obtain⟨W1,j8⟩:=gq ((w.alloc (γ Z2 204)).alloc (γ Z 205));have k1:eE w W1:=by rw[<-j8];exact(gY _ _).alloc gZ _
 have hB:iZ W1 w.heap.size (hC λ_=>HP.zero) 204:=by rw[<-j8,XC];exact(iZ.new w _ _).below (gY _ _)
 have hN:iZ W1 (w.heap.size+1) Z 205:=by rw[<-j8];exact iZ.Gk _ _ _ _ gZ
 have X3:(e7.info? 205).map (·.size)=μ Z.size:=by rw[<-hZ,J6];exact W9
 have Up:Xb C r [] r 0 0 (λ_=>false):=by
  refine⟨.inl ⟨rfl,rfl,rfl,rfl⟩,cW,λx=> ?_⟩;simp[qv]
 have hrs:RS C r (λ_=>HP.zero):=⟨⟨λ_=>Int.le_refl _,λn hn=>by simp[HP.zero]at hn⟩,λ_ _=>rfl⟩
 have kf:=Tk a n cap r w C w.heap.size (Nat.le_refl _) T CZ HI 7 [] r 0 0 (λ_=>false) (λ_=>HP.zero) W1 rfl eh Up hrs hB k1;rw[hZ]at kf;have Kg:Hid _:=j8;have HK1:Hid _:=k1;clear j8 hZ XC Up hrs hB k1 T
 go_in
 go_upto_region 5 with fail
 rw[Kg.out];go_wp2_with(first
  |refine lq _ rfl (.tmp 6) 205 rfl (w.heap.size+1) Z _ _ rfl hN underlying205 X3 ?_)
 refine kf.mono ?_;rintro e H ⟨rfl,⟨G,CY,Gc,_,hD2⟩,vy⟩;have rO:eE w H:=tE HK1.out vy (Nat.le_refl _);have ku:=Tj Gd (hD r) G Gc (λq q1 q2=>by
  rcases cG q with rfl|⟨e,x,he⟩
  ·exact q1.elim
  ·rw[cH]at he;exact hD2 x q ⟨q1,q2,e,he⟩)
 have HD3:Hid (∀m:Nat,1<=m->((0:Int)<(G m).dst↔0<Aw C r m)/\(0<Aw C r m->G m=jl C r 6 m)):=by
  intro m hm;obtain⟨s1,s2⟩:=ku m;refine⟨⟨λh9=> ?_,λh9=> ?_⟩,s2⟩
  ·by_cases e:0<Aw C r m
   ·exact e
   ·have e0:=OL Gd (hD r) m;have:=Gc.z m eh;rw[this]at h9;simp[HP.zero]at h9
  ·have:=(Gc.s.way m eh).1;omega
 have HF0:Hid (Aw C r 0=0):=by
  show _=_;have e0:=OL Gd (hD r) 0;by_cases e:0<Aw C r 0
  ·obtain⟨_,q,q1,_,q3,_⟩:=K3 Gd (hD r) 0 e;exfalso
   match q,q1,q3 with
   |[],q1,_=>exact q1
   |[x],q1,q3=>
    have:x=0:=by simpa using q3
    subst this;have:=HI.out _ _ q1.1;omega
   |x::y::l,q1,q3=>
    have:x=0:=by simpa using q3
    subst this;have:=HI.out _ _ q1.2.1;omega
  ·omega
 have HL:Hid (∀m,ph (jl C r 6) (m+1)=if 0<Aw C r m then ph (jl C r 6) m++ [jl C r 6 m]else ph (jl C r 6) m):=λm=>rfl;have HE:Hid (ph (jl C r 6) 7=pw C r):=rfl;have HLL:Hid (∀m,(ph (jl C r 6) m).length<=m):=rB _;obtain⟨i0,hi,oB,np,P2⟩:=aX Py;have AA:Hid _:=CY;have HK2:Hid _:=rO;obtain⟨B,Q⟩:=gq (w.heap.size);rw[Q]at AA;rw[Q];clear kf CY Gc hD2 vy rO ku hN X3 Kg Q
 go_wp2
 go_loopw [7,8] (λs v wr=>∃m:Nat,1<=m/\m<=7/\v=ι κ m/\Row wr 3 s (ph (jl C r 6) m).length (NB (ph (jl C r 6) m))/\(∀g,s.ownBlock=μ g->H.heap.size<=g)/\eE H wr) (λ_ v _=>7-(fa v).toNat)
 case atStart=>
  refine⟨1,eh,eh,rfl,?_,λg hg=>by simp[eu]at hg,au _ _⟩;have e:ph (jl C r 6) 1=[] :=by
   rw[HL.out 0,af (by rw[HF0.out];omega)];rfl
  rw[e];exact Row.nil _ _
 case round=>
  obtain⟨m,vX,hm7,rfl,U,jq,M⟩:=hrel;by_cases hm6:m<=6
  ·have ad9:(m:Int)<=6:=eh;have amK:(m:Int)<7:=eh;obtain⟨p0,p1,p2⟩:=A1 G m eh;have Yz:=iZ.below AA.out M;have c0:=(Yz.cell (m*3)).trans p0;have c1:=(Yz.cell (m*3+1)).trans p1;have c2:=(Yz.cell (m*3+2)).trans p2;clear p0 p1 p2 Yz;obtain⟨d1,d2⟩:=HD3.out m vX;have HS:Hid _:=HL.out m;have hll:=HLL.out m;have A6:Hid _:=jq;have HB:Hid _:=M;by_cases hf:0<Aw C r m
   ·have Y:0<(G m).dst:=d1.2 hf;have he:=d2 hf;have zt:Hid (ph (jl C r 6) (m+1)=ph (jl C r 6) m++ [G m]):=by show _=_;rw[HS.out,ai hf,he]
    obtain⟨p,hp⟩:=gq (G m);rw[hp]at c0 c1 c2 Y zt;obtain⟨pd,pf,px⟩:=p;simp only at c0 c1 c2 Y;obtain⟨L,hLe⟩:=gq (ph (jl C r 6) m);rw[hLe]at zt U hll;have hws:Hid (H.heap.size<=wr.heap.size):=M.size;clear hp hLe d1 d2 hf he jq M HS;go_wp2_with(at_builtin;go_must(refine iI _ rfl (.tmp 28) (.tmp 32) 94 rfl 98 i0 (.agg #[ι κ 0,ι κ 0,ι κ 0]) 3 24 underlying94 hi oB np P2 rfl eA u7 L.length (NB L) rfl (U.alloc _) _ 1 1 [ι κ pd,ι κ pf,ι κ px] rfl rfl eA (zC _ _ _ _ _ _ gZ) (UX _ _ _) (by unfold maxLen;omega) eh ?_));intro g' jv w3 sM D sN;have HR3:Hid (Row w3 3 (σ (μ ⟨g',0,ν⟩) (L.length+1) jv) (L++ [(⟨pd,pf,px⟩:HP)]).length (NB (L++ [(⟨pd,pf,px⟩:HP)]))):=by
     show Row _ _ _ _ _;rw[KX,az];exact sM
    have J:eE H (wr.alloc (γ #[ι κ pd,ι κ pf,ι κ px] 98)):=Below.alloc HB.out HB.out.size _;have Hs:Hid (eE H w3):=⟨D.os.trans J.os,D.tape.trans J.tape,D.output.trans J.output,Nat.le_trans J.size D.size,λi hi=>(D.block i (Nat.lt_of_lt_of_le hi J.size) (λe=>by have:=A6.out i e.symm;omega)).trans (J.block i hi)⟩
    have XD:Hid (∀g,eu (σ (μ ⟨g',0,ν⟩) (L.length+1) jv)=μ g->H.heap.size<=g):=by
     intro g hg;have QH:g'=g:=by simpa[eu]using hg
     subst QH;rcases sN with e|e
     ·exact A6.out _ e
     ·have:=hws.out;omega
    clear sM D sN J U c0 c1 c2
    go_wp2
    go_roundw
    case rel=>exact⟨m+1,eh,eh,by go_num,by rw[zt.out];exact HR3.out,XD.out,Hs.out⟩
    case measure=>simp[fa];omega
   ·have Y:¬0<(G m).dst:=λe=>hf (d1.1 e);have zt:Hid (ph (jl C r 6) (m+1)=ph (jl C r 6) m):=by show _=_;rw[HS.out,af hf]
    generalize (G m).dst=pd at c0 Y;have En:Hid _:=U;clear d1 d2 hf HS jq M U c1 c2
    go_wp2
    go_roundw
    case rel=>exact⟨m+1,eh,eh,by go_num,by rw[zt.out];exact En.out,A6.out,HB.out⟩
    case measure=>simp[fa];omega
  ·have ad9:¬(m:Int)<=6:=eh;have Ru:m=7:=eh;subst Ru;rw[HE.out]at U;obtain⟨ra,rc,rfl,hR⟩:=Row.hs U;have HR:Hid _:=hR;have A:Hid _:=gu HK2.out M;clear hR U jq M
   go_wp2
   go_ret
   first|exact⟨_,_,rfl,HR.out,A.out⟩|exact⟨_,⟨_,rfl⟩,HR.out,A.out⟩
namespace Rt
theorem Xc(a:Int):∃m:Nat,m<=1023/\bits .and .i64 a 1023=(m:Int):=by
 have e:(fc 64 a&&&fc 64 1023).toNat<=1023:=by
  rw[BitVec.toNat_and];exact Nat.and_le_right
 refine⟨(fc 64 a&&&fc 64 1023).toNat,e,?_⟩;show IntKind.i64.wrap ((fc 64 a&&&fc 64 1023).toNat:Int)=_;rw[dD];omega
