import Derived.Test.YtieklnlbljejdaaGreatDoorM22
open Go.Value renaming int → ι, slice → σ, pointer → π, tuple → τ, nilIface → η
open Go.IntKind renaming i64 → κ
open Go.Ending renaming returned → ρ
open Go.Obj renaming cells → γ
open Option renaming none → ν, some → μ
open Go renaming World → dY, Calls → eW, Addr → dX
open Go.Proofs.Tryz renaming prog → eX
open Go.RowKit renaming intOf → eY
open Go.Instr renaming makeSlice → gZ
open Go.Value renaming bool → iB, ownBlock → eu, int → eB
open List renaming range → fW
set_option maxRecDepth 100000
set_option maxHeartbeats 8000000
open Go.Proofs.Tryz
namespace Go.Proofs.YtieklnlbljejdaaGreatDoor
open Go.RowKit St
namespace Rt
variable {D N g i k m nc x:Nat} {Es:Nat->List jE} {L:List oV} {S:Nat->SV} {V:Nat->AV} {W W' w w' w0 wr:World} {X:Nat->Prop} {e:Ending} {f:Nat->Option jE} {many:Int} {out:List SV}
structure oX(w0 w:dY)(N:Nat)(X:Nat->Prop)(n:iP):Prop where
 ex:∃y,jG w y n/\y.N=N/\(∀b,y.all n.n b->w0.heap.size<=b)/\∀b,y.ext b↔X b
 nT:eE w0 w
theorem oX.WH(h:R7 w many L X e w')(T:nN many L=0)(hb:eE w0 w):∃N,e=ρ (τ #[π (μ ⟨N,0,ν⟩),η])/\oX w0 w' N X (jQ many.toNat L):=by
 obtain⟨_,U,Y⟩:=h;obtain⟨y,M,J,Q,hx⟩:=U T;exact⟨y.N,M,⟨y,J,rfl,λb Z=>Nat.le_trans hb.size (Q b Z),hx⟩,gk hb Y⟩
theorem oX.adK(h:R7 w many L X e w')(Y:nN many L≠0)(hb:eE w0 w):e=ρ (τ #[π ν,jm (nN many L)])/\eE w0 w':=by
 obtain⟨U,_,Z⟩:=h;exact⟨U Y,gk hb Z⟩
theorem oX.still {n:iP} (h:oX w0 w N X n)(hb:eE w w'):oX w0 w' N X n:=by
 obtain⟨⟨y,Y,T,Z,hx⟩,U⟩:=h;exact⟨⟨y,Y.below hb,T,Z,hx⟩,gk U hb⟩
theorem oX.tab {n:iP} (h:oX w0 w N X n)(Z:jf w0):jf w:=Z.below h.nT
theorem oX.went {y:Yt} {n n':iP} (U:jG W y n)(Q:∀b,y.all n.n b->w0.heap.size<=b)(hx:∀b,y.ext b↔X b)(hb:eE w0 W)(J:n'.n=n.n)(h:iF W w' y n' n.n):
 oX w0 w' y.N X n'/\∀b,X b->w'.heap[b]? =W.heap[b]? :=by
 obtain⟨⟨y',M,hs,A,H⟩,Y⟩:=h;have G:∀b,X b->b<W.heap.size:=λb Z=>U.lt (.inr ((hx b).2 Z));have T:∀b,X b->¬y.all n.n b:=λb Z e=>by
  rcases e with e|⟨j,E,e⟩
  ·exact U.nx b ((hx b).2 Z) e
  ·exact U.Lc E (.inr (.inl ((hx b).2 Z))) e
 refine⟨⟨⟨y',M,hs.N,λb Z=> ?_,λb=>(H b).trans (hx b)⟩,?_⟩,λb Z=>Y.block b (G b Z) (T b Z)⟩
 ·rw[J]at Z;rcases A b Z with e|e
  ·exact Q b e
  ·exact Nat.le_trans hb.size e
 ·refine⟨Y.os.trans hb.os,Y.tape.trans hb.tape,Y.output.trans hb.output,Nat.le_trans hb.size Y.size,λb Z=> ?_⟩;refine(Y.block b (Nat.lt_of_lt_of_le Z hb.size) (λe=> ?_)).trans (hb.block b Z);have:=Q b e;omega
theorem oX.call {n n':iP} {f:FuncId} {args:Array Value} {E:Ending->Prop} (h:oX w0 W N X n)(T:n'.n=n.n)
 (k:∀y,jG W y n->y.N=N->eW eX f args W λe w'=>E e/\iF W w' y n' n.n):eW eX f args W λe w'=>E e/\oX w0 w' N X n'/\∀b,X b->w'.heap[b]? =W.heap[b]? :=by
 obtain⟨⟨y,Y,Z,Q,hx⟩,hb⟩:=h;refine(k y Y Z).mono ?_;rintro e w' ⟨M,U⟩;have:=oX.went Y Q hx hb T U;rw[Z]at this;exact⟨M,this⟩
def iP.rounds(y:iP):Nat->iP
 |0=>y
 |k+1=>(y.rounds k).round
def Xx:List oV:=[⟨1,0,2,0,3⟩]
def Ou:iP:=((jQ 2 Xx).iL 0 true).1
theorem ZB:mc ((Ou.rounds 6).R 1)=[⟨1,3,1⟩] :=gq
theorem ZC:((jQ 2 Xx).iL 0 true).2=0:=gq
theorem Ov:nN 2 Xx=0:=gq
theorem Mj(y:iP):∀k,(y.rounds k).n=y.n
 |0=>rfl
 |k+1=>(kJ (y.rounds k)).1.trans (Mj y k)
theorem BA {y:iP} {D:Nat} (h:j3 y D 0)(Z:D<=100000000):∀k,k<=100->j3 (y.rounds k) (D+1300000*k) 0
 |0,_=>h
 |k+1,hk=>((BA h Z k eh).round eh).mono eh (Nat.le_refl _)
theorem aa0:j3 Ou 2 0:=(zV (uT Ov)).iL eh 0 true
theorem SU(w:dY)(hT:jf w):eW eX 42 #[] w λe w'=>e=ρ (.bool true)/\eE w w':=by
 obtain⟨W0,nX⟩:=gg (w.alloc (γ #[ι κ 1,ι κ 0,ι κ 2,ι κ 0,ι κ 3] 81));have hb:=gW w (γ #[ι κ 1,ι κ 0,ι κ 2,ι κ 0,ι κ 3] 81);have hc:=λj=>ar w #[ι κ 1,ι κ 0,ι κ 2,ι κ 0,ι κ 3] 81 (0,0) j;rw[nX]at hb;rw[nX]at hc;have hL:zT W0 (μ ⟨w.heap.size,0,ν⟩) Xx:=λj u=>by
  obtain rfl:j=0:=by simp[Xx]at u;exact u
  exact⟨w.heap.size,0,rfl,hc 0,hc 1,hc 2,hc 3,hc 4⟩
 have jj:eW eX 36 #[ι κ 2,σ (μ ⟨w.heap.size,0,ν⟩) 1 1] W0 λe w'=>∃N,e=ρ (τ #[π (μ ⟨N,0,ν⟩),η])/\oX w w' N (λ_=>False) (jQ 2 Xx):=by
  refine(PF 2 (μ ⟨w.heap.size,0,ν⟩) 1 Xx W0 hL eA (jf.below (w:=w) hT hb) (λ_=>False) (λb qk=>qk.elim)).mono ?_;rintro e w' h;exact oX.WH h Ov hb
 have G:∀W N,oX w W N (λ_=>False) (jQ 2 Xx)->eW eX 57 #[π (μ ⟨N,0,ν⟩),ι κ 0,.bool true] W λe w'=>e=ρ η/\oX w w' N (λ_=>False) (Ou.rounds 0):=by
  intro W N hA;refine(hA.call (E:=λe=>e=ρ η) (n':=Ou) rfl λy U J=> ?_).mono (λe w' h=>⟨h.1,h.2.1⟩);rw[<-J];refine(Lx y (jQ 2 Xx) 0 0 true W U (hA.tab hT) (zV (uT Ov)) eh).mono ?_;rintro e w' ⟨rfl,hw⟩;rw[ZC];exact⟨rfl,hw⟩
 have FJ:∀W N k,k<6->oX w W N (λ_=>False) (Ou.rounds k)->eW eX 54 #[π (μ ⟨N,0,ν⟩)] W λe w'=>e=ρ (τ #[])/\oX w w' N (λ_=>False) (Ou.rounds (k+1)):=by
  intro W N k hk hA;refine(hA.call (E:=λe=>e=ρ (τ #[])) (n':=Ou.rounds (k+1)) (kJ (Ou.rounds k)).1 λy U J=> ?_).mono (λe w' h=>⟨h.1,h.2.1⟩);rw[<-J];exact Bk y (Ou.rounds k) (2+1300000*k) W U (hA.tab hT) (BA aa0 eh k eh) eh
 have JU:∀W N,oX w W N (λ_=>False) (Ou.rounds 6)->eW eX 40 #[π (μ ⟨N,0,ν⟩),ι κ 2] W λe w'=>∃R,e=ρ (τ #[π (μ ⟨R,0,ν⟩),η])/\eE w w'/\eW eX 64 #[π (μ ⟨R,0,ν⟩)] w' λe H=>∃b c,e=ρ (σ b 1 c)/\OZ H b 1 [⟨1,3,1⟩] /\eE w H:=by
  intro W N hA;obtain⟨⟨y,U,J,ha,hx⟩,iK⟩:=hA;rw[<-J];have hn:(Ou.rounds 6).n=2:=Mj Ou 6;refine(EG y (Ou.rounds 6) 1 W U (by rw[hn];decide)).mono ?_;rintro e w' ⟨rfl,rfl⟩;refine⟨(y.z 1).R,rfl,iK,?_⟩;have iN:=(BA aa0 eh 6 eh).ok 1 (by rw[hn];decide);refine(A6 (y.z 1) ((Ou.rounds 6).R 1) W (U.rt 1 (by rw[hn];decide)) iN.Po).mono ?_;rintro e H ⟨b,c,rfl,⟨Y,_⟩,A⟩;rw[ZB]at Y⊢;exact⟨b,c,rfl,Y,gk iK A⟩
 have kr:∀W b c W2,eE w W->OZ W b 1 [⟨1,3,1⟩]->W2=W.alloc (γ #[ι κ 1,ι κ 3,ι κ 1] 98)->eW eX 46 #[σ b 1 c,σ (μ ⟨W.heap.size,0,ν⟩) 1 1] W2 λe w'=>e=ρ (.bool true)/\eE w w':=by
  rintro W b c W2 hbW Y rfl;have A:=gW W (γ #[ι κ 1,ι κ 3,ι κ 1] 98);have S7:=λj=>ar W #[ι κ 1,ι κ 3,ι κ 1] 98 (0,0) j;refine(zD b (μ ⟨W.heap.size,0,ν⟩) 1 c 1 [⟨1,3,1⟩] _ (Y.below A) ⟨rfl,.inr ⟨W.heap.size,0,rfl,λj h u=> ?_⟩⟩ eh).mono ?_
  ·obtain⟨l,v⟩:=aL.1 u;obtain rfl:j=0:=by simp at l;exact l
   obtain rfl:_=h:=v;exact⟨S7 0,S7 1,S7 2⟩
  ·rintro e w' ⟨rfl,r9⟩;exact⟨rfl,gk hbW (gk A r9)⟩
 have Gt:Hid _:=nX;have HR:Hid _:=FJ;obtain⟨Q,hQ⟩:∃Q:Nat->iP,Q=Ou.rounds:=⟨_,rfl⟩
 clear nX hb hc hL FJ;rw[<-hQ]at G HR JU;generalize jQ 2 Xx=z0 at jj G;clear hQ
 go_in
 go_wp2_with(fail)
 try rw[Gt.out]
 go_wp2_with(fail);refine jj.mono ?_;rintro e w1 ⟨N,rfl,hA⟩;have h1:=G w1 N hA;clear jj G hA;go_wp2_with(fail);refine h1.mono ?_;rintro e H ⟨rfl,hA⟩;have HA:Hid _:=hA;clear h1 hA
 go_wp2
 go_loopw [3] (λx wr=>∃k:Nat,k<=6/\x=ι κ k/\oX w wr N (λ_=>False) (Q k)) (λx _=>6-(eY x).toNat)
 case atStart=>exact⟨0,Nat.zero_le _,rfl,HA.out⟩
 case round=>
  obtain⟨k,hk,rfl,Z⟩:=hrel;obtain⟨V,rfl⟩:∃V,V=wr:=⟨_,rfl⟩
  by_cases kB:k<6
  ·have nQ:(k:Int)<6:=eh;have T:=HR.out V N k kB Z;clear Z;go_wp2_with(fail);refine T.mono ?_;rintro e w3 ⟨rfl,hA3⟩;have HA3:Hid _:=hA3;clear T hA3
   go_wp2
   go_roundw
   case rel=>exact⟨k+1,eh,by go_num,HA3.out⟩
   case measure=>simp[eY];omega
  ·have xP:¬(k:Int)<6:=eh;obtain rfl:k=6:=eh;have T:=JU V N Z;clear Z JU;go_wp2_with(fail);refine T.mono ?_;rintro e w3 ⟨R,rfl,r9,hh⟩;have Gh:Hid _:=r9;clear T r9;go_wp2_with(fail);refine hh.mono ?_;rintro e w4 ⟨b,c,rfl,Y,Tm⟩;obtain⟨W5,Mt⟩:∃W5,W5=w4.alloc (γ #[ι κ 1,ι κ 3,ι κ 1] 98):=⟨_,rfl⟩
   have hs:=kr w4 b c W5 Tm Y Mt;have HW5:Hid _:=Mt.symm;clear hh Y Tm kr Mt;go_wp2_with(fail)
   try rw[HW5.out]
   go_wp2_with(fail);refine hs.mono ?_;rintro e w6 ⟨rfl,M⟩;have UZ:Hid _:=M;clear hs M
   go_wp2
   go_ret;exact⟨rfl,UZ.out⟩
theorem C4(a:Option dX)(n cap:Nat)(w:dY)(_hn:n<=maxLen):eW eX 35 #[σ a n cap] w λe w'=>e=ρ (.bool (decide (n<=12)))/\w=w':=by
 by_cases h:n<=12
 ·have Z:(n:Int)<=12:=eh
  go_in
  go_wp2
  go_ret;exact⟨by simp[h],rfl⟩
 ·have Z:¬(n:Int)<=12:=eh
  go_in
  go_wp2
  go_ret;exact⟨gY,rfl⟩
def FV(w0:dY)(N:Nat)(X:Nat->Prop)(m nc i:Nat)(n:iP)(w:dY):Prop:=oX w0 w N X n/\GN n/\j3 n (1300000*i) 0/\n.n=m/\n.nc=nc
theorem FV.act {w0:dY} {N:Nat} {X:Nat->Prop} {m nc i:Nat} {n:iP} {W:dY} (h:FV w0 N X m nc i n W)(U:jf w0)(hi:i<=300)(v:AV):
 eW eX 59 #[π (μ ⟨N,0,ν⟩),.agg #[.string v.kind,ι κ v.a,ι κ v.b,ι κ v.c,ι κ v.d,.string v.s,ι κ v.OV,ι κ v.pid,σ v.po v.pn v.DX,ι κ v.x.own,ι κ v.x.seq,σ v.x.a v.x.n v.x.cap]] W λe w'=>e=ρ (τ #[])/\FV w0 N X m nc (i+1) (tg n v) w'/\∀b,X b->w'.heap[b]? =W.heap[b]? :=by
 obtain⟨hA,G,Z,M,hc⟩:=h;obtain⟨s1,T,_,_⟩:=Sc n v;refine(hA.call (E:=λe=>e=ρ (τ #[])) (n':=tg n v) s1 λy A J=> ?_).mono ?_
 ·rw[<-J];exact Dd y n (1300000*i) v W A (hA.tab U) Z eh
 ·rintro e w' ⟨H,Y,Q⟩;exact⟨H,⟨Y,(G.act Z eh v).1,(Z.act eh v).mono eh (Nat.le_refl _),s1.trans M,T.trans hc⟩,Q⟩
theorem FV.new(h:R7 w many L X e w')(Z:nN many L=0)(hb:eE w0 w):∃N,e=ρ (τ #[π (μ ⟨N,0,ν⟩),η])/\FV w0 N X many.toNat L.length 0 (jQ many.toNat L) w':=by
 obtain⟨N,Y,hA⟩:=oX.WH h Z hb;exact⟨N,Y,hA,E7 _ _,zV (uT Z),rfl,rfl⟩
def qD(y:iP)(V:Nat->AV):Nat->iP
 |0=>y
 |k+1=>tg (qD y V k) (V k)
theorem oX.write {n:iP} (h:oX w0 W N X n)(hs:W.heap.size<=W'.heap.size)(T:∀k,k<W.heap.size->¬X k->W'.heap[k]? =W.heap[k]?)(E:∀k,X k->w0.heap.size<=k)
 (ho:W'.os=W.os) (G:W'.tape=W.tape) (hu:W'.output=W.output) (Z:Nat->Prop) (j:∀k,Z k->W.heap.size<=k/\k<W'.heap.size):oX w0 W' N (λb=>X b \/Z b) n:=by
 obtain⟨⟨y,hR,A,u,hx⟩,hb⟩:=h;obtain⟨y',H,U,ha',J⟩:=hR.beside hs (λk M Q=>T k M (λe=>Q ((hx k).2 e))) Z j;refine⟨⟨y',H,U.N.trans A,λb Y=>u b ((ha' b).1 Y),λb=> ?_⟩,ho.trans hb.os,G.trans hb.tape,hu.trans hb.output,Nat.le_trans hb.size hs,λb Y=> ?_⟩
 ·rw[J b,hx b]
 ·refine(T b (Nat.lt_of_lt_of_le Y hb.size) (λe=> ?_)).trans (hb.block b Y);have:=E b e;omega
theorem oX.WI {Y:Nat->Prop} {n:iP} (h:oX w0 W N X n)(e:∀b,X b↔Y b):oX w0 W N Y n:=by
 obtain⟨⟨y,U,T,Z,hx⟩,hb⟩:=h;exact⟨⟨y,U,T,Z,λb=>(hx b).trans (e b)⟩,hb⟩
structure oU(w:dY)(N g m:Nat)(L:List oV)(V:Nat->AV)(i j:Nat)(W:dY):Prop where
 g0:w.heap.size<=g
 at_:FV w N (λb=>b=g) m L.length i (qD (jQ m L) V i) W
 row:qp W g 0 L.length (λk=>.bool ((qD (jQ m L) V j).C k).iQ)
def oc(m:Nat):Array Value:=Array.replicate m (.bool false)
theorem aht(W:dY):(gZ 87 (ι κ 0) (ι κ 0)).run eX W=.ok (σ (μ ⟨W.heap.size,0,ν⟩) 0 0) (W.alloc (γ (oc 0) 4)):=gq
theorem ahu(W:dY):(gZ 87 (ι κ 1) (ι κ 1)).run eX W=.ok (σ (μ ⟨W.heap.size,0,ν⟩) 1 1) (W.alloc (γ (oc 1) 4)):=gq
theorem ahv(W:dY):(gZ 87 (ι κ 2) (ι κ 2)).run eX W=.ok (σ (μ ⟨W.heap.size,0,ν⟩) 2 2) (W.alloc (γ (oc 2) 4)):=gq
theorem ahw(W:dY):(gZ 87 (ι κ 3) (ι κ 3)).run eX W=.ok (σ (μ ⟨W.heap.size,0,ν⟩) 3 3) (W.alloc (γ (oc 3) 4)):=gq
theorem ahx(W:dY):(gZ 87 (ι κ 4) (ι κ 4)).run eX W=.ok (σ (μ ⟨W.heap.size,0,ν⟩) 4 4) (W.alloc (γ (oc 4) 4)):=gq
theorem ahy(W:dY):(gZ 87 (ι κ 5) (ι κ 5)).run eX W=.ok (σ (μ ⟨W.heap.size,0,ν⟩) 5 5) (W.alloc (γ (oc 5) 4)):=gq
theorem ahz(W:dY):(gZ 87 (ι κ 6) (ι κ 6)).run eX W=.ok (σ (μ ⟨W.heap.size,0,ν⟩) 6 6) (W.alloc (γ (oc 6) 4)):=gq
theorem ahA(W:dY):(gZ 87 (ι κ 7) (ι κ 7)).run eX W=.ok (σ (μ ⟨W.heap.size,0,ν⟩) 7 7) (W.alloc (γ (oc 7) 4)):=gq
theorem ahB(W:dY):(gZ 87 (ι κ 8) (ι κ 8)).run eX W=.ok (σ (μ ⟨W.heap.size,0,ν⟩) 8 8) (W.alloc (γ (oc 8) 4)):=gq
theorem ahC(W:dY):(gZ 87 (ι κ 9) (ι κ 9)).run eX W=.ok (σ (μ ⟨W.heap.size,0,ν⟩) 9 9) (W.alloc (γ (oc 9) 4)):=gq
theorem amb(p:Nat)(hp:p<=9)(W:dY):(gZ 87 (ι κ (p:Int)) (ι κ (p:Int))).run eX W=.ok (σ (μ ⟨W.heap.size,0,ν⟩) p p) (W.alloc (γ (oc p) 4)):=by
 have:p=0 \/p=1 \/p=2 \/p=3 \/p=4 \/p=5 \/p=6 \/p=7 \/p=8 \/p=9:=eh;rcases this with rfl|rfl|rfl|rfl|rfl|rfl|rfl|rfl|rfl|rfl
 ·exact aht W
 ·exact ahu W
 ·exact ahv W
 ·exact ahw W
 ·exact ahx W
 ·exact ahy W
 ·exact ahz W
 ·exact ahA W
 ·exact ahB W
 ·exact ahC W
theorem oU.new {w W:dY} {N m:Nat} {L:List oV} {V:Nat->AV} (h:FV w N (λ_=>False) m L.length 0 (jQ m L) W):oU w N W.heap.size m L V 0 0 (W.alloc (γ (oc L.length) 4)):=by
 obtain⟨hA,U,M,Y,hc⟩:=h;refine⟨hA.nT.size,⟨?_,U,M,Y,hc⟩,?_⟩
 ·refine(oX.write hA (W':=W.alloc (γ (oc L.length) 4)) gY (λk T _=>aU _ _ _ T) (λk e=>e.elim) rfl rfl rfl (λb=>b=W.heap.size) (λk e=>by subst e;simp)).WI (λb=>gY)
 ·have Z:iX (W.alloc (γ (oc L.length) 4)) W.heap.size (oc L.length) 4:=iX.new W _ _;intro j Q;have e:(oc L.length)[j]? =μ (.bool false):=by simp[oc,Q]
  refine⟨?_,?_⟩
  ·rw[Nat.zero_add,Z.cell j,e];rfl
  ·rw[Nat.zero_add];exact Z.frozen j
theorem oU.act {w:dY} {N g m:Nat} {L:List oV} {V:Nat->AV} {i:Nat} {W:dY} (h:oU w N g m L V i i W)(Y:jf w)(hi:i<=100):
 eW eX 59 #[π (μ ⟨N,0,ν⟩),.agg #[.string (V i).kind,ι κ (V i).a,ι κ (V i).b,ι κ (V i).c,ι κ (V i).d,.string (V i).s,ι κ (V i).OV,ι κ (V i).pid,σ (V i).po (V i).pn (V i).DX,ι κ (V i).x.own,ι κ (V i).x.seq,σ (V i).x.a (V i).x.n (V i).x.cap]] W λe w'=>e=ρ (τ #[])/\oU w N g m L V (i+1) i w':=by
 refine(h.at_.act Y eh (V i)).mono ?_;rintro e w' ⟨U,T,Z⟩;exact⟨U,h.g0,T,h.row.keep (Z g rfl)⟩
theorem oU.iQ {w:dY} {N g m:Nat} {L:List oV} {V:Nat->AV} {i:Nat} {W:dY} (h:oU w N g m L V i i W)(hi:i<=100)(k:Nat)(Y:k<L.length):
 ((qD (jQ m L) V (i+1)).C k).iQ=if Bp (V i)=true/\(k:Int)=(V i).a then(V i).b==1 else((qD (jQ m L) V i).C k).iQ:=by
 obtain⟨_,Z,U,_,hc⟩:=h.at_;exact(Z.act U eh (V i)).2 k (by rw[hc];exact Y)
theorem oU.same(h:oU w N g m L V (i+1) i W)(U:∀k,k<L.length->((qD (jQ m L) V (i+1)).C k).iQ=((qD (jQ m L) V i).C k).iQ)(Z:g<W.heap.size)(hb:eE W W'):oU w N g m L V (i+1) (i+1) W':=by
 obtain⟨hA,T,M,Y,hc⟩:=h.at_;exact⟨h.g0,⟨hA.still hb,T,M,Y,hc⟩,(h.row.congr (λk Q=>by show iB _=iB _;rw[U k Q])).keep (hb.block g Z)⟩
theorem oU.gl {j:Nat} (h:oU w N g m L V i j W):g<W.heap.size:=by
 obtain⟨⟨⟨y,Z,_,_,hx⟩,_⟩,_⟩:=h.at_;exact Z.lt (.inr ((hx g).2 rfl))
theorem oU.set {w:dY} {N g m:Nat} {L:List oV} {V:Nat->AV} {i k:Nat} {W W1:dY} {b:Bool} (h:oU w N g m L V (i+1) i W)(J:k<L.length)
 (Q:∀x,x<L.length->((qD (jQ m L) V (i+1)).C x).iQ=if x=k then b else((qD (jQ m L) V i).C x).iQ) (hb:eE W W1):oU w N g m L V (i+1) (i+1) (W1.setCell ⟨g,k,ν⟩ (.bool b)):=by
 have U:=h.gl;obtain⟨hA,M,H,T,hc⟩:=h.at_;have hA1:=hA.still hb;refine⟨h.g0,⟨?_,M,H,T,hc⟩,?_⟩
 ·refine(oX.write hA1 (W':=W1.setCell ⟨g,k,ν⟩ (.bool b)) gY (λx _ Y=>aq _ _ _ x (λe=>Y e)) (λx e=>by rw[e];exact h.g0) rfl rfl rfl (λ_=>False) (λ_ e=>e.elim)).WI (λb=>gY)
 ·have Z:=((h.row.keep (hb.block g U)).set k J (.bool b))
  rw[Nat.zero_add]at Z;refine Z.congr (λx hx=> ?_);show sZ _ k (.bool b) x=iB _;rw[Q x hx];by_cases e:x=k
  ·rw[e,pM,ai rfl]
  ·rw[jJ _ _ e,af e]
def aa1(w:dY)(many:Int)(L:List oV)(n2:Nat)(V:Nat->AV)(e:Ending)(w':dY):Prop:=
 (e=ρ (τ #[π ν,σ ν 0 0,.bool false])/\eE w w') \/
 (nN many L=0/\n2<=40/\∃N g,e=ρ (τ #[π (μ ⟨N,0,ν⟩),σ (μ ⟨g,0,ν⟩) L.length L.length,.bool true])/\oU w N g many.toNat L V n2 n2 w')
theorem oU.nT {w:dY} {N g m:Nat} {L:List oV} {V:Nat->AV} {i j:Nat} {W:dY} (h:oU w N g m L V i j W):eE w W:=h.at_.1.nT
theorem Ow(many:Int)(a:Option dX)(n cap:Nat)(L:List oV)(a2:Option dX)(Z cap2:Nat)(V:Nat->AV)(E:Nat->List jE)(w:dY)(hL:zT w a L)(hl:L.length=n)(hn:n<=maxLen)(hA:DY w a2 Z V E)(hT:jf w):
 eW eX 43 #[ι κ many,σ a n cap,σ a2 Z cap2] w λe w'=>aa1 w many L Z V e w':=by
 have Y:=C4 a n cap w hn;have y:eW eX 16 #[σ a2 Z cap2,ι κ 40] w λe w'=>(∃b:Bool,e=ρ (.bool b)/\(b=true->Z<=40))/\eE w w':=by
  refine(Gc a2 Z cap2 V E 40 w hA eh).mono ?_;rintro e w' ⟨⟨b,he,kA⟩,mR⟩;exact⟨⟨b,he,λhx=>by have:=(kA hx).1;omega⟩,mR⟩
 have jj:∀W,n<=12->eE w W->eW eX 36 #[ι κ many,σ a n cap] W λe w'=>R7 W many L (λ_=>False) e w':=by
  intro W Q hb;rw[<-hl];exact PF many a cap L W (hL.below hb) eh (jf.below (w:=w) hT hb) (λ_=>False) (λb qk=>qk.elim)
 have HA:Hid _:=hA;have HT:Hid (jf w):=hT;have H:Hid _:=hl;clear hL hA hT hl;by_cases Q:n<=12
 case neg=>
  have hd:decide (n<=12)=false:=by simpa using Q
  rw[hd]at Y
  go_in
  go_wp2_with(fail);refine Y.mono ?_;rintro e w2 ⟨rfl,rfl⟩;clear Y y jj;go_wp2_with(fail);refine aF (v:=τ #[π ν,σ ν 0 0,.bool false]) (by simp[results,results43,go_sem]) rfl ?_;exact .inl ⟨rfl,av _ _⟩
 case pos=>
  have hd:decide (n<=12)=true:=by simpa using Q
  rw[hd]at Y
  go_in
  go_wp2_with(fail);refine Y.mono ?_;rintro e w2 ⟨rfl,rfl⟩;clear Y;go_wp2_with(fail);refine y.mono ?_;rintro e w2 ⟨⟨b,rfl,ahD⟩,mR⟩;have sU:=jj w2 Q mR;have Ao:Hid _:=mR;have amc:Hid _:=ahD;clear y jj mR ahD;cases b
  case false=>
   go_wp2_with(fail);refine aF (v:=τ #[π ν,σ ν 0 0,.bool false]) (by simp[results,results43,go_sem]) rfl ?_;exact .inl ⟨rfl,Ao.out⟩
  case true=>
   have h40:Z<=40:=amc.out rfl;go_wp2_with(fail);refine sU.mono ?_;rintro e w3 hP;clear sU;by_cases M:nN many L=0
   case neg=>
    obtain⟨rfl,r9⟩:=oX.adK hP M Ao.out;have Gh:Hid _:=r9;have he:jm (nN many L)=.iface 128 (ι κ ((nN many L:Nat):Int)):=UA M;rw[he];clear hP r9 M he;go_wp2_with(fail);refine aF (v:=τ #[π ν,σ ν 0 0,.bool false]) (by simp[results,results43,go_sem]) rfl ?_;exact .inl ⟨rfl,Gh.out⟩
   case pos=>
    obtain⟨N,rfl,G⟩:=FV.new hP M Ao.out;have hm:=(uT M).m;have hl9:=(uT M).l;obtain⟨m,rfl⟩:∃m:Nat,many=(m:Int):=⟨many.toNat,eh⟩
    rw[Int.toNat_natCast]at G;have A:=oU.new (V:=V) G;rw[H.out]at hl9;have ZK:=amb n hl9;obtain⟨w4,PB⟩:=gg (w3.alloc (γ (oc n) 4));obtain⟨g,hg⟩:=gg (w3.heap.size);rw[H.out,PB,hg]at A;have Lh:Hid _:=PB;have HG:Hid _:=hg;have HP0:Hid _:=A;have H0:Hid _:=M;clear hP M G A PB hg;go_wp2_with(fail)
    try rw[Lh.out]
    try rw[HG.out]
    go_wp2
    go_loopw [12] (λx wr=>∃i:Nat,i<=Z/\x=ι κ i/\oU w N g m L V i i wr) (λx _=>Z-(eY x).toNat)
    case atStart=>exact⟨0,Nat.zero_le _,rfl,HP0.out⟩
    case round=>
     obtain⟨i,hi,rfl,u⟩:=hrel;obtain⟨V0,rfl⟩:∃V0,V0=wr:=⟨_,rfl⟩
     by_cases kB:i<Z
     case neg=>
      have xP:¬(i:Int)<(Z:Int):=eh;obtain rfl:i=Z:=eh;have HR:Hid _:=u;clear u;go_wp2_with(fail);refine aF (v:=τ #[π (μ ⟨N,0,ν⟩),σ (μ ⟨g,0,ν⟩) n n,.bool true]) (by simp[results,results43,go_sem]) rfl ?_;refine .inr ⟨H0.out,h40,N,g,?_,?_⟩
      ·rw[H.out]
      ·exact HR.out
     case pos=>
      have nQ:(i:Int)<(Z:Int):=eh;rcases HA.out.row with h1|⟨b,off,rfl,iW⟩
      ·omega
      have S8:=iW i kB;have hv:=S8.below u.nT;have HV:Hid (∀W,eE w W->(V i).at_ W b (off+i*12)):=λW hb=>S8.below hb;have ZD:=u.act HT.out eh;have HI:Hid (∀k,k<L.length->((qD (jQ m L) V (i+1)).C k).iQ=if Bp (V i)=true/\(k:Int)=(V i).a then(V i).b==1 else((qD (jQ m L) V i).C k).iQ):=u.iQ eh;clear iW u S8;generalize V i=v at hv ZD HV HI;obtain⟨vk,j,vb,vc,vd,vs,ZU,ZV,ZW,W8,BP,⟨xo,xq,xa,xn,xc⟩⟩:=v;obtain⟨c0,c1,c2,c3,c4,c5,c6,c7,c8,c9,TV,XK⟩:=hv;simp only at c0 c1 c2 c3 c4 c5 c6 c7 c8 c9 TV XK ZD;have gl:=ag _ _ c0;have ge:off+i*12+0=off+i*12:=rfl;go_wp2_with(fail);refine ZD.mono ?_;rintro e J ⟨rfl,U⟩;have aa2:=U.nT;obtain⟨d0,d1,d2,_⟩:=HV.out J aa2;simp only at d0 d1 d2;have gl5:=ag _ _ d0;have T:Hid _:=U;have HS:Hid ((∀k,k<L.length->((qD (jQ m L) V (i+1)).C k).iQ=((qD (jQ m L) V i).C k).iQ)->oU w N g m L V (i+1) (i+1) J):=λhe=>U.same he U.gl (av _ _);clear ZD c0 c1 c2 c3 c4 c5 c6 c7 c8 c9 TV XK gl U aa2;cases k1:(vk.toList==[112,108,117,103])
      case false=>
       go_wp2
       go_roundw
       case rel=>
        refine⟨i+1,eh,by go_num,HS.out λk hk=> ?_⟩;rw[HI.out k hk,af (λe=>by have e1:(vk.toList==[112,108,117,103])=true:=e.1;rw[k1]at e1;cases e1)]
       case measure=>simp[eY];omega
      case true=>
       by_cases ha0:0<=j
       case neg=>
        go_wp2
        go_roundw
        case rel=>
         refine⟨i+1,eh,by go_num,HS.out λk hk=> ?_⟩;rw[HI.out k hk,af (λe=>by have e1:(k:Int)=j:=e.2;omega)]
        case measure=>simp[eY];omega
       case pos=>
        by_cases han:j<(n:Int)
        case neg=>
         go_wp2
         go_roundw
         case rel=>
          refine⟨i+1,eh,by go_num,HS.out λk hk=> ?_⟩;have hln:=H.out;rw[HI.out k hk,af (λe=>by have e1:(k:Int)=j:=e.2;omega)]
         case measure=>simp[eY];omega
        case pos=>
         obtain⟨k,rfl⟩:∃k:Nat,j=(k:Int):=⟨j.toNat,eh⟩
         have AK:k<n:=eh;have Tb:=T.out.gl;have hcell:=T.out.row.cell k (by rw[H.out];exact AK);have Td:=T.out.row.fz k (by rw[H.out];exact AK);rw[Nat.zero_add]at hcell Td;have Xt:Hid (oU w N g m L V (i+1) (i+1) (J.drew.setCell ⟨g,k,ν⟩ (.bool (vb==1)))):=by
          refine T.out.set (by rw[H.out];exact AK) (λx hx=> ?_) (iZ J);rw[HI.out x hx];by_cases e:x=k
          ·rw[ai ⟨k1,by show(x:Int)=(k:Int);rw[e]⟩,ai e]
          ·rw[af (λh=>e (by have h2:(x:Int)=(k:Int):=h.2;omega)),af e]
         generalize ((qD (jQ m L) V i).C k).iQ=old at hcell;have F0:J.drew.cell? ⟨b,off+i*12,ν⟩=μ (.string vk)/\J.drew.cell? ⟨b,off+i*12+1,ν⟩=μ (ι κ (k:Int))/\J.drew.cell? ⟨b,off+i*12+2,ν⟩=μ (ι κ vb)/\J.drew.cell? ⟨g,k,ν⟩=μ (.bool old):=⟨d0,d1,d2,hcell⟩
         go_upto_region 12 with(fail)
         go_region
         all_goals
          go_wp2
          go_roundw
          case rel=>exact⟨i+1,eh,by go_num,Xt.out⟩
          case measure=>simp[eY];omega
theorem Cz(r:iM):jx r.core=jx r:=oM rfl λ_=>⟨rfl,rfl,rfl⟩
theorem FK:∀ {E:List (Int×Int×Int)} {x:Int×Int×Int},(nH E).Nodup->x∈E->kQ E x.1 x.2.1=μ x.2.2
 |[],_,_,hx=>absurd hx gY
 |y::E,x,hn,hx=>by
  have Z:(nH E).Nodup/\(y.1,y.2.1)∉nH E:=by
   have:(nH (y::E))=(y.1,y.2.1)::nH E:=rfl;rw[this,br]at hn;exact⟨hn.2,hn.1⟩
  show(if y.1=x.1/\y.2.1=x.2.1 then μ y.2.2 else kQ E x.1 x.2.1)=μ x.2.2;rcases aP.1 hx with e|h
  ·rw[e,ai ⟨rfl,rfl⟩]
  ·rw[af]
   ·exact FK Z.1 h
   ·rintro⟨Y,U⟩;refine Z.2 ?_;rw[Y,U];exact List.mem_map_of_mem (f:=λx:Int×Int×Int=>(x.1,x.2.1)) h
def J4(L:List oV)(c:Nat):Int:=(L.getD c ⟨1,0,1,0,1⟩).m
theorem mU.cm(h:mU many L)(c d:Nat)(hc:c<L.length):pg L ((nG L c).e d).1 ((nG L c).e d).2=J4 L c:=by
 have U:L[c] ∈L:=aG hc;obtain⟨_,T,M⟩:=h.c _ U;have k1:=mX T;have k2:=mX M;have Q:J4 L c=L[c].m:=by
  unfold J4;rw[aK,az hc];rfl
 rw[Q,tF L c d hc];unfold pg;have m1:(L[c].a,L[c].pa,L[c].m)∈kt L:=by
  unfold kt;exact aT.2 ⟨L[c],U,gY⟩
 have m2:(L[c].b,L[c].pb,L[c].m)∈kt L:=by
  unfold kt;exact aT.2 ⟨L[c],U,gY⟩
 split
 ·have:=FK h.nd m1;have Z:(((L[c].a-1).toNat:Nat):Int)+1=L[c].a:=eh;have Y:((L[c].pa.toNat:Nat):Int)=L[c].pa:=eh;simp only;rw[Z,Y];simp only at this;rw[this];rfl
 ·have:=FK h.nd m2;have Z:(((L[c].b-1).toNat:Nat):Int)+1=L[c].b:=eh;have Y:((L[c].pb.toNat:Nat):Int)=L[c].pb:=eh;simp only;rw[Z,Y];simp only at this;rw[this];rfl
structure Wh(m:Nat)(L:List oV)(D N k:Nat)(y:iP):Prop where
 s:St D N k y
 ma:DA (iH y)
 n:y.n=m
 nc:y.nc=L.length
 e:∀x,(y.C x).e=(nG L x).e
 ms:y.ms=pg L
theorem Wh.new(h:mU many L):Wh many.toNat L D 2 0 (jQ many.toNat L):=
 ⟨SN ((zV h).mono (Nat.zero_le _) (Nat.le_refl _)),WE _ _,rfl,rfl,λ_=>rfl,rfl⟩
theorem Wh.P8 {D' N' k':Nat} {y y':iP} {T:List (Nat×Nat)} {S:List (Int×List UInt8)} (h:Wh m L D N k y)(hs:St D' N' k' y')(p:jT (iH y) T S (iH y')):Wh m L D' N' k' y':=by
 obtain⟨Y,Q,Z,U⟩:=p.same;exact⟨hs,h.ma.path p (wP y),Y.trans h.n,Q.trans h.nc,λx=>(ct Z x).trans (h.e x),U.trans h.ms⟩
theorem Wh.act {m:Nat} {L:List oV} {D N k:Nat} {y:iP} (h:Wh m L D N k y)(Z:D<=800000000)(U:N+144<1000000)(Y:k+1<=126)(v:AV):Wh m L (D+1300000) (N+144) (k+1) (tg y v):=by
 obtain⟨T,_,p⟩:=LY h.s.f h.s.g h.s.ok Z v;exact h.P8 (h.s.act Z U Y v) p
theorem Wh.WJ {m:Nat} {L:List oV} {D N k:Nat} {y:iP} (V:Nat->AV)(h:Wh m L D N k y):∀i,D+1300000*i<=800000000->N+144*(i+1)<1000000->k+i+1<=126->Wh m L (D+1300000*i) (N+144*i) (k+i) (qD y V i)
 |0,_,_,_=>h
 |i+1,hD,hN,hk=>by
  have ih:=Wh.WJ V h i eh eh eh;have:=ih.act eh eh eh (V i);have Z:D+1300000*(i+1)=D+1300000*i+1300000:=eh;have Y:N+144*(i+1)=N+144*i+144:=eh;rw[Z,Y];exact this
theorem Ix {D:Nat} (y:iP):∀j,(∀i,i<j->∃Z,Z<=D/\j3 (l5 y i) Z 0/\jA (l5 y i))->D<=800000000->∃T,jT (iH y) T [] (iH (l5 y j))
 |0,_,_=>⟨[],.nil _⟩
 |j+1,h,hD=>by
  obtain⟨T,p⟩:=Ix y j (λi hi=>h i eh) hD;obtain⟨Z,h1,U,Y⟩:=h j eh;have q:=yU Y U eh;exact⟨_,p.trans q⟩
theorem St.WK {D N k:Nat} {y:iP} (h:St D N k y):∀i,D+1300000*i<=800000000->j3 (l5 y i) (D+1300000*i) 0/\jA (l5 y i)
 |0,_=>⟨h.ok,h.f⟩
 |i+1,hD=>by
  obtain⟨Z,U⟩:=St.WK h i eh;have n6:=Z.n6;have Y:D+1300000*(i+1)=D+1300000*i+1300000:=eh;rw[Y];exact⟨Z.round eh,U.round Z eh⟩
structure uE(m:Nat)(L:List oV)(iQ:Nat->Bool)(D N k:Nat)(z:iP):Prop where
 f:Fin D N k z
 ma:DA (iH z)
 n:z.n=m
 nc:z.nc=L.length
 e:∀x,(z.C x).e=(nG L x).e
 ms:z.ms=pg L
 iQ:∀x,(z.C x).iQ=iQ x
theorem Fin.st {D N k:Nat} {y:iP} (h:Fin D N k y):St D N k y:=h.s.fl.st
theorem Wh.settled {m:Nat} {L:List oV} {D N k:Nat} {y:iP} (h:Wh m L D N k y)(Y:D<=600000000)(U:N+50*144<1000000)(M:k+8<=126):uE m L (λx=>(y.C x).iQ) (D+1300000*45) (N+144*45) (k+7) (l5 y 45):=by
 have hf:=h.s.settled Y U M;have Q:=h.s.WK;obtain⟨T,p⟩:=Ix (D:=D+1300000*45) y 45 (λi hi=>⟨D+1300000*i,eh,Q i eh⟩) eh;have Z:=h.P8 hf.st p;obtain⟨_,_,_,J⟩:=xG y 45;exact⟨hf,Z.ma,Z.n,Z.nc,Z.e,Z.ms,λx=>(J x).2⟩
def ve(m:Nat)(L:List oV)(iQ:Nat->Bool)(x:Nat):List jE:=(fW m).filterMap λz=>if 0<Iu iQ (λc=>(nG L c).e) (J4 L) x z L.length then μ ((z:Int)+1,Iu iQ (λc=>(nG L c).e) (J4 L) x z L.length)else ν
def wX(m:Nat)(L:List oV)(iQ:Nat->Bool):Int->Option PS:=λx=>if 1<=x/\x<=(m:Int)then μ (1,ve m L iQ (x-1).toNat)else ν
theorem uE.a {iQ:Nat->Bool} {z:iP} (h:uE m L iQ D N k z):(iH z).n=m/\(iH z).nc=L.length/\(iH z).e=(λc=>(nG L c).e)/\(iH z).iQ=iQ/\(iH z).ms=pg L:=
 ⟨h.n,h.nc,funext h.e,funext h.iQ,h.ms⟩
theorem uE.cm {many:Int} {m:Nat} {L:List oV} {iQ:Nat->Bool} {D N k:Nat} {z:iP} (h:uE m L iQ D N k z)(hc:mU many L):CmA (iH z) (J4 L):=by
 obtain⟨a1,U,Z,a4,Y⟩:=h.a;intro c d hcc hd;rw[Z,Y];exact hc.cm c d (by rw[U]at hcc;exact hcc)
theorem uE.ahF {iQ:Nat->Bool} {z:iP} (h:uE m L iQ D N k z)(hc:mU many L)(hx:x<m):ve m L iQ x=jx (z.R x):=by
 have e:=yY h.f.s.s h.ma (h.cm hc) (x:=x) (by rw[h.a.1];exact hx);obtain⟨Z,T,Y,U,a5⟩:=h.a;unfold Iv at e;rw[Z,T,Y,U]at e;exact e.trans (Cz (z.R x))
theorem uE.ame {iQ:Nat->Bool} {z:iP} (h:uE m L iQ D N k z)(hc:mU many L)(hx:x<m):mc (z.R x)=qb (kK (xV (wX m L iQ))) (x+1):=by
 have e:=SS h.f.s.s h.f.e h.ma (h.cm hc) (x:=x) (by rw[h.a.1];exact hx);obtain⟨Z,Q,Y,U,a5⟩:=h.a;have T:Iw (iH z) (J4 L)=wX m L iQ:=by
  funext y
  unfold Iw Iv wX ve;rw[Z,Q,Y,U]
 rw[T]at e;exact e
theorem FV.round {w0:dY} {N:Nat} {X:Nat->Prop} {m nc i:Nat} {n:iP} {W:dY} (h:FV w0 N X m nc i n W)(U:jf w0)(hi:i<=300):
 eW eX 54 #[π (μ ⟨N,0,ν⟩)] W λe w'=>e=ρ (τ #[])/\FV w0 N X m nc (i+1) n.round w'/\∀b,X b->w'.heap[b]? =W.heap[b]? :=by
 obtain⟨hA,G,Z,M,hc⟩:=h;obtain⟨s1,T,_,_⟩:=kJ n;refine(hA.call (E:=λe=>e=ρ (τ #[])) (n':=n.round) s1 λy A J=> ?_).mono ?_
 ·rw[<-J];exact Bk y n (1300000*i) W A (hA.tab U) Z eh
 ·rintro e w' ⟨H,Y,Q⟩;exact⟨H,⟨Y,G.round Z eh,(Z.round eh).mono eh (Nat.le_refl _),s1.trans M,T.trans hc⟩,Q⟩
theorem Ox {y:iP} (h:FV w0 N X m nc i y W)(H:jf w0)(hi:i<=200):
 eW eX 44 #[π (μ ⟨N,0,ν⟩)] W λe w'=>e=ρ (τ #[])/\FV w0 N X m nc (i+45) (l5 y 45) w'/\∀b,X b->w'.heap[b]? =W.heap[b]? :=by
 have M:∀k V,k<45->(FV w0 N X m nc (i+k) (l5 y k) V/\∀b,X b->V.heap[b]? =W.heap[b]?)->eW eX 54 #[π (μ ⟨N,0,ν⟩)] V λe w'=>e=ρ (τ #[])/\(FV w0 N X m nc (i+(k+1)) (l5 y (k+1)) w'/\∀b,X b->w'.heap[b]? =W.heap[b]?):=by
  rintro k V u ⟨hA,E⟩;refine(hA.round H eh).mono ?_;rintro e w' ⟨he,h1,h2⟩;exact⟨he,h1,λb hb=>(h2 b hb).trans (E b hb)⟩
 obtain⟨Q,Y⟩:∃Q:Nat->dY->Prop,Q=λk V=>FV w0 N X m nc (i+k) (l5 y k) V/\∀b,X b->V.heap[b]? =W.heap[b]? :=⟨_,rfl⟩
 have Z:∀k V,k<45->Q k V->eW eX 54 #[π (μ ⟨N,0,ν⟩)] V λe w'=>e=ρ (τ #[])/\Q (k+1) w':=by
  rw[Y];exact M
 have G:Q 0 W:=by rw[Y];exact⟨h,λ_ _=>rfl⟩
 have J:∀V,Q 45 V->FV w0 N X m nc (i+45) (l5 y 45) V/\∀b,X b->V.heap[b]? =W.heap[b]? :=λV hv=>by rw[Y]at hv;exact hv
 have HR:Hid _:=Z;have HE:Hid _:=J;have j:Hid (Q 0 W):=G;clear M Z G J h H Y
 go_in
 go_wp2
 go_loopw [2] (λx wr=>∃k:Nat,k<=45/\x=ι κ k/\Q k wr) (λx _=>45-(eY x).toNat)
 case atStart=>exact⟨0,Nat.zero_le _,rfl,j.out⟩
 case round=>
  obtain⟨k,u,rfl,U⟩:=hrel;obtain⟨V,rfl⟩:∃V,V=wr:=⟨_,rfl⟩
  by_cases kB:k<45
  ·have nQ:(k:Int)<45:=eh;have Z:=HR.out k V kB U;clear U;go_wp2_with(fail);refine Z.mono ?_;rintro e A ⟨rfl,hA3⟩;have T:Hid (Q (k+1) A):=hA3;clear Z hA3
   go_wp2
   go_roundw
   case rel=>exact⟨k+1,eh,by go_num,T.out⟩
   case measure=>simp[eY];omega
  ·have xP:¬(k:Int)<45:=eh;obtain rfl:k=45:=eh;have HQ:Hid (Q 45 V):=U;clear U
   go_wp2
   first|go_end0|refine iJ rfl rfl ?_
   exact⟨rfl,HE.out V HQ.out⟩
theorem FV.adL {y:iP} (h:FV w0 N X m nc i y W)(hx:x<m):
 ∃R,(∀V,eE W V->eW eX 40 #[π (μ ⟨N,0,ν⟩),ι κ ((x:Int)+1)] V λe w'=>e=ρ (τ #[π (μ ⟨R,0,ν⟩),η])/\V=w')/\∀V,eE W V->eW eX 64 #[π (μ ⟨R,0,ν⟩)] V λe U=>∃b c,e=ρ (σ b (mc (y.R x)).length c)/\ZZ V U b (mc (y.R x)).length (mc (y.R x))/\eE V U:=by
 obtain⟨⟨⟨z,T,M,ha,hxx⟩,iK⟩,hG,Q,Y,hc⟩:=h;refine⟨(z.z x).R,λV Z=> ?_,λV Z=> ?_⟩
 ·rw[<-M];exact EG z y x V (T.below Z) (by rw[Y];exact hx)
 ·exact A6 (z.z x) (y.R x) V ((T.below Z).rt x (by rw[Y];exact hx)) (Q.ok x (by rw[Y];exact hx)).Po
theorem SW {y:iP} (h:FV w0 N X m nc i y W)(hx:x<m)(V:dY)(T:eE W V):
 eW eX 47 #[π (μ ⟨N,0,ν⟩),ι κ ((x:Int)+1)] V λe Z=>∃b c,e=ρ (σ b (mc (y.R x)).length c)/\ZZ V Z b (mc (y.R x)).length (mc (y.R x))/\eE V Z:=by
 obtain⟨R,Y,U⟩:=h.adL hx;have k1:=Y V T;have k2:=U V T;clear Y U h;generalize mc (y.R x)=L at k2⊢
 go_in
 go_wp2_with(fail);refine k1.mono ?_;rintro e w1 ⟨rfl,rfl⟩;clear k1;go_wp2_with(fail);refine k2.mono ?_;rintro e Z ⟨b,c,rfl,Q,hb⟩;have HH:Hid _:=Q;have M:Hid _:=hb;clear k2 Q hb
 go_wp2
 go_ret;exact⟨b,c,rfl,HH.out,M.out⟩
structure WL(w wr:dY)(v:Value)(x:Nat)(out:List SV)(Es:Nat->List jE):Prop where
 len:out.length=x
 row:Row wr 3 v x (KS out)
 own:∀j,v.ownBlock=μ j->w.heap.size<=j
 el:∀j,j<x->∃s,out[j]? =μ s/\s.own=(j:Int)+1/\s.seq=1/\jc wr s.a s.n (Es j)/\kI s.a s.cap/\s.n<=maxLen/\∀b,eu (σ s.a s.n s.cap)=μ b->w.heap.size<=b/\b<wr.heap.size/\v.ownBlock≠μ b
 nT:eE w wr
theorem WL.below {w wr W':dY} {v:Value} {x:Nat} {out:List SV} {Es:Nat->List jE} (h:WL w wr v x out Es)(hb:eE wr W'):WL w W' v x out Es:=by
 refine⟨h.len,h.row.below hb,h.own,λj H=> ?_,gk h.nT hb⟩;obtain⟨s,T,Q,U,G,J,M,Y⟩:=h.el j H;exact⟨s,T,Q,U,G.below hb,J,M,λb Z=>⟨(Y b Z).1,Nat.lt_of_lt_of_le (Y b Z).2.1 hb.size,(Y b Z).2.2⟩⟩
theorem WL.step {v v':Value} {s:SV} (h:WL w W v x out Es)(J:∀j,v.ownBlock=μ j->j<wr.heap.size)(G:W.grownBy W' v.ownBlock)
 (y:Row W' 3 v' (x+1) (KS out++ [ι κ s.own,ι κ s.seq,σ s.a s.n s.cap])) (hv:∀g,v'.ownBlock=μ g->v.ownBlock=μ g \/W.heap.size<=g)
 (h1:s.own=(x:Int)+1) (Q:s.seq=1) (ho:jc W s.a s.n (Es x)) (hn:kI s.a s.cap) (hm:s.n<=maxLen) (hb:∀b,eu (σ s.a s.n s.cap)=μ b->w.heap.size<=b/\wr.heap.size<=b/\b<W.heap.size):WL w W' v' (x+1) (out++ [s]) Es:=by
 have H:∀i,i<W.heap.size->v.ownBlock≠μ i->W'.heap[i]? =W.heap[i]? :=λi hi Q=>G.block i hi (λe=>Q e.symm);refine⟨by rw[aA,h.len];rfl,?_,?_,λj E=> ?_,h.nT.grown G h.nT.size h.own⟩
 ·rw[KT];exact y
 ·intro j E;rcases hv j E with e|e
  ·exact h.own j e
  ·exact Nat.le_trans h.nT.size e
 ·by_cases e:j=x
  ·subst e;refine⟨s,by rw[bw (by rw[h.len];exact Nat.le_refl _),h.len,Nat.sub_self];rfl,h1,Q,?_,hn,hm,λb T=> ?_⟩
   ·refine ho.kept (cap:=s.cap) λk Z=>H k (hb k Z).2.2 (λY=> ?_);have:=J k Y;have:=(hb k Z).2.1;omega
   ·obtain⟨c1,c2,c3⟩:=hb b T;refine⟨c1,Nat.lt_of_lt_of_le c3 G.size,λY=> ?_⟩;rcases hv b Y with U|U
    ·have:=J b U;omega
    ·omega
  ·obtain⟨t,A,a2,a3,a4,a5,u,M⟩:=h.el j eh;refine⟨t,by rw[bG (by rw[h.len];omega)];exact A,a2,a3,?_,a5,u,λb T=> ?_⟩
   ·exact a4.kept (cap:=t.cap) λk Z=>H k (M k Z).2.1 (M k Z).2.2
   ·obtain⟨c1,c2,c3⟩:=M b T;refine⟨c1,Nat.lt_of_lt_of_le c2 G.size,λY=> ?_⟩;rcases hv b Y with U|U
    ·exact c3 U
    ·omega
def P9(w:dY)(m:Nat)(Es:Nat->List jE)(e:Ending)(w':dY):Prop:=
 ∃b c S,e=ρ (σ b m c)/\vP w' b m S Es/\(∀j,j<m->(S j).own=(j:Int)+1/\(S j).seq=1)/\eE w w'
theorem WL.done {ao:Option dX} {n cp:Nat} (h:WL w wr (σ ao n cp) m out Es):n=m/\P9 w m Es (ρ (σ ao n cp)) wr:=by
 have M:n=m:=by
  rcases h.row.2 with⟨e,Q⟩|⟨g,cap,e,_⟩
  ·simp at e;omega
  ·simp at e;omega
 refine⟨M,ao,cp,λj=>out.getD j SV.zero,by rw[M],⟨?_,λj U=> ?_⟩,λj U=> ?_,h.nT⟩
 ·rcases h.row.2 with⟨e,Q⟩|⟨g,cap,e,_,_,_,hc,_⟩
  ·exact .inl Q
  ·refine .inr ⟨g,0,by simp at e;exact e.1,λj U=> ?_⟩;obtain⟨s,Z,_⟩:=h.el j U;obtain⟨b1,b2,b3⟩:=I6 out j s Z;have Y:out.getD j SV.zero=s:=by rw[aK,Z];rfl
   rw[Y,Nat.zero_add];exact⟨hc _ _ b1,hc _ _ b2,hc _ _ b3⟩
 ·obtain⟨s,Z,E,J,H,G,T,A⟩:=h.el j U;have Y:out.getD j SV.zero=s:=by rw[aK,Z];rfl
  rw[Y];exact⟨H,G,T⟩
 ·obtain⟨s,Z,E,J,H,G,T,A⟩:=h.el j U;have Y:out.getD j SV.zero=s:=by rw[aK,Z];rfl
  refine⟨?_,?_⟩
  ·show(out.getD j SV.zero).own=_;rw[Y,E]
  ·show(out.getD j SV.zero).seq=_;rw[Y,J]
theorem WM(h:mU many L)(iQ:Nat->Bool)(x z k:Nat)(Q:k<L.length):Jn iQ (λc=>(nG L c).e) x z k↔iQ k=true/\x≠z/\((L[k].a=(x:Int)+1/\L[k].b=(z:Int)+1) \/(L[k].a=(z:Int)+1/\L[k].b=(x:Int)+1)):=by
 obtain⟨_,M,J⟩:=h.c _ (aG Q);have k1:=mX M;have k2:=mX J;unfold Jn;simp only;rw[tF L k 0 Q,tF L k 1 Q,ai rfl,af eA];simp only;constructor
 ·rintro⟨Z,Y,⟨U,T⟩|⟨U,T⟩⟩
  ·exact⟨Z,Y,.inl ⟨eh,eh⟩⟩
  ·exact⟨Z,Y,.inr ⟨eh,eh⟩⟩
 ·rintro⟨Z,Y,⟨U,T⟩|⟨U,T⟩⟩
  ·exact⟨Z,Y,.inl ⟨eh,eh⟩⟩
  ·exact⟨Z,Y,.inr ⟨eh,eh⟩⟩
theorem WN(h:f k=ν):(fW (k+1)).filterMap f=(fW k).filterMap f:=by
 rw[bZ,bI];simp[h]
theorem WO {o:jE} (h:f k=μ o):(fW (k+1)).filterMap f=(fW k).filterMap f++ [o] :=by
 rw[bZ,bI];simp[h]
theorem adM(f:Nat->Option jE):∀k,((fW k).filterMap f).length<=k:=λk=>by
 have:=dG f (fW k)
 rwa [dA]at this
theorem WQ(m:Nat)(a:Option dX)(n cap g:Nat)(L:List oV)(iQ:Nat->Bool)(w:dY)(hL:zT w a L)(hl:L.length=n)(hc:mU (m:Int) L)(hi:qp w g 0 n (λk=>.bool (iQ k))):
 eW eX 45 #[ι κ (m:Int),σ a n cap,σ (μ ⟨g,0,ν⟩) n n] w λe w'=>P9 w m (ve m L iQ) e w':=by
 obtain⟨i0,O1,ox,nh,mO⟩:=aY infoState;obtain⟨i9,hi9,amf,amg,amh⟩:=aY zh;have hm6:=hc.m;have hn9:=hc.l;rw[hl]at hn9;have WR:∀W k,eE w W->(hk:k<n)->∃A B M:Int,∃b off,a=μ ⟨b,off,ν⟩/\(∃pa pb:Int,W.cell? ⟨b,off+k*5,ν⟩=μ (ι κ A)/\W.cell? ⟨b,off+k*5+1,ν⟩=μ (ι κ pa)/\W.cell? ⟨b,off+k*5+2,ν⟩=μ (ι κ B)/\W.cell? ⟨b,off+k*5+3,ν⟩=μ (ι κ pb)/\W.cell? ⟨b,off+k*5+4,ν⟩=μ (ι κ M))/\W.cell? ⟨g,k,ν⟩=μ (.bool (iQ k))/\∀x z,Iu iQ (λc=>(nG L c).e) (J4 L) x z (k+1)=if(iQ k=true/\x≠z/\((A=(x:Int)+1/\B=(z:Int)+1) \/(A=(z:Int)+1/\B=(x:Int)+1)))/\(Iu iQ (λc=>(nG L c).e) (J4 L) x z k=0 \/M<Iu iQ (λc=>(nG L c).e) (J4 L) x z k)then M else Iu iQ (λc=>(nG L c).e) (J4 L) x z k:=by
  intro W k hW hk;have rJ:k<L.length:=eh;obtain⟨b,off,De,c0,c1,c2,c3,c4⟩:=(hL.below hW) k rJ;have hci:=((hi.below eh hW).cell k hk)
  rw[Nat.zero_add]at hci;refine⟨L[k].a,L[k].b,L[k].m,b,off,De,⟨_,_,c0,c1,c2,c3,c4⟩,hci,λx z=> ?_⟩;show(if Jn iQ (λc=>(nG L c).e) x z k/\_ then J4 L k else _)=_;have FY:J4 L k=L[k].m:=by
   unfold J4;rw[aK,az rJ];rfl
  rw[FY];refine ite_congr (propext ⟨λh=>⟨(WM hc iQ x z k rJ).1 h.1,h.2⟩,λh=>⟨(WM hc iQ x z k rJ).2 h.1,h.2⟩⟩) (λ_=>rfl) (λ_=>rfl)
 obtain⟨ls,hls⟩:∃ls:Nat->Nat->Nat->Int,ls=Iu iQ (λc=>(nG L c).e) (J4 L):=⟨_,rfl⟩
 obtain⟨F,hF⟩:∃F:Nat->Nat->Option jE,F=λx z=>if 0<ls x z n then μ ((z:Int)+1,ls x z n)else ν:=⟨_,rfl⟩
 obtain⟨Es,hEs⟩:∃Es:Nat->List jE,Es=ve m L iQ:=⟨_,rfl⟩
 have hE2:∀x,Es x=(fW m).filterMap (F x):=λx=>by rw[hEs,hF,hls,<-hl];rfl
 have ahH:∀x z,ls x z 0=0:=λx z=>by rw[hls];rfl
 have qq:∀x z,0<=ls x z n:=λx z=>by
  rw[hls,<-hl];refine((uD iQ _ (J4 L) x z L.length ?_).pos ?_).2
  all_goals
   have hp:∀c,c<L.length->1<=J4 L c:=λc hcc=>by
    unfold J4;rw[aK,az hcc];exact(hc.c _ (aG hcc)).1.1
   first
    |exact hp
    |(rintro m ⟨c,hcc,_,rfl⟩;exact hp c hcc)
 rw[<-hEs];simp only[<-hls]at WR;have HRd:Hid _:=WR;have HE2:Hid _:=hE2;have HF:Hid _:=hF;have HLS:Hid _:=ahH;have amj:Hid _:=qq;clear WR hE2 hF ahH qq hls hEs hL hc hi hl
 go_in
 go_wp2
 go_loopw [7,8] (λv i wr=>∃(x:Nat) (ao:Option dX) (k cp:Nat) (out:List SV),x<=m/\v=σ ao k cp/\i=ι κ ((x:Int)+1)/\WL w wr (σ ao k cp) x out Es) (λ_ i _=>m+1-(eY i).toNat)
 case atStart=>exact⟨0,ν,0,0,[],Nat.zero_le _,rfl,rfl,⟨rfl,Row.nil w 3,λj hj=>mY hj,λj hj=>absurd hj eh,av _ _⟩⟩
 case round=>
  obtain⟨x,ao,k0,cp,out,hx,rfl,rfl,hI⟩:=hrel;obtain⟨W1,rfl⟩:∃W1,W1=wr:=⟨_,rfl⟩
  have HI:Hid _:=hI;clear hI;by_cases Wu:x<m
  case neg=>
   have xP:¬(x:Int)+1<=(m:Int):=eh;obtain rfl:x=m:=eh;obtain⟨rfl,hP⟩:=HI.out.done;have HP:Hid (P9 w k0 Es (ρ (σ ao k0 cp)) W1):=hP;clear hP;go_wp2_with(fail);refine aF (v:=σ ao k0 cp) (by simp[results,results45,go_sem]) rfl ?_;exact HP.out
  case pos=>
   have kB:(x:Int)+1<=(m:Int):=eh;obtain⟨W2,nr⟩:=gg (W1.alloc (γ #[ι κ ((x:Int)+1),ι κ 1,σ ν 0 0] 40));have Ua:Hid _:=nr;obtain⟨S,hS⟩:=gg (W1.heap.size);have HS:Hid _:=hS;have Ao:Hid (iX W2 S #[ι κ ((x:Int)+1),ι κ 1,σ ν 0 0] 40/\eE W1 W2):=by
    rw[<-nr,<-hS];exact⟨iX.new W1 _ _,gW _ _⟩
   clear nr hS;go_wp2_with(fail)
   try rw[Ua.out]
   try rw[HS.out]
   go_wp2
   go_loopw [10] (λi wr=>∃(z:Nat) (H:Option dX) (Z J:Nat),z<=m/\i=ι κ ((z:Int)+1)/\iX wr S #[ι κ ((x:Int)+1),ι κ 1,σ H Z J] 40/\Row wr 2 (σ H Z J) Z (iR ((fW z).filterMap (F x)))/\(∀j,eu (σ H Z J)=μ j->S<j)/\eE W1 wr) (λi _=>m+1-(eY i).toNat)
   case atStart=>exact⟨0,ν,0,0,Nat.zero_le _,rfl,Ao.out.1,by simpa[iR]using Row.nil W2 2,λj hj=>by simp[eu]at hj,Ao.out.2⟩
   case round=>
    obtain⟨z,H,Z,J,hz,rfl,pV,iW,jl,iK⟩:=hrel;obtain⟨W3,rfl⟩:∃W3,W3=wr:=⟨_,rfl⟩
    have y:Hid (iX W3 S #[ι κ ((x:Int)+1),ι κ 1,σ H Z J] 40):=pV;have CP:Hid (Row W3 2 (σ H Z J) Z (iR ((fW z).filterMap (F x)))):=iW;have AQ:Hid _:=jl;have ZE:Hid _:=iK;have hke:Z<=z:=by
     have E:=iW.1;rw[ld]at E;have:=adM (F x) z;omega
    clear pV iW jl iK;by_cases hzm:z<m
    case neg=>
     have xP:¬(z:Int)+1<=(m:Int):=eh;obtain rfl:z=m:=eh;have c0:W3.cell? ⟨S,0,ν⟩=μ (ι κ ((x:Int)+1)):=y.out.cell 0;have c1:W3.cell? ⟨S,1,ν⟩=μ (ι κ 1):=y.out.cell 1;have c2:W3.cell? ⟨S,2,ν⟩=μ (σ H Z J):=y.out.cell 2;have fz0:=y.out.frozen 0;have sl:=y.out.lt;have sA:Row W3 3 (σ ao k0 cp) x (KS out):=HI.out.row.below ZE.out;have G6:x=k0:=by
      rcases sA.2 with⟨e,h0⟩|⟨g,cap,e,_⟩
      ·simp at e;omega
      ·simp at e;omega
     subst G6;go_wp2_with(at_builtin;go_must(refine iG _ rfl (.tmp 91) (.tmp 93) 91 rfl 40 i0 (.agg #[ι κ 0,ι κ 0,σ ν 0 0]) 3 40 underlying91 O1 ox nh mO rfl eA (σ ao x cp) x (KS out) rfl (sA.alloc _) _ 1 1 [ι κ ((x:Int)+1),ι κ 1,σ H Z J] rfl rfl eA (BU _ _ _ _ _ _ gY) (UN _ _ _ _ _) (by unfold maxLen;omega) eh ?_));intro g' jr w9 hr9 u Ml;have ki:WL w w9 (σ (μ ⟨g',0,ν⟩) (x+1) jr) (x+1) (out++ [⟨(x:Int)+1,1,H,Z,J⟩]) Es:=by
      have Gf:eE W3 (W3.alloc (γ #[ι κ ((x:Int)+1),ι κ 1,σ H Z J] 40)):=gW _ _;refine WL.step (s:=⟨(x:Int)+1,1,H,Z,J⟩) (wr:=W1) ((HI.out.below ZE.out).below Gf) (λj hj=>HI.out.row.lt j hj) u hr9 ?_ rfl rfl ?_ ?_ ?_ ?_
      ·intro g hg;have:g'=g:=by simpa[eu]using hg
       subst this;rcases Ml with e|e
       ·exact .inl e
       ·exact .inr (Nat.le_trans (Nat.le_of_eq gY) e)
      ·have:=CP.out.opts;rw[<-HE2.out x]at this;exact this.below Gf
      ·intro e;rcases CP.out.2 with⟨e2,_⟩|⟨g,cap,e2,_⟩
       ·simp at e2;exact e2.2.2
       ·simp only[Value.slice.injEq]at e2;rw[e2.1]at e;exact absurd e gY
      ·show Z<=maxLen;unfold maxLen;omega
      ·intro b hb;have E:=AQ.out b hb;have h2:=CP.out.lt b hb;have h3:=HI.out.nT.size;have h4:=HS.out;exact⟨eh,eh,Nat.lt_of_lt_of_le h2 Gf.size⟩
     have Y:Hid _:=ki;clear ki hr9 u Ml
     go_wp2
     go_roundw
     case rel=>exact⟨x+1,_,_,jr,_,eh,rfl,by go_num,Y.out⟩
     case measure=>simp[eY];omega
    case pos=>
     have hzl:(z:Int)+1<=(m:Int):=eh;have HW3:Hid (eE w W3):=gk HI.out.nT ZE.out
     go_wp2
     go_loopw [11,12] (λl i wr=>∃k:Nat,k<=n/\l=ι κ (ls x z k)/\i=ι κ k/\eE W3 wr) (λ_ i _=>n-(eY i).toNat)
     case atStart=>exact⟨0,Nat.zero_le _,by rw[HLS.out],rfl,av _ _⟩
     case round=>
      obtain⟨k,hk,rfl,rfl,Tm⟩:=hrel;obtain⟨W4,rfl⟩:∃W4,W4=wr:=⟨_,rfl⟩
      have HB4:Hid _:=Tm;clear Tm;by_cases AK:k<n
      case pos=>
       have aeW:(k:Int)<(n:Int):=eh;have G6:(0:Int)<=(k:Int):=eh;obtain⟨A,B,M,b,off,rfl,⟨pa,pb,c0,c1,c2,c3,c4⟩,ci,ki⟩:=HRd.out W4 k (gk HW3.out HB4.out) AK;have bl:=ag _ _ c0;have gl:=ag _ _ ci;have Y:Hid (ls x z (k+1)=if(iQ k=true/\x≠z/\((A=(x:Int)+1/\B=(z:Int)+1) \/(A=(z:Int)+1/\B=(x:Int)+1)))/\(ls x z k=0 \/M<ls x z k)then M else ls x z k):=ki x z;clear ki;have Gf:=λo=>gW W4 o;obtain⟨l1,IC⟩:=gg (ls x z (k+1));have WS:Hid _:=IC;rw[IC]at Y;clear IC;obtain⟨T,vN⟩:=gg (ls x z k);rw[vN]at Y⊢;clear vN;have M6:Hid (∀o,eE W3 (W4.alloc o)):=λo=>gk HB4.out (Gf o);clear Gf;cases U:iQ k
       case false=>
        rw[U]at ci;have Q:Hid (l1=T):=by show _=_;rw[Y.out,af (λh=>by obtain⟨⟨q1,q2,q3⟩,q4⟩:=h;first|exact absurd q1 eA|exact absurd (U.symm.trans q1) eA|omega)]
        clear Y
        go_wp2
        go_roundw
        case rel=>exact⟨k+1,eh,by rw[WS.out,Q.out],by go_num,M6.out _⟩
        case measure=>simp[eY];omega
       case true=>
        rw[U]at ci;by_cases G:x≠z
        case neg=>
         have V8:(z:Int)+1=(x:Int)+1:=eh;have Q:Hid (l1=T):=by show _=_;rw[Y.out,af (λh=>by obtain⟨⟨q1,q2,q3⟩,q4⟩:=h;first|exact absurd q1 eA|exact absurd (U.symm.trans q1) eA|omega)]
         clear Y
         go_wp2
         go_roundw
         case rel=>exact⟨k+1,eh,by rw[WS.out,Q.out],by go_num,M6.out _⟩
         case measure=>simp[eY];omega
        case pos=>
         have V8:¬(z:Int)+1=(x:Int)+1:=eh;by_cases E:A=(x:Int)+1
         case pos=>
          by_cases h2:B=(z:Int)+1
          case pos=>
           by_cases FL:T=0
           case pos=>
            have Q:Hid (l1=M):=by show _=_;rw[Y.out,ai (by first|exact⟨⟨U,G,.inl ⟨E,h2⟩⟩,.inl FL⟩|exact⟨⟨U,G,.inl ⟨E,h2⟩⟩,.inr CD⟩|exact⟨⟨U,G,.inr ⟨h3,h4⟩⟩,.inl FL⟩|exact⟨⟨U,G,.inr ⟨h3,h4⟩⟩,.inr CD⟩)]
            clear Y
            go_wp2
            go_roundw
            case rel=>exact⟨k+1,eh,by rw[WS.out,Q.out],by go_num,M6.out _⟩
            case measure=>simp[eY];omega
           case neg=>
            have mO:(T==0)=false:=by simpa using FL
            have Pk:((z:Int)+1 !=(x:Int)+1)=true:=by simp;omega
            by_cases CD:M<T
            case pos=>
             have Q:Hid (l1=M):=by show _=_;rw[Y.out,ai (by first|exact⟨⟨U,G,.inl ⟨E,h2⟩⟩,.inl FL⟩|exact⟨⟨U,G,.inl ⟨E,h2⟩⟩,.inr CD⟩|exact⟨⟨U,G,.inr ⟨h3,h4⟩⟩,.inl FL⟩|exact⟨⟨U,G,.inr ⟨h3,h4⟩⟩,.inr CD⟩)]
             clear Y
             go_wp2
             go_roundw
             case rel=>exact⟨k+1,eh,by rw[WS.out,Q.out],by go_num,M6.out _⟩
             case measure=>simp[eY];omega
            case neg=>
             have amk:decide (M<T)=false:=by simpa using CD
             have Q:Hid (l1=T):=by show _=_;rw[Y.out,af (λh=>by obtain⟨⟨q1,q2,q3⟩,q4⟩:=h;first|exact absurd q1 eA|exact absurd (U.symm.trans q1) eA|omega)]
             clear Y
             go_wp2
             go_roundw
             case rel=>exact⟨k+1,eh,by rw[WS.out,Q.out],by go_num,M6.out _⟩
             case measure=>simp[eY];omega
          case neg=>
           have h3:¬A=(z:Int)+1:=eh;have Q:Hid (l1=T):=by show _=_;rw[Y.out,af (λh=>by obtain⟨⟨q1,q2,q3⟩,q4⟩:=h;first|exact absurd q1 eA|exact absurd (U.symm.trans q1) eA|omega)]
           clear Y
           go_wp2
           go_roundw
           case rel=>exact⟨k+1,eh,by rw[WS.out,Q.out],by go_num,M6.out _⟩
           case measure=>simp[eY];omega
         case neg=>
          by_cases h3:A=(z:Int)+1
          case pos=>
           by_cases h4:B=(x:Int)+1
           case pos=>
            by_cases FL:T=0
            case pos=>
             have Q:Hid (l1=M):=by show _=_;rw[Y.out,ai (by first|exact⟨⟨U,G,.inl ⟨E,h2⟩⟩,.inl FL⟩|exact⟨⟨U,G,.inl ⟨E,h2⟩⟩,.inr CD⟩|exact⟨⟨U,G,.inr ⟨h3,h4⟩⟩,.inl FL⟩|exact⟨⟨U,G,.inr ⟨h3,h4⟩⟩,.inr CD⟩)]
             clear Y
             go_wp2
             go_roundw
             case rel=>exact⟨k+1,eh,by rw[WS.out,Q.out],by go_num,M6.out _⟩
             case measure=>simp[eY];omega
            case neg=>
             have mO:(T==0)=false:=by simpa using FL
             have Pk:((z:Int)+1 !=(x:Int)+1)=true:=by simp;omega
             by_cases CD:M<T
             case pos=>
              have Q:Hid (l1=M):=by show _=_;rw[Y.out,ai (by first|exact⟨⟨U,G,.inl ⟨E,h2⟩⟩,.inl FL⟩|exact⟨⟨U,G,.inl ⟨E,h2⟩⟩,.inr CD⟩|exact⟨⟨U,G,.inr ⟨h3,h4⟩⟩,.inl FL⟩|exact⟨⟨U,G,.inr ⟨h3,h4⟩⟩,.inr CD⟩)]
              clear Y
              go_wp2
              go_roundw
              case rel=>exact⟨k+1,eh,by rw[WS.out,Q.out],by go_num,M6.out _⟩
              case measure=>simp[eY];omega
             case neg=>
              have amk:decide (M<T)=false:=by simpa using CD
              have Q:Hid (l1=T):=by show _=_;rw[Y.out,af (λh=>by obtain⟨⟨q1,q2,q3⟩,q4⟩:=h;first|exact absurd q1 eA|exact absurd (U.symm.trans q1) eA|omega)]
              clear Y
              go_wp2
              go_roundw
              case rel=>exact⟨k+1,eh,by rw[WS.out,Q.out],by go_num,M6.out _⟩
              case measure=>simp[eY];omega
           case neg=>
            have Q:Hid (l1=T):=by show _=_;rw[Y.out,af (λh=>by obtain⟨⟨q1,q2,q3⟩,q4⟩:=h;first|exact absurd q1 eA|exact absurd (U.symm.trans q1) eA|omega)]
            clear Y
            go_wp2
            go_roundw
            case rel=>exact⟨k+1,eh,by rw[WS.out,Q.out],by go_num,M6.out _⟩
            case measure=>simp[eY];omega
          case neg=>
           have Q:Hid (l1=T):=by show _=_;rw[Y.out,af (λh=>by obtain⟨⟨q1,q2,q3⟩,q4⟩:=h;first|exact absurd q1 eA|exact absurd (U.symm.trans q1) eA|omega)]
           clear Y
           go_wp2
           go_roundw
           case rel=>exact⟨k+1,eh,by rw[WS.out,Q.out],by go_num,M6.out _⟩
           case measure=>simp[eY];omega
      case neg=>
       have xP:¬(k:Int)<(n:Int):=eh;obtain rfl:k=n:=eh;have hp:=amj.out x z;have Oy:iX W4 S #[ι κ ((x:Int)+1),ι κ 1,σ H Z J] 40:=y.out.below HB4.out;have Qa:=CP.out.below HB4.out;have aml:Hid (iX W4 S #[ι κ ((x:Int)+1),ι κ 1,σ H Z J] 40):=Oy;have WT:Hid (eE W1 W4):=gk ZE.out HB4.out;have HFx:Hid (F x z=if 0<ls x z k then μ ((z:Int)+1,ls x z k)else ν):=by show _=_;rw[HF.out]
       generalize ls x z k=T at HFx hp⊢;by_cases hl:T=0
       ·subst hl;have HN:Hid ((fW (z+1)).filterMap (F x)=(fW z).filterMap (F x)):=WN (by rw[HFx.out];rfl);have ahI:Hid (Row W4 2 (σ H Z J) Z (iR ((fW z).filterMap (F x)))):=Qa;clear Qa Oy
        go_wp2
        go_roundw
        case rel=>exact⟨z+1,H,Z,J,eh,by go_num,aml.out,by rw[HN.out];exact ahI.out,AQ.out,WT.out⟩
        case measure=>simp[eY];omega
       ·have IC:0<T:=eh;have HN:Hid ((fW (z+1)).filterMap (F x)=(fW z).filterMap (F x)++ [((z:Int)+1,T)]):=WO (by rw[HFx.out,ai IC]);have c2:W4.cell? ⟨S,2,ν⟩=μ (σ H Z J):=Oy.cell 2;have f2:=Oy.frozen 2;have sl:=Oy.lt;go_wp2_with(at_builtin;go_must(refine iG _ rfl (.tmp 84) (.tmp 88) 38 rfl 123 i9 (.agg #[ι κ 0,ι κ 0]) 2 16 underlying38 hi9 amf amg amh rfl eA (σ H Z J) Z (iR ((fW z).filterMap (F x))) rfl (Qa.alloc _) _ 1 1 [ι κ ((z:Int)+1),ι κ T] rfl rfl eA (ng _ _ _ _ _ gY) (lK _ _ _ _) (by unfold maxLen;omega) eh ?_));intro g' jr w9 hr9 u Ml;rw[show [eB .i64 ((z:Int)+1),eB .i64 T] =[eB .i64 (((z:Int)+1,T):jE).1,eB .i64 (((z:Int)+1,T):jE).2]from rfl,<-mb,<-HN.out]at hr9;have Gf:=gW W4 (γ #[ι κ ((z:Int)+1),ι κ T] 123);have hS9:¬eu (σ H Z J)=μ S:=λe=>absurd (AQ.out S e) eh;have WU:iX w9 S #[ι κ ((x:Int)+1),ι κ 1,σ H Z J] 40:=by
         have E:=Oy.below Gf;unfold iX at E⊢;rw[u.block S (Nat.lt_of_lt_of_le sl Gf.size) (λe=>hS9 e.symm)];exact E
        have hSW:=HS.out;have aa3:eE W1 w9:=(gk WT.out Gf).grown u (Nat.le_trans WT.out.size Gf.size) (λj hj=>by have:=AQ.out j hj;omega);have hgn:S<g':=by
         rcases Ml with e|e
         ·exact AQ.out g' e
         ·have:=Gf.size;omega
        have FQ:=WU.set 2 (σ (μ ⟨g',0,ν⟩) (Z+1) jr);have amn:Hid (iX (w9.setCell ⟨S,2,ν⟩ (σ (μ ⟨g',0,ν⟩) (Z+1) jr)) S #[ι κ ((x:Int)+1),ι κ 1,σ (μ ⟨g',0,ν⟩) (Z+1) jr] 40):=FQ;have ahJ:Hid (Row (w9.setCell ⟨S,2,ν⟩ (σ (μ ⟨g',0,ν⟩) (Z+1) jr)) 2 (σ (μ ⟨g',0,ν⟩) (Z+1) jr) (Z+1) (iR ((fW (z+1)).filterMap (F x)))):=by
         refine hr9.keep gY λj hj=> ?_;have:g'=j:=by simpa[eu]using hj
         exact aq _ _ _ _ (by show j≠S;omega)
        have ahK:Hid (eE W1 (w9.setCell ⟨S,2,ν⟩ (σ (μ ⟨g',0,ν⟩) (Z+1) jr))):=aa3.setCell (p:=⟨S,2,ν⟩) (by show W1.heap.size<=S;omega) _;have d2:w9.cell? ⟨S,2,ν⟩=μ (σ H Z J):=WU.cell 2;have e2:=WU.frozen 2;have sl9:=WU.lt;clear hr9 u Ml FQ aa3 WU Gf Qa Oy hS9
        go_wp2
        go_roundw
        case rel=>exact⟨z+1,_,Z+1,jr,eh,by go_num,amn.out,ahJ.out,λj hj=>kF (B:=S+1) hgn hj,ahK.out⟩
        case measure=>simp[eY];omega
theorem SX(C:kV)(r:Nat):(qb C r).length<=7:=rj _ _
theorem uE.lists {iQ:Nat->Bool} {z:iP} (h:uE m L iQ D N k z)(hc:mU (m:Int) L)(Y:∀j,j<m->(S j).own=(j:Int)+1/\(S j).seq=1):vp (wX m L iQ) m S (ve m L iQ):=by
 have hm:=hc.m;refine⟨λj Z=>⟨?_,?_⟩,λj Z=> ?_,λk hk hs=> ?_,λi j hij Z=> ?_⟩
 ·rw[(Y j Z).1];unfold sY;omega
 ·rw[(Y j Z).1,(Y j Z).2];unfold wX;rw[ai ⟨eh,eh⟩];have:((j:Int)+1-1).toNat=j:=eh;rw[this]
 ·rw[(Y j Z).1,(Y j Z).2,h.ahF hc Z];obtain⟨B,U⟩:=h.f.s.s.env.i.own;obtain⟨_,Q,_,T,_⟩:=U.r j (by rw[h.a.1];exact Z);have:=zJ Q (seq:=1) ⟨eh,eh⟩;rw[T]at this;exact(congrArg _ (Cz (z.R j)).symm).trans this
 ·unfold wX at hs;split at hs
  ·rename_i e
   exact⟨(k-1).toNat,eh,by rw[(Y (k-1).toNat eh).1];omega⟩
  ·exact absurd hs gY
 ·rw[(Y i eh).1,(Y j Z).1];omega
structure adO(W:dY)(N m:Nat)(sb:Option dX)(sc:Nat)(H:Nat->List HP):Prop where
 a:∀x,x<m->∀V,eE W V->eW eX 47 #[π (μ ⟨N,0,ν⟩),ι κ ((x:Int)+1)] V λe w2=>∃b c,e=ρ (σ b (H x).length c)/\OZ w2 b (H x).length (H x)/\eE V w2
 b:∀x,x<m->∀V,eE W V->eW eX 48 #[σ sb m sc,ι κ ((x:Int)+1)] V λe w2=>∃b c,e=ρ (σ b (H x).length c)/\OZ w2 b (H x).length (H x)/\eE V w2
 n:∀x,(H x).length<=1000
theorem adO.of {Ng:Nat} {W2:dY} {iQ:Nat->Bool} {z:iP} {sb:Option dX} {sc:Nat} (hA:FV w0 Ng X m nc i z W)(h:uE m L iQ D N k z)(hc:mU (m:Int) L)(hb:eE W W2)(Q:∀j,j<m->(S j).own=(j:Int)+1/\(S j).seq=1)(H:vP W2 sb m S (ve m L iQ)):adO W2 Ng m sb sc λx=>mc (z.R x):=by
 have hm:=hc.m;refine⟨λx hx V Z=>(SW hA hx V (gk hb Z)).mono λe w2 ⟨b,c,U,T,Y⟩=>⟨b,c,U,T.r,Y⟩,λx hx V Z=> ?_,λx=>Nat.le_trans (SX _ _) eh⟩;have hl:=h.lists hc Q;have hh:=QY sb m sc S (ve m L iQ) (x+1) V (H.below Z) eh hl.ok eh eh;have M:Xn (wX m L iQ):=λy hy=>by
  unfold wX at hy;split at hy
  ·omega
  ·exact absurd hy gY
 rw[vp.grid hl M,<-h.ame hc hx]at hh;have J:((x+1:Nat):Int)=(x:Int)+1:=eh;rw[J]at hh;exact hh
theorem Oz(hc:mU (m:Int) L)(V:Nat->AV) {n2:Nat} (h40:n2<=40):uE m L (λx=>((qD (jQ m L) V n2).C x).iQ) (1300000*n2+1300000*45) (2+144*n2+144*45) (n2+7) (l5 (qD (jQ m L) V n2) 45):=by
 have Y:Wh m L 0 2 0 (jQ m L):=by
  have:=Wh.new hc (D:=0);rw[Int.toNat_natCast]at this;exact this
 have Z:=Y.WJ V n2 eh eh eh;rw[Nat.zero_add,Nat.zero_add]at Z;exact Z.settled eh eh eh
theorem WV(many:Int)(a:Option dX)(n cap:Nat)(L:List oV)(a2:Option dX)(T cap2:Nat)(V:Nat->AV)(E:Nat->List jE)(w:dY)(hL:zT w a L)(hl:L.length=n)(hn:n<=maxLen)(hA:DY w a2 T V E)(hT:jf w):
 eW eX 5 #[ι κ many,σ a n cap,σ a2 T cap2] w λe w'=>e=ρ (.bool true)/\eE w w':=by
 have hw:=SU w hT;have Dk:∀W,eE w W->eW eX 43 #[ι κ many,σ a n cap,σ a2 T cap2] W λe w'=>aa1 W many L T V e w':=λW hb=>
  Ow many a n cap L a2 T cap2 V E W (hL.below hb) hl hn (hA.below hb) (jf.below (w:=w) hT hb)
 have HT:Hid (jf w):=hT;have HL:Hid _:=hl;have HC:Hid (zT w a L):=hL;clear hL hA hT hl
 go_in
 go_wp2_with(fail);refine hw.mono ?_;rintro e w1 ⟨rfl,kA⟩;have hp:=Dk w1 kA;have D3:Hid _:=kA;clear hw Dk kA;go_wp2_with(fail);refine hp.mono ?_;rintro e w2 hP;clear hp;rcases hP with⟨rfl,mR⟩|⟨h0,h40,N,g,rfl,u⟩
 ·have Ao:Hid (eE w w2):=gk D3.out mR;clear mR
  go_wp2
  go_ret;exact⟨rfl,Ao.out⟩
 ·have ZF:=uT h0;have vM:=ZF.m;obtain⟨m,rfl⟩:∃m:Nat,many=(m:Int):=⟨many.toNat,eh⟩
  rw[Int.toNat_natCast]at u;have UK:=Oz ZF V h40;have M:=u.at_;have iW:=u.row;have Tb:=u.g0;obtain⟨Y,hY⟩:=gg (qD (jQ m L) V T);rw[hY]at UK M iW;have Yz:jf w1:=jf.below (w:=w) HT.out D3.out;have ki:=Ox M Yz eh;have YX:Hid _:=ZF;have amo:Hid _:=UK;have CP:Hid (qp w2 g 0 L.length (λk=>.bool (Y.C k).iQ)):=iW;rw[HL.out];have A:∀W,eE w W->W.heap[g]? =w2.heap[g]?->eW eX 45 #[ι κ (m:Int),σ a n cap,σ (μ ⟨g,0,ν⟩) n n] W λe w'=>P9 W m (ve m L λx=>(Y.C x).iQ) e w':=by
   intro W hb hg;have:=iW.keep hg;rw[HL.out]at this;exact WQ m a n cap g L (λx=>(Y.C x).iQ) W (HC.out.below hb) HL.out YX.out this
  have ahL:Hid _:=A;clear u h0 ZF UK M iW A hY Yz;go_wp2_with(fail);refine ki.mono ?_;rintro e w3 ⟨rfl,hA3,ym⟩;have HA3:Hid (FV w1 N (λb=>b=g) m L.length (T+45) (l5 Y 45) w3):=hA3;have Gh:Hid (eE w w3):=gk D3.out hA3.1.nT;have y:=ahL.out w3 Gh.out (ym g rfl);clear ki hA3 ym;go_wp2_with(fail);refine y.mono ?_;rintro e j ⟨sb,sc,S,rfl,h,hSo,Tm⟩;have U:=adO.of (sc:=sc) HA3.out amo.out YX.out Tm hSo h;obtain⟨H,hH⟩:∃H:Nat->List HP,H=λx=>mc ((l5 Y 45).R x):=⟨_,rfl⟩
  rw[<-hH]at U;have J:Hid _:=U;have HB4:Hid (eE w j):=gk Gh.out Tm;clear y h hSo Tm U hH
  go_wp2
  go_loopw [11] (λi wr=>∃x:Nat,x<=m/\i=ι κ ((x:Int)+1)/\eE j wr) (λi _=>m+1-(eY i).toNat)
  case atStart=>exact⟨0,Nat.zero_le _,rfl,av _ _⟩
  case round=>
   obtain⟨x,hx,rfl,qG⟩:=hrel;obtain⟨V0,rfl⟩:∃V0,V0=wr:=⟨_,rfl⟩
   have Z:Hid _:=qG;clear qG;by_cases kB:x<m
   case neg=>
    have xP:¬(x:Int)+1<=(m:Int):=eh
    go_wp2
    go_ret;exact⟨rfl,gk HB4.out Z.out⟩
   case pos=>
    have nQ:(x:Int)+1<=(m:Int):=eh;have h1:=J.out.a x kB V0 Z.out;go_wp2_with(fail);refine h1.mono ?_;rintro e w5 ⟨b5,c5,rfl,G,YC⟩;have h2:=J.out.b x kB w5 (gk Z.out YC);have HH5:Hid _:=G;have G7:Hid (eE j w5):=gk Z.out YC;clear h1 G YC;go_wp2_with(fail);refine h2.mono ?_;rintro e w6 ⟨b6,c6,rfl,hH6,Q⟩;have h3:=zD b5 b6 (H x).length c5 c6 (H x) w6 (HH5.out.below Q) hH6 (J.out.n x);have UZ:Hid (eE j w6):=gk G7.out Q;clear h2 hH6 Q;go_wp2_with(fail);refine h3.mono ?_;rintro e w7 ⟨rfl,Xb⟩;have HB7:Hid (eE j w7):=gk UZ.out Xb;clear h3 Xb
    go_wp2
    go_roundw
    case rel=>exact⟨x+1,eh,by go_num,HB7.out⟩
    case measure=>simp[eY];omega
