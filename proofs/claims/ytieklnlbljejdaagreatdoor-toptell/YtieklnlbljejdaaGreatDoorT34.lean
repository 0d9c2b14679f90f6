import Derived.Test.YtieklnlbljejdaaGreatDoorT33
open Go.Value renaming int → ι, slice → σ, pointer → π, tuple → τ, nilIface → η
open Go.IntKind renaming i64 → κ
open Go.Ending renaming returned → ρ
open Go.Obj renaming cells → γ
open Option renaming none → ν, some → μ
open Go renaming World → dN, Calls → eM
open Go.Proofs.Tryz renaming prog → eN
open Array renaming getElem?_map → ic, getElem?_range → ie
set_option maxRecDepth 100000
set_option maxHeartbeats 4000000
namespace Go.Proofs.YtieklnlbljejdaaGreatDoor
open Go.RowKit St
namespace Rt
variable {D N k m:Nat} {L:List oH} {S:List (Int×List UInt8)} {T:List (Nat×Nat)} {W W' w w' w0:World} {X:Nat->Prop} {a b:AN} {e:Ending} {many:Int} {r:iy}
def kg(r s:iy):Prop:=∀p,(s.P p).m=(r.P p).m
theorem kg.trans {r s t:iy} (h:kg r s)(g:kg s t):kg r t:=λp=>(g p).trans (h p)
theorem kg.meet(r:iy)(i:Nat)(q:kL):kg r (r.meet i q):=λp=>(j4 r i q p).2.2.1
theorem kg.iE(r:iy)(i:Nat)(q:jb)(h:q.m=(r.P i).m):kg r (r.iE i q):=λp=>by
 rw[kx];split
 ·rename_i e;rw[e,h]
 ·rfl
theorem kg.state(r:iy)(i:Nat)(s:List UInt8):kg r (ji r i s):=by
 unfold ji;simp only;split
 ·exact λ_=>rfl
 ·split
  ·unfold iy.behind;split<;>exact λ_=>rfl
  ·split
   ·exact λp=>(kg.iE _ i _ (qv _ _ _).1) p
   ·exact λ_=>rfl
theorem kg.heard(r:iy)(i:Nat)(s:List UInt8):kg r (ku r i s):=by
 unfold ku;simp only;split<;>exact λ_=>rfl
theorem kg.send(r:iy)(t:wT):kg r (r.send t):=λp=>((oj r t).2.2.2.2 p).1
theorem kg.link(h:Jc r)(i:Nat)(c:UInt8)(s:List UInt8):kg r (jH r i c s):=λp=>((AB h i c s).2.2.1 p).2.1
theorem kg.jT {r:iy} (h:Jc r)(i:Nat)(x:mb):kg r (jT r i x):=by
 cases x with
 |nil=>exact λ_=>rfl
 |cons c s=>
  show kg r (r.take i c s);rw[lK];refine(kg.link h i c s).trans ?_;split
  ·exact kg.meet _ _ _
  ·unfold l9;split
   ·split
    ·exact kg.meet _ _ _
    ·exact λ_=>rfl
   ·split
    ·exact kg.state _ _ _
    ·split
     ·exact kg.heard _ _ _
     ·split
      ·unfold qj
       first
        |(split
          ·exact kg.send _ _
          ·exact λ_=>rfl)
        |exact kg.send _ _
      ·exact λ_=>rfl
theorem kg.iV(r:iy)(i:Nat):kg r (r.iV i):=by
 rw[kO];have Z:kg r (iT r i):=λp=>(lV r i p).1;split
 ·exact Z.trans (kg.meet _ _ _)
 ·exact(Z.trans (kg.meet _ _ _)).trans λp=>((qO _ i).2.2.2.2 p).1
theorem kg.iw(r:iy)(i:Nat)(up:Bool):kg r (r.iw i up).1:=by
 unfold iy.iw;simp only;split
 ·exact λ_=>rfl
 ·refine(kg.iE r i _ ?_).trans (kg.meet _ _ _);unfold jb.iw;simp only;by_cases e:(ko (r.P i).L (if up=true then 0 else 1)).2.2≠0
  ·rw[ag e]
  ·rw[ae e,(uv _ _).1]
def Er(a:AN):Prop:=∀i p,i<a.n->((a.R i).P p).m=a.ms i p
theorem Er.op {a:AN} (h:Er a)(i:Nat) {s:iy} (hs:kg (a.R i) s):Er (a.op i s):=λj p Z=>by
 show(((a.op i s).R j).P p).m=a.ms j p;rw[KT];split
 ·rename_i e
  subst e;exact(hs p).trans (h j p Z)
 ·exact h j p Z
theorem Er.mI {a:AN} (h:Er a)(c d:Nat)(up:Bool):Er (a.mI c d up):=h.op _ (kg.iw _ _ _)
theorem Er.step(s:mc a T S b)(Y:Norm a)(h:Er a):Er b:=by
 cases s with
 |lost hl=>
  obtain⟨e,_⟩:=hl;rw[e];exact h
 |tick i p hi hp=>exact h.op i (kg.iV _ _)
 |pop c d x l hc hd hF=>exact Er.op (a:=a.lM c d l) h _ (kg.jT (Y.emp _) _ _)
 |send i t tx hi Z h6 hl=>exact h.op i (kg.send _ _)
 |iw c hc hi h0 Z=>exact Er.mI (Er.mI h c 0 true) c 1 true
 |draw c hc hi=>exact Er.mI (Er.mI h c 0 false) c 1 false
 |anew i m hi hx=>
  intro j p V;show((jy a.R i (jt ((i:Int)+1) 3 (a.ms i)) j).P p).m=a.ms j p;by_cases e:j=i
  ·subst e;rw[ij];rfl
  ·rw[gW _ _ e];exact h j p V
theorem Er.path(s:jI a T S b)(Z:Norm a)(h:Er a):Er b:=by
 induction s with
 |nil=>exact h
 |snoc p q ih=>exact Er.step q (p.norm Z) ih
theorem Sn(many:Nat)(L:List oH):Er (jh (jx many L)):=λ_ _ _=>rfl
def tC(P:Nat->jb)(n:Int)(k:Nat):Int:=match jA P n k with|none=>0|some b=>(P b).m
theorem Sp(P:Nat->jb)(n:Int)(k:Nat)(Z:∀p,p<k->1<=(P p).m)(j:Int):((jA P n k).map λb=>(j,(P b).m))=if 0<tC P n k then μ (j,tC P n k)else ν:=by
 unfold tC;cases Y:jA P n k with
 |none=>simp
 |some b=>
  have:=Z b (nt Y).1;simp only[Option.map_some];rw[ag dP]
structure oa(w0 w:dN)(N:Nat)(X:Nat->Prop)(n:iB):Prop where
 ex:∃y,jl w y n/\y.N=N/\(∀b,y.all n.n b->w0.heap.size<=b)/\∀b,y.ext b↔X b
 nI:dV w0 w
theorem oa.Sr(h:Oe w many L X e w')(Z:mS many L=0)(hb:dV w0 w):∃N,e=ρ (τ #[π (μ ⟨N,0,ν⟩),η])/\oa w0 w' N X (jx many.toNat L):=by
 obtain⟨_,Y,V⟩:=h;obtain⟨y,M,U,Q,hx⟩:=Y Z;exact⟨y.N,M,⟨y,U,rfl,λb J=>Nat.le_trans hb.size (Q b J),hx⟩,gD hb V⟩
theorem oa.Y0(h:Oe w many L X e w')(Z:mS many L≠0)(hb:dV w0 w):e=ρ (τ #[π ν,iP (mS many L)])/\dV w0 w':=by
 obtain⟨Y,_,V⟩:=h;exact⟨Y Z,gD hb V⟩
theorem oa.still {n:iB} (h:oa w0 w N X n)(hb:dV w w'):oa w0 w' N X n:=by
 obtain⟨⟨y,Y,Z,V,hx⟩,U⟩:=h;exact⟨⟨y,Y.below hb,Z,V,hx⟩,gD U hb⟩
theorem oa.tab {n:iB} (h:oa w0 w N X n)(Z:iQ w0):iQ w:=Z.below h.nI
theorem oa.went {y:Yt} {n n':iB} (U:jl W y n)(Q:∀b,y.all n.n b->w0.heap.size<=b)(hx:∀b,y.ext b↔X b)(hb:dV w0 W)(E:n'.n=n.n)(h:il W w' y n' n.n):
 oa w0 w' y.N X n'/\∀b,X b->w'.heap[b]? =W.heap[b]? :=by
 obtain⟨⟨y',M,hs,G,J⟩,Y⟩:=h;have A:∀b,X b->b<W.heap.size:=λb Z=>U.lt (.inr ((hx b).2 Z));have V:∀b,X b->¬y.all n.n b:=λb Z e=>by
  rcases e with e|⟨j,H,e⟩
  ·exact U.nx b ((hx b).2 Z) e
  ·exact U.Hm H (.inr (.inl ((hx b).2 Z))) e
 refine⟨⟨⟨y',M,hs.N,λb Z=> ?_,λb=>(J b).trans (hx b)⟩,?_⟩,λb Z=>Y.block b (A b Z) (V b Z)⟩
 ·rw[E]at Z;rcases G b Z with e|e
  ·exact Q b e
  ·exact Nat.le_trans hb.size e
 ·refine⟨Y.os.trans hb.os,Y.tape.trans hb.tape,Y.output.trans hb.output,Nat.le_trans hb.size Y.size,λb Z=> ?_⟩;refine(Y.block b (Nat.lt_of_lt_of_le Z hb.size) (λe=> ?_)).trans (hb.block b Z);have:=Q b e;omega
theorem oa.call {n n':iB} {f:FuncId} {args:Array Value} {E:Ending->Prop} (h:oa w0 W N X n)(Q:n'.n=n.n)
 (k:∀y,jl W y n->y.N=N->eM eN f args W λe w'=>E e/\il W w' y n' n.n):eM eN f args W λe w'=>E e/\oa w0 w' N X n'/\∀b,X b->w'.heap[b]? =W.heap[b]? :=by
 obtain⟨⟨y,Y,Z,V,hx⟩,hb⟩:=h;refine(k y Y Z).mono ?_;rintro e w' ⟨U,M⟩;have:=oa.went Y V hx hb Q M;rw[Z]at this;exact⟨U,this⟩
def iB.rounds(y:iB):Nat->iB
 |0=>y
 |k+1=>(y.rounds k).round
def Tg:List oH:=[⟨1,0,2,0,3⟩]
def KU:iB:=((jx 2 Tg).iw 0 true).1
theorem Va:oB ((KU.rounds 6).R 1)=[⟨1,3,1⟩] :=gJ
theorem Vb:((jx 2 Tg).iw 0 true).2=0:=gJ
theorem KW:mS 2 Tg=0:=gJ
theorem IY(y:iB):∀k,(y.rounds k).n=y.n
 |0=>rfl
 |k+1=>(sT (y.rounds k)).1.trans (IY y k)
theorem yY {y:iB} {D:Nat} (h:jN y D 0)(Z:D<=100000000):∀k,k<=100->jN (y.rounds k) (D+1300000*k) 0
 |0,_=>h
 |k+1,hk=>((yY h Z k dP).round dP).mono dP (Nat.le_refl _)
theorem Ww:jN KU 2 0:=(xO (xM KW)).iw dP 0 true
theorem OM(w:dN)(hT:iQ w):eM eN 42 #[] w λe w'=>e=ρ (.bool true)/\dV w w':=by
 obtain⟨W0,mL⟩:=fP (w.alloc (γ #[ι κ 1,ι κ 0,ι κ 2,ι κ 0,ι κ 3] 81));have hb:=gM w (γ #[ι κ 1,ι κ 0,ι κ 2,ι κ 0,ι κ 3] 81);have hc:=λj=>aj w #[ι κ 1,ι κ 0,ι κ 2,ι κ 0,ι κ 3] 81 (0,0) j;rw[mL]at hb;rw[mL]at hc;have hL:Ae W0 (μ ⟨w.heap.size,0,ν⟩) Tg:=λj u=>by
  obtain rfl:j=0:=by simp[Tg]at u;exact u
  exact⟨w.heap.size,0,rfl,hc 0,hc 1,hc 2,hc 3,hc 4⟩
 have iO:eM eN 36 #[ι κ 2,σ (μ ⟨w.heap.size,0,ν⟩) 1 1] W0 λe w'=>∃N,e=ρ (τ #[π (μ ⟨N,0,ν⟩),η])/\oa w w' N (λ_=>False) (jx 2 Tg):=by
  refine(L6 2 (μ ⟨w.heap.size,0,ν⟩) 1 Tg W0 hL dS (iQ.below (w:=w) hT hb) (λ_=>False) (λb qp=>qp.elim)).mono ?_;rintro e w' h;exact oa.Sr h KW hb
 have A:∀W N,oa w W N (λ_=>False) (jx 2 Tg)->eM eN 57 #[π (μ ⟨N,0,ν⟩),ι κ 0,.bool true] W λe w'=>e=ρ η/\oa w w' N (λ_=>False) (KU.rounds 0):=by
  intro W N hA;refine(hA.call (E:=λe=>e=ρ η) (n':=KU) rfl λy U M=> ?_).mono (λe w' h=>⟨h.1,h.2.1⟩);rw[<-M];refine(H9 y (jx 2 Tg) 0 0 true W U (hA.tab hT) (xO (xM KW)) dP).mono ?_;rintro e w' ⟨rfl,hw⟩;rw[Vb];exact⟨rfl,hw⟩
 have Ss:∀W N k,k<6->oa w W N (λ_=>False) (KU.rounds k)->eM eN 54 #[π (μ ⟨N,0,ν⟩)] W λe w'=>e=ρ (τ #[])/\oa w w' N (λ_=>False) (KU.rounds (k+1)):=by
  intro W N k hk hA;refine(hA.call (E:=λe=>e=ρ (τ #[])) (n':=KU.rounds (k+1)) (sT (KU.rounds k)).1 λy U M=> ?_).mono (λe w' h=>⟨h.1,h.2.1⟩);rw[<-M];exact D5 y (KU.rounds k) (2+1300000*k) W U (hA.tab hT) (yY Ww dP k dP) dP
 have FJ:∀W N,oa w W N (λ_=>False) (KU.rounds 6)->eM eN 40 #[π (μ ⟨N,0,ν⟩),ι κ 2] W λe w'=>∃R,e=ρ (τ #[π (μ ⟨R,0,ν⟩),η])/\dV w w'/\eM eN 64 #[π (μ ⟨R,0,ν⟩)] w' λe w2=>∃b c,e=ρ (σ b 1 c)/\PL w2 b 1 [⟨1,3,1⟩] /\dV w w2:=by
  intro W N hA;obtain⟨⟨y,U,M,ha,hx⟩,iA⟩:=hA;rw[<-M];have hn:(KU.rounds 6).n=2:=IY KU 6;refine(BP y (KU.rounds 6) 1 W U (by rw[hn];decide)).mono ?_;rintro e w' ⟨rfl,rfl⟩;refine⟨(y.z 1).R,rfl,iA,?_⟩;have iC:=(yY Ww dP 6 dP).ok 1 (by rw[hn];decide);refine(DS (y.z 1) ((KU.rounds 6).R 1) W (U.rt 1 (by rw[hn];decide)) iC.QS).mono ?_;rintro e w2 ⟨b,c,rfl,⟨Y,_⟩,t⟩;rw[Va]at Y⊢;exact⟨b,c,rfl,Y,gD iA t⟩
 have j9:∀W b c W2,dV w W->PL W b 1 [⟨1,3,1⟩]->W2=W.alloc (γ #[ι κ 1,ι κ 3,ι κ 1] 98)->eM eN 46 #[σ b 1 c,σ (μ ⟨W.heap.size,0,ν⟩) 1 1] W2 λe w'=>e=ρ (.bool true)/\dV w w':=by
  rintro W b c W2 hbW Y rfl;have t:=gM W (γ #[ι κ 1,ι κ 3,ι κ 1] 98);have FP:=λj=>aj W #[ι κ 1,ι κ 3,ι κ 1] 98 (0,0) j;refine(EP b (μ ⟨W.heap.size,0,ν⟩) 1 c 1 [⟨1,3,1⟩] _ (Y.below t) ⟨rfl,.inr ⟨W.heap.size,0,rfl,λj h u=> ?_⟩⟩ dP).mono ?_
  ·obtain⟨l,v⟩:=aG.1 u;obtain rfl:j=0:=by simp at l;exact l
   obtain rfl:_=h:=v;exact⟨FP 0,FP 1,FP 2⟩
  ·rintro e w' ⟨rfl,rO⟩;exact⟨rfl,gD hbW (gD t rO)⟩
 have Av:Hid _:=mL;have HR:Hid _:=Ss;obtain⟨Q,hQ⟩:∃Q:Nat->iB,Q=KU.rounds:=⟨_,rfl⟩
 clear mL hb hc hL Ss;rw[<-hQ]at A HR FJ;generalize jx 2 Tg=z0 at iO A;clear hQ
 go_in
 go_wp2_with(fail)
 try rw[Av.out]
 go_wp2_with(fail);refine iO.mono ?_;rintro e w1 ⟨N,rfl,hA⟩;have h1:=A w1 N hA;clear iO A hA;go_wp2_with(fail);refine h1.mono ?_;rintro e w2 ⟨rfl,hA⟩;have HA:Hid _:=hA;clear h1 hA
 go_wp2
 go_loopw [3] (λx wr=>∃k:Nat,k<=6/\x=ι κ k/\oa w wr N (λ_=>False) (Q k)) (λx _=>6-(intOf x).toNat)
 case atStart=>exact⟨0,Nat.zero_le _,rfl,HA.out⟩
 case round=>
  obtain⟨k,hk,rfl,Z⟩:=hrel;obtain⟨V,rfl⟩:∃V,V=wr:=⟨_,rfl⟩
  by_cases kc:k<6
  ·have nh:(k:Int)<6:=dP;have G:=HR.out V N k kc Z;clear Z;go_wp2_with(fail);refine G.mono ?_;rintro e w3 ⟨rfl,hA3⟩;have HA3:Hid _:=hA3;clear G hA3
   go_wp2
   go_roundw
   case rel=>exact⟨k+1,dP,by go_num,HA3.out⟩
   case measure=>simp[intOf];omega
  ·have zN:¬(k:Int)<6:=dP;obtain rfl:k=6:=dP;have G:=FJ V N Z;clear Z FJ;go_wp2_with(fail);refine G.mono ?_;rintro e w3 ⟨R,rfl,rO,hh⟩;have I7:Hid _:=rO;clear G rO;go_wp2_with(fail);refine hh.mono ?_;rintro e w4 ⟨b,c,rfl,Y,J⟩;obtain⟨W5,I9⟩:∃W5,W5=w4.alloc (γ #[ι κ 1,ι κ 3,ι κ 1] 98):=⟨_,rfl⟩
   have hs:=j9 w4 b c W5 J Y I9;have HW5:Hid _:=I9.symm;clear hh Y J j9 I9;go_wp2_with(fail)
   try rw[HW5.out]
   go_wp2_with(fail);refine hs.mono ?_;rintro e w6 ⟨rfl,H⟩;have HB6:Hid _:=H;clear hs H
   go_wp2
   go_ret;exact⟨rfl,HB6.out⟩
theorem Af(a:Option Addr)(n cap:Nat)(w:dN)(_hn:n<=maxLen):eM eN 35 #[σ a n cap] w λe w'=>e=ρ (.bool (decide (n<=12)))/\w=w':=by
 by_cases h:n<=12
 ·have Z:(n:Int)<=12:=dP
  go_in
  go_wp2
  go_ret;exact⟨by simp[h],rfl⟩
 ·have Z:¬(n:Int)<=12:=dP
  go_in
  go_wp2
  go_ret;exact⟨gN,rfl⟩
def Ms(w0:dN)(N:Nat)(X:Nat->Prop)(m nc i:Nat)(n:iB)(w:dN):Prop:=oa w0 w N X n/\GN n/\jN n (1300000*i) 0/\n.n=m/\n.nc=nc
theorem Ms.act {w0:dN} {N:Nat} {X:Nat->Prop} {m nc i:Nat} {n:iB} {W:dN} (h:Ms w0 N X m nc i n W)(J:iQ w0)(hi:i<=300)(v:AV):
 eM eN 59 #[π (μ ⟨N,0,ν⟩),.agg #[.string v.kind,ι κ v.a,ι κ v.b,ι κ v.c,ι κ v.d,.string v.s,ι κ v.Lh,ι κ v.pid,σ v.po v.pn v.A7,ι κ v.x.own,ι κ v.x.seq,σ v.x.a v.x.n v.x.cap]] W λe w'=>e=ρ (τ #[])/\Ms w0 N X m nc (i+1) (qX n v) w'/\∀b,X b->w'.heap[b]? =W.heap[b]? :=by
 obtain⟨hA,U,Y,A,hc⟩:=h;obtain⟨V,u,_,_⟩:=Oi n v;refine(hA.call (E:=λe=>e=ρ (τ #[])) (n':=qX n v) V λy M Q=> ?_).mono ?_
 ·rw[<-Q];exact Am y n (1300000*i) v W M (hA.tab J) Y dP
 ·rintro e w' ⟨G,Z,H⟩;exact⟨G,⟨Z,(U.act Y dP v).1,(Y.act dP v).mono dP (Nat.le_refl _),V.trans A,u.trans hc⟩,H⟩
theorem Ms.new(h:Oe w many L X e w')(Z:mS many L=0)(hb:dV w0 w):∃N,e=ρ (τ #[π (μ ⟨N,0,ν⟩),η])/\Ms w0 N X many.toNat L.length 0 (jx many.toNat L) w':=by
 obtain⟨N,Y,hA⟩:=oa.Sr h Z hb;exact⟨N,Y,hA,Cl _ _,xO (xM Z),rfl,rfl⟩
def Es(y:iB)(V:Nat->AV):Nat->iB
 |0=>y
 |k+1=>qX (Es y V k) (V k)
theorem oa.write {n:iB} (h:oa w0 W N X n)(hs:W.heap.size<=W'.heap.size)(U:∀k,k<W.heap.size->¬X k->W'.heap[k]? =W.heap[k]?)(G:∀k,X k->w0.heap.size<=k)
 (u:W'.os=W.os) (t:W'.tape=W.tape) (j:W'.output=W.output) (Z:Nat->Prop) (E:∀k,Z k->W.heap.size<=k/\k<W'.heap.size):oa w0 W' N (λb=>X b \/Z b) n:=by
 obtain⟨⟨y,H,J,A,hx⟩,hb⟩:=h;obtain⟨y',M,V,ha',Q⟩:=H.beside hs (λk sL jq=>U k sL (λe=>jq ((hx k).2 e))) Z E;refine⟨⟨y',M,V.N.trans J,λb Y=>A b ((ha' b).1 Y),λb=> ?_⟩,u.trans hb.os,t.trans hb.tape,j.trans hb.output,Nat.le_trans hb.size hs,λb Y=> ?_⟩
 ·rw[Q b,hx b]
 ·refine(U b (Nat.lt_of_lt_of_le Y hb.size) (λe=> ?_)).trans (hb.block b Y);have:=G b e;omega
theorem oa.Sv {Y:Nat->Prop} {n:iB} (h:oa w0 W N X n)(e:∀b,X b↔Y b):oa w0 W N Y n:=by
 obtain⟨⟨y,V,Z,U,hx⟩,hb⟩:=h;exact⟨⟨y,V,Z,U,λb=>(hx b).trans (e b)⟩,hb⟩
theorem IZ(r:iy):iX r.core=iX r:=nO rfl λ_=>⟨rfl,rfl,rfl⟩
structure Wh(m:Nat)(L:List oH)(D N k:Nat)(y:iB):Prop where
 s:St D N k y
 ma:Er (jh y)
 n:y.n=m
 nc:y.nc=L.length
 e:∀x,(y.C x).e=(rv L x).e
 ms:y.ms=m8 L
theorem Wh.new(h:nU many L):Wh many.toNat L D 2 0 (jx many.toNat L):=
 ⟨OL ((xO h).mono (Nat.zero_le _) (Nat.le_refl _)),Sn _ _,rfl,rfl,λ_=>rfl,rfl⟩
theorem Wh.Vc {D' N' k':Nat} {y y':iB} (h:Wh m L D N k y)(hs:St D' N' k' y')(p:jI (jh y) T S (jh y')):Wh m L D' N' k' y':=by
 obtain⟨Z,Y,V,U⟩:=p.same;exact⟨hs,h.ma.path p (Cp y),Z.trans h.n,Y.trans h.nc,λx=>(bU V x).trans (h.e x),U.trans h.ms⟩
theorem Wh.act {m:Nat} {L:List oH} {D N k:Nat} {y:iB} (h:Wh m L D N k y)(Z:D<=800000000)(Y:N+144<1000000)(V:k+1<=126)(v:AV):Wh m L (D+1300000) (N+144) (k+1) (qX y v):=by
 obtain⟨T,_,p⟩:=IB h.s.f h.s.g h.s.ok Z v;exact h.Vc (h.s.act Z Y V v) p
theorem Wh.Sw {m:Nat} {L:List oH} {D N k:Nat} {y:iB} (V:Nat->AV)(h:Wh m L D N k y):∀i,D+1300000*i<=800000000->N+144*(i+1)<1000000->k+i+1<=126->Wh m L (D+1300000*i) (N+144*i) (k+i) (Es y V i)
 |0,_,_,_=>h
 |i+1,hD,hN,hk=>by
  have ih:=Wh.Sw V h i dP dP dP;have:=ih.act dP dP dP (V i);have Z:D+1300000*(i+1)=D+1300000*i+1300000:=dP;have Y:N+144*(i+1)=N+144*i+144:=dP;rw[Z,Y];exact this
theorem Ms.still {w0:dN} {N:Nat} {X:Nat->Prop} {m nc i:Nat} {y:iB} {W W':dN} (h:Ms w0 N X m nc i y W)(hb:dV W W'):Ms w0 N X m nc i y W':=⟨h.1.still hb,h.2⟩
theorem Ms.beside {nc i:Nat} {y:iB} (h:Ms w0 N X m nc i y W)(Y:∀k,X k->w0.heap.size<=k)(hb:dV W W')(Z:Nat->Prop)(V:∀k,Z k->W.heap.size<=k/\k<W'.heap.size):Ms w0 N (λb=>X b \/Z b) m nc i y W':=
 ⟨h.1.write hb.size (λk U _=>hb.block k U) Y hb.os hb.tape hb.output Z V,h.2⟩
def jz(P:Nat->jb):Nat->Int->Int
 |0=>λ_=>0
 |k+1=>λj=>if(P k).pe.both=true/\j=(P k).pe.who/\(jz P k j=0 \/(P k).m<jz P k j)then(P k).m else jz P k j
theorem zM(P:Nat->jb):∀k,(∀p,p<k->1<=(P p).m)->∀j,jz P k j=tC P j k
 |0,_,_=>rfl
 |k+1,h,j=>by
  have ih:=zM P k (λp hp=>h p dP) j;show(if _ then _ else _)=_;rw[ih];have Z:tC P j k=0↔jA P j k=ν:=by
   unfold tC;cases hb:jA P j k with
   |none=>simp
   |some b=>
    have:=h b (by have:=(nt hb).1;omega);simp only;constructor
    ·intro e;omega
    ·intro e;exact absurd e gN
  have hc:((P k).pe.both=true/\j=(P k).pe.who/\(tC P j k=0 \/(P k).m<tC P j k))↔vD P j k:=by
   unfold vD;constructor
   ·rintro⟨a,b,c⟩;refine⟨a,b.symm,?_⟩;rcases c with c|c
    ·rw[Z.1 c]
    ·unfold tC at c;cases hb:jA P j k with
     |none=>rfl
     |some b=>rw[hb]at c;simpa using c
   ·rintro⟨a,b,c⟩;refine⟨a,b.symm,?_⟩;cases hb:jA P j k with
    |none=>exact .inl (Z.2 hb)
    |some b=>
     rw[hb]at c;right;unfold tC;rw[hb];simpa using c
  by_cases e:vD P j k
  ·rw[ag (hc.2 e)];unfold tC;rw[uX e]
  ·rw[ae (λY=>e (hc.1 Y))];unfold tC;rw[uh e]
def pS(f:Int->Int):Nat->Nat
 |0=>0
 |n+1=>pS f n+(if 0<f ((n:Int)+1)then 1 else 0)
theorem uN(f:Int->Int):∀n,((List.range n).filterMap λ(j:Nat)=>if 0<f ((j:Int)+1)then μ ((j:Int)+1,f ((j:Int)+1))else ν).length=pS f n
 |0=>rfl
 |n+1=>by
  have ih:=uN f n;rw[cH,cz,ay,ih];show _=pS f n+(if 0<f ((n:Int)+1)then 1 else 0);congr 1;by_cases e:0<f ((n:Int)+1)
  ·simp[e]
  ·simp[e]
theorem I0(J:kE r)(Q:r.n=3):(iX r).length=pS (jz r.P 3) 6/\∀e∈iX r,e.2=jz r.P 3 e.1/\1<=e.1/\e.1<=6:=by
 have U:∀p,p<3->1<=(r.P p).m:=λp hp=>(J.m p dP).1;have Y:iX r=(List.range 6).filterMap λ(z:Nat)=>if 0<jz r.P 3 ((z:Int)+1)then μ ((z:Int)+1,jz r.P 3 ((z:Int)+1))else ν:=by
  unfold iX;rw[Q];congr 1
  funext j
  rw[zM r.P 3 U,Sp _ _ _ U]
 refine⟨by rw[Y];exact uN (jz r.P 3) 6,λe V=> ?_⟩;rw[Y]at V;obtain⟨z,M,Z⟩:=cL.1 V;have UF:=aY.1 M;split at Z
 ·obtain rfl:=Option.some.inj Z;exact⟨rfl,by simp only;omega,by simp only;omega⟩
 ·exact absurd Z gN
theorem Wh.own {m:Nat} {L:List oH} {D N k:Nat} {y:iB} (h:Wh m L D N k y) {x:Nat} (hx:x<m):∃q:PS,(y.R x).K ((x:Int)+1)=μ q/\q.2=iX (y.R x)/\ox ((x:Int)+1) q.1 q.2=0/\q.2.length=pS (jz (y.R x).P 3) 6/\∀e∈q.2,e.2=jz (y.R x).P 3 e.1/\1<=e.1/\e.1<=6:=by
 obtain⟨B,M⟩:=h.s.i.own;obtain⟨Z,V,_,G,H⟩:=M.r x (by show x<y.n;rw[h.n];exact hx);obtain⟨q,Y,hs⟩:=V.own;have e:=Z.own;unfold zX at e;rw[Y]at e;rw[G]at Y hs;have U:q.2=iX (y.R x):=e.trans (IZ (y.R x));have hl:∀k j,jz ((jh y).R x).P k j=jz (y.R x).P k j:=λk=>by
  induction k with
  |zero=>intro _;rfl
  |succ k ih=>
   intro j;show(if _ then _ else _)=(if _ then _ else _)
   rw[ih j];rfl
 obtain⟨a,b⟩:=I0 V H;have Q:iX ((jh y).R x)=q.2:=e.symm;rw[Q]at a b;refine⟨q,Y,U,hs,?_,λe J=> ?_⟩
 ·rw[a];exact congrArg (λf=>pS f 6) (funext (hl 3))
 ·rw[<-hl 3];exact b e J
theorem Wh.Y1 {y:iB} (h:Wh m L D N k y) {x:Nat} (hx:x<m)(p:Nat):((y.R x).P p).m=m8 L x p:=by
 have:=h.ma x p (by show x<y.n;rw[h.n];exact hx);rw[<-h.ms];exact this
theorem Vd(a:Option Addr)(n cap:Nat)(S:Nat->SV)(E:Nat->List jv)(k:Int)(w:dN)(h:vm w a n S E)(hn:n<=1000)(j:Nat)(hj:j<n)(SL:(S j).own=k)(hb:∀i,i<j->(S i).own≠k):
 eM eN 49 #[σ a n cap,ι κ k] w λe w'=>e=ρ (.agg #[ι κ (S j).own,ι κ (S j).seq,σ (S j).a (S j).n (S j).cap])/\dV w w':=by
 have t:Hid _:=h;have u:Hid _:=hb;clear h hb
 go_in
 go_wp2_with(fail);obtain⟨A,H⟩:=fP (w.alloc (γ #[ι κ 0,ι κ 0,σ ν 0 0] 40));obtain⟨B,Y⟩:=fP (w.heap.size);have G:Hid (iM A B #[ι κ 0,ι κ 0,σ ν 0 0] 40/\dV w A):=by
  rw[<-H,<-Y];exact⟨iM.new w _ _,gM _ _⟩
 try rw[H]
 try rw[Y]
 have Un:Hid _:=Y;clear H Y
 go_wp2
 go_loopw [5] (λi wr=>∃x:Nat,x<=j/\i=ι κ x/\iM wr B #[ι κ 0,ι κ 0,σ ν 0 0] 40/\dV w wr) (λi _=>n-(intOf i).toNat)
 case atStart=>exact⟨0,Nat.zero_le _,rfl,G.out.1,G.out.2⟩
 case round=>
  obtain⟨x,hx,rfl,Z,U⟩:=hrel;obtain⟨V,rfl⟩:∃V,V=wr:=⟨_,rfl⟩
  have Zk:x<n:=dP;have kc:(x:Int)<(n:Int):=dP;have hx0:(0:Int)<=(x:Int):=dP;have hs:=t.out.below U;rcases hs.row with h0|⟨b,off,rfl,hcs⟩
  ·omega
  obtain⟨c0,c1,c2⟩:=hcs x Zk;have bl:=af _ _ c0;have Q:Hid _:=U;have Z8:Hid (iM V B #[ι κ 0,ι κ 0,σ ν 0 0] 40):=Z;clear hs hcs;by_cases M:x=j
  ·subst M;subst SL;have d0:V.cell? ⟨B,0,ν⟩=μ (ι κ 0):=Z.cell 0;have d1:V.cell? ⟨B,1,ν⟩=μ (ι κ 0):=Z.cell 1;have d2:V.cell? ⟨B,2,ν⟩=μ (σ ν 0 0):=Z.cell 2;have f0:=Z.frozen 0;have f1:=Z.frozen 1;have f2:=Z.frozen 2;have sl:=Z.lt;have J:(b==B)=false \/True:=.inr trivial;obtain⟨e1,e2,e3,e4⟩:=BL (a:=ι κ (S x).own) (b:=ι κ (S x).seq) (c:=σ (S x).a (S x).n (S x).cap) Z rfl (by rw[Un.out];exact Nat.le_refl _) U;have y:Hid _:=e3;clear Z U J e4;go_wp2_with(fail);refine aA (v:=.agg #[ι κ (S x).own,ι κ (S x).seq,σ (S x).a (S x).n (S x).cap]) (by simp[results,Tryz.results49,go_sem,d0,d1,d2]) rfl ?_;exact⟨rfl,y.out⟩
  ·have J:=u.out x dP;have alN:((S x).own==k)=false:=by simpa using J
   clear Z U
   go_wp2
   go_roundw
   case rel=>exact⟨x+1,dP,by go_num,Z8.out,Q.out⟩
   case measure=>simp[intOf];omega
theorem Y2(h:nU many L)(M:k<L.length):∃Z V Y U:Nat,∃x:Int,L[k] =⟨(Z:Int)+1,V,(Y:Int)+1,U,x⟩/\((jx many.toNat L).C k).e 0=(Z,V)/\((jx many.toNat L).C k).e 1=(Y,U)/\Z<many.toNat/\V<3/\Y<many.toNat/\U<3:=by
 obtain⟨_,y,hb⟩:=h.c L[k] (aD M);obtain⟨J,H,G,E⟩:=mY y;obtain⟨b1,b2,b3,b4⟩:=mY hb;have u:L.getD k ⟨1,0,1,0,1⟩=L[k] :=by
  rw[aR,av M];rfl
 have Q:∀d,((jx many.toNat L).C k).e d=(L[k]).at d:=λd=>by
  show(L.getD k ⟨1,0,1,0,1⟩).at d=_;rw[u]
 generalize L[k] =c at*;obtain⟨ca,t,A,j,cm⟩:=c;simp only at J H G E b1 b2 b3 b4;refine⟨(ca-1).toNat,t.toNat,(A-1).toNat,j.toNat,cm,?_,Q 0,Q 1,dP,dP,dP,dP⟩;congr 1<;>omega
theorem Et(F:List (Int×Int×Int))(r p:Int):∀E:List (Int×Int×Int),jF (E++F) r p=if(jF E r p).isSome=true then jF E r p else jF F r p
 |[] =>rfl
 |x::E=>by
  have ih:=Et F r p E;have Z:jF (x::(E++F)) r p=if x.1=r/\x.2.1=p then μ x.2.2 else jF (E++F) r p:=rfl
  have Y:jF (x::E) r p=if x.1=r/\x.2.1=p then μ x.2.2 else jF E r p:=rfl
  show jF (x::(E++F)) r p=_;rw[Z,Y];by_cases h:x.1=r/\x.2.1=p
  ·rw[ag h,ag h];rfl
  ·rw[ae h,ae h];exact ih
theorem OO(hc:nU many L)(G:k<L.length)(x p:Nat):m8 (L.take (k+1)) x p=if(x:Int)+1=L[k].b/\(p:Int)=L[k].pb then L[k].m else if(x:Int)+1=L[k].a/\(p:Int)=L[k].pa then L[k].m else m8 (L.take k) x p:=by
 have V:jG (L.take (k+1))=jG (L.take k)++ [(L[k].a,L[k].pa,L[k].m),(L[k].b,L[k].pb,L[k].m)] :=by
  rw[aw G];unfold jG;rw[cF];simp
 have Q:jG L=jG (L.take (k+1))++jG (L.drop (k+1)):=by
  unfold jG;rw[<-cF,bO]
 have Y:=hc.nd;rw[Q,V]at Y;unfold nE at Y;rw[bY,bY,az]at Y;obtain⟨_,J,H⟩:=bP.1 Y;have U:∀r q:Int,(r,q)=(L[k].a,L[k].pa) \/(r,q)=(L[k].b,L[k].pb)->(jF (jG (L.take k)) r q).isSome=false:=by
  intro r q h;cases hs:(jF (jG (L.take k)) r q).isSome with
  |false=>rfl
  |true=>
   have:=ve.1 hs;refine absurd rfl (H (r,q) this (r,q) ?_);rcases h with h|h<;>simp[h]
 have E:¬(L[k].a=L[k].b/\L[k].pa=L[k].pb):=by
  intro h;simp[h.1,h.2]at J
 unfold m8;rw[V,Et];by_cases Z:(x:Int)+1=L[k].b/\(p:Int)=L[k].pb
 ·rw[ag Z,U _ _ (.inr (by rw[Z.1,Z.2])),ae gN];unfold jF;rw[ae (λh=>E ⟨h.1.trans Z.1,h.2.trans Z.2⟩)];unfold jF;rw[ag ⟨Z.1.symm,Z.2.symm⟩];rfl
 ·rw[ae Z];by_cases hA:(x:Int)+1=L[k].a/\(p:Int)=L[k].pa
  ·rw[ag hA,U _ _ (.inl (by rw[hA.1,hA.2])),ae gN];unfold jF;rw[ag ⟨hA.1.symm,hA.2.symm⟩];rfl
  ·rw[ae hA];split
   ·rfl
   ·rename_i hs
    have M:jF (jG (L.take k)) ((x:Int)+1) (p:Int)=ν:=by
     cases h:jF (jG (L.take k)) ((x:Int)+1) (p:Int)with
     |none=>rfl
     |some v=>rw[h]at hs;exact absurd rfl hs
    rw[M];unfold jF;rw[ae (λh=>hA ⟨h.1.symm,h.2.symm⟩)];unfold jF;rw[ae (λh=>Z ⟨h.1.symm,h.2.symm⟩)];rfl
def zeros(n:Nat):Array Value:=Array.replicate n (ι κ 0)
theorem OP:(eN.info? 120).map (λi=>(i.zero,i.size,i.bytes))=μ (μ (.agg #[ι κ 0,ι κ 0,ι κ 0]),3,24):=gJ
theorem Y3(p:Nat)(hp:p<=100)(W:dN):(Instr.makeSlice 119 (ι κ (p:Int)) (ι κ (p:Int))).run eN W=.ok (σ (μ ⟨W.heap.size,0,ν⟩) p p) (W.alloc (γ (zeros (p*3)) 120)):=by
 obtain⟨V,hi,Q,Y,U⟩:=aT OP;have h:=run_makeSlice (P:=eN) W 119 120 V (.agg #[ι κ 0,ι κ 0,ι κ 0]) Tryz.underlying119 hi Q .i64 .i64 (p:Int) (p:Int) dP dP (by rw[Y];omega) (by rw[U];omega) dP;rw[h,Y];have e:madeCells (Value.agg #[ι κ 0,ι κ 0,ι κ 0]).cells (((p:Int)).toNat*3)=zeros (p*3):=by
  rw[Int.toNat_natCast];show madeCells #[ι κ 0,ι κ 0,ι κ 0] (p*3)=_;apply bq;intro j;unfold zeros madeCells;rw[cK];by_cases Z:j<p*3
  ·rw[ag Z,ic,ie];have:j%3=0 \/j%3=1 \/j%3=2:=dP;rcases this with h|h|h<;>simp[Z,h]
  ·rw[ae Z,ic,ie];simp[Z]
 rw[e,Int.toNat_natCast]
structure oT(w:dN)(N gC m nc i:Nat)(y:iB)(c:Nat->Int)(W:dN):Prop where
 g0:w.heap.size<=gC
 at_:Ms w N (λb=>b=gC) m nc i y W
 row:oV W gC 0 ((m+1)*3) (λj=>ι κ (c j))
theorem oT.lt {w:dN} {N gC m nc i:Nat} {y:iB} {c:Nat->Int} {W:dN} (h:oT w N gC m nc i y c W):gC<W.heap.size:=by
 obtain⟨⟨⟨z,Z,_,_,hx⟩,_⟩,_⟩:=h.at_;exact Z.lt (.inr ((hx gC).2 rfl))
theorem oT.still {w:dN} {N gC m nc i:Nat} {y:iB} {c:Nat->Int} {W W':dN} (h:oT w N gC m nc i y c W)(hb:dV W W'):oT w N gC m nc i y c W':=⟨h.g0,h.at_.still hb,h.row.keep (hb.block gC h.lt)⟩
theorem oT.new {w:dN} {N m nc i:Nat} {y:iB} {W:dN} (h:Ms w N (λ_=>False) m nc i y W):oT w N W.heap.size m nc i y (λ_=>0) (W.alloc (γ (zeros ((m+1)*3)) 120)):=by
 have hb:=gM W (γ (zeros ((m+1)*3)) 120);have Y:iM (W.alloc (γ (zeros ((m+1)*3)) 120)) W.heap.size (zeros ((m+1)*3)) 120:=iM.new W _ _;have Z:=h.beside (λk e=>e.elim) hb (λb=>b=W.heap.size) (λk e=>by subst e;simp);refine⟨h.1.nI.size,⟨Z.1.Sv (λb=>gN),Z.2⟩,λj V=>⟨?_,?_⟩⟩
 ·rw[Nat.zero_add,Y.cell j];unfold zeros;rw[cK,ag V]
 ·rw[Nat.zero_add];exact Y.frozen j
def qY(c:Nat->Int)(j:Nat)(v:Int):Nat->Int:=λx=>if x=j then v else c x
theorem oT.set {w:dN} {N gC m nc i:Nat} {y:iB} {c:Nat->Int} {W:dN} (h:oT w N gC m nc i y c W) {j:Nat} (Y:j<(m+1)*3)(v:Int):oT w N gC m nc i y (qY c j v) (W.setCell ⟨gC,j,ν⟩ (ι κ v)):=by
 refine⟨h.g0,⟨?_,h.at_.2⟩,?_⟩
 ·refine(oa.write h.at_.1 (W':=W.setCell ⟨gC,j,ν⟩ (ι κ v)) gN (λx _ V=>ak _ _ _ x (λe=>V e)) (λx e=>by rw[e];exact h.g0) rfl rfl rfl (λ_=>False) (λ_ e=>e.elim)).Sv (λb=>gN)
 ·have Z:=h.row.set j Y (ι κ v);rw[Nat.zero_add]at Z;refine Z.congr (λx hx=> ?_);show qV _ j (ι κ v) x=Value.int .i64 _;unfold qY;by_cases e:x=j
  ·rw[e,ot,ag rfl]
  ·rw[jn _ _ e,ae e]
def lC(g:Nat->Int):Array Value:=(Array.range 7).map λi=>ι κ (g i)
theorem wM(g:Nat->Int)(i:Nat)(h:i<7):(lC g)[i]? =μ (ι κ (g i)):=by simp[lC,h]
theorem Sx(g:Nat->Int)(n:Nat)(v:Int):(lC g).setIfInBounds n (ι κ v)=lC (qY g n v):=by
 apply bq;intro i;rw[aX];by_cases hi:i<7
 ·rw[wM _ i hi,wM _ i hi];by_cases e:n=i
  ·subst e;simp[qY,lC,hi]
  ·have Z:¬i=n:=λh=>e h.symm;simp[qY,e,Z]
 ·have hs:∀D:Nat->Int,(lC D)[i]? =ν:=λD=>aV (by simp[lC];omega);rw[hs,hs];split
  ·simp[lC];omega
  ·rfl
theorem OQ:(eN.info? 121).map (λi=>(i.zero,i.size))=μ (μ (.agg (lC λ_=>0)),7):=gJ
theorem OT(w:dN):(zeroValue 121).run eN w=.ok (.agg (lC λ_=>0)) w:=(bS OQ).1 w
