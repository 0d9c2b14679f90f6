import Derived.Test.YtieklnlbljejdaaGreatDoorM14
open Go.Value renaming int → ι, slice → σ, pointer → π, tuple → τ, nilIface → η
open Go.IntKind renaming i64 → κ
open Go.Ending renaming returned → ρ
open Go.Obj renaming cells → γ
open Option renaming none → ν, some → μ
open Go renaming World → dY, Calls → eW
open Go.Proofs.Tryz renaming prog → eX
open Go.Value renaming ownBlock → eu, cells → fF
open Go.Addr renaming off → gT
open Go.RowKit renaming intOf → eY
open List renaming range → fW, append_nil → gU, length_append → fB, length_cons → eZ, length_nil → eQ
open Classical renaming choose → gX
set_option maxRecDepth 100000
set_option maxHeartbeats 4000000
open Go.Proofs.Tryz
namespace Go.Proofs.YtieklnlbljejdaaGreatDoor
open Go.RowKit St
namespace Rt
variable {a:Option Addr} {g:Nat} {r:iM} {w:World} {y:Yt} {z:Zt}
theorem acO(w:dY):(zeroValue 195).run eX w=.ok (.agg #[σ ν 0 0,σ ν 0 0]) w:=gq
theorem Cg(w:dY)(y:Yt)(M:iP)(D k c d m:Nat)(up:Bool)(T:j3 M D k)(hD:D<=900000000)(hk:k<=90000)(hc:c<M.nc)(hd:d<2)(hm:M.n=m)(i p:Nat)(H:(M.C c).e d=(i,p))(V Z:dY)(hW:iF w V y M m)(hT:jf V)(hb:eE V Z)(E:Nat)(u v:Value)(hE:V.heap.size<=E)(Y:Z.cell? ⟨E,0,ν⟩=μ u/\Z.cell? ⟨E,1,ν⟩=μ v):
 eW eX 157 #[π (μ ⟨y.N,0,ν⟩),.agg #[ι κ ((i:Int)+1),ι κ (p:Int)]] Z λe w1=>∃R,e=ρ (π (μ ⟨R,0,ν⟩))/\(w1.cell? ⟨E,0,ν⟩=μ u/\w1.cell? ⟨E,1,ν⟩=μ v)/\
  eW eX 20 #[π (μ ⟨R,0,ν⟩),ι κ (p:Int),.bool up] w1 λe U=>∃f:Nat,e=ρ (jm f)/\(U.cell? ⟨E,0,ν⟩=μ u/\U.cell? ⟨E,1,ν⟩=μ v)/\iF w U y (M.mT c d up) m:=by
 subst hm;obtain⟨hi,hp⟩:=T.en c d hc hd;rw[H]at hi hp;obtain⟨Q,h,s1,vM,zc⟩:=hW.ex;have j:=h.below hb;have X:E<Z.heap.size:=ag _ _ Y.1;have J:¬Q.all M.n E:=λe=>by
  have:=h.Cc (k:=E) e;omega
 rw[<-s1.N];refine(NY Q _ i p Z j hi).mono ?_;rintro e w1 ⟨rfl,b1⟩;refine⟨_,rfl,⟨(aj (a:=⟨E,0,ν⟩) (b1.block E X)).trans Y.1,(aj (a:=⟨E,1,ν⟩) (b1.block E X)).trans Y.2⟩,?_⟩;have S:E<w1.heap.size:=Nat.lt_of_lt_of_le X b1.size;have A:=j.below b1;have Yz:jf w1:=jf.below (w:=V) hT (gk hb b1);refine(RG up (Q.z i) (M.R i) p k w1 (A.rt i hi) Yz (T.ok i hi) (T.fits eh hi) eh (by rw[(T.rn i hi).1];exact hp)).mono ?_;rintro e U ⟨rfl,hw⟩;have hg:=jH.iL (M.R i) p up;have vH:=A.Dp hi hw ⟨hg.n,hg.id⟩;have G:=vH.kept.block E S J;refine⟨_,rfl,⟨(aj (a:=⟨E,0,ν⟩) (G.trans (b1.block E X))).trans Y.1,(aj (a:=⟨E,1,ν⟩) (G.trans (b1.block E X))).trans Y.2⟩,?_⟩;have e1:M.mT c d up=M.jB i ((M.R i).iL p up).1:=by
  unfold iP.mT;rw[H]
 rw[e1];exact iF.qK hW.kept s1 vM zc (iF.first (gk hb b1) vH)
theorem jG.turn {x:dY} {n:iP} {c:Nat} (h:jG w y n)(hc:c<n.nc)(Y:y.gC=μ g)(up:Bool)(hx:x=((w.setCell ⟨g,c*7+4,ν⟩ (.bool up)).setCell ⟨g,c*7+5,ν⟩ (σ ν 0 0)).setCell ⟨g,c*7+6,ν⟩ (σ ν 0 0)):
 iF w x y (n.lq c {n.C c with iQ:=up,on:=λ_=>[] }) n.n:=by
 have hC:=h.rc g Y c hc;have T:=((hC.set 4 eA (.bool up)).set 5 eA (σ ν 0 0)).set 6 eA (σ ν 0 0);have rQ:x.heap.size=w.heap.size:=by rw[hx];simp
 have V:∀k,k≠g->x.heap[k]? =w.heap[k]? :=λk Z=>by
  rw[hx,aq _ _ _ k Z,aq _ _ _ k Z,aq _ _ _ k Z]
 have b1:Below 0 w x:=by rw[hx];exact(((av 0 w).setCell (Nat.zero_le _) _).setCell (Nat.zero_le _) _).setCell (Nat.zero_le _) _
 refine h.Pv hc Y _ (λ_=>σ ν 0 0) eh b1.os b1.tape b1.output (λk _ X _=>V k X) (λj U=> ?_) (λj=> ?_) ?_ (λd _=>Row.nil _ 1) (λd _=>Nat.zero_le _) rfl (λd k _ e=>by simp[eu]at e) (λk e=>by simp[eu]at e)
 ·rw[hx];rw[aW _ _ _ _ (λe=>by have:=congrArg gT e;simp at this;omega),aW _ _ _ _ (λe=>by have:=congrArg gT e;simp at this;omega),aW _ _ _ _ (λe=>by have:=congrArg gT e;simp at this;omega)]
 ·rw[hx,mE,mE,mE]
 ·rw[hx];refine T.congr λj U=> ?_;have:j=0 \/j=1 \/j=2 \/j=3 \/j=4 \/j=5 \/j=6:=eh;rcases this with rfl|rfl|rfl|rfl|rfl|rfl|rfl<;>rfl
theorem Hz(y:Yt)(n:iP)(D k c:Nat)(up:Bool)(w:dY)(h:jG w y n)(hT:jf w)(iN:j3 n D k)(hD:D<=900000000)(hk:k<=80000)(hc:c<n.nc):
 eW eX 113 #[π (μ ⟨y.N,0,ν⟩),ι κ (c:Int),.bool up] w λe w'=>e=ρ (τ #[])/\iF w w' y (n.jZ c up) n.n:=by
 have c3:=h.k3;obtain⟨a,cp,vS,Lr⟩:=h.cvs;obtain⟨g,hg,rfl⟩:=Lr c hc;rw[vS]at c3;have cl:=h.x5;have c9:=h.c9;have jX:(c:Int)<(n.nc:Int):=eh;have rF:(0:Int)<=(c:Int):=eh;have hC:=h.rc g hg c hc;have gl:=hC.lt eA;have k4:=hC.cell 4 eA;have f4:=hC.fz 4 eA;have k5:=hC.cell 5 eA;have f5:=hC.fz 5 eA;have k6:w.cell? ⟨g,c*7+5+1,ν⟩=_:=hC.cell 6 eA;have f6:w.frozen? ⟨g,c*7+5+1,ν⟩=false:=hC.fz 6 eA;have hzo:=acO;obtain⟨i0,X,Ls⟩:∃i0 X,(n.C c).e 0=(i0,X):=⟨_,_,rfl⟩
 obtain⟨i1,Y,Lt⟩:∃i1 Y,(n.C c).e 1=(i1,Y):=⟨_,_,rfl⟩
 have k0:w.cell? ⟨g,c*7,ν⟩=μ (ι κ ((i0:Int)+1)):=by
  have:=hC.cell 0 eA;rw[(Cd _ _).1,Ls]at this;exact this
 have k1:w.cell? ⟨g,c*7+1,ν⟩=μ (ι κ (X:Int)):=by
  have:=hC.cell 1 eA;rw[(Cd _ _).2.1,Ls]at this;exact this
 have k2:w.cell? ⟨g,c*7+2,ν⟩=μ (ι κ ((i1:Int)+1)):=by
  have:=hC.cell 2 eA;rw[(Cd _ _).2.2.1,Lt]at this;exact this
 have k3:w.cell? ⟨g,c*7+3,ν⟩=μ (ι κ (Y:Int)):=by
  have:=hC.cell 3 eA;rw[(Cd _ _).2.2.2.1,Lt]at this;exact this
 have H0:Hid (iF w (((w.setCell ⟨g,c*7+4,ν⟩ (.bool up)).setCell ⟨g,c*7+5,ν⟩ (σ ν 0 0)).setCell ⟨g,c*7+5+1,ν⟩ (σ ν 0 0)) y (n.lq c {n.C c with iQ:=up,on:=λ_=>[] }) n.n):=h.turn hc hg up rfl;have YW:j3 (n.lq c {n.C c with iQ:=up,on:=λ_=>[] }) D k:=iN.lq (λ_=>rfl) (λ_ _ _=>Nat.zero_le _);obtain⟨V,Lg⟩:=gg (n.lq c {n.C c with iQ:=up,on:=λ_=>[] });have u:(V.C c).e=(n.C c).e:=by
  rw[<-Lg];show(if c=c then _ else n.C c).e=_;rw[ai rfl]
 have G:V.n=n.n:=by rw[<-Lg];rfl
 have J:V.nc=n.nc:=by rw[<-Lg];rfl
 have HE1:Hid (n.jZ c up=(V.mT c 0 up).mT c 1 up):=by
  show _=_;unfold iP.jZ;rw[Lg]
 rw[Lg]at H0 YW;have kX:j3 (V.mT c 0 up) D (k+1):=YW.VE eh (by rw[J];exact hc) eA up;have j:Hid (∀Z,iF w Z y V n.n->
  eW eX 157 #[π (μ ⟨y.N,0,ν⟩),.agg #[ι κ ((i0:Int)+1),ι κ (X:Int)]] (Z.alloc (γ #[ι κ ((i0:Int)+1),ι κ (X:Int)] 192)).drew λe w1=>∃R,e=ρ (π (μ ⟨R,0,ν⟩))/\(w1.cell? ⟨Z.heap.size,0,ν⟩=μ (ι κ ((i0:Int)+1))/\w1.cell? ⟨Z.heap.size,1,ν⟩=μ (ι κ (X:Int)))/\
  eW eX 20 #[π (μ ⟨R,0,ν⟩),ι κ (X:Int),.bool up] w1 λe Q=>∃f:Nat,e=ρ (jm f)/\(Q.cell? ⟨Z.heap.size,0,ν⟩=μ (ι κ ((i0:Int)+1))/\Q.cell? ⟨Z.heap.size,1,ν⟩=μ (ι κ (X:Int)))/\iF w Q y (V.mT c 0 up) n.n):=by
  intro Z hw;have hb:=jD (gW Z (γ #[ι κ ((i0:Int)+1),ι κ (X:Int)] 192));have U:iX (Z.alloc (γ #[ι κ ((i0:Int)+1),ι κ (X:Int)] 192)).drew Z.heap.size #[ι κ ((i0:Int)+1),ι κ (X:Int)] 192:=(iX.new Z _ _).drew;exact Cg w y V D k c 0 n.n up YW hD eh (by rw[J];exact hc) eA G i0 X (by rw[u];exact Ls) Z _ hw (hw.tab h rfl hT) hb Z.heap.size _ _ (Nat.le_refl _) ⟨U.cell 0,U.cell 1⟩
 have S:Hid (∀Z,iF w Z y (V.mT c 0 up) n.n->
  eW eX 157 #[π (μ ⟨y.N,0,ν⟩),.agg #[ι κ ((i1:Int)+1),ι κ (Y:Int)]] (Z.alloc (γ #[ι κ ((i1:Int)+1),ι κ (Y:Int)] 192)).drew λe w1=>∃R,e=ρ (π (μ ⟨R,0,ν⟩))/\(w1.cell? ⟨Z.heap.size,0,ν⟩=μ (ι κ ((i1:Int)+1))/\w1.cell? ⟨Z.heap.size,1,ν⟩=μ (ι κ (Y:Int)))/\
  eW eX 20 #[π (μ ⟨R,0,ν⟩),ι κ (Y:Int),.bool up] w1 λe Q=>∃f:Nat,e=ρ (jm f)/\(Q.cell? ⟨Z.heap.size,0,ν⟩=μ (ι κ ((i1:Int)+1))/\Q.cell? ⟨Z.heap.size,1,ν⟩=μ (ι κ (Y:Int)))/\iF w Q y (n.jZ c up) n.n):=by
  intro Z hw;have hb:=jD (gW Z (γ #[ι κ ((i1:Int)+1),ι κ (Y:Int)] 192));have U:iX (Z.alloc (γ #[ι κ ((i1:Int)+1),ι κ (Y:Int)] 192)).drew Z.heap.size #[ι κ ((i1:Int)+1),ι κ (Y:Int)] 192:=(iX.new Z _ _).drew;rw[HE1.out];exact Cg w y (V.mT c 0 up) D (k+1) c 1 n.n up kX hD eh (by show c<V.nc;rw[J];exact hc) eA G i1 Y (by show(V.C c).e 1=_;rw[u];exact Lt) Z _ hw (hw.tab h rfl hT) hb Z.heap.size _ _ (Nat.le_refl _) ⟨U.cell 0,U.cell 1⟩
 obtain⟨nc,tX⟩:=gg (n.nc);rw[tX]at c3 c9 jX;obtain⟨m,hm⟩:=gg (n.n);rw[hm]at H0 j S⊢;obtain⟨M1,qT⟩:=gg (V.mT c 0 up);rw[qT]at j S;obtain⟨M2,tY⟩:=gg (n.jZ c up);rw[tY]at S⊢;clear h hT iN vS Lr hC hg hc tX hm qT tY HE1 YW kX Lg u G J Ls Lt
 go_in
 go_wp2
 go_loopw [27] (λx wr=>(x=ι κ 0/\iF w wr y V m) \/(x=ι κ 1/\iF w wr y M1 m) \/(x=ι κ 2/\iF w wr y M2 m)) (λx _=>2-(eY x).toNat)
 case atStart=>exact .inl ⟨rfl,H0.out⟩
 case round=>
  rcases hrel with⟨rfl,H⟩|⟨rfl,H⟩|⟨rfl,H⟩
  ·have hix:=acI ((i0:Int)+1) (X:Int) ((i1:Int)+1) (Y:Int);have A:=j.out wr H;obtain⟨W1,T⟩:=gg (wr.alloc (γ #[ι κ ((i0:Int)+1),ι κ (X:Int)] 192));obtain⟨E,M⟩:=gg (wr.heap.size);have F0:W1.drew.cell? ⟨E,0,ν⟩=μ (ι κ ((i0:Int)+1))/\W1.drew.cell? ⟨E,1,ν⟩=μ (ι κ (X:Int)):=by
    have U:iX (wr.alloc (γ #[ι κ ((i0:Int)+1),ι κ (X:Int)] 192)).drew wr.heap.size #[ι κ ((i0:Int)+1),ι κ (X:Int)] 192:=(iX.new wr _ _).drew;rw[T,M]at U;exact⟨U.cell 0,U.cell 1⟩
   have El:E<W1.drew.heap.size:=ag _ _ F0.1;rw[T,M]at A;have JY:Hid _:=T;have Vl:Hid _:=M;clear H T M;go_wp2_with(fail)
   try rw[JY.out]
   try rw[Vl.out]
   go_region_held3(λx=>x.cell? ⟨E,0,ν⟩=μ (ι κ ((i0:Int)+1))/\x.cell? ⟨E,1,ν⟩=μ (ι κ (X:Int)))
    (first|assumption|exact F0|exact F1|exact F2)
    (first
     |(go_at_call 157;refine A.mono ?_;rintro e w1 ⟨R,rfl,F1,hO⟩)
     |(go_at_call 20;refine hO.mono ?_;rintro e Q ⟨f,rfl,F2,hP⟩))
   all_goals
    have Lh:Hid _:=hP;clear A hO hP F0 F1 F2 El
    go_wp2
    go_roundw
    case rel=>exact .inr (.inl ⟨by go_num,Lh.out⟩)
    case measure=>simp[eY]
  ·have hix:=acJ ((i0:Int)+1) (X:Int) ((i1:Int)+1) (Y:Int);have A:=S.out wr H;obtain⟨W1,T⟩:=gg (wr.alloc (γ #[ι κ ((i1:Int)+1),ι κ (Y:Int)] 192));obtain⟨E,M⟩:=gg (wr.heap.size);have F0:W1.drew.cell? ⟨E,0,ν⟩=μ (ι κ ((i1:Int)+1))/\W1.drew.cell? ⟨E,1,ν⟩=μ (ι κ (Y:Int)):=by
    have U:iX (wr.alloc (γ #[ι κ ((i1:Int)+1),ι κ (Y:Int)] 192)).drew wr.heap.size #[ι κ ((i1:Int)+1),ι κ (Y:Int)] 192:=(iX.new wr _ _).drew;rw[T,M]at U;exact⟨U.cell 0,U.cell 1⟩
   have El:E<W1.drew.heap.size:=ag _ _ F0.1;rw[T,M]at A;have JY:Hid _:=T;have Vl:Hid _:=M;clear H T M;go_wp2_with(fail)
   try rw[JY.out]
   try rw[Vl.out]
   go_region_held3(λx=>x.cell? ⟨E,0,ν⟩=μ (ι κ ((i1:Int)+1))/\x.cell? ⟨E,1,ν⟩=μ (ι κ (Y:Int)))
    (first|assumption|exact F0|exact F1|exact F2)
    (first
     |(go_at_call 157;refine A.mono ?_;rintro e w1 ⟨R,rfl,F1,hO⟩)
     |(go_at_call 20;refine hO.mono ?_;rintro e Q ⟨f,rfl,F2,hP⟩))
   all_goals
    have Lh:Hid _:=hP;clear A hO hP F0 F1 F2 El
    go_wp2
    go_roundw
    case rel=>exact .inr (.inr ⟨by go_num,Lh.out⟩)
    case measure=>simp[eY]
  ·have HQ:Hid _:=H;clear H
   go_wp2
   first|go_end0|refine iJ rfl rfl ?_
   exact⟨rfl,HQ.out⟩
theorem Lx(y:Yt)(n:iP)(D:Nat)(i:Int)(up:Bool)(w:dY)(h:jG w y n)(U:jf w)(V:j3 n D 0)(hD:D<=900000000):
 eW eX 57 #[π (μ ⟨y.N,0,ν⟩),ι κ i,.bool up] w λe w'=>e=ρ (jm (n.iL i up).2)/\iF w w' y (n.iL i up).1 n.n:=by
 have hh:=zO y n i w h;rcases NF i n.nc with Q|⟨c,hc,rfl⟩
 ·have hi:i<0 \/(n.nc:Int)<=i:=by
   unfold hasB at Q;by_cases h0:0<=i
   ·by_cases h1:i<(n.nc:Int)
    ·simp[h0,h1]at Q
    ·omega
   ·omega
  have Y:n.iL i up=(n,6):=by unfold iP.iL;rw[ai hi]
  rw[Y];rw[Q]at hh;have X:Hid _:=iF.refl h;clear h V U
  go_in
  go_wp2_with(fail);refine hh.mono ?_;rintro e w1 ⟨rfl,rfl⟩;clear hh
  go_wp2
  go_ret;exact⟨rfl,X.out⟩
 ·rw[zI hc]at hh;have c3:=h.k3;obtain⟨a,cp,T,S⟩:=h.cvs;obtain⟨g,u,rfl⟩:=S c hc;rw[T]at c3;have cl:=h.x5;have c9:=h.c9;have jX:(c:Int)<(n.nc:Int):=eh;have rF:(0:Int)<=(c:Int):=eh;have M:w.cell? ⟨g,c*7+4,ν⟩=μ (.bool (n.C c).iQ):=(h.rc g u c hc).cell 4 eA;have gl:=(h.rc g u c hc).lt eA;have Y:n.iL (c:Int) up=if(n.C c).iQ=up then(n,7)else((n.jZ c up).gather,0):=by
   unfold iP.iL;rw[af eh,Int.toNat_natCast]
  rw[Y];by_cases Z:(n.C c).iQ=up
  ·rw[ai Z];rw[Z]at M;have X:Hid _:=iF.refl h;have H:(up==up)=true:=gY;clear h V U Y Z T S
   go_in
   go_wp2_with(fail);refine hh.mono ?_;rintro e w1 ⟨rfl,rfl⟩;clear hh
   go_wp2
   go_ret;exact⟨rfl,X.out⟩
  ·rw[af Z];have H:((n.C c).iQ==up)=false:=by simpa using Z
   have A:=Hz y n D 0 c up w h U V hD eh hc;have G:=V.jZ eh hc up;have hG:Hid (∀W,iF w W y (n.jZ c up) n.n->eW eX 111 #[π (μ ⟨y.N,0,ν⟩)] W λe w'=>e=ρ (τ #[])/\iF w w' y (n.jZ c up).gather n.n):=by
    intro W hW;refine hW.call λy1 R1 s1=> ?_;rw[<-s1.N];exact sM y1 _ _ _ W R1 G eh eh
   have e0:jm 0=η:=rfl;rw[e0];generalize (n.C c).iQ=b at M H;clear h V U Y Z T S G
   go_in
   go_wp2_with(fail);refine hh.mono ?_;rintro e w1 ⟨rfl,rfl⟩;clear hh;go_wp2_with(fail);refine A.mono ?_;rintro e w1 ⟨rfl,E⟩;have J:=hG.out _ E;clear A E;go_wp2_with(fail);refine J.mono ?_;rintro e w2 ⟨rfl,j⟩;have X:Hid _:=j;clear J j
   go_wp2
   go_ret;exact⟨rfl,X.out⟩
theorem HJ(y:iP)(i:Int):(y.tick i).1.n=y.n/\(y.tick i).1.nc=y.nc/\(y.tick i).1.ms=y.ms/\∀x,((y.tick i).1.C x).e=(y.C x).e/\((y.tick i).1.C x).iQ=(y.C x).iQ:=by
 unfold iP.tick;split
 ·exact⟨rfl,rfl,rfl,λ_=>⟨rfl,rfl⟩⟩
 ·exact lP _
theorem ry(y:iP)(c d q:Nat):(y.jo c d q).n=y.n/\(y.jo c d q).nc=y.nc/\(y.jo c d q).ms=y.ms/\∀x,((y.jo c d q).C x).e=(y.C x).e/\((y.jo c d q).C x).iQ=(y.C x).iQ:=by
 refine⟨rfl,rfl,rfl,λx=> ?_⟩;show(if x=c then({y.C c with on:=jU (y.C c).on d (((y.C c).on d).drop q)}:qA)else y.C x).e=_/\(if x=c then({y.C c with on:=jU (y.C c).on d (((y.C c).on d).drop q)}:qA)else y.C x).iQ=_;by_cases e:x=c
 ·rw[ai e];subst e;exact⟨rfl,rfl⟩
 ·rw[af e];exact⟨rfl,rfl⟩
theorem m7(y:iP)(i d many:Int):(y.deliver i d many).1.n=y.n/\(y.deliver i d many).1.nc=y.nc/\(y.deliver i d many).1.ms=y.ms/\∀x,((y.deliver i d many).1.C x).e=(y.C x).e/\((y.deliver i d many).1.C x).iQ=(y.C x).iQ:=by
 unfold iP.deliver;split
 ·exact⟨rfl,rfl,rfl,λ_=>⟨rfl,rfl⟩⟩
 ·obtain⟨g1,V,X,Y⟩:=lP (y.jo i.toNat d.toNat (min many.toNat ((y.C i.toNat).on d.toNat).length));obtain⟨r1,U,T,Z⟩:=ry y i.toNat d.toNat (min many.toNat ((y.C i.toNat).on d.toNat).length);exact⟨g1.trans r1,V.trans U,X.trans T,λx=>⟨(Y x).1.trans (Z x).1,(Y x).2.trans (Z x).2⟩⟩
theorem oH(y:iP):∀q,(y.ja q).n=y.n/\(y.ja q).nc=y.nc/\(y.ja q).ms=y.ms/\∀x,((y.ja q).C x).e=(y.C x).e/\((y.ja q).C x).iQ=(y.C x).iQ
 |0=>⟨rfl,rfl,rfl,λ_=>⟨rfl,rfl⟩⟩
 |q+1=>by
  obtain⟨g1,V,X,Y⟩:=HJ (y.ja q) ((q:Int)+1);obtain⟨r1,U,T,Z⟩:=oH y q;exact⟨g1.trans r1,V.trans U,X.trans T,λx=>⟨(Y x).1.trans (Z x).1,(Y x).2.trans (Z x).2⟩⟩
def iP.qM(y:iP)(c d:Nat):iP:=if d=0 then y.jO c else if d=1 then((y.jO c).deliver (c:Int) 0 2000).1 else y.jO (c+1)
theorem Ly(y:iP)(c d:Nat)(hd:d<2):y.qM c (d+1)=((y.qM c d).deliver (c:Int) (d:Int) 2000).1:=by
 have:d=0 \/d=1:=eh;rcases this with rfl|rfl<;>rfl
theorem lQ(y:iP):∀q,(y.jO q).n=y.n/\(y.jO q).nc=y.nc/\(y.jO q).ms=y.ms/\∀x,((y.jO q).C x).e=(y.C x).e/\((y.jO q).C x).iQ=(y.C x).iQ
 |0=>⟨rfl,rfl,rfl,λ_=>⟨rfl,rfl⟩⟩
 |q+1=>by
  obtain⟨T,S,V,X⟩:=m7 ((y.jO q).deliver (q:Int) 0 2000).1 (q:Int) 1 2000;obtain⟨g1,Q,U,Y⟩:=m7 (y.jO q) (q:Int) 0 2000;obtain⟨r1,M,J,Z⟩:=lQ y q;exact⟨T.trans (g1.trans r1),S.trans (Q.trans M),V.trans (U.trans J),λx=>⟨(X x).1.trans ((Y x).1.trans (Z x).1),(X x).2.trans ((Y x).2.trans (Z x).2)⟩⟩
theorem Lz(y:iP)(q d:Nat):(y.qM q d).n=y.n/\(y.qM q d).nc=y.nc:=by
 unfold iP.qM;split
 ·exact⟨(lQ y q).1,(lQ y q).2.1⟩
 ·split
  ·exact⟨(m7 _ _ _ _).1.trans (lQ y q).1,(m7 _ _ _ _).2.1.trans (lQ y q).2.1⟩
  ·exact⟨(lQ y (q+1)).1,(lQ y (q+1)).2.1⟩
theorem qN(y:iP):∀t,(y.turns t).n=y.n/\(y.turns t).nc=y.nc/\(y.turns t).ms=y.ms/\∀x,((y.turns t).C x).e=(y.C x).e/\((y.turns t).C x).iQ=(y.C x).iQ
 |0=>⟨rfl,rfl,rfl,λ_=>⟨rfl,rfl⟩⟩
 |t+1=>by
  obtain⟨g1,V,X,Y⟩:=lQ (y.turns t) y.nc;obtain⟨r1,U,T,Z⟩:=qN y t;exact⟨g1.trans r1,V.trans U,X.trans T,λx=>⟨(Y x).1.trans (Z x).1,(Y x).2.trans (Z x).2⟩⟩
theorem kJ(y:iP):y.round.n=y.n/\y.round.nc=y.nc/\y.round.ms=y.ms/\∀x,(y.round.C x).e=(y.C x).e/\(y.round.C x).iQ=(y.C x).iQ:=by
 obtain⟨g1,V,X,Y⟩:=qN (y.ja y.n) 12;obtain⟨r1,U,T,Z⟩:=oH y y.n;exact⟨g1.trans r1,V.trans U,X.trans T,λx=>⟨(Y x).1.trans (Z x).1,(Y x).2.trans (Z x).2⟩⟩
theorem j3.ja {y:iP} {D:Nat} (h:j3 y D 0)(Z:D<=800000000):∀q,q<=6->j3 (y.ja q) (D+6*q) 0
 |0,_=>h
 |q+1,hq=>((j3.ja h Z q eh).tick eh ((q:Int)+1)).mono eh (Nat.le_refl _)
theorem j3.jO {y:iP} {D:Nat} (h:j3 y D 0)(Z:D<=890000000):∀q,q<=9->j3 (y.jO q) (D+12000*q) 0
 |0,_=>h
 |q+1,hq=>(((j3.jO h Z q eh).deliver eh (q:Int) 0 2000).deliver eh (q:Int) 1 2000).mono eh (Nat.le_refl _)
theorem j3.qM {y:iP} {D:Nat} (h:j3 y D 0)(Z:D<=890000000)(q d:Nat)(hq:q<9)(hd:d<=2):j3 (y.qM q d) (D+12000*q+6000*d) 0:=by
 unfold iP.qM;split
 ·exact(h.jO Z q eh).mono eh (Nat.le_refl _)
 ·split
  ·exact((h.jO Z q eh).deliver eh _ _ _).mono eh (Nat.le_refl _)
  ·exact(h.jO Z (q+1) eh).mono eh (Nat.le_refl _)
theorem j3.turns {y:iP} {D:Nat} (h:j3 y D 0)(X:D<=810000000):∀t,t<=12->j3 (y.turns t) (D+108000*t) 0
 |0,_=>h
 |t+1,ht=>by
  have Y:=j3.turns h X t eh;have Z:=h.c9;exact(Y.jO eh y.nc Z).mono eh (Nat.le_refl _)
theorem j3.round {y:iP} {D:Nat} (h:j3 y D 0)(Y:D<=800000000):j3 y.round (D+1300000) 0:=by
 have n6:=h.n6;have Z:=h.ja Y y.n n6;exact(Z.turns eh 12 (Nat.le_refl _)).mono eh (Nat.le_refl _)
theorem Bk(y:Yt)(n:iP)(D:Nat)(w:dY)(h:jG w y n)(hT:jf w)(iN:j3 n D 0)(hD:D<=800000000):
 eW eX 54 #[π (μ ⟨y.N,0,ν⟩)] w λe w'=>e=ρ (τ #[])/\iF w w' y n.round n.n:=by
 have c0:=h.k0;have cl:=h.x5;have n6:=h.n6;have c9:=h.c9;obtain⟨a,cp,vS,Lr⟩:=h.cvs;obtain⟨m,S⟩:=gg (n.n);obtain⟨nc,tX⟩:=gg (n.nc);have H0:Hid (iF w w y (n.ja 0) m):=by
  show iF _ _ _ _ _;rw[<-S];exact iF.refl h
 have u:Hid (∀q W,q<m->iF w W y (n.ja q) m->eW eX 56 #[π (μ ⟨y.N,0,ν⟩),ι κ ((q:Int)+1)] W λe w'=>(∃v,e=ρ v)/\iF w w' y (n.ja (q+1)) m):=by
  intro q W hq Z;have Q:=Z.tab h S hT;refine(Z.call (E:=λe=>∃v,e=ρ v) λy1 R1 s1=> ?_);rw[<-s1.N];refine(Lu y1 (n.ja q) (D+6*q) ((q:Int)+1) W R1 Q (iN.ja hD q eh) eh).mono ?_;rintro e w' ⟨rfl,A⟩;rw[(oH n q).1,S]at A;exact⟨⟨_,rfl⟩,A⟩
 have J:=iN.ja hD m eh;have HK3:Hid (∀M W,M.nc=nc->iF w W y M m->W.cell? ⟨y.N,3,ν⟩=μ (σ a nc cp)/\y.N<W.heap.size):=by
  intro M W hM Z;have h1:=Z.k3;rw[hM,<-tX,vS]at h1;rw[<-tX];exact⟨h1,Z.lt⟩
 have Jm:Hid (n.round=(n.ja m).turns 12):=by
  show _=_;unfold iP.round;rw[S]
 obtain⟨T,Y⟩:=gg (n.ja m);have hTn:T.n=m:=by rw[<-Y,(oH n m).1,S]
 have H:T.nc=nc:=by rw[<-Y,(oH n m).2.1,tX]
 have HTT:Hid (∀W,iF w W y (n.ja m) m->iF w W y (T.turns 0) m):=by
  intro W Z;rw[Y]at Z;exact Z
 rw[Y]at J Jm;have alk:Hid (∀t c d W,t<12->c<nc->d<2->iF w W y ((T.turns t).qM c d) m->eW eX 101 #[π (μ ⟨y.N,0,ν⟩),ι κ (c:Int),ι κ (d:Int),ι κ 2000] W λe w'=>(∃v,e=ρ v)/\iF w w' y ((T.turns t).qM c (d+1)) m):=by
  intro t c d W ht hc hd Z;have Q:=Z.tab h S hT;refine(Z.call (E:=λe=>∃v,e=ρ v) λy1 R1 s1=> ?_);rw[<-s1.N];have h1:=J.turns eh t eh;have h2:=h1.qM eh c d eh eh;refine(Cf y1 _ _ (c:Int) (d:Int) 2000 W R1 Q h2 eh).mono ?_;rintro e w' ⟨rfl,A⟩;rw[<-Ly _ _ _ hd,(Lz _ _ _).1,(qN T t).1,hTn]at A;exact⟨⟨_,rfl⟩,A⟩
 have HNC:Hid (∀t,(T.turns t).nc=nc):=λt=>by rw[(qN T t).2.1,H]
 have agl:Hid (∀t W,iF w W y ((T.turns t).jO nc) m->iF w W y (T.turns (t+1)) m):=by
  intro t W Z;show iF w W y ((T.turns t).jO T.nc) m;rw[H];exact Z
 rw[S]at c0 n6⊢;rw[tX]at c9;clear h hT iN J vS Lr S tX Y hTn H
 go_in
 go_wp2
 go_loopw [10] (λx wr=>∃q:Nat,q<=m/\x=ι κ q/\iF w wr y (n.ja q) m) (λx _=>m-(eY x).toNat)
 case atStart=>exact⟨0,Nat.zero_le _,rfl,H0.out⟩
 case round=>
  obtain⟨q,hq,rfl,rY⟩:=hrel;obtain⟨V,rfl⟩:∃V,V=wr:=⟨_,rfl⟩
  by_cases kB:q<m
  ·have nQ:(q:Int)<(m:Int):=eh;have Xc:IntKind.i64.wrap ((q:Int)+1)=(q:Int)+1:=aX _ ⟨eh,eh⟩;have ht:=u.out q V kB rY;clear rY;go_wp2_with(fail);refine ht.mono ?_;rintro e w1 ⟨⟨v,rfl⟩,G⟩;have X:Hid _:=G;clear ht G
   go_wp2
   go_roundw
   case rel=>exact⟨q+1,eh,by go_num,X.out⟩
   case measure=>simp[eY];omega
  ·have xP:¬(q:Int)<(m:Int):=eh;obtain rfl:q=m:=eh;have HT0:Hid (iF w V y (T.turns 0) q):=HTT.out V rY;clear rY HTT H0 u
   go_wp2
   go_loopw [18] (λx wr=>∃t:Nat,t<=12/\x=ι κ t/\iF w wr y (T.turns t) q) (λx _=>12-(eY x).toNat)
   case atStart=>exact⟨0,Nat.zero_le _,rfl,HT0.out⟩
   case round=>
    obtain⟨t,ht,rfl,j⟩:=hrel;obtain⟨V2,rfl⟩:∃V2,V2=wr:=⟨_,rfl⟩
    by_cases acQ:t<12
    ·have agm:(t:Int)<12:=eh;obtain⟨d3,dl⟩:=HK3.out _ V2 (HNC.out t) j;have HD0:Hid _:=j;clear j
     go_wp2
     go_loopw [25] (λx wr=>∃c:Nat,c<=nc/\x=ι κ c/\iF w wr y ((T.turns t).qM c 0) q) (λx _=>nc-(eY x).toNat)
     case atStart=>exact⟨0,Nat.zero_le _,rfl,HD0.out⟩
     case round=>
      obtain⟨c,hc,rfl,U⟩:=hrel;obtain⟨V3,rfl⟩:∃V3,V3=wr:=⟨_,rfl⟩
      by_cases alm:c<nc
      ·have anQ:(c:Int)<(nc:Int):=eh;have HDc:Hid _:=U;clear U
       go_wp2
       go_loopw [28] (λx wr=>∃d:Nat,d<=2/\x=ι κ d/\iF w wr y ((T.turns t).qM c d) q) (λx _=>2-(eY x).toNat)
       case atStart=>exact⟨0,Nat.zero_le _,rfl,HDc.out⟩
       case round=>
        obtain⟨d,hd,rfl,Dn⟩:=hrel;obtain⟨V4,rfl⟩:∃V4,V4=wr:=⟨_,rfl⟩
        by_cases aln:d<2
        ·have anR:(d:Int)<2:=eh;have agn:=alk.out t c d V4 acQ alm aln Dn;clear Dn;go_wp2_with(fail);refine agn.mono ?_;rintro e w1 ⟨⟨v,rfl⟩,G⟩;have X:Hid _:=G;clear agn G
         go_wp2
         go_roundw
         case rel=>exact⟨d+1,eh,by go_num,X.out⟩
         case measure=>simp[eY];omega
        ·have ap6:¬(d:Int)<2:=eh;obtain rfl:d=2:=eh;have X:Hid _:=Dn;clear Dn
         go_wp2
         go_roundw
         case rel=>exact⟨c+1,eh,by go_num,X.out⟩
         case measure=>simp[eY];omega
      ·have ap7:¬(c:Int)<(nc:Int):=eh;obtain rfl:c=nc:=eh;have X:Hid (iF w V3 y (T.turns (t+1)) q):=agl.out t V3 U;clear U
       go_wp2
       go_roundw
       case rel=>exact⟨t+1,eh,by go_num,X.out⟩
       case measure=>simp[eY];omega
    ·have agp:¬(t:Int)<12:=eh;obtain rfl:t=12:=eh;have X:Hid (iF w V2 y n.round q):=by
      show iF _ _ _ _ _;rw[Jm.out];exact j
     clear j
     go_wp2
     first|go_end0|refine iJ rfl rfl ?_
     exact⟨rfl,X.out⟩
def qB(l:List Nat):List Value:=l.map λ(n:Nat)=>Value.int .i64 (n:Int)
def tf(n:iP)(k c:Nat):Bool:=(n.C c).iQ&& (((n.C c).e 0).1==k||((n.C c).e 1).1==k)
theorem Jq(y:Yt)(n:iP)(k:Nat)(w:dY)(h:jG w y n):
 eW eX 115 #[π (μ ⟨y.N,0,ν⟩),ι κ ((k:Int)+1)] w λe w'=>∃v,e=ρ v/\Row w' 1 v (n.lA k).length (qB (n.lA k))/\(∀b,v.ownBlock=μ b->w.heap.size<=b)/\eE w w':=by
 obtain⟨i0,hi,ox,nh,mO⟩:=aY PA;have c3:=h.k3;obtain⟨a,cp,vS,Lr⟩:=h.cvs;rw[vS]at c3;have cl:=h.x5;have c9:=h.c9;obtain⟨nc,J⟩:=gg (n.nc);have HGC:Hid (∀c,c<nc->∃g,y.gC=μ g/\a=μ ⟨g,0,ν⟩):=by
  show∀c,_->_;rw[<-J];exact Lr
 have HF:Hid (∀W q g,eE w W->q<nc->y.gC=μ g->∃S G c0 U n1 c1,W.cell? ⟨g,q*7,ν⟩=μ (ι κ ((((n.C q).e 0).1:Int)+1))/\W.cell? ⟨g,q*7+1,ν⟩=μ (ι κ (((n.C q).e 0).2:Int))/\W.cell? ⟨g,q*7+2,ν⟩=μ (ι κ ((((n.C q).e 1).1:Int)+1))/\W.cell? ⟨g,q*7+3,ν⟩=μ (ι κ (((n.C q).e 1).2:Int))/\W.cell? ⟨g,q*7+4,ν⟩=μ (.bool (n.C q).iQ)/\W.cell? ⟨g,q*7+5,ν⟩=μ (σ S G c0)/\W.cell? ⟨g,q*7+6,ν⟩=μ (σ U n1 c1)/\g<W.heap.size):=by
  intro W q g hb hq hg;have R:=h.below hb;have hC:=R.rc g hg q (by rw[J];exact hq);obtain⟨S,c0,e0⟩:=Row.shape (R.ob q 0 (by rw[J];exact hq) eA);obtain⟨U,c1,e1⟩:=Row.shape (R.ob q 1 (by rw[J];exact hq) eA);refine⟨S,((n.C q).on 0).length,c0,U,((n.C q).on 1).length,c1,hC.cell 0 eA,hC.cell 1 eA,hC.cell 2 eA,hC.cell 3 eA,hC.cell 4 eA,?_,?_,hC.lt eA⟩
  ·rw[<-e0];exact hC.cell 5 eA
  ·rw[<-e1];exact hC.cell 6 eA
 have HE:Hid (n.lA k=(fW nc).filter (tf n k)):=by
  show _=_;rw[<-J];rfl
 rw[J]at c3 c9;clear h Lr vS J
 go_in
 go_wp2
 go_loopw [5,13] (λv x wr=>∃q:Nat,q<=nc/\x=ι κ q/\Row wr 1 v ((fW q).filter (tf n k)).length (qB ((fW q).filter (tf n k)))/\(∀b,v.ownBlock=μ b->w.heap.size<=b)/\eE w wr) (λ_ x _=>nc-(eY x).toNat)
 case atStart=>exact⟨0,Nat.zero_le _,rfl,Row.nil _ _,λb hb=>by simp[eu]at hb,av _ _⟩
 case round=>
  obtain⟨q,hq,rfl,Y,jl,iK⟩:=hrel;by_cases kB:q<nc
  ·have nQ:(q:Int)<(nc:Int):=eh;have hq0:(0:Int)<=(q:Int):=eh;obtain⟨g,hg,rfl⟩:=HGC.out q kB;obtain⟨S,G,c0,U,n1,c1,k0,k1,k2,k3,k4,k5,k6,gl⟩:=HF.out wr q g iK kB hg;have HP:Hid ((fW (q+1)).filter (tf n k)=(fW q).filter (tf n k)++if tf n k q=true then [q]else []):=by
    show _=_;rw[bZ,cA];congr 1;by_cases e:tf n k q=true
    ·rw[ai e,List.filter_cons_of_pos e];rfl
    ·rw[af e,List.filter_cons_of_neg e];rfl
   have Z:tf n k q=((n.C q).iQ&& (((n.C q).e 0).1==k||((n.C q).e 1).1==k)):=rfl;have HR:Hid _:=Y;have E:Hid _:=jl;have T:Hid _:=iK;clear jl iK hg;obtain⟨L,D⟩:=gg ((fW q).filter (tf n k));have hLq:L.length<=q:=by
    rw[<-D];have:=cJ (tf n k) (fW q);simpa using this
   rw[D]at Y HP;generalize ((n.C q).e 0).1=V at k0 Z;generalize ((n.C q).e 1).1=r1 at k2 Z;generalize ((n.C q).e 0).2=p0 at k1;generalize ((n.C q).e 1).2=p1 at k3;generalize (n.C q).iQ=iQ at k4 Z;cases iQ with
   |false=>
    have H:True:=trivial;have Gu:True:=trivial;have X:tf n k q=false:=by rw[Z];first|rfl|simp[H,Gu]
    have M:Hid (Row (wr.alloc (γ #[ι κ ((V:Int)+1),ι κ (p0:Int),ι κ ((r1:Int)+1),ι κ (p1:Int),.bool false,σ S G c0,σ U n1 c1] 197)) 1 u5 ((fW (q+1)).filter (tf n k)).length (qB ((fW (q+1)).filter (tf n k)))/\(∀b,u5.ownBlock=μ b->w.heap.size<=b)/\eE w (wr.alloc (γ #[ι κ ((V:Int)+1),ι κ (p0:Int),ι κ ((r1:Int)+1),ι κ (p1:Int),.bool false,σ S G c0,σ U n1 c1] 197))):=by
     rw[HP.out,X];simp only[Bool.false_eq_true,if_false,gU];exact⟨Y.alloc _,E.out,T.out.alloc T.out.size _⟩
    clear Y Z X D
    go_wp2
    go_roundw
    case rel=>exact⟨q+1,eh,by go_num,M.out⟩
    case measure=>simp[eY];omega
   |true=>
    by_cases h0:V=k
    ·rw[h0]at k0 Z;have X:tf n k q=true:=by rw[Z];simp
     go_wp2_with(at_builtin;go_must(refine iG _ rfl (.tmp 36) (.tmp 38) 22 rfl 3 i0 (ι κ 0) 1 8 underlying22 hi ox nh mO rfl eA u5 L.length (qB L) rfl ((Y.alloc _).alloc _) _ 1 1 [ι κ (q:Int)] rfl rfl eA (yB _ _ _ _ gY) (wY _ _) (by unfold maxLen;omega) eh ?_));intro Q u A j sE zq;have M:Hid (Row A 1 (σ (μ ⟨Q,0,ν⟩) (L.length+1) u) ((fW (q+1)).filter (tf n k)).length (qB ((fW (q+1)).filter (tf n k)))/\(∀b,eu (σ (μ ⟨Q,0,ν⟩) (L.length+1) u)=μ b->w.heap.size<=b)/\eE w A):=by
      have hs:=T.out.size;rw[HP.out,X];simp only[if_true,fB,eZ,eQ];refine⟨?_,λb hb=> ?_,?_⟩
      ·have e9:qB (L++ [q])=qB L++ [ι κ (q:Int)] :=by simp[qB]
       rw[e9];exact j
      ·have:Q=b:=by simpa[eu]using hb
       subst this;rcases zq with e|e
       ·exact E.out _ e
       ·(try simp at e)
        omega
      ·exact((T.out.alloc hs _).alloc (by simp;omega) _).grown sE (by simp;omega) (λb hb=>E.out b (by rw[<-hb]))
     clear j sE zq Y Z X D
     go_wp2
     go_roundw
     case rel=>exact⟨q+1,eh,by go_num,M.out⟩
     case measure=>simp[eY];omega
    ·have H:(V==k)=false:=by simpa using h0
     have hz:¬((V:Int)+1=(k:Int)+1):=eh;have S1:((V:Int)+1==(k:Int)+1)=false:=by simpa using hz
     have Pk:¬((V:Int)=(k:Int)):=eh;by_cases h1:r1=k
     ·rw[h1]at k2 Z;have X:tf n k q=true:=by rw[Z];simp
      go_wp2_with(at_builtin;go_must(refine iG _ rfl (.tmp 36) (.tmp 38) 22 rfl 3 i0 (ι κ 0) 1 8 underlying22 hi ox nh mO rfl eA u5 L.length (qB L) rfl ((Y.alloc _).alloc _) _ 1 1 [ι κ (q:Int)] rfl rfl eA (yB _ _ _ _ gY) (wY _ _) (by unfold maxLen;omega) eh ?_));intro Q u A j sE zq;have M:Hid (Row A 1 (σ (μ ⟨Q,0,ν⟩) (L.length+1) u) ((fW (q+1)).filter (tf n k)).length (qB ((fW (q+1)).filter (tf n k)))/\(∀b,eu (σ (μ ⟨Q,0,ν⟩) (L.length+1) u)=μ b->w.heap.size<=b)/\eE w A):=by
       have hs:=T.out.size;rw[HP.out,X];simp only[if_true,fB,eZ,eQ];refine⟨?_,λb hb=> ?_,?_⟩
       ·have e9:qB (L++ [q])=qB L++ [ι κ (q:Int)] :=by simp[qB]
        rw[e9];exact j
       ·have:Q=b:=by simpa[eu]using hb
        subst this;rcases zq with e|e
        ·exact E.out _ e
        ·(try simp at e)
         omega
       ·exact((T.out.alloc hs _).alloc (by simp;omega) _).grown sE (by simp;omega) (λb hb=>E.out b (by rw[<-hb]))
      clear j sE zq Y Z X D
      go_wp2
      go_roundw
      case rel=>exact⟨q+1,eh,by go_num,M.out⟩
      case measure=>simp[eY];omega
     ·have Gu:(r1==k)=false:=by simpa using h1
      have hy:¬((r1:Int)+1=(k:Int)+1):=eh;have qj:((r1:Int)+1==(k:Int)+1)=false:=by simpa using hy
      have hy3:¬((r1:Int)=(k:Int)):=eh;have X:tf n k q=false:=by rw[Z];first|rfl|simp[H,Gu]
      have M:Hid (Row (wr.alloc (γ #[ι κ ((V:Int)+1),ι κ (p0:Int),ι κ ((r1:Int)+1),ι κ (p1:Int),.bool true,σ S G c0,σ U n1 c1] 197)) 1 u5 ((fW (q+1)).filter (tf n k)).length (qB ((fW (q+1)).filter (tf n k)))/\(∀b,u5.ownBlock=μ b->w.heap.size<=b)/\eE w (wr.alloc (γ #[ι κ ((V:Int)+1),ι κ (p0:Int),ι κ ((r1:Int)+1),ι κ (p1:Int),.bool true,σ S G c0,σ U n1 c1] 197))):=by
       rw[HP.out,X];simp only[Bool.false_eq_true,if_false,gU];exact⟨Y.alloc _,E.out,T.out.alloc T.out.size _⟩
      clear Y Z X D
      go_wp2
      go_roundw
      case rel=>exact⟨q+1,eh,by go_num,M.out⟩
      case measure=>simp[eY];omega
  ·obtain rfl:q=nc:=eh;have HW:Hid (Row wr 1 u5 (n.lA k).length (qB (n.lA k))/\(∀b,u5.ownBlock=μ b->w.heap.size<=b)/\eE w wr):=by
    show _/\_/\_;rw[HE.out];exact⟨Y,jl,iK⟩
   have xP:¬(q:Int)<(q:Int):=eh;clear Y jl iK
   go_wp2
   go_ret;exact⟨_,rfl,HW.out⟩
theorem mr.yK(h:mr w z r)(Z:r.n=3) {b:Nat} (hb:z.ph b):b<w.heap.size:=by
 rcases hb with e|e|e
 ·have:=h.A3 b;rw[Z]at this;exact this e
 ·exact h.bs.mlt b (.inl e)
 ·exact h.bs.mlt b (.inr e)
theorem mr.LA(h:mr w z r)(Y:r.n=3)(Z:z.fm.no g/\¬z.mine 3 g)(j:Nat)(v:Value):mr (w.setCell ⟨g,j,ν⟩ v) (z.plus λ_=>False) r:=by
 refine h.besides gY (λk _ hc=>aq _ _ _ k (λe=> ?_)) _ (λk e=>e.elim);have e':k=g:=e;subst e';rcases hc with hc|hc
 ·exact hc Z.1
 ·rw[Y]at hc;exact Z.2 hc
theorem jG.renew {W0 W2 W3:dY} {y1:Yt} {n n3:iP} {k:Nat} (h0:jG W0 y n)(hk:k<n.n)(hb:eE W0 W2)(hz:mr W2 z r)(hr:r.n=3/\r.id=(k:Int)+1)
 (RU:∀b,z.ph b->W0.heap.size<=b) (u:∀b,y.all n.n b \/y.ext b->z.fm.no b) (D7:y.same y1) (G:∀b,y1.all n.n b↔y.all n.n b) (zc:∀b,y1.ext b↔y.ext b \/z.ph b)
 (hW:iF W2 W3 y1 n3 n.n) (M:n3.n=n.n):
 ∃y2,jG (W3.setCell ⟨y.gR,k,ν⟩ (π (μ ⟨z.R,0,ν⟩))) y2 (n3.jB k r)/\y.same y2/\(∀b,y2.all n.n b->y.all n.n b \/z.ph b \/W2.heap.size<=b)/\(∀b,y2.ext b↔y.ext b)/\xZ W0 (W3.setCell ⟨y.gR,k,ν⟩ (π (μ ⟨z.R,0,ν⟩))) y n.n:=by
 obtain⟨y',R',s',UT,BQ⟩:=hW.ex;have D:=hW.kept;have YL:y'.gR=y.gR:=s'.gR.trans D7.gR;have hbM:y'.bM=y.bM:=s'.bM.trans D7.bM;have alo:∀b,z.ph b->b<W2.heap.size:=λb e=>hz.yK hr.1 e;have nL:∀b,y'.all n.n b->y.all n.n b \/W2.heap.size<=b:=λb e=>(UT b e).imp_left (G b).1;have VK:∀b,y.all n.n b->b<W0.heap.size:=λb e=>h0.Cc e;have alp:∀b,y'.all n.n b->b<W3.heap.size:=λb e=>R'.Cc (by rw[M];exact e);obtain⟨X,Mq⟩:∃X:Nat->Prop,X=λb=>W2.heap.size<=b/\b<W3.heap.size/\y'.all n.n b:=⟨_,rfl⟩
 have hX:∀b,X b->W2.heap.size<=b/\b<W3.heap.size:=λb e=>by rw[Mq]at e;exact⟨e.1,e.2.1⟩
 have Pk:mr W3 (z.plus X) r:=by
  refine hz.besides D.size (λb J hc=>D.block b J (λe=> ?_)) X hX;have Y:=(G b).1 e;rcases hc with hc|hc
  ·exact hc (u b (.inl Y))
  ·rw[hr.1]at hc;have:=RU b (.inl hc);have:=VK b Y;omega
 have jj:∀b,y'.all n.n b->(z.fm.no b \/X b)/\¬z.mine 3 b:=λb e=>by
  rcases nL b e with Y|Y
  ·exact⟨.inl (u b (.inl Y)),λV=>by have:=RU b (.inl V);have:=VK b Y;omega⟩
  ·exact⟨.inr (by rw[Mq];exact⟨Y,alp b e,e⟩),λV=>by have:=alo b (.inl V);omega⟩
 have N8:y'.own y.gR:=⟨.R,by rw[<-YL];rfl⟩
 have agq:(z.plus X).fm.no y.gR/\¬(z.plus X).mine 3 y.gR:=jj y.gR (.inl N8);obtain⟨Q,A⟩:=gg (W3.setCell ⟨y.gR,k,ν⟩ (π (μ ⟨z.R,0,ν⟩)));have XJ:mr Q ((z.plus X).plus λ_=>False) r:=by rw[<-A];exact Pk.LA hr.1 agq k _
 have zH:∀j,j<n.n->mr Q ((y'.z j).plus λ_=>False) (n3.R j):=λj U=>by
  rw[<-A];exact(R'.rt j (by rw[M];exact U)).LA (R'.rn j (by rw[M];exact U)).1 (R'.away j (by rw[M];exact U) y.gR (.inl N8)) k _
 have ot:∀b,b≠y.gR->Q.heap[b]? =W3.heap[b]? :=λb e=>by rw[<-A];exact aq _ _ _ b e
 have rQ:Q.heap.size=W3.heap.size:=by rw[<-A];simp
 have hat:∀l b,y'.at l=μ b->l≠ .R->Q.heap[b]? =W3.heap[b]? :=λl b e hl=>ot b (λY=>R'.wB e (show y'.at .R=μ y'.gR from rfl) hl (by rw[YL];exact Y));obtain⟨Z,hZ⟩:∃Z:Nat->Zt,Z=λj=>if j=k then(z.plus X).plus λ_=>False else(y'.z j).plus λ_=>False:=⟨_,rfl⟩
 have T:Z k=(z.plus X).plus λ_=>False:=by rw[hZ];simp
 have YD:∀j,j≠k->Z j=(y'.z j).plus λ_=>False:=λj U=>by rw[hZ];simp[U]
 have S:∀j b,(Z j).ph b->(j=k/\z.ph b) \/(j≠k/\(y'.z j).ph b):=λj b e=>by
  by_cases ej:j=k
  ·subst ej;rw[T]at e;exact .inl ⟨rfl,e⟩
  ·rw[YD j ej]at e;exact .inr ⟨ej,e⟩
 have agr:xZ W0 Q y n.n:=by
  have b1:Below 0 W3 Q:=by rw[<-A];exact(av 0 W3).setCell (Nat.zero_le _) _
  refine⟨b1.os.trans (D.os.trans hb.os),b1.tape.trans (D.tape.trans hb.tape),b1.output.trans (D.output.trans hb.output),by rw[rQ];exact Nat.le_trans hb.size D.size,λb J hn=> ?_⟩;have Y:b≠y.gR:=λe=>hn (.inl ⟨.R,by rw[e];rfl⟩);rw[ot b Y,D.block b (Nat.lt_of_lt_of_le J hb.size) (λe=>hn ((G b).1 e)),hb.block b J]
 rw[A];refine⟨{y' with z:=Z,ext:=λb=>y'.ext b/\¬z.ph b},⟨R'.n1,R'.n6,R'.c9,R'.oe.keep (hat .N _ rfl (λe=>nomatch e)),?_,R'.ri.keep (hat .I _ rfl (λe=>nomatch e)),λg hg c hc=>(R'.rc g hg c hc).keep (hat .C _ hg (λe=>nomatch e)),R'.gc,?_,?_,?_,λj U=>(R'.ib j U).keep eh (λb e=>hat (.ib j) b e (λe=>nomatch e)),λc d hc hd=>(R'.ob c d hc hd).keep eh (λb e=>hat (.on c d) b e (λe=>nomatch e)),R'.ol,R'.en,R'.inj,?_,λb e=>R'.nx b e.1,⟨R'.nM.1,λe=>R'.nM.2.1 e.1,?_⟩,R'.z0⟩,Yt.yJ D7 (Yt.yJ s' ⟨rfl,rfl,rfl,rfl,rfl,rfl,rfl,rfl⟩),?_,?_,agr⟩
 ·have h:=R'.rr.set k (by rw[M];exact hk) (π (μ ⟨z.R,0,ν⟩));rw[YL,Nat.zero_add,A]at h;show qp Q y'.gR 0 n3.n _;rw[YL];refine h.congr λj U=> ?_;show sZ _ k _ j=π (μ ⟨(Z j).R,0,ν⟩);by_cases e:j=k
  ·subst e;rw[T];unfold sZ;simp;rfl
  ·rw[YD j e,jJ _ _ e];rfl
 ·obtain⟨E,h,h2⟩:=R'.mp;refine⟨E,h.keep (ot y'.bM (λe=>R'.nM.1 ?_)),h2⟩;rw[e];exact N8
 ·intro j U;show mr Q (Z j) (jU n3.R k r j);by_cases e:j=k
  ·subst e;rw[T,iE];exact XJ
  ·rw[YD j e,iC _ _ e];exact zH j (by rw[<-M];exact U)
 ·intro j U;show(jU n3.R k r j).n=3/\(jU n3.R k r j).id=(j:Int)+1;by_cases e:j=k
  ·subst e;rw[iE];exact hr
  ·rw[iC _ _ e];exact R'.rn j U
 ·intro i hi b J;have kS:i<n.n:=by rw[<-M];exact hi
  show(Z i).fm.no b/\¬(Z i).mine 3 b;by_cases ei:i=k
  ·subst ei;rw[T];have LB:(z.fm.no b \/X b)/\¬z.mine 3 b:=by
    rcases J with e|e|⟨j,U,ju,e⟩
    ·exact jj b (.inl e)
    ·have Y:=(BQ b).1 e.1;rcases(zc b).1 Y with V|V
     ·exact⟨.inl (u b (.inr V)),λH=>e.2 (.inl H)⟩
     ·exact absurd V e.2
    ·rcases S j b e with⟨Y,_⟩|⟨Y,V⟩
     ·exact absurd Y ju
     ·exact jj b (.inr ⟨j,by rw[<-M];exact U,V⟩)
   exact⟨.inl LB.1,LB.2⟩
  ·rw[YD i ei];have LB:(y'.z i).fm.no b/\¬(y'.z i).mine 3 b:=by
    rcases J with e|e|⟨j,U,ju,e⟩
    ·exact R'.away i hi b (.inl e)
    ·exact R'.away i hi b (.inr (.inl e.1))
    ·rcases S j b e with⟨Y,V⟩|⟨Y,V⟩
     ·exact R'.away i hi b (.inr (.inl ((BQ b).2 ((zc b).2 (.inr V)))))
     ·exact R'.away i hi b (.inr (.inr ⟨j,U,ju,V⟩))
   exact⟨.inl LB.1,LB.2⟩
 ·intro i hi e;show False;rcases S i _ e with⟨_,V⟩|⟨_,V⟩
  ·have H:=RU _ V;have h:=h0.Hp;have e4:W0.heap.size<=y'.bM:=H;rw[hbM]at e4;omega
  ·exact R'.nM.2.2 i hi V
 ·intro b e;rcases e with e|⟨j,U,e⟩
  ·rcases nL b (.inl e)with Y|Y
   ·exact .inl Y
   ·exact .inr (.inr Y)
  ·rcases S j b e with⟨_,V⟩|⟨_,V⟩
   ·exact .inr (.inl V)
   ·rcases nL b (.inr ⟨j,U,V⟩)with Y|Y
    ·exact .inl Y
    ·exact .inr (.inr Y)
 ·intro b;constructor
  ·rintro⟨Y,V⟩;rcases(zc b).1 ((BQ b).1 Y)with H|H
   ·exact H
   ·exact absurd H V
  ·intro e;refine⟨(BQ b).2 ((zc b).2 (.inl e)),λV=> ?_⟩;have h:=h0.lt (.inr e);have h2:=RU b V;omega
theorem EU(up:Bool):∀(l:List Nat) (y:iP) (c:Nat),y.jL up (l++ [c])=(y.jL up l).jZ c up
 |[],_,_=>rfl
 |_::l,_,c=>EU up l _ c
theorem VL(l:List Nat)(j:Nat)(h:j<l.length):(qB l)[j]? =μ (ι κ (l[j] :Int)):=by simp[qB,h]
theorem zS(Z:dY)(y:Yt)(S M:iP)(D m:Nat)(up:Bool)(L:List Nat)(h0:jG Z y S)(h:S.n=m)(A:jf Z)(iN:j3 M D 20)(H:D<=900000000)(U:∀c∈L,c<M.nc)(hl:L.length<=9)(Y:M.n=m)(q:Nat)(T:q<L.length)(W:dY)(V:iF Z W y (M.jL up (L.take q)) m):
 eW eX 113 #[π (μ ⟨y.N,0,ν⟩),ι κ (L[q] :Int),.bool up] W λe w'=>e=ρ (τ #[])/\iF Z w' y (M.jL up (L.take (q+1))) m:=by
 have X:=V.tab h0 h A;obtain⟨s1,G,s3,s4,s5⟩:=nj up (L.take q) M;have Q:=j3.jL eh up (L.take q) iN (λc hc=>U c (dh hc));have hlq:(L.take q).length<=q:=cy _ _;have E:M.jL up (L.take (q+1))=(M.jL up (L.take q)).jZ L[q] up:=by
  rw[aB T,EU]
 rw[E];refine V.call λj J u=> ?_;rw[<-u.N];have:=Hz j _ D _ L[q] up W J X Q H eh (by rw[G];exact U _ (aG T));rw[s1,Y]at this;exact this
theorem LC(y:Yt)(n:iP)(D:Nat)(i:Int)(w:dY)(h:jG w y n)(hT:jf w)(iN:j3 n D 0)(hD:D<=900000000):
 eW eX 62 #[π (μ ⟨y.N,0,ν⟩),ι κ i] w λe w'=>e=ρ (jm (n.restart i).2)/\iF w w' y (n.restart i).1 n.n:=by
 have hh:=qU y n i w h;rcases yM i n.n with⟨hn,hi⟩|⟨k,hk,rfl⟩
 ·have hE:n.restart i=(n,6):=by unfold iP.restart;rw[ai hi]
  rw[hE];rw[hn]at hh;have HW:Hid _:=iF.refl h;clear h iN hT
  go_in
  go_wp2_with(fail);refine hh.mono ?_;rintro e w1 ⟨rfl,rfl⟩;clear hh
  go_wp2
  go_ret;exact⟨rfl,HW.out⟩
 ·rw[zN hk]at hh;have n6:=h.n6;obtain⟨L,hL⟩:=gg (n.lA k);have hE:n.restart ((k:Int)+1)=((((n.jL false L).jB k (jN ((k:Int)+1) 3 (n.ms k))).jL true L).gather,0):=by
   unfold iP.restart;have e1:((k:Int)+1-1).toNat=k:=eh;rw[af eh,e1,hL]
  rw[hE];have e0:jm 0=η:=rfl;rw[e0];obtain⟨E,hEm,hET,hEO⟩:=h.mp;have OW:=x6 y.N y.bM k E (n.ms k) w h.k2 hEm hEO eh (λp hp=>hET k p hk hp) hT (λb=>y.all n.n b \/y.ext b) (λb hb=>hb.elim (λe=>h.Cc e) (λe=>h.lt (.inr e)));have hLl:L.length<=9:=by
   rw[<-hL];exact Nat.le_trans (yP n k) h.c9
  have hLc:∀c∈L,c<n.nc:=λc hc=>by rw[<-hL]at hc;exact Bi c hc
  have YX:Hid (∀W,eE w W->eW eX 115 #[π (μ ⟨y.N,0,ν⟩),ι κ ((k:Int)+1)] W λe w'=>∃v,e=ρ v/\Row w' 1 v L.length (qB L)/\(∀b,v.ownBlock=μ b->W.heap.size<=b)/\eE W w'):=by
   intro W U;have:=Jq y n k W (h.below U);rw[hL]at this;exact this
  have HH:Hid _:=h;have HT:Hid _:=hT;have Qx:Hid _:=iN;have HK:Hid _:=hk;have G:Hid _:=hLc;clear h hT iN hEm hET hEO hE hL hLc
  go_in
  go_wp2_with(fail);refine hh.mono ?_;rintro e w1 ⟨rfl,rfl⟩;clear hh;go_wp2_with(fail);refine OW.mono ?_;rintro e W1 ⟨z,rfl,nh,kA,Pk,hz4,hz5,hz6⟩;have hca:=YX.out W1 kA;have HZ1:Hid _:=nh;have D3:Hid _:=kA;have RU:Hid (∀b,z.ph b->w.heap.size<=b):=by
   intro b hb;rcases hb with e|e|e
   ·exact Pk b e
   ·rw[e];exact hz4
   ·exact hz5 b e
  have HZX:Hid (∀b,y.all n.n b \/y.ext b->z.fm.no b):=λb hb=>hz6 b hb;clear OW nh kA Pk hz4 hz5 hz6;go_wp2_with(fail);refine hca.mono ?_;rintro e J ⟨v,rfl,iW,jl,mR⟩;clear hca;have VM:eE w J:=gk D3.out mR;have mO:mr J z (jN ((k:Int)+1) 3 (n.ms k)):=HZ1.out.below mR;have sT:(jN ((k:Int)+1) 3 (n.ms k)).n=3/\(jN ((k:Int)+1) 3 (n.ms k)).id=(k:Int)+1:=⟨rfl,rfl⟩
  have xf:∀b,z.ph b->b<W1.heap.size:=λb e=>HZ1.out.yK rfl e;obtain⟨y1,R1,s1,ha1,zc⟩:=HH.out.beside VM.size (λb qk _=>VM.block b qk) z.ph (λb e=>⟨RU.out b e,Nat.lt_of_lt_of_le (xf b e) mR.size⟩);have X3:jf J:=jf.below (w:=w) HT.out VM;have aaD:j3 n D 20:=Qx.out.mono (Nat.le_refl _) eh;obtain⟨a,cp,hve⟩:=Row.shape iW;subst hve;have Xi:Hid (∀b,eu (σ a L.length cp)=μ b->W1.heap.size<=b/\b<J.heap.size):=λb hb=>⟨jl b hb,iW.lt b hb⟩
  have CP:Hid _:=iW;have HP0:Hid (iF J J y1 (n.jL false (L.take 0)) n.n):=iF.refl R1;have HPl:Hid (∀q W,(hq:q<L.length)->iF J W y1 (n.jL false (L.take q)) n.n->eW eX 113 #[π (μ ⟨y.N,0,ν⟩),ι κ (L[q] :Int),.bool false] W λe w'=>e=ρ (τ #[])/\iF J w' y1 (n.jL false (L.take (q+1))) n.n):=by
   intro q W hq U;rw[<-s1.N];exact zS J y1 n n D n.n false L R1 rfl X3 aaD hD G.out hLl rfl q hq W U
  have Vw:Hid (∀q W M,(hq:q<L.length)->iF J W y1 M n.n->∃g,a=μ ⟨g,0,ν⟩/\W.cell? ⟨g,q,ν⟩=μ (ι κ (L[q] :Int))):=by
   intro q W M hq U;rcases CP.out.2 with⟨_,e2⟩|⟨g,c,e,_,_,_,hc,_⟩
   ·omega
   ·have ea:a=μ ⟨g,0,ν⟩:=(bQ e).1;have hg:=Xi.out g (by rw[ea];rfl);refine⟨g,ea,(aj (a:=⟨g,q,ν⟩) (U.kept.block g hg.2 (λe3=> ?_))).trans (hc q _ (VL L q hq))⟩;have X:=HH.out.Cc ((ha1 g).1 e3);have h2:=D3.out.size;omega
  have HR1:Hid _:=R1;have Z:Hid _:=s1;have HA1:Hid _:=ha1;have HE1:Hid _:=zc;have HZ2:Hid _:=mO;have agw:Hid _:=VM;have HFL:Hid _:=xf;have HT2:Hid _:=X3;have Ao:Hid _:=mR;obtain⟨len,hlen⟩:=gg (L.length);have RV:Hid _:=hlen;rw[hlen]at hLl;clear iW jl VM mO sT xf R1 s1 ha1 zc X3 mR aaD
  go_wp2
  go_loopw [31] (λx wr=>∃q:Nat,q<=len/\x=ι κ q/\iF J wr y1 (n.jL false (L.take q)) n.n) (λx _=>len-(eY x).toNat)
  case atStart=>exact⟨0,Nat.zero_le _,rfl,HP0.out⟩
  case round=>
   obtain⟨q,hq,rfl,Y⟩:=hrel;obtain⟨V,rfl⟩:∃V,V=wr:=⟨_,rfl⟩
   by_cases kB:q<len
   ·have nQ:(q:Int)<(len:Int):=eh;have hq0:(0:Int)<=(q:Int):=eh;have hqL:q<L.length:=by rw[RV.out];exact kB
    obtain⟨g,rfl,hcell⟩:=Vw.out q V _ hqL Y;have gl:=ag _ _ hcell;have Dk:=HPl.out q V hqL Y;generalize L[q] =cq at hcell Dk;clear Y;go_wp2_with(fail);refine Dk.mono ?_;rintro e w1 ⟨rfl,A⟩;have HW:Hid _:=A;clear Dk A
    go_wp2
    go_roundw
    case rel=>exact⟨q+1,eh,by go_num,HW.out⟩
    case measure=>simp[eY];omega
   ·have xP:¬(q:Int)<(len:Int):=eh;obtain rfl:q=len:=eh;have e9:L.take q=L:=by rw[<-RV.out];exact cr
    rw[e9]at Y;obtain⟨n3,xX⟩:=gg (n.jL false L);obtain⟨u,p2,p3,p4,p5⟩:=nj false L n;rw[xX]at Y u p2;have agx:j3 n3 D 20:=by
     rw[<-xX];exact(j3.jL eh false L Qx.out G.out).mono (Nat.le_refl _) (by rw[RV.out];omega)
    obtain⟨H,R2,s2,j,he2,rJ⟩:=jG.renew HH.out HK.out agw.out HZ2.out ⟨rfl,rfl⟩ RU.out HZX.out Z.out HA1.out HE1.out Y u;have VN:=agx.anew k (by rw[u];exact HK.out);have e8:n3.ms k=n.ms k:=by rw[<-xX,p3]
    rw[e8]at VN;obtain⟨T,Q⟩:=gg (n3.jB k (jN ((k:Int)+1) 3 (n.ms k)));rw[Q]at R2 VN;have VO:T.n=n.n:=by rw[<-Q];exact u
    have acV:T.nc=n.nc:=by rw[<-Q];exact p2
    have d0:=Y.k0;have dl:=Y.lt;rw[Z.out.N,Z.out.gR,Z.out.tQ,u]at d0;rw[Z.out.N]at dl;obtain⟨Rk,hRk⟩:=Y.ptr (i:=k) (by rw[u];exact HK.out);rw[Z.out.gR]at hRk;have gRl:=ag _ _ hRk;have gRf:V.frozen? ⟨y.gR,k,ν⟩=false:=by
     obtain⟨y9,R9,s9,_,_⟩:=Y.ex;have X:=R9.rr.fz k (by rw[u];exact HK.out);rw[Nat.zero_add,s9.gR,Z.out.gR]at X;exact X
    have Xc:=Bj HK.out n6;have hki:(k:Int)<(n.n:Int):=eh;have G6:(0:Int)<=(k:Int):=eh;have hTV:jf V:=Y.tab HR1.out rfl HT2.out;obtain⟨S,uO⟩:=gg (V.setCell ⟨y.gR,k,ν⟩ (π (μ ⟨z.R,0,ν⟩)));rw[uO]at R2 rJ;have alr:y.gR≠0:=λe=>HH.out.z0 ⟨.R,by rw[<-e];rfl⟩;have hT4:jf S:=λe s he hs=>by
     rw[<-uO,aW _ _ _ _ (λe1=>alr (congrArg Addr.block e1))];exact hTV e s he hs
    have aqa:S.heap.size=V.heap.size:=by rw[<-uO];simp
    have hVs:=Y.kept.size;have agz:Hid (∀q' W M,(X8:q'<L.length)->iF S W H M n.n->∃g,a=μ ⟨g,0,ν⟩/\W.cell? ⟨g,q',ν⟩=μ (ι κ (L[q'] :Int))):=by
     intro q' W M X8 U;obtain⟨g,ea,hc⟩:=Vw.out q' V _ X8 Y;have hg:=Xi.out g (by rw[ea];rfl);have D7:=D3.out.size;have QB:g≠y.gR:=λe=>by
      have:=HH.out.Rr;omega
     refine⟨g,ea,(aj (a:=⟨g,q',ν⟩) (U.kept.block g eh (λe3=> ?_))).trans ?_⟩
     ·rcases j g e3 with X|X|X
      ·have:=HH.out.Cc X;omega
      ·have:=HFL.out g X;omega
      ·omega
     ·rw[<-uO,aW _ _ _ _ (λe1=>QB (congrArg Addr.block e1).symm)];exact hc
    have HP2:Hid (iF S S H (T.jL true (L.take 0)) n.n):=by
     show iF _ _ _ _ _;rw[<-VO];exact iF.refl R2
    have als:Hid (∀q' W,(X8:q'<L.length)->iF S W H (T.jL true (L.take q')) n.n->eW eX 113 #[π (μ ⟨y.N,0,ν⟩),ι κ (L[q'] :Int),.bool true] W λe w'=>e=ρ (τ #[])/\iF S w' H (T.jL true (L.take (q'+1))) n.n):=by
     intro q' W X8 U;rw[<-s2.N];exact zS S H T T D n.n true L R2 VO hT4 VN hD (λc hc=>by rw[acV];exact G.out c hc) (by rw[RV.out];exact hLl) VO q' X8 W U
    have HG:Hid (∀W,iF S W H (T.jL true L) n.n->eW eX 111 #[π (μ ⟨y.N,0,ν⟩)] W λe w'=>e=ρ (τ #[])/\iF S w' H (T.jL true L).gather n.n):=by
     intro W U;refine U.call λy3 R3 s3=> ?_;rw[<-s2.N,<-s3.N];have h5:=j3.jL eh true L VN (λc hc=>by rw[acV];exact G.out c hc);have h6:=sM y3 _ D _ W R3 h5 eh (by rw[RV.out];omega);rw[(nj true L T).1,VO]at h6;exact h6
    have acz:Hid (∀W,iF S W H (T.jL true L).gather n.n->iF w W y ((((n.jL false L).jB k (jN ((k:Int)+1) 3 (n.ms k))).jL true L).gather) n.n):=by
     intro W U;rw[xX,Q];refine iF.qK rJ s2 (λb e=> ?_) he2 U;rcases j b e with X|X|X
     ·exact .inl X
     ·exact .inr (RU.out b X)
     ·exact .inr (Nat.le_trans agw.out.size X)
    have Lh:Hid _:=uO;clear Y R2 s2 j he2 rJ agx VN xX Q VO acV hTV hT4 uO u p2 p3 p4 p5 e8 Vw HPl HP0;go_wp2_with(fail);rw[Lh.out]
    go_loopw [49] (λx wr=>∃q':Nat,q'<=q/\x=ι κ q'/\iF S wr H (T.jL true (L.take q')) n.n) (λx _=>q-(eY x).toNat)
    case atStart=>exact⟨0,Nat.zero_le _,rfl,HP2.out⟩
    case round=>
     obtain⟨t,ht,rfl,Nd⟩:=hrel;by_cases acQ:t<q
     ·have agm:(t:Int)<(q:Int):=eh;have ht0:(0:Int)<=(t:Int):=eh;have htL:t<L.length:=by rw[RV.out];exact acQ
      obtain⟨g,rfl,hcell⟩:=agz.out t wr _ htL Nd;have gl:=ag _ _ hcell;have Dk:=als.out t wr htL Nd;generalize L[t] =cq at hcell Dk;clear Nd;go_wp2_with(fail);refine Dk.mono ?_;rintro e w1 ⟨rfl,A⟩;have HW:Hid _:=A;clear Dk A
      go_wp2
      go_roundw
      case rel=>exact⟨t+1,eh,by go_num,HW.out⟩
      case measure=>simp[eY];omega
     ·have agp:¬(t:Int)<(q:Int):=eh;obtain rfl:t=q:=eh;rw[e9]at Nd;have hg:=HG.out wr Nd;clear Nd;go_wp2_with(fail);refine hg.mono ?_;rintro e w1 ⟨rfl,A⟩;have HW:Hid _:=acz.out _ A;clear hg A
      go_wp2
      go_ret;exact⟨rfl,HW.out⟩
def zT(w:dY)(a:Option Addr)(L:List oV):Prop:=∀j,(hj:j<L.length)->∃b off,a=μ ⟨b,off,ν⟩/\w.cell? ⟨b,off+j*5,ν⟩=μ (ι κ L[j].a)/\w.cell? ⟨b,off+j*5+1,ν⟩=μ (ι κ L[j].pa)/\w.cell? ⟨b,off+j*5+2,ν⟩=μ (ι κ L[j].b)/\w.cell? ⟨b,off+j*5+3,ν⟩=μ (ι κ L[j].pb)/\w.cell? ⟨b,off+j*5+4,ν⟩=μ (ι κ L[j].m)
theorem zT.below {w':dY} {L:List oV} (h:zT w a L)(hb:eE w w'):zT w' a L:=λj T=>by
 obtain⟨b,off,e,Y,V,U,X,S⟩:=h j T;have Z:=hb.block b (ag _ _ Y);exact⟨b,off,e,(aj (a:=⟨b,off+j*5,ν⟩) Z).trans Y,(aj (a:=⟨b,off+j*5+1,ν⟩) Z).trans V,(aj (a:=⟨b,off+j*5+2,ν⟩) Z).trans U,(aj (a:=⟨b,off+j*5+3,ν⟩) Z).trans X,(aj (a:=⟨b,off+j*5+4,ν⟩) Z).trans S⟩
theorem VP:(eX.info? 193).map (·.size)=μ 4:=gq
theorem EV(a pa b pb m:Int)(w:dY):eW eX 97 #[.agg #[ι κ a,ι κ pa,ι κ b,ι κ pb,ι κ m]] w λe w'=>e=ρ (.agg #[ι κ a,ι κ pa,ι κ b,ι κ pb])/\eE w w':=by
 have Z:iX ((w.alloc (γ #[ι κ a,ι κ pa,ι κ b,ι κ pb,ι κ m] 81)).alloc (γ #[ι κ a,ι κ pa,ι κ b,ι κ pb] 193)) (w.heap.size+1) #[ι κ a,ι κ pa,ι κ b,ι κ pb] 193:=by
  have:=iX.new (w.alloc (γ #[ι κ a,ι κ pa,ι κ b,ι κ pb,ι κ m] 81)) #[ι κ a,ι κ pa,ι κ b,ι κ pb] 193;simpa using this
 have hb:eE w ((w.alloc (γ #[ι κ a,ι κ pa,ι κ b,ι κ pb,ι κ m] 81)).alloc (γ #[ι κ a,ι κ pa,ι κ b,ι κ pb] 193)):=(gW _ _).alloc gY _;have Y:=bU (P:=eX) _ (w.heap.size+1) 193 193 #[ι κ a,ι κ pa,ι κ b,ι κ pb] (0,0) _ Z underlying193 rfl VP
 go_in
 go_wp2_with(fail);refine aF (v:=.agg #[ι κ a,ι κ pa,ι κ b,ι κ pb]) (by simp[results,results97,asAddr,Y]) rfl ?_;exact⟨rfl,hb⟩
theorem xb(r p many:Int)(w:dY):eW eX 154 #[.agg #[ι κ r,ι κ p],ι κ many] w λe w'=>e=ρ (.bool (oS many r p))/\eE w w':=by
 have hb:=gW w (γ #[ι κ r,ι κ p] 192);unfold oS;by_cases Y:1<=r
 ·by_cases V:r<=many
  ·by_cases Z:0<=p
   ·by_cases X:p<3
    ·have hv:(decide (1<=r)&&decide (r<=many)&&decide (0<=p)&&decide (p<3))=true:=by simp[Y,V,Z,X]
     rw[hv];clear hv
     go_in
     go_wp2
     go_ret;exact⟨by first|rfl|(simp;omega),hb⟩
    ·have hv:(decide (1<=r)&&decide (r<=many)&&decide (0<=p)&&decide (p<3))=false:=by simp[X]
     rw[hv];clear hv
     go_in
     go_wp2
     go_ret;exact⟨by first|rfl|(simp;omega),hb⟩
   ·have hv:(decide (1<=r)&&decide (r<=many)&&decide (0<=p)&&decide (p<3))=false:=by simp[Z]
    rw[hv];clear hv
    go_in
    go_wp2
    go_ret;exact⟨by first|rfl|(simp;omega),hb⟩
  ·have hv:(decide (1<=r)&&decide (r<=many)&&decide (0<=p)&&decide (p<3))=false:=by simp[V]
   rw[hv];clear hv
   go_in
   go_wp2
   go_ret;exact⟨by first|rfl|(simp;omega),hb⟩
 ·have hv:(decide (1<=r)&&decide (r<=many)&&decide (0<=p)&&decide (p<3))=false:=by simp[Y]
  rw[hv];clear hv
  go_in
  go_wp2
  go_ret;exact⟨by first|rfl|(simp;omega),hb⟩
open Go.ChangeShapes Go.WideShapes Go.ChangeAt
theorem LD {H:Type} {enc:TypeId×Value->H} {W:dY} {n cap:Nat} {d:DataW H} {ps:List MemPlace}
 (h:DataW.Trod enc eX W 0 (λ_=>true) true 61 (σ a n cap) d ps):
 ∃L:List oV,zT W a L/\L.length=n/\n<=maxLen:=by
 obtain⟨fuel,hf⟩:=h;rcases dt underlying61 hf with⟨hcs,_⟩|⟨x,len,cp,m',n',D,Pl,hcs,_,hl,hm,Kl,_,hx⟩
 ·simp[fF]at hcs;obtain⟨rfl,rfl,rfl⟩:=hcs;exact⟨[],λj X=>by simp at X,rfl,eA⟩
 ·simp[fF]at hcs;obtain⟨rfl,rfl,rfl⟩:=hcs;simp at Kl;have A:(eX).cellsOf 81=5:=gq;rw[A]at hx;have each:∀i,i<n->∃q:oV,W.cell? (x.add (i*5))=μ (ι κ q.a)/\W.cell? (x.add (i*5+1))=μ (ι κ q.pa)/\W.cell? (x.add (i*5+2))=μ (ι κ q.b)/\W.cell? (x.add (i*5+3))=μ (ι κ q.pb)/\W.cell? (x.add (i*5+4))=μ (ι κ q.m):=by
   intro i hi;obtain⟨cs',h1,h2⟩:=hx i eh;obtain⟨_,hlen,hcell⟩:=World.cells?_some h1;obtain⟨xs,k,hk,hxy,_,Qb,Z⟩:=cZ underlying81 h2
   match xs,Qb,cs',hlen with
   |[y0,y1,y2,y3,y4],_,[v0,v1,v2,v3,v4],_=>
    have g0:=Z 0 _ rfl;have g1:=Z 1 _ rfl;have V:=Z 2 _ rfl;have M:=Z 3 _ rfl;have E:=Z 4 _ rfl;have ci:(eX).cellsOf 3=1:=gq;simp[ci]at g0 g1 V M E;obtain⟨i0,f0,_,_⟩:=bh underlying3 g0;obtain⟨i1,f1,_,_⟩:=bh underlying3 g1;obtain⟨i2,f2,_,_⟩:=bh underlying3 V;obtain⟨i3,G,_,_⟩:=bh underlying3 M;obtain⟨i4,J,_,_⟩:=bh underlying3 E;simp at f0 f1 f2 G J;subst f0 f1 f2 G J;have c0:=hcell 0 eh;have c1:=hcell 1 eh;have c2:=hcell 2 eh;have c3:=hcell 3 eh;have c4:=hcell 4 eh;rw[Go.Deep.add_add]at c0 c1 c2 c3 c4;exact⟨⟨i0,i1,i2,i3,i4⟩,c0,c1,c2,c3,c4⟩
  obtain⟨Q,S⟩:∃Q:Nat->oV,∀i,i<n->W.cell? (x.add (i*5))=μ (ι κ (Q i).a)/\W.cell? (x.add (i*5+1))=μ (ι κ (Q i).pa)/\W.cell? (x.add (i*5+2))=μ (ι κ (Q i).b)/\W.cell? (x.add (i*5+3))=μ (ι κ (Q i).pb)/\W.cell? (x.add (i*5+4))=μ (ι κ (Q i).m):=by
   refine⟨λi=>if hi:i<n then gX (each i hi)else⟨0,0,0,0,0⟩,λi hi=> ?_⟩;show W.cell? _=μ (ι κ (if hi:i<n then gX (each i hi)else⟨0,0,0,0,0⟩:oV).a)/\W.cell? _=μ (ι κ (if hi:i<n then gX (each i hi)else⟨0,0,0,0,0⟩:oV).pa)/\W.cell? _=μ (ι κ (if hi:i<n then gX (each i hi)else⟨0,0,0,0,0⟩:oV).b)/\W.cell? _=μ (ι κ (if hi:i<n then gX (each i hi)else⟨0,0,0,0,0⟩:oV).pb)/\W.cell? _=μ (ι κ (if hi:i<n then gX (each i hi)else⟨0,0,0,0,0⟩:oV).m);rw[dif_pos hi];exact Classical.choose_spec (each i hi)
  refine⟨(fW n).map Q,λj X=> ?_,gY,eh⟩;have J7:j<n:=by simpa using X
  obtain⟨b,off,Y⟩:=x;obtain⟨q0,q1,q2,U,T⟩:=S j J7;have u:Y=ν:=by simpa[Addr.add]using db (S 0 eh).1
  subst u;have hg:((fW n).map Q)[j] =Q j:=gY;rw[hg];rw[m9]at q0 q1 q2 U T;exact⟨b,off,rfl,q0,by simpa[Nat.add_assoc]using q1,by simpa[Nat.add_assoc]using q2,by simpa[Nat.add_assoc]using U,by simpa[Nat.add_assoc]using T⟩
