import Derived.Test.YtieklnlbljejdaaGreatDoorQ13
open Go.Value renaming int → ι, slice → σ, pointer → π, tuple → τ, nilIface → η
open Go.IntKind renaming i64 → κ
open Go.Ending renaming returned → ρ
open Go.Obj renaming cells → γ
open Option renaming none → ν, some → μ
open Go renaming World → dR, Calls → eT
open Go.Proofs.Tryz renaming prog → eU
open Go.Value renaming ownBlock → dV, cells → fj
open Go.Addr renaming off → gJ
open Go.RowKit renaming intOf → eV
open List renaming range → fR, append_nil → gK, length_append → eI, length_cons → eM, length_nil → eN
open Classical renaming choose → gM
set_option maxRecDepth 100000
set_option maxHeartbeats 4000000
open Go.Proofs.Tryz
namespace Go.Proofs.YtieklnlbljejdaaGreatDoor
open Go.RowKit St
namespace Rt
variable {a:Option Addr} {g:Nat} {r:iE} {w:World} {y:Yt} {z:Zt}
theorem aaG(w:dR):(zeroValue 195).run eU w=.ok (.agg #[σ ν 0 0,σ ν 0 0]) w:=gL
theorem Bj(w:dR)(y:Yt)(M:iI)(D k c d m:Nat)(up:Bool)(U:jT M D k)(hD:D<=900000000)(hk:k<=90000)(hc:c<M.nc)(hd:d<2)(hm:M.n=m)(i p:Nat)(A:(M.C c).e d=(i,p))(W0 Z:dR)(hW:iy w W0 y M m)(hT:iV W0)(hb:eh W0 Z)(E:Nat)(u v:Value)(hE:W0.heap.size<=E)(Y:Z.cell? ⟨E,0,ν⟩=μ u/\Z.cell? ⟨E,1,ν⟩=μ v):
 eT eU 157 #[π (μ ⟨y.N,0,ν⟩),.agg #[ι κ ((i:Int)+1),ι κ (p:Int)]] Z λe w1=>∃R,e=ρ (π (μ ⟨R,0,ν⟩))/\(w1.cell? ⟨E,0,ν⟩=μ u/\w1.cell? ⟨E,1,ν⟩=μ v)/\
  eT eU 20 #[π (μ ⟨R,0,ν⟩),ι κ (p:Int),.bool up] w1 λe V=>∃f:Nat,e=ρ (jb f)/\(V.cell? ⟨E,0,ν⟩=μ u/\V.cell? ⟨E,1,ν⟩=μ v)/\iy w V y (M.mB c d up) m:=by
 subst hm;obtain⟨hi,j⟩:=U.en c d hc hd;rw[A]at hi j;obtain⟨Q,R0,s1,xA,yq⟩:=hW.ex;have R1:=R0.below hb;have X:E<Z.heap.size:=af _ _ Y.1;have T:¬Q.all M.n E:=λe=>by
  have:=R0.Bf (k:=E) e;omega
 rw[<-s1.N];refine(Mv Q _ i p Z R1 hi).mono ?_;rintro e w1 ⟨rfl,b1⟩;refine⟨_,rfl,⟨(ai (a:=⟨E,0,ν⟩) (b1.block E X)).trans Y.1,(ai (a:=⟨E,1,ν⟩) (b1.block E X)).trans Y.2⟩,?_⟩;have J:E<w1.heap.size:=Nat.lt_of_lt_of_le X b1.size;have h:=R1.below b1;have Vp:iV w1:=iV.below (w:=W0) hT (fY hb b1);refine(PX up (Q.z i) (M.R i) p k w1 (h.rt i hi) Vp (U.ok i hi) (U.fits dU hi) dU (by rw[(U.rn i hi).1];exact j)).mono ?_;rintro e V ⟨rfl,hw⟩;have H:=jx.iD (M.R i) p up;have G:=h.Ct hi hw ⟨H.n,H.id⟩;have sM:=G.kept.block E J T;refine⟨_,rfl,⟨(ai (a:=⟨E,0,ν⟩) (sM.trans (b1.block E X))).trans Y.1,(ai (a:=⟨E,1,ν⟩) (sM.trans (b1.block E X))).trans Y.2⟩,?_⟩;have e1:M.mB c d up=M.jq i ((M.R i).iD p up).1:=by
  unfold iI.mB;rw[A]
 rw[e1];exact iy.qf hW.kept s1 xA yq (iy.first (fY hb b1) G)
theorem ju.turn {x:dR} {n:iI} {c:Nat} (h:ju w y n)(hc:c<n.nc)(Y:y.gC=μ g)(up:Bool)(hx:x=((w.setCell ⟨g,c*7+4,ν⟩ (.bool up)).setCell ⟨g,c*7+5,ν⟩ (σ ν 0 0)).setCell ⟨g,c*7+6,ν⟩ (σ ν 0 0)):
 iy w x y (n.kX c {n.C c with iR:=up,on:=λ_=>[] }) n.n:=by
 have hC:=h.rc g Y c hc;have V:=((hC.set 4 dX (.bool up)).set 5 dX (σ ν 0 0)).set 6 dX (σ ν 0 0);have qX:x.heap.size=w.heap.size:=by rw[hx];simp
 have U:∀k,k≠g->x.heap[k]? =w.heap[k]? :=λk Z=>by
  rw[hx,aq _ _ _ k Z,aq _ _ _ k Z,aq _ _ _ k Z]
 have b1:Below 0 w x:=by rw[hx];exact(((au 0 w).setCell (Nat.zero_le _) _).setCell (Nat.zero_le _) _).setCell (Nat.zero_le _) _
 refine h.NQ hc Y _ (λ_=>σ ν 0 0) dU b1.os b1.tape b1.output (λk _ X _=>U k X) (λj T=> ?_) (λj=> ?_) ?_ (λd _=>Row.nil _ 1) (λd _=>Nat.zero_le _) rfl (λd k _ e=>by simp[dV]at e) (λk e=>by simp[dV]at e)
 ·rw[hx];rw[aU _ _ _ _ (λe=>by have:=congrArg gJ e;simp at this;omega),aU _ _ _ _ (λe=>by have:=congrArg gJ e;simp at this;omega),aU _ _ _ _ (λe=>by have:=congrArg gJ e;simp at this;omega)]
 ·rw[hx,lS,lS,lS]
 ·rw[hx];refine V.congr λj T=> ?_;have:j=0 \/j=1 \/j=2 \/j=3 \/j=4 \/j=5 \/j=6:=dU;rcases this with rfl|rfl|rfl|rfl|rfl|rfl|rfl<;>rfl
theorem Gf(y:Yt)(n:iI)(D k c:Nat)(up:Bool)(w:dR)(h:ju w y n)(hT:iV w)(iF:jT n D k)(hD:D<=900000000)(hk:k<=80000)(hc:c<n.nc):
 eT eU 113 #[π (μ ⟨y.N,0,ν⟩),ι κ (c:Int),.bool up] w λe w'=>e=ρ (τ #[])/\iy w w' y (n.jP c up) n.n:=by
 have c3:=h.k3;obtain⟨a,cp,uI,J5⟩:=h.Yo;obtain⟨g,hg,rfl⟩:=J5 c hc;rw[uI]at c3;have cl:=h.wU;have c9:=h.c9;have jN:(c:Int)<(n.nc:Int):=dU;have qD:(0:Int)<=(c:Int):=dU;have hC:=h.rc g hg c hc;have gl:=hC.lt dX;have k4:=hC.cell 4 dX;have f4:=hC.fz 4 dX;have k5:=hC.cell 5 dX;have f5:=hC.fz 5 dX;have k6:w.cell? ⟨g,c*7+5+1,ν⟩=_:=hC.cell 6 dX;have f6:w.frozen? ⟨g,c*7+5+1,ν⟩=false:=hC.fz 6 dX;have hzo:=aaG;obtain⟨i0,Y,J6⟩:∃i0 Y,(n.C c).e 0=(i0,Y):=⟨_,_,rfl⟩
 obtain⟨i1,Z,J7⟩:∃i1 Z,(n.C c).e 1=(i1,Z):=⟨_,_,rfl⟩
 have k0:w.cell? ⟨g,c*7,ν⟩=μ (ι κ ((i0:Int)+1)):=by
  have:=hC.cell 0 dX;rw[(Bg _ _).1,J6]at this;exact this
 have k1:w.cell? ⟨g,c*7+1,ν⟩=μ (ι κ (Y:Int)):=by
  have:=hC.cell 1 dX;rw[(Bg _ _).2.1,J6]at this;exact this
 have k2:w.cell? ⟨g,c*7+2,ν⟩=μ (ι κ ((i1:Int)+1)):=by
  have:=hC.cell 2 dX;rw[(Bg _ _).2.2.1,J7]at this;exact this
 have k3:w.cell? ⟨g,c*7+3,ν⟩=μ (ι κ (Z:Int)):=by
  have:=hC.cell 3 dX;rw[(Bg _ _).2.2.2.1,J7]at this;exact this
 have H0:Hid (iy w (((w.setCell ⟨g,c*7+4,ν⟩ (.bool up)).setCell ⟨g,c*7+5,ν⟩ (σ ν 0 0)).setCell ⟨g,c*7+5+1,ν⟩ (σ ν 0 0)) y (n.kX c {n.C c with iR:=up,on:=λ_=>[] }) n.n):=h.turn hc hg up rfl;have WT:jT (n.kX c {n.C c with iR:=up,on:=λ_=>[] }) D k:=iF.kX (λ_=>rfl) (λ_ _ _=>Nat.zero_le _);obtain⟨X,JW⟩:=fW (n.kX c {n.C c with iR:=up,on:=λ_=>[] });have j:(X.C c).e=(n.C c).e:=by
  rw[<-JW];show(if c=c then _ else n.C c).e=_;rw[ag rfl]
 have G:X.n=n.n:=by rw[<-JW];rfl
 have J:X.nc=n.nc:=by rw[<-JW];rfl
 have Yk:Hid (n.jP c up=(X.mB c 0 up).mB c 1 up):=by
  show _=_;unfold iI.jP;rw[JW]
 rw[JW]at H0 WT;have kK:jT (X.mB c 0 up) D (k+1):=WT.TY dU (by rw[J];exact hc) dX up;have Yv:Hid (∀W0,iy w W0 y X n.n->
  eT eU 157 #[π (μ ⟨y.N,0,ν⟩),.agg #[ι κ ((i0:Int)+1),ι κ (Y:Int)]] (W0.alloc (γ #[ι κ ((i0:Int)+1),ι κ (Y:Int)] 192)).drew λe w1=>∃R,e=ρ (π (μ ⟨R,0,ν⟩))/\(w1.cell? ⟨W0.heap.size,0,ν⟩=μ (ι κ ((i0:Int)+1))/\w1.cell? ⟨W0.heap.size,1,ν⟩=μ (ι κ (Y:Int)))/\
  eT eU 20 #[π (μ ⟨R,0,ν⟩),ι κ (Y:Int),.bool up] w1 λe U=>∃f:Nat,e=ρ (jb f)/\(U.cell? ⟨W0.heap.size,0,ν⟩=μ (ι κ ((i0:Int)+1))/\U.cell? ⟨W0.heap.size,1,ν⟩=μ (ι κ (Y:Int)))/\iy w U y (X.mB c 0 up) n.n):=by
  intro W0 hw;have hb:=jt (gN W0 (γ #[ι κ ((i0:Int)+1),ι κ (Y:Int)] 192));have V:jc (W0.alloc (γ #[ι κ ((i0:Int)+1),ι κ (Y:Int)] 192)).drew W0.heap.size #[ι κ ((i0:Int)+1),ι κ (Y:Int)] 192:=(jc.new W0 _ _).drew;exact Bj w y X D k c 0 n.n up WT hD dU (by rw[J];exact hc) dX G i0 Y (by rw[j];exact J6) W0 _ hw (hw.tab h rfl hT) hb W0.heap.size _ _ (Nat.le_refl _) ⟨V.cell 0,V.cell 1⟩
 have M:Hid (∀W0,iy w W0 y (X.mB c 0 up) n.n->
  eT eU 157 #[π (μ ⟨y.N,0,ν⟩),.agg #[ι κ ((i1:Int)+1),ι κ (Z:Int)]] (W0.alloc (γ #[ι κ ((i1:Int)+1),ι κ (Z:Int)] 192)).drew λe w1=>∃R,e=ρ (π (μ ⟨R,0,ν⟩))/\(w1.cell? ⟨W0.heap.size,0,ν⟩=μ (ι κ ((i1:Int)+1))/\w1.cell? ⟨W0.heap.size,1,ν⟩=μ (ι κ (Z:Int)))/\
  eT eU 20 #[π (μ ⟨R,0,ν⟩),ι κ (Z:Int),.bool up] w1 λe U=>∃f:Nat,e=ρ (jb f)/\(U.cell? ⟨W0.heap.size,0,ν⟩=μ (ι κ ((i1:Int)+1))/\U.cell? ⟨W0.heap.size,1,ν⟩=μ (ι κ (Z:Int)))/\iy w U y (n.jP c up) n.n):=by
  intro W0 hw;have hb:=jt (gN W0 (γ #[ι κ ((i1:Int)+1),ι κ (Z:Int)] 192));have V:jc (W0.alloc (γ #[ι κ ((i1:Int)+1),ι κ (Z:Int)] 192)).drew W0.heap.size #[ι κ ((i1:Int)+1),ι κ (Z:Int)] 192:=(jc.new W0 _ _).drew;rw[Yk.out];exact Bj w y (X.mB c 0 up) D (k+1) c 1 n.n up kK hD dU (by show c<X.nc;rw[J];exact hc) dX G i1 Z (by show(X.C c).e 1=_;rw[j];exact J7) W0 _ hw (hw.tab h rfl hT) hb W0.heap.size _ _ (Nat.le_refl _) ⟨V.cell 0,V.cell 1⟩
 obtain⟨nc,rA⟩:=fW (n.nc);rw[rA]at c3 c9 jN;obtain⟨m,hm⟩:=fW (n.n);rw[hm]at H0 Yv M⊢;obtain⟨M1,tX⟩:=fW (X.mB c 0 up);rw[tX]at Yv M;obtain⟨M2,tj⟩:=fW (n.jP c up);rw[tj]at M⊢;clear h hT iF uI J5 hC hg hc rA hm tX tj Yk WT kK JW j G J J6 J7
 go_in
 go_wp2
 go_loopw [27] (λx wr=>(x=ι κ 0/\iy w wr y X m) \/(x=ι κ 1/\iy w wr y M1 m) \/(x=ι κ 2/\iy w wr y M2 m)) (λx _=>2-(eV x).toNat)
 case atStart=>exact .inl ⟨rfl,H0.out⟩
 case round=>
  rcases hrel with⟨rfl,H⟩|⟨rfl,H⟩|⟨rfl,H⟩
  ·have hix:=aaA ((i0:Int)+1) (Y:Int) ((i1:Int)+1) (Z:Int);have hE:=Yv.out wr H;obtain⟨u,Q⟩:=fW (wr.alloc (γ #[ι κ ((i0:Int)+1),ι κ (Y:Int)] 192));obtain⟨E,T⟩:=fW (wr.heap.size);have A:u.drew.cell? ⟨E,0,ν⟩=μ (ι κ ((i0:Int)+1))/\u.drew.cell? ⟨E,1,ν⟩=μ (ι κ (Y:Int)):=by
    have V:jc (wr.alloc (γ #[ι κ ((i0:Int)+1),ι κ (Y:Int)] 192)).drew wr.heap.size #[ι κ ((i0:Int)+1),ι κ (Y:Int)] 192:=(jc.new wr _ _).drew;rw[Q,T]at V;exact⟨V.cell 0,V.cell 1⟩
   have El:E<u.drew.heap.size:=af _ _ A.1;rw[Q,T]at hE;have P8:Hid _:=Q;have TG:Hid _:=T;clear H Q T;go_wp2_with(fail)
   try rw[P8.out]
   try rw[TG.out]
   go_region_held3(λx=>x.cell? ⟨E,0,ν⟩=μ (ι κ ((i0:Int)+1))/\x.cell? ⟨E,1,ν⟩=μ (ι κ (Y:Int)))
    (first|assumption|exact A|exact F1|exact F2)
    (first
     |(go_at_call 157;refine hE.mono ?_;rintro e w1 ⟨R,rfl,F1,hO⟩)
     |(go_at_call 20;refine hO.mono ?_;rintro e U ⟨f,rfl,F2,hP⟩))
   all_goals
    have JX:Hid _:=hP;clear hE hO hP A F1 F2 El
    go_wp2
    go_roundw
    case rel=>exact .inr (.inl ⟨by go_num,JX.out⟩)
    case measure=>simp[eV]
  ·have hix:=aaB ((i0:Int)+1) (Y:Int) ((i1:Int)+1) (Z:Int);have hE:=M.out wr H;obtain⟨u,Q⟩:=fW (wr.alloc (γ #[ι κ ((i1:Int)+1),ι κ (Z:Int)] 192));obtain⟨E,T⟩:=fW (wr.heap.size);have A:u.drew.cell? ⟨E,0,ν⟩=μ (ι κ ((i1:Int)+1))/\u.drew.cell? ⟨E,1,ν⟩=μ (ι κ (Z:Int)):=by
    have V:jc (wr.alloc (γ #[ι κ ((i1:Int)+1),ι κ (Z:Int)] 192)).drew wr.heap.size #[ι κ ((i1:Int)+1),ι κ (Z:Int)] 192:=(jc.new wr _ _).drew;rw[Q,T]at V;exact⟨V.cell 0,V.cell 1⟩
   have El:E<u.drew.heap.size:=af _ _ A.1;rw[Q,T]at hE;have P8:Hid _:=Q;have TG:Hid _:=T;clear H Q T;go_wp2_with(fail)
   try rw[P8.out]
   try rw[TG.out]
   go_region_held3(λx=>x.cell? ⟨E,0,ν⟩=μ (ι κ ((i1:Int)+1))/\x.cell? ⟨E,1,ν⟩=μ (ι κ (Z:Int)))
    (first|assumption|exact A|exact F1|exact F2)
    (first
     |(go_at_call 157;refine hE.mono ?_;rintro e w1 ⟨R,rfl,F1,hO⟩)
     |(go_at_call 20;refine hO.mono ?_;rintro e U ⟨f,rfl,F2,hP⟩))
   all_goals
    have JX:Hid _:=hP;clear hE hO hP A F1 F2 El
    go_wp2
    go_roundw
    case rel=>exact .inr (.inr ⟨by go_num,JX.out⟩)
    case measure=>simp[eV]
  ·have HQ:Hid _:=H;clear H
   go_wp2
   first|go_end0|refine iC rfl rfl ?_
   exact⟨rfl,HQ.out⟩
theorem Ka(y:Yt)(n:iI)(D:Nat)(i:Int)(up:Bool)(w:dR)(h:ju w y n)(U:iV w)(Y:jT n D 0)(hD:D<=900000000):
 eT eU 57 #[π (μ ⟨y.N,0,ν⟩),ι κ i,.bool up] w λe w'=>e=ρ (jb (n.iD i up).2)/\iy w w' y (n.iD i up).1 n.n:=by
 have hh:=yX y n i w h;rcases Mc i n.nc with M|⟨c,hc,rfl⟩
 ·have hi:i<0 \/(n.nc:Int)<=i:=by
   unfold hasB at M;by_cases h0:0<=i
   ·by_cases h1:i<(n.nc:Int)
    ·simp[h0,h1]at M
    ·omega
   ·omega
  have X:n.iD i up=(n,6):=by unfold iI.iD;rw[ag hi]
  rw[X];rw[M]at hh;have V:Hid _:=iy.refl h;clear h Y U
  go_in
  go_wp2_with(fail);refine hh.mono ?_;rintro e w1 ⟨rfl,rfl⟩;clear hh
  go_wp2
  go_ret;exact⟨rfl,V.out⟩
 ·rw[tJ hc]at hh;have c3:=h.k3;obtain⟨a,cp,Q,T⟩:=h.Yo;obtain⟨g,G,rfl⟩:=T c hc;rw[Q]at c3;have cl:=h.wU;have c9:=h.c9;have jN:(c:Int)<(n.nc:Int):=dU;have qD:(0:Int)<=(c:Int):=dU;have k4:w.cell? ⟨g,c*7+4,ν⟩=μ (.bool (n.C c).iR):=(h.rc g G c hc).cell 4 dX;have gl:=(h.rc g G c hc).lt dX;have X:n.iD (c:Int) up=if(n.C c).iR=up then(n,7)else((n.jP c up).gather,0):=by
   unfold iI.iD;rw[ae dU,Int.toNat_natCast]
  rw[X];by_cases Z:(n.C c).iR=up
  ·rw[ag Z];rw[Z]at k4;have V:Hid _:=iy.refl h;have Tp:(up==up)=true:=gO;clear h Y U X Z Q T
   go_in
   go_wp2_with(fail);refine hh.mono ?_;rintro e w1 ⟨rfl,rfl⟩;clear hh
   go_wp2
   go_ret;exact⟨rfl,V.out⟩
  ·rw[ae Z];have Tp:((n.C c).iR==up)=false:=by simpa using Z
   have j:=Gf y n D 0 c up w h U Y hD dU hc;have J:=Y.jP dU hc up;have hG:Hid (∀W,iy w W y (n.jP c up) n.n->eT eU 111 #[π (μ ⟨y.N,0,ν⟩)] W λe w'=>e=ρ (τ #[])/\iy w w' y (n.jP c up).gather n.n):=by
    intro W hW;refine hW.call λy1 R1 s1=> ?_;rw[<-s1.N];exact rS y1 _ _ _ W R1 J dU dU
   have e0:jb 0=η:=rfl;rw[e0];generalize (n.C c).iR=b at k4 Tp;clear h Y U X Z Q T J
   go_in
   go_wp2_with(fail);refine hh.mono ?_;rintro e w1 ⟨rfl,rfl⟩;clear hh;go_wp2_with(fail);refine j.mono ?_;rintro e w1 ⟨rfl,H⟩;have A:=hG.out _ H;clear j H;go_wp2_with(fail);refine A.mono ?_;rintro e w2 ⟨rfl,u⟩;have V:Hid _:=u;clear A u
   go_wp2
   go_ret;exact⟨rfl,V.out⟩
theorem Al(y:iI)(i:Int):(y.tick i).1.n=y.n/\(y.tick i).1.nc=y.nc/\(y.tick i).1.ms=y.ms/\∀x,((y.tick i).1.C x).e=(y.C x).e/\((y.tick i).1.C x).iR=(y.C x).iR:=by
 unfold iI.tick;split
 ·exact⟨rfl,rfl,rfl,λ_=>⟨rfl,rfl⟩⟩
 ·exact ln _
theorem qI(y:iI)(c d q:Nat):(y.jg c d q).n=y.n/\(y.jg c d q).nc=y.nc/\(y.jg c d q).ms=y.ms/\∀x,((y.jg c d q).C x).e=(y.C x).e/\((y.jg c d q).C x).iR=(y.C x).iR:=by
 refine⟨rfl,rfl,rfl,λx=> ?_⟩;show(if x=c then({y.C c with on:=jK (y.C c).on d (((y.C c).on d).drop q)}:pT)else y.C x).e=_/\(if x=c then({y.C c with on:=jK (y.C c).on d (((y.C c).on d).drop q)}:pT)else y.C x).iR=_;by_cases e:x=c
 ·rw[ag e];subst e;exact⟨rfl,rfl⟩
 ·rw[ae e];exact⟨rfl,rfl⟩
theorem mE(y:iI)(i d many:Int):(y.deliver i d many).1.n=y.n/\(y.deliver i d many).1.nc=y.nc/\(y.deliver i d many).1.ms=y.ms/\∀x,((y.deliver i d many).1.C x).e=(y.C x).e/\((y.deliver i d many).1.C x).iR=(y.C x).iR:=by
 unfold iI.deliver;split
 ·exact⟨rfl,rfl,rfl,λ_=>⟨rfl,rfl⟩⟩
 ·obtain⟨g1,X,U,Y⟩:=ln (y.jg i.toNat d.toNat (min many.toNat ((y.C i.toNat).on d.toNat).length));obtain⟨r1,T,V,Z⟩:=qI y i.toNat d.toNat (min many.toNat ((y.C i.toNat).on d.toNat).length);exact⟨g1.trans r1,X.trans T,U.trans V,λx=>⟨(Y x).1.trans (Z x).1,(Y x).2.trans (Z x).2⟩⟩
theorem nY(y:iI):∀q,(y.iN q).n=y.n/\(y.iN q).nc=y.nc/\(y.iN q).ms=y.ms/\∀x,((y.iN q).C x).e=(y.C x).e/\((y.iN q).C x).iR=(y.C x).iR
 |0=>⟨rfl,rfl,rfl,λ_=>⟨rfl,rfl⟩⟩
 |q+1=>by
  obtain⟨g1,X,U,Y⟩:=Al (y.iN q) ((q:Int)+1);obtain⟨r1,T,V,Z⟩:=nY y q;exact⟨g1.trans r1,X.trans T,U.trans V,λx=>⟨(Y x).1.trans (Z x).1,(Y x).2.trans (Z x).2⟩⟩
def iI.qh(y:iI)(c d:Nat):iI:=if d=0 then y.jF c else if d=1 then((y.jF c).deliver (c:Int) 0 2000).1 else y.jF (c+1)
theorem Kc(y:iI)(c d:Nat)(hd:d<2):y.qh c (d+1)=((y.qh c d).deliver (c:Int) (d:Int) 2000).1:=by
 have:d=0 \/d=1:=dU;rcases this with rfl|rfl<;>rfl
theorem lp(y:iI):∀q,(y.jF q).n=y.n/\(y.jF q).nc=y.nc/\(y.jF q).ms=y.ms/\∀x,((y.jF q).C x).e=(y.C x).e/\((y.jF q).C x).iR=(y.C x).iR
 |0=>⟨rfl,rfl,rfl,λ_=>⟨rfl,rfl⟩⟩
 |q+1=>by
  obtain⟨U,V,Q,Y⟩:=mE ((y.jF q).deliver (q:Int) 0 2000).1 (q:Int) 1 2000;obtain⟨g1,T,J,X⟩:=mE (y.jF q) (q:Int) 0 2000;obtain⟨r1,H,M,Z⟩:=lp y q;exact⟨U.trans (g1.trans r1),V.trans (T.trans H),Q.trans (J.trans M),λx=>⟨(Y x).1.trans ((X x).1.trans (Z x).1),(Y x).2.trans ((X x).2.trans (Z x).2)⟩⟩
theorem Kd(y:iI)(q d:Nat):(y.qh q d).n=y.n/\(y.qh q d).nc=y.nc:=by
 unfold iI.qh;split
 ·exact⟨(lp y q).1,(lp y q).2.1⟩
 ·split
  ·exact⟨(mE _ _ _ _).1.trans (lp y q).1,(mE _ _ _ _).2.1.trans (lp y q).2.1⟩
  ·exact⟨(lp y (q+1)).1,(lp y (q+1)).2.1⟩
theorem qj(y:iI):∀t,(y.turns t).n=y.n/\(y.turns t).nc=y.nc/\(y.turns t).ms=y.ms/\∀x,((y.turns t).C x).e=(y.C x).e/\((y.turns t).C x).iR=(y.C x).iR
 |0=>⟨rfl,rfl,rfl,λ_=>⟨rfl,rfl⟩⟩
 |t+1=>by
  obtain⟨g1,X,U,Y⟩:=lp (y.turns t) y.nc;obtain⟨r1,T,V,Z⟩:=qj y t;exact⟨g1.trans r1,X.trans T,U.trans V,λx=>⟨(Y x).1.trans (Z x).1,(Y x).2.trans (Z x).2⟩⟩
theorem kr(y:iI):y.round.n=y.n/\y.round.nc=y.nc/\y.round.ms=y.ms/\∀x,(y.round.C x).e=(y.C x).e/\(y.round.C x).iR=(y.C x).iR:=by
 obtain⟨g1,X,U,Y⟩:=qj (y.iN y.n) 12;obtain⟨r1,T,V,Z⟩:=nY y y.n;exact⟨g1.trans r1,X.trans T,U.trans V,λx=>⟨(Y x).1.trans (Z x).1,(Y x).2.trans (Z x).2⟩⟩
theorem jT.iN {y:iI} {D:Nat} (h:jT y D 0)(Z:D<=800000000):∀q,q<=6->jT (y.iN q) (D+6*q) 0
 |0,_=>h
 |q+1,hq=>((jT.iN h Z q dU).tick dU ((q:Int)+1)).mono dU (Nat.le_refl _)
theorem jT.jF {y:iI} {D:Nat} (h:jT y D 0)(Z:D<=890000000):∀q,q<=9->jT (y.jF q) (D+12000*q) 0
 |0,_=>h
 |q+1,hq=>(((jT.jF h Z q dU).deliver dU (q:Int) 0 2000).deliver dU (q:Int) 1 2000).mono dU (Nat.le_refl _)
theorem jT.qh {y:iI} {D:Nat} (h:jT y D 0)(Z:D<=890000000)(q d:Nat)(hq:q<9)(hd:d<=2):jT (y.qh q d) (D+12000*q+6000*d) 0:=by
 unfold iI.qh;split
 ·exact(h.jF Z q dU).mono dU (Nat.le_refl _)
 ·split
  ·exact((h.jF Z q dU).deliver dU _ _ _).mono dU (Nat.le_refl _)
  ·exact(h.jF Z (q+1) dU).mono dU (Nat.le_refl _)
theorem jT.turns {y:iI} {D:Nat} (h:jT y D 0)(X:D<=810000000):∀t,t<=12->jT (y.turns t) (D+108000*t) 0
 |0,_=>h
 |t+1,ht=>by
  have Y:=jT.turns h X t dU;have Z:=h.c9;exact(Y.jF dU y.nc Z).mono dU (Nat.le_refl _)
theorem jT.round {y:iI} {D:Nat} (h:jT y D 0)(Z:D<=800000000):jT y.round (D+1300000) 0:=by
 have n6:=h.n6;have Y:=h.iN Z y.n n6;exact(Y.turns dU 12 (Nat.le_refl _)).mono dU (Nat.le_refl _)
theorem Am(y:Yt)(n:iI)(D:Nat)(w:dR)(h:ju w y n)(hT:iV w)(iF:jT n D 0)(hD:D<=800000000):
 eT eU 54 #[π (μ ⟨y.N,0,ν⟩)] w λe w'=>e=ρ (τ #[])/\iy w w' y n.round n.n:=by
 have c0:=h.k0;have cl:=h.wU;have n6:=h.n6;have c9:=h.c9;obtain⟨a,cp,uI,J5⟩:=h.Yo;obtain⟨m,U⟩:=fW (n.n);obtain⟨nc,G⟩:=fW (n.nc);have H0:Hid (iy w w y (n.iN 0) m):=by
  show iy _ _ _ _ _;rw[<-U];exact iy.refl h
 have Yw:Hid (∀q W,q<m->iy w W y (n.iN q) m->eT eU 56 #[π (μ ⟨y.N,0,ν⟩),ι κ ((q:Int)+1)] W λe w'=>(∃v,e=ρ v)/\iy w w' y (n.iN (q+1)) m):=by
  intro q W hq Z;have H:=Z.tab h U hT;refine(Z.call (E:=λe=>∃v,e=ρ v) λy1 R1 s1=> ?_);rw[<-s1.N];refine(DV y1 (n.iN q) (D+6*q) ((q:Int)+1) W R1 H (iF.iN hD q dU) dU).mono ?_;rintro e w' ⟨rfl,u⟩;rw[(nY n q).1,U]at u;exact⟨⟨_,rfl⟩,u⟩
 have Q:=iF.iN hD m dU;have HK3:Hid (∀M W,M.nc=nc->iy w W y M m->W.cell? ⟨y.N,3,ν⟩=μ (σ a nc cp)/\y.N<W.heap.size):=by
  intro M W hM Z;have h1:=Z.k3;rw[hM,<-G,uI]at h1;rw[<-G];exact⟨h1,Z.lt⟩
 have Hu:Hid (n.round=(n.iN m).turns 12):=by
  show _=_;unfold iI.round;rw[U]
 obtain⟨T,Yu⟩:=fW (n.iN m);have j:T.n=m:=by rw[<-Yu,(nY n m).1,U]
 have J:T.nc=nc:=by rw[<-Yu,(nY n m).2.1,G]
 have HTT:Hid (∀W,iy w W y (n.iN m) m->iy w W y (T.turns 0) m):=by
  intro W Z;rw[Yu]at Z;exact Z
 rw[Yu]at Q Hu;have aiB:Hid (∀t c d W,t<12->c<nc->d<2->iy w W y ((T.turns t).qh c d) m->eT eU 101 #[π (μ ⟨y.N,0,ν⟩),ι κ (c:Int),ι κ (d:Int),ι κ 2000] W λe w'=>(∃v,e=ρ v)/\iy w w' y ((T.turns t).qh c (d+1)) m):=by
  intro t c d W ht hc hd Z;have H:=Z.tab h U hT;refine(Z.call (E:=λe=>∃v,e=ρ v) λy1 R1 s1=> ?_);rw[<-s1.N];have h1:=Q.turns dU t dU;have h2:=h1.qh dU c d dU dU;refine(Bi y1 _ _ (c:Int) (d:Int) 2000 W R1 H h2 dU).mono ?_;rintro e w' ⟨rfl,u⟩;rw[<-Kc _ _ _ hd,(Kd _ _ _).1,(qj T t).1,j]at u;exact⟨⟨_,rfl⟩,u⟩
 have HNC:Hid (∀t,(T.turns t).nc=nc):=λt=>by rw[(qj T t).2.1,J]
 have ad1:Hid (∀t W,iy w W y ((T.turns t).jF nc) m->iy w W y (T.turns (t+1)) m):=by
  intro t W Z;show iy w W y ((T.turns t).jF T.nc) m;rw[J];exact Z
 rw[U]at c0 n6⊢;rw[G]at c9;clear h hT iF Q uI J5 U G Yu j J
 go_in
 go_wp2
 go_loopw [10] (λx wr=>∃q:Nat,q<=m/\x=ι κ q/\iy w wr y (n.iN q) m) (λx _=>m-(eV x).toNat)
 case atStart=>exact⟨0,Nat.zero_le _,rfl,H0.out⟩
 case round=>
  obtain⟨q,hq,rfl,rb⟩:=hrel;obtain⟨V,rfl⟩:∃V,V=wr:=⟨_,rfl⟩
  by_cases ka:q<m
  ·have m8:(q:Int)<(m:Int):=dU;have Sv:IntKind.i64.wrap ((q:Int)+1)=(q:Int)+1:=aP _ ⟨dU,dU⟩;have ht:=Yw.out q V ka rb;clear rb;go_wp2_with(fail);refine ht.mono ?_;rintro e w1 ⟨⟨v,rfl⟩,A⟩;have X:Hid _:=A;clear ht A
   go_wp2
   go_roundw
   case rel=>exact⟨q+1,dU,by go_num,X.out⟩
   case measure=>simp[eV];omega
  ·have yt:¬(q:Int)<(m:Int):=dU;obtain rfl:q=m:=dU;have HT0:Hid (iy w V y (T.turns 0) q):=HTT.out V rb;clear rb HTT H0 Yw
   go_wp2
   go_loopw [18] (λx wr=>∃t:Nat,t<=12/\x=ι κ t/\iy w wr y (T.turns t) q) (λx _=>12-(eV x).toNat)
   case atStart=>exact⟨0,Nat.zero_le _,rfl,HT0.out⟩
   case round=>
    obtain⟨t,ht,rfl,LR⟩:=hrel;obtain⟨V2,rfl⟩:∃V2,V2=wr:=⟨_,rfl⟩
    by_cases aaI:t<12
    ·have ad2:(t:Int)<12:=dU;obtain⟨d3,dl⟩:=HK3.out _ V2 (HNC.out t) LR;have HD0:Hid _:=LR;clear LR
     go_wp2
     go_loopw [25] (λx wr=>∃c:Nat,c<=nc/\x=ι κ c/\iy w wr y ((T.turns t).qh c 0) q) (λx _=>nc-(eV x).toNat)
     case atStart=>exact⟨0,Nat.zero_le _,rfl,HD0.out⟩
     case round=>
      obtain⟨c,hc,rfl,Y⟩:=hrel;obtain⟨V3,rfl⟩:∃V3,V3=wr:=⟨_,rfl⟩
      by_cases aiC:c<nc
      ·have ak5:(c:Int)<(nc:Int):=dU;have HDc:Hid _:=Y;clear Y
       go_wp2
       go_loopw [28] (λx wr=>∃d:Nat,d<=2/\x=ι κ d/\iy w wr y ((T.turns t).qh c d) q) (λx _=>2-(eV x).toNat)
       case atStart=>exact⟨0,Nat.zero_le _,rfl,HDc.out⟩
       case round=>
        obtain⟨d,hd,rfl,Cr⟩:=hrel;obtain⟨V4,rfl⟩:∃V4,V4=wr:=⟨_,rfl⟩
        by_cases aiD:d<2
        ·have ak6:(d:Int)<2:=dU;have ad3:=aiB.out t c d V4 aaI aiC aiD Cr;clear Cr;go_wp2_with(fail);refine ad3.mono ?_;rintro e w1 ⟨⟨v,rfl⟩,A⟩;have X:Hid _:=A;clear ad3 A
         go_wp2
         go_roundw
         case rel=>exact⟨d+1,dU,by go_num,X.out⟩
         case measure=>simp[eV];omega
        ·have anz:¬(d:Int)<2:=dU;obtain rfl:d=2:=dU;have X:Hid _:=Cr;clear Cr
         go_wp2
         go_roundw
         case rel=>exact⟨c+1,dU,by go_num,X.out⟩
         case measure=>simp[eV];omega
      ·have anA:¬(c:Int)<(nc:Int):=dU;obtain rfl:c=nc:=dU;have X:Hid (iy w V3 y (T.turns (t+1)) q):=ad1.out t V3 Y;clear Y
       go_wp2
       go_roundw
       case rel=>exact⟨t+1,dU,by go_num,X.out⟩
       case measure=>simp[eV];omega
    ·have ad4:¬(t:Int)<12:=dU;obtain rfl:t=12:=dU;have X:Hid (iy w V2 y n.round q):=by
      show iy _ _ _ _ _;rw[Hu.out];exact LR
     clear LR
     go_wp2
     first|go_end0|refine iC rfl rfl ?_
     exact⟨rfl,X.out⟩
def pU(l:List Nat):List Value:=l.map λ(n:Nat)=>Value.int .i64 (n:Int)
def sd(n:iI)(k c:Nat):Bool:=(n.C c).iR&& (((n.C c).e 0).1==k||((n.C c).e 1).1==k)
theorem Hx(y:Yt)(n:iI)(k:Nat)(w:dR)(h:ju w y n):
 eT eU 115 #[π (μ ⟨y.N,0,ν⟩),ι κ ((k:Int)+1)] w λe w'=>∃v,e=ρ v/\Row w' 1 v (n.k7 k).length (pU (n.k7 k))/\(∀b,v.ownBlock=μ b->w.heap.size<=b)/\eh w w':=by
 obtain⟨i0,hi,od,mK,mL⟩:=aY NV;have c3:=h.k3;obtain⟨a,cp,uI,J5⟩:=h.Yo;rw[uI]at c3;have cl:=h.wU;have c9:=h.c9;obtain⟨nc,M⟩:=fW (n.nc);have HGC:Hid (∀c,c<nc->∃g,y.gC=μ g/\a=μ ⟨g,0,ν⟩):=by
  show∀c,_->_;rw[<-M];exact J5
 have HF:Hid (∀W q g,eh w W->q<nc->y.gC=μ g->∃U u c0 Q n1 c1,W.cell? ⟨g,q*7,ν⟩=μ (ι κ ((((n.C q).e 0).1:Int)+1))/\W.cell? ⟨g,q*7+1,ν⟩=μ (ι κ (((n.C q).e 0).2:Int))/\W.cell? ⟨g,q*7+2,ν⟩=μ (ι κ ((((n.C q).e 1).1:Int)+1))/\W.cell? ⟨g,q*7+3,ν⟩=μ (ι κ (((n.C q).e 1).2:Int))/\W.cell? ⟨g,q*7+4,ν⟩=μ (.bool (n.C q).iR)/\W.cell? ⟨g,q*7+5,ν⟩=μ (σ U u c0)/\W.cell? ⟨g,q*7+6,ν⟩=μ (σ Q n1 c1)/\g<W.heap.size):=by
  intro W q g hb hq hg;have R:=h.below hb;have hC:=R.rc g hg q (by rw[M];exact hq);obtain⟨U,c0,e0⟩:=Row.shape (R.ob q 0 (by rw[M];exact hq) dX);obtain⟨Q,c1,e1⟩:=Row.shape (R.ob q 1 (by rw[M];exact hq) dX);refine⟨U,((n.C q).on 0).length,c0,Q,((n.C q).on 1).length,c1,hC.cell 0 dX,hC.cell 1 dX,hC.cell 2 dX,hC.cell 3 dX,hC.cell 4 dX,?_,?_,hC.lt dX⟩
  ·rw[<-e0];exact hC.cell 5 dX
  ·rw[<-e1];exact hC.cell 6 dX
 have HE:Hid (n.k7 k=(fR nc).filter (sd n k)):=by
  show _=_;rw[<-M];rfl
 rw[M]at c3 c9;clear h J5 uI M
 go_in
 go_wp2
 go_loopw [5,13] (λv x wr=>∃q:Nat,q<=nc/\x=ι κ q/\Row wr 1 v ((fR q).filter (sd n k)).length (pU ((fR q).filter (sd n k)))/\(∀b,v.ownBlock=μ b->w.heap.size<=b)/\eh w wr) (λ_ x _=>nc-(eV x).toNat)
 case atStart=>exact⟨0,Nat.zero_le _,rfl,Row.nil _ _,λb hb=>by simp[dV]at hb,au _ _⟩
 case round=>
  obtain⟨q,hq,rfl,Y,ji,iG⟩:=hrel;by_cases ka:q<nc
  ·have m8:(q:Int)<(nc:Int):=dU;have hq0:(0:Int)<=(q:Int):=dU;obtain⟨g,hg,rfl⟩:=HGC.out q ka;obtain⟨U,u,c0,Q,n1,c1,k0,k1,k2,k3,k4,k5,k6,gl⟩:=HF.out wr q g iG ka hg;have HP:Hid ((fR (q+1)).filter (sd n k)=(fR q).filter (sd n k)++if sd n k q=true then [q]else []):=by
    show _=_;rw[cy,ch];congr 1;by_cases e:sd n k q=true
    ·rw[ag e,List.filter_cons_of_pos e];rfl
    ·rw[ae e,List.filter_cons_of_neg e];rfl
   have Z:sd n k q=((n.C q).iR&& (((n.C q).e 0).1==k||((n.C q).e 1).1==k)):=rfl;have HR:Hid _:=Y;have D:Hid _:=ji;have T:Hid _:=iG;clear ji iG hg;obtain⟨L,A⟩:=fW ((fR q).filter (sd n k));have hLq:L.length<=q:=by
    rw[<-A];have:=cE (sd n k) (fR q);simpa using this
   rw[A]at Y HP;generalize ((n.C q).e 0).1=V at k0 Z;generalize ((n.C q).e 1).1=r1 at k2 Z;generalize ((n.C q).e 0).2=p0 at k1;generalize ((n.C q).e 1).2=p1 at k3;generalize (n.C q).iR=iR at k4 Z;cases iR with
   |false=>
    have J:True:=trivial;have E6:True:=trivial;have X:sd n k q=false:=by rw[Z];first|rfl|simp[J,E6]
    have H:Hid (Row (wr.alloc (γ #[ι κ ((V:Int)+1),ι κ (p0:Int),ι κ ((r1:Int)+1),ι κ (p1:Int),.bool false,σ U u c0,σ Q n1 c1] 197)) 1 u5 ((fR (q+1)).filter (sd n k)).length (pU ((fR (q+1)).filter (sd n k)))/\(∀b,u5.ownBlock=μ b->w.heap.size<=b)/\eh w (wr.alloc (γ #[ι κ ((V:Int)+1),ι κ (p0:Int),ι κ ((r1:Int)+1),ι κ (p1:Int),.bool false,σ U u c0,σ Q n1 c1] 197))):=by
     rw[HP.out,X];simp only[Bool.false_eq_true,if_false,gK];exact⟨Y.alloc _,D.out,T.out.alloc T.out.size _⟩
    clear Y Z X A
    go_wp2
    go_roundw
    case rel=>exact⟨q+1,dU,by go_num,H.out⟩
    case measure=>simp[eV];omega
   |true=>
    by_cases h0:V=k
    ·rw[h0]at k0 Z;have X:sd n k q=true:=by rw[Z];simp
     go_wp2_with(at_builtin;go_must(refine iB _ rfl (.tmp 36) (.tmp 38) 22 rfl 3 i0 (ι κ 0) 1 8 underlying22 hi od mK mL rfl dX u5 L.length (pU L) rfl ((Y.alloc _).alloc _) _ 1 1 [ι κ (q:Int)] rfl rfl dX (xM _ _ _ _ gO) (wu _ _) (by unfold maxLen;omega) dU ?_));intro G jn w3 tE tV j;have H:Hid (Row w3 1 (σ (μ ⟨G,0,ν⟩) (L.length+1) jn) ((fR (q+1)).filter (sd n k)).length (pU ((fR (q+1)).filter (sd n k)))/\(∀b,dV (σ (μ ⟨G,0,ν⟩) (L.length+1) jn)=μ b->w.heap.size<=b)/\eh w w3):=by
      have hs:=T.out.size;rw[HP.out,X];simp only[if_true,eI,eM,eN];refine⟨?_,λb hb=> ?_,?_⟩
      ·have e9:pU (L++ [q])=pU L++ [ι κ (q:Int)] :=by simp[pU]
       rw[e9];exact tE
      ·have:G=b:=by simpa[dV]using hb
       subst this;rcases j with e|e
       ·exact D.out _ e
       ·(try simp at e)
        omega
      ·exact((T.out.alloc hs _).alloc (by simp;omega) _).grown tV (by simp;omega) (λb hb=>D.out b (by rw[<-hb]))
     clear tE tV j Y Z X A
     go_wp2
     go_roundw
     case rel=>exact⟨q+1,dU,by go_num,H.out⟩
     case measure=>simp[eV];omega
    ·have J:(V==k)=false:=by simpa using h0
     have hz:¬((V:Int)+1=(k:Int)+1):=dU;have hz':((V:Int)+1==(k:Int)+1)=false:=by simpa using hz
     have Yx:¬((V:Int)=(k:Int)):=dU;by_cases h1:r1=k
     ·rw[h1]at k2 Z;have X:sd n k q=true:=by rw[Z];simp
      go_wp2_with(at_builtin;go_must(refine iB _ rfl (.tmp 36) (.tmp 38) 22 rfl 3 i0 (ι κ 0) 1 8 underlying22 hi od mK mL rfl dX u5 L.length (pU L) rfl ((Y.alloc _).alloc _) _ 1 1 [ι κ (q:Int)] rfl rfl dX (xM _ _ _ _ gO) (wu _ _) (by unfold maxLen;omega) dU ?_));intro G jn w3 tE tV j;have H:Hid (Row w3 1 (σ (μ ⟨G,0,ν⟩) (L.length+1) jn) ((fR (q+1)).filter (sd n k)).length (pU ((fR (q+1)).filter (sd n k)))/\(∀b,dV (σ (μ ⟨G,0,ν⟩) (L.length+1) jn)=μ b->w.heap.size<=b)/\eh w w3):=by
       have hs:=T.out.size;rw[HP.out,X];simp only[if_true,eI,eM,eN];refine⟨?_,λb hb=> ?_,?_⟩
       ·have e9:pU (L++ [q])=pU L++ [ι κ (q:Int)] :=by simp[pU]
        rw[e9];exact tE
       ·have:G=b:=by simpa[dV]using hb
        subst this;rcases j with e|e
        ·exact D.out _ e
        ·(try simp at e)
         omega
       ·exact((T.out.alloc hs _).alloc (by simp;omega) _).grown tV (by simp;omega) (λb hb=>D.out b (by rw[<-hb]))
      clear tE tV j Y Z X A
      go_wp2
      go_roundw
      case rel=>exact⟨q+1,dU,by go_num,H.out⟩
      case measure=>simp[eV];omega
     ·have E6:(r1==k)=false:=by simpa using h1
      have hy:¬((r1:Int)+1=(k:Int)+1):=dU;have pI:((r1:Int)+1==(k:Int)+1)=false:=by simpa using hy
      have hy3:¬((r1:Int)=(k:Int)):=dU;have X:sd n k q=false:=by rw[Z];first|rfl|simp[J,E6]
      have H:Hid (Row (wr.alloc (γ #[ι κ ((V:Int)+1),ι κ (p0:Int),ι κ ((r1:Int)+1),ι κ (p1:Int),.bool true,σ U u c0,σ Q n1 c1] 197)) 1 u5 ((fR (q+1)).filter (sd n k)).length (pU ((fR (q+1)).filter (sd n k)))/\(∀b,u5.ownBlock=μ b->w.heap.size<=b)/\eh w (wr.alloc (γ #[ι κ ((V:Int)+1),ι κ (p0:Int),ι κ ((r1:Int)+1),ι κ (p1:Int),.bool true,σ U u c0,σ Q n1 c1] 197))):=by
       rw[HP.out,X];simp only[Bool.false_eq_true,if_false,gK];exact⟨Y.alloc _,D.out,T.out.alloc T.out.size _⟩
      clear Y Z X A
      go_wp2
      go_roundw
      case rel=>exact⟨q+1,dU,by go_num,H.out⟩
      case measure=>simp[eV];omega
  ·obtain rfl:q=nc:=dU;have HW:Hid (Row wr 1 u5 (n.k7 k).length (pU (n.k7 k))/\(∀b,u5.ownBlock=μ b->w.heap.size<=b)/\eh w wr):=by
    show _/\_/\_;rw[HE.out];exact⟨Y,ji,iG⟩
   have yt:¬(q:Int)<(q:Int):=dU;clear Y ji iG
   go_wp2
   go_ret;exact⟨_,rfl,HW.out⟩
theorem lJ.xV(h:lJ w z r)(Z:r.n=3) {b:Nat} (hb:z.oJ b):b<w.heap.size:=by
 rcases hb with e|e|e
 ·have:=h.zZ b;rw[Z]at this;exact this e
 ·exact h.bs.mlt b (.inl e)
 ·exact h.bs.mlt b (.inr e)
theorem lJ.Ke(h:lJ w z r)(Y:r.n=3)(Z:z.fm.no g/\¬z.mine 3 g)(j:Nat)(v:Value):lJ (w.setCell ⟨g,j,ν⟩ v) (z.plus λ_=>False) r:=by
 refine h.besides gO (λk _ hc=>aq _ _ _ k (λe=> ?_)) _ (λk e=>e.elim);have e':k=g:=e;subst e';rcases hc with hc|hc
 ·exact hc Z.1
 ·rw[Y]at hc;exact Z.2 hc
theorem ju.renew {W0 W2 W3:dR} {y1:Yt} {n n3:iI} {k:Nat} (h0:ju W0 y n)(hk:k<n.n)(hb:eh W0 W2)(hz:lJ W2 z r)(hr:r.n=3/\r.id=(k:Int)+1)
 (Qd:∀b,z.oJ b->W0.heap.size<=b) (Yy:∀b,y.all n.n b \/y.ext b->z.fm.no b) (CW:y.same y1) (D:∀b,y1.all n.n b↔y.all n.n b) (yq:∀b,y1.ext b↔y.ext b \/z.oJ b)
 (hW:iy W2 W3 y1 n3 n.n) (J:n3.n=n.n):
 ∃y2,ju (W3.setCell ⟨y.gR,k,ν⟩ (π (μ ⟨z.R,0,ν⟩))) y2 (n3.jq k r)/\y.same y2/\(∀b,y2.all n.n b->y.all n.n b \/z.oJ b \/W2.heap.size<=b)/\(∀b,y2.ext b↔y.ext b)/\xk W0 (W3.setCell ⟨y.gR,k,ν⟩ (π (μ ⟨z.R,0,ν⟩))) y n.n:=by
 obtain⟨y',R',s',WN,Fy⟩:=hW.ex;have H:=hW.kept;have WH:y'.gR=y.gR:=s'.gR.trans CW.gR;have hbM:y'.bM=y.bM:=s'.bM.trans CW.bM;have aiE:∀b,z.oJ b->b<W2.heap.size:=λb e=>hz.xV hr.1 e;have m9:∀b,y'.all n.n b->y.all n.n b \/W2.heap.size<=b:=λb e=>(WN b e).imp_left (D b).1;have Ub:∀b,y.all n.n b->b<W0.heap.size:=λb e=>h0.Bf e;have aiF:∀b,y'.all n.n b->b<W3.heap.size:=λb e=>R'.Bf (by rw[J];exact e);obtain⟨X,KW⟩:∃X:Nat->Prop,X=λb=>W2.heap.size<=b/\b<W3.heap.size/\y'.all n.n b:=⟨_,rfl⟩
 have hX:∀b,X b->W2.heap.size<=b/\b<W3.heap.size:=λb e=>by rw[KW]at e;exact⟨e.1,e.2.1⟩
 have Yx:lJ W3 (z.plus X) r:=by
  refine hz.besides H.size (λb A hc=>H.block b A (λe=> ?_)) X hX;have Y:=(D b).1 e;rcases hc with hc|hc
  ·exact hc (Yy b (.inl Y))
  ·rw[hr.1]at hc;have:=Qd b (.inl hc);have:=Ub b Y;omega
 have iZ:∀b,y'.all n.n b->(z.fm.no b \/X b)/\¬z.mine 3 b:=λb e=>by
  rcases m9 b e with Y|Y
  ·exact⟨.inl (Yy b (.inl Y)),λV=>by have:=Qd b (.inl V);have:=Ub b Y;omega⟩
  ·exact⟨.inr (by rw[KW];exact⟨Y,aiF b e,e⟩),λV=>by have:=aiE b (.inl V);omega⟩
 have ME:y'.own y.gR:=⟨.R,by rw[<-WH];rfl⟩
 have ad5:(z.plus X).fm.no y.gR/\¬(z.plus X).mine 3 y.gR:=iZ y.gR (.inl ME);obtain⟨Q,G⟩:=fW (W3.setCell ⟨y.gR,k,ν⟩ (π (μ ⟨z.R,0,ν⟩)));have VU:lJ Q ((z.plus X).plus λ_=>False) r:=by rw[<-G];exact Yx.Ke hr.1 ad5 k _
 have yS:∀j,j<n.n->lJ Q ((y'.z j).plus λ_=>False) (n3.R j):=λj U=>by
  rw[<-G];exact(R'.rt j (by rw[J];exact U)).Ke (R'.rn j (by rw[J];exact U)).1 (R'.away j (by rw[J];exact U) y.gR (.inl ME)) k _
 have nS:∀b,b≠y.gR->Q.heap[b]? =W3.heap[b]? :=λb e=>by rw[<-G];exact aq _ _ _ b e
 have qX:Q.heap.size=W3.heap.size:=by rw[<-G];simp
 have hat:∀l b,y'.at l=μ b->l≠ .R->Q.heap[b]? =W3.heap[b]? :=λl b e hl=>nS b (λY=>R'.vL e (show y'.at .R=μ y'.gR from rfl) hl (by rw[WH];exact Y));obtain⟨Z,hZ⟩:∃Z:Nat->Zt,Z=λj=>if j=k then(z.plus X).plus λ_=>False else(y'.z j).plus λ_=>False:=⟨_,rfl⟩
 have T:Z k=(z.plus X).plus λ_=>False:=by rw[hZ];simp
 have Wx:∀j,j≠k->Z j=(y'.z j).plus λ_=>False:=λj U=>by rw[hZ];simp[U]
 have M:∀j b,(Z j).oJ b->(j=k/\z.oJ b) \/(j≠k/\(y'.z j).oJ b):=λj b e=>by
  by_cases ej:j=k
  ·subst ej;rw[T]at e;exact .inl ⟨rfl,e⟩
  ·rw[Wx j ej]at e;exact .inr ⟨ej,e⟩
 have ad6:xk W0 Q y n.n:=by
  have b1:Below 0 W3 Q:=by rw[<-G];exact(au 0 W3).setCell (Nat.zero_le _) _
  refine⟨b1.os.trans (H.os.trans hb.os),b1.tape.trans (H.tape.trans hb.tape),b1.output.trans (H.output.trans hb.output),by rw[qX];exact Nat.le_trans hb.size H.size,λb A hn=> ?_⟩;have Y:b≠y.gR:=λe=>hn (.inl ⟨.R,by rw[e];rfl⟩);rw[nS b Y,H.block b (Nat.lt_of_lt_of_le A hb.size) (λe=>hn ((D b).1 e)),hb.block b A]
 rw[G];refine⟨{y' with z:=Z,ext:=λb=>y'.ext b/\¬z.oJ b},⟨R'.n1,R'.n6,R'.c9,R'.nN.keep (hat .N _ rfl (λe=>nomatch e)),?_,R'.ri.keep (hat .I _ rfl (λe=>nomatch e)),λg hg c hc=>(R'.rc g hg c hc).keep (hat .C _ hg (λe=>nomatch e)),R'.gc,?_,?_,?_,λj U=>(R'.ib j U).keep dU (λb e=>hat (.ib j) b e (λe=>nomatch e)),λc d hc hd=>(R'.ob c d hc hd).keep dU (λb e=>hat (.on c d) b e (λe=>nomatch e)),R'.ol,R'.en,R'.inj,?_,λb e=>R'.nx b e.1,⟨R'.nM.1,λe=>R'.nM.2.1 e.1,?_⟩,R'.z0⟩,Yt.xU CW (Yt.xU s' ⟨rfl,rfl,rfl,rfl,rfl,rfl,rfl,rfl⟩),?_,?_,ad6⟩
 ·have h:=R'.rr.set k (by rw[J];exact hk) (π (μ ⟨z.R,0,ν⟩));rw[WH,Nat.zero_add,G]at h;show pP Q y'.gR 0 n3.n _;rw[WH];refine h.congr λj U=> ?_;show r9 _ k _ j=π (μ ⟨(Z j).R,0,ν⟩);by_cases e:j=k
  ·subst e;rw[T];unfold r9;simp;rfl
  ·rw[Wx j e,jz _ _ e];rfl
 ·obtain⟨E,h,h2⟩:=R'.mp;refine⟨E,h.keep (nS y'.bM (λe=>R'.nM.1 ?_)),h2⟩;rw[e];exact ME
 ·intro j U;show lJ Q (Z j) (jK n3.R k r j);by_cases e:j=k
  ·subst e;rw[T,iu];exact VU
  ·rw[Wx j e,iq _ _ e];exact yS j (by rw[<-J];exact U)
 ·intro j U;show(jK n3.R k r j).n=3/\(jK n3.R k r j).id=(j:Int)+1;by_cases e:j=k
  ·subst e;rw[iu];exact hr
  ·rw[iq _ _ e];exact R'.rn j U
 ·intro i hi b A;have kB:i<n.n:=by rw[<-J];exact hi
  show(Z i).fm.no b/\¬(Z i).mine 3 b;by_cases ei:i=k
  ·subst ei;rw[T];have Kf:(z.fm.no b \/X b)/\¬z.mine 3 b:=by
    rcases A with e|e|⟨j,U,jm,e⟩
    ·exact iZ b (.inl e)
    ·have Y:=(Fy b).1 e.1;rcases(yq b).1 Y with V|V
     ·exact⟨.inl (Yy b (.inr V)),λu=>e.2 (.inl u)⟩
     ·exact absurd V e.2
    ·rcases M j b e with⟨Y,_⟩|⟨Y,V⟩
     ·exact absurd Y jm
     ·exact iZ b (.inr ⟨j,by rw[<-J];exact U,V⟩)
   exact⟨.inl Kf.1,Kf.2⟩
  ·rw[Wx i ei];have Kf:(y'.z i).fm.no b/\¬(y'.z i).mine 3 b:=by
    rcases A with e|e|⟨j,U,jm,e⟩
    ·exact R'.away i hi b (.inl e)
    ·exact R'.away i hi b (.inr (.inl e.1))
    ·rcases M j b e with⟨Y,V⟩|⟨Y,V⟩
     ·exact R'.away i hi b (.inr (.inl ((Fy b).2 ((yq b).2 (.inr V)))))
     ·exact R'.away i hi b (.inr (.inr ⟨j,U,jm,V⟩))
   exact⟨.inl Kf.1,Kf.2⟩
 ·intro i hi e;show False;rcases M i _ e with⟨_,V⟩|⟨_,V⟩
  ·have u:=Qd _ V;have h:=h0.FX;have e4:W0.heap.size<=y'.bM:=u;rw[hbM]at e4;omega
  ·exact R'.nM.2.2 i hi V
 ·intro b e;rcases e with e|⟨j,U,e⟩
  ·rcases m9 b (.inl e)with Y|Y
   ·exact .inl Y
   ·exact .inr (.inr Y)
  ·rcases M j b e with⟨_,V⟩|⟨_,V⟩
   ·exact .inr (.inl V)
   ·rcases m9 b (.inr ⟨j,U,V⟩)with Y|Y
    ·exact .inl Y
    ·exact .inr (.inr Y)
 ·intro b;constructor
  ·rintro⟨Y,V⟩;rcases(yq b).1 ((Fy b).1 Y)with u|u
   ·exact u
   ·exact absurd u V
  ·intro e;refine⟨(Fy b).2 ((yq b).2 (.inl e)),λV=> ?_⟩;have h:=h0.lt (.inr e);have h2:=Qd b V;omega
theorem DX(up:Bool):∀(l:List Nat) (y:iI) (c:Nat),y.jB up (l++ [c])=(y.jB up l).jP c up
 |[],_,_=>rfl
 |_::l,_,c=>DX up l _ c
theorem Uc(l:List Nat)(j:Nat)(h:j<l.length):(pU l)[j]? =μ (ι κ (l[j] :Int)):=by simp[pU,h]
theorem zb(Z:dR)(y:Yt)(T M:iI)(D m:Nat)(up:Bool)(L:List Nat)(H:ju Z y T)(u:T.n=m)(G:iV Z)(A:jT M D 20)(h:D<=900000000)(U:∀c∈L,c<M.nc)(hl:L.length<=9)(Y:M.n=m)(q:Nat)(V:q<L.length)(W:dR)(Q:iy Z W y (M.jB up (L.take q)) m):
 eT eU 113 #[π (μ ⟨y.N,0,ν⟩),ι κ (L[q] :Int),.bool up] W λe w'=>e=ρ (τ #[])/\iy Z w' y (M.jB up (L.take (q+1))) m:=by
 have X:=Q.tab H u G;obtain⟨s1,s2,s3,s4,s5⟩:=mI up (L.take q) M;have J:=jT.jB dU up (L.take q) A (λc hc=>U c (cU hc));have hlq:(L.take q).length<=q:=b9 _ _;have j:M.jB up (L.take (q+1))=(M.jB up (L.take q)).jP L[q] up:=by
  rw[ay V,DX]
 rw[j];refine Q.call λy1 R1 h1=> ?_;rw[<-h1.N];have:=Gf y1 _ D _ L[q] up W R1 X J h dU (by rw[s2];exact U _ (aK V));rw[s1,Y]at this;exact this
theorem Bk(y:Yt)(n:iI)(D:Nat)(i:Int)(w:dR)(h:ju w y n)(hT:iV w)(iF:jT n D 0)(hD:D<=900000000):
 eT eU 62 #[π (μ ⟨y.N,0,ν⟩),ι κ i] w λe w'=>e=ρ (jb (n.restart i).2)/\iy w w' y (n.restart i).1 n.n:=by
 have hh:=qu y n i w h;rcases xX i n.n with⟨hn,hi⟩|⟨k,hk,rfl⟩
 ·have hE:n.restart i=(n,6):=by unfold iI.restart;rw[ag hi]
  rw[hE];rw[hn]at hh;have HW:Hid _:=iy.refl h;clear h iF hT
  go_in
  go_wp2_with(fail);refine hh.mono ?_;rintro e w1 ⟨rfl,rfl⟩;clear hh
  go_wp2
  go_ret;exact⟨rfl,HW.out⟩
 ·rw[yW hk]at hh;have n6:=h.n6;obtain⟨L,hL⟩:=fW (n.k7 k);have hE:n.restart ((k:Int)+1)=((((n.jB false L).jq k (jE ((k:Int)+1) 3 (n.ms k))).jB true L).gather,0):=by
   unfold iI.restart;have e1:((k:Int)+1-1).toNat=k:=dU;rw[ae dU,e1,hL]
  rw[hE];have e0:jb 0=η:=rfl;rw[e0];obtain⟨E,hEm,hET,hEO⟩:=h.mp;have Nq:=xm y.N y.bM k E (n.ms k) w h.k2 hEm hEO dU (λp hp=>hET k p hk hp) hT (λb=>y.all n.n b \/y.ext b) (λb hb=>hb.elim (λe=>h.Bf e) (λe=>h.lt (.inr e)));have hLl:L.length<=9:=by
   rw[<-hL];exact Nat.le_trans (x6 n k) h.c9
  have hLc:∀c∈L,c<n.nc:=λc hc=>by rw[<-hL]at hc;exact Aj c hc
  have aiG:Hid (∀W,eh w W->eT eU 115 #[π (μ ⟨y.N,0,ν⟩),ι κ ((k:Int)+1)] W λe w'=>∃v,e=ρ v/\Row w' 1 v L.length (pU L)/\(∀b,v.ownBlock=μ b->W.heap.size<=b)/\eh W w'):=by
   intro W U;have:=Hx y n k W (h.below U);rw[hL]at this;exact this
  have HH:Hid _:=h;have HT:Hid _:=hT;have Sj:Hid _:=iF;have HK:Hid _:=hk;have G:Hid _:=hLc;clear h hT iF hEm hET hEO hE hL hLc
  go_in
  go_wp2_with(fail);refine hh.mono ?_;rintro e w1 ⟨rfl,rfl⟩;clear hh;go_wp2_with(fail);refine Nq.mono ?_;rintro e W1 ⟨z,rfl,mK,j7,Yx,hz4,hz5,hz6⟩;have hca:=aiG.out W1 j7;have HZ1:Hid _:=mK;have C5:Hid _:=j7;have Qd:Hid (∀b,z.oJ b->w.heap.size<=b):=by
   intro b hb;rcases hb with e|e|e
   ·exact Yx b e
   ·rw[e];exact hz4
   ·exact hz5 b e
  have HZX:Hid (∀b,y.all n.n b \/y.ext b->z.fm.no b):=λb hb=>hz6 b hb;clear Nq mK j7 Yx hz4 hz5 hz6;go_wp2_with(fail);refine hca.mono ?_;rintro e H ⟨v,rfl,iQ,ji,lN⟩;clear hca;have Ud:eh w H:=fY C5.out lN;have mL:lJ H z (jE ((k:Int)+1) 3 (n.ms k)):=HZ1.out.below lN;have rB:(jE ((k:Int)+1) 3 (n.ms k)).n=3/\(jE ((k:Int)+1) 3 (n.ms k)).id=(k:Int)+1:=⟨rfl,rfl⟩
  have wz:∀b,z.oJ b->b<W1.heap.size:=λb e=>HZ1.out.xV rfl e;obtain⟨y1,R1,s1,ha1,yq⟩:=HH.out.beside Ud.size (λb qU _=>Ud.block b qU) z.oJ (λb e=>⟨Qd.out b e,Nat.lt_of_lt_of_le (wz b e) lN.size⟩);have V9:iV H:=iV.below (w:=w) HT.out Ud;have Yz:jT n D 20:=Sj.out.mono (Nat.le_refl _) dU;obtain⟨a,cp,hve⟩:=Row.shape iQ;subst hve;have hNe:Hid (∀b,dV (σ a L.length cp)=μ b->W1.heap.size<=b/\b<H.heap.size):=λb hb=>⟨ji b hb,iQ.lt b hb⟩
  have VR:Hid _:=iQ;have Yv:Hid (iy H H y1 (n.jB false (L.take 0)) n.n):=iy.refl R1;have HPl:Hid (∀q W,(hq:q<L.length)->iy H W y1 (n.jB false (L.take q)) n.n->eT eU 113 #[π (μ ⟨y.N,0,ν⟩),ι κ (L[q] :Int),.bool false] W λe w'=>e=ρ (τ #[])/\iy H w' y1 (n.jB false (L.take (q+1))) n.n):=by
   intro q W hq U;rw[<-s1.N];exact zb H y1 n n D n.n false L R1 rfl V9 Yz hD G.out hLl rfl q hq W U
  have TP:Hid (∀q W M,(hq:q<L.length)->iy H W y1 M n.n->∃g,a=μ ⟨g,0,ν⟩/\W.cell? ⟨g,q,ν⟩=μ (ι κ (L[q] :Int))):=by
   intro q W M hq U;rcases VR.out.2 with⟨_,e2⟩|⟨g,c,e,_,_,_,hc,_⟩
   ·omega
   ·have ea:a=μ ⟨g,0,ν⟩:=(bG e).1;have hg:=hNe.out g (by rw[ea];rfl);refine⟨g,ea,(ai (a:=⟨g,q,ν⟩) (U.kept.block g hg.2 (λe3=> ?_))).trans (hc q _ (Uc L q hq))⟩;have X:=HH.out.Bf ((ha1 g).1 e3);have h2:=C5.out.size;omega
  have HR1:Hid _:=R1;have Z:Hid _:=s1;have HA1:Hid _:=ha1;have Yk:Hid _:=yq;have HZ2:Hid _:=mL;have aeb:Hid _:=Ud;have HFL:Hid _:=wz;have HT2:Hid _:=V9;have FA:Hid _:=lN;obtain⟨len,hlen⟩:=fW (L.length);have Qe:Hid _:=hlen;rw[hlen]at hLl;clear iQ ji Ud mL rB wz R1 s1 ha1 yq V9 lN Yz
  go_wp2
  go_loopw [31] (λx wr=>∃q:Nat,q<=len/\x=ι κ q/\iy H wr y1 (n.jB false (L.take q)) n.n) (λx _=>len-(eV x).toNat)
  case atStart=>exact⟨0,Nat.zero_le _,rfl,Yv.out⟩
  case round=>
   obtain⟨q,hq,rfl,Y⟩:=hrel;obtain⟨V,rfl⟩:∃V,V=wr:=⟨_,rfl⟩
   by_cases ka:q<len
   ·have m8:(q:Int)<(len:Int):=dU;have hq0:(0:Int)<=(q:Int):=dU;have hqL:q<L.length:=by rw[Qe.out];exact ka
    obtain⟨g,rfl,hcell⟩:=TP.out q V _ hqL Y;have gl:=af _ _ hcell;have Cn:=HPl.out q V hqL Y;generalize L[q] =cq at hcell Cn;clear Y;go_wp2_with(fail);refine Cn.mono ?_;rintro e w1 ⟨rfl,j⟩;have HW:Hid _:=j;clear Cn j
    go_wp2
    go_roundw
    case rel=>exact⟨q+1,dU,by go_num,HW.out⟩
    case measure=>simp[eV];omega
   ·have yt:¬(q:Int)<(len:Int):=dU;obtain rfl:q=len:=dU;have e9:L.take q=L:=by rw[<-Qe.out];exact bX
    rw[e9]at Y;obtain⟨n3,xh⟩:=fW (n.jB false L);obtain⟨u,p2,p3,p4,p5⟩:=mI false L n;rw[xh]at Y u p2;have aec:jT n3 D 20:=by
     rw[<-xh];exact(jT.jB dU false L Sj.out G.out).mono (Nat.le_refl _) (by rw[Qe.out];omega)
    obtain⟨A,R2,s2,ha2,he2,sM⟩:=ju.renew HH.out HK.out aeb.out HZ2.out ⟨rfl,rfl⟩ Qd.out HZX.out Z.out HA1.out Yk.out Y u;have Ue:=aec.anew k (by rw[u];exact HK.out);have e8:n3.ms k=n.ms k:=by rw[<-xh,p3]
    rw[e8]at Ue;obtain⟨T,J⟩:=fW (n3.jq k (jE ((k:Int)+1) 3 (n.ms k)));rw[J]at R2 Ue;have Uf:T.n=n.n:=by rw[<-J];exact u
    have aaN:T.nc=n.nc:=by rw[<-J];exact p2
    have d0:=Y.k0;have dl:=Y.lt;rw[Z.out.N,Z.out.gR,Z.out.sT,u]at d0;rw[Z.out.N]at dl;obtain⟨Rk,hRk⟩:=Y.ptr (i:=k) (by rw[u];exact HK.out);rw[Z.out.gR]at hRk;have gRl:=af _ _ hRk;have gRf:V.frozen? ⟨y.gR,k,ν⟩=false:=by
     obtain⟨y9,R9,s9,_,_⟩:=Y.ex;have X:=R9.rr.fz k (by rw[u];exact HK.out);rw[Nat.zero_add,s9.gR,Z.out.gR]at X;exact X
    have Sv:=Ak HK.out n6;have hki:(k:Int)<(n.n:Int):=dU;have Jh:(0:Int)<=(k:Int):=dU;have hTV:iV V:=Y.tab HR1.out rfl HT2.out;obtain⟨Q,um⟩:=fW (V.setCell ⟨y.gR,k,ν⟩ (π (μ ⟨z.R,0,ν⟩)));rw[um]at R2 sM;have aiI:y.gR≠0:=λe=>HH.out.z0 ⟨.R,by rw[<-e];rfl⟩;have hT4:iV Q:=λe s he hs=>by
     rw[<-um,aU _ _ _ _ (λe1=>aiI (congrArg Addr.block e1))];exact hTV e s he hs
    have anD:Q.heap.size=V.heap.size:=by rw[<-um];simp
    have hVs:=Y.kept.size;have aee:Hid (∀q' W M,(Wg:q'<L.length)->iy Q W A M n.n->∃g,a=μ ⟨g,0,ν⟩/\W.cell? ⟨g,q',ν⟩=μ (ι κ (L[q'] :Int))):=by
     intro q' W M Wg U;obtain⟨g,ea,hc⟩:=TP.out q' V _ Wg Y;have hg:=hNe.out g (by rw[ea];rfl);have CW:=C5.out.size;have SF:g≠y.gR:=λe=>by
      have:=HH.out.PD;omega
     refine⟨g,ea,(ai (a:=⟨g,q',ν⟩) (U.kept.block g dU (λe3=> ?_))).trans ?_⟩
     ·rcases ha2 g e3 with X|X|X
      ·have:=HH.out.Bf X;omega
      ·have:=HFL.out g X;omega
      ·omega
     ·rw[<-um,aU _ _ _ _ (λe1=>SF (congrArg Addr.block e1).symm)];exact hc
    have HP2:Hid (iy Q Q A (T.jB true (L.take 0)) n.n):=by
     show iy _ _ _ _ _;rw[<-Uf];exact iy.refl R2
    have aiJ:Hid (∀q' W,(Wg:q'<L.length)->iy Q W A (T.jB true (L.take q')) n.n->eT eU 113 #[π (μ ⟨y.N,0,ν⟩),ι κ (L[q'] :Int),.bool true] W λe w'=>e=ρ (τ #[])/\iy Q w' A (T.jB true (L.take (q'+1))) n.n):=by
     intro q' W Wg U;rw[<-s2.N];exact zb Q A T T D n.n true L R2 Uf hT4 Ue hD (λc hc=>by rw[aaN];exact G.out c hc) (by rw[Qe.out];exact hLl) Uf q' Wg W U
    have HG:Hid (∀W,iy Q W A (T.jB true L) n.n->eT eU 111 #[π (μ ⟨y.N,0,ν⟩)] W λe w'=>e=ρ (τ #[])/\iy Q w' A (T.jB true L).gather n.n):=by
     intro W U;refine U.call λy3 R3 s3=> ?_;rw[<-s2.N,<-s3.N];have h5:=jT.jB dU true L Ue (λc hc=>by rw[aaN];exact G.out c hc);have h6:=rS y3 _ D _ W R3 h5 dU (by rw[Qe.out];omega);rw[(mI true L T).1,Uf]at h6;exact h6
    have aar:Hid (∀W,iy Q W A (T.jB true L).gather n.n->iy w W y ((((n.jB false L).jq k (jE ((k:Int)+1) 3 (n.ms k))).jB true L).gather) n.n):=by
     intro W U;rw[xh,J];refine iy.qf sM s2 (λb e=> ?_) he2 U;rcases ha2 b e with X|X|X
     ·exact .inl X
     ·exact .inr (Qd.out b X)
     ·exact .inr (Nat.le_trans aeb.out.size X)
    have JX:Hid _:=um;clear Y R2 s2 ha2 he2 sM aec Ue xh J Uf aaN hTV hT4 um u p2 p3 p4 p5 e8 TP HPl Yv;go_wp2_with(fail);rw[JX.out]
    go_loopw [49] (λx wr=>∃q':Nat,q'<=q/\x=ι κ q'/\iy Q wr A (T.jB true (L.take q')) n.n) (λx _=>q-(eV x).toNat)
    case atStart=>exact⟨0,Nat.zero_le _,rfl,HP2.out⟩
    case round=>
     obtain⟨t,ht,rfl,LR⟩:=hrel;by_cases aaI:t<q
     ·have ad2:(t:Int)<(q:Int):=dU;have ht0:(0:Int)<=(t:Int):=dU;have htL:t<L.length:=by rw[Qe.out];exact aaI
      obtain⟨g,rfl,hcell⟩:=aee.out t wr _ htL LR;have gl:=af _ _ hcell;have Cn:=aiJ.out t wr htL LR;generalize L[t] =cq at hcell Cn;clear LR;go_wp2_with(fail);refine Cn.mono ?_;rintro e w1 ⟨rfl,j⟩;have HW:Hid _:=j;clear Cn j
      go_wp2
      go_roundw
      case rel=>exact⟨t+1,dU,by go_num,HW.out⟩
      case measure=>simp[eV];omega
     ·have ad4:¬(t:Int)<(q:Int):=dU;obtain rfl:t=q:=dU;rw[e9]at LR;have hg:=HG.out wr LR;clear LR;go_wp2_with(fail);refine hg.mono ?_;rintro e w1 ⟨rfl,j⟩;have HW:Hid _:=aar.out _ j;clear hg j
      go_wp2
      go_ret;exact⟨rfl,HW.out⟩
def B1(w:dR)(a:Option Addr)(L:List oR):Prop:=∀j,(hj:j<L.length)->∃b off,a=μ ⟨b,off,ν⟩/\w.cell? ⟨b,off+j*5,ν⟩=μ (ι κ L[j].a)/\w.cell? ⟨b,off+j*5+1,ν⟩=μ (ι κ L[j].pa)/\w.cell? ⟨b,off+j*5+2,ν⟩=μ (ι κ L[j].b)/\w.cell? ⟨b,off+j*5+3,ν⟩=μ (ι κ L[j].pb)/\w.cell? ⟨b,off+j*5+4,ν⟩=μ (ι κ L[j].m)
theorem B1.below {w':dR} {L:List oR} (h:B1 w a L)(hb:eh w w'):B1 w' a L:=λj Q=>by
 obtain⟨b,off,e,Y,V,X,T,U⟩:=h j Q;have Z:=hb.block b (af _ _ Y);exact⟨b,off,e,(ai (a:=⟨b,off+j*5,ν⟩) Z).trans Y,(ai (a:=⟨b,off+j*5+1,ν⟩) Z).trans V,(ai (a:=⟨b,off+j*5+2,ν⟩) Z).trans X,(ai (a:=⟨b,off+j*5+3,ν⟩) Z).trans T,(ai (a:=⟨b,off+j*5+4,ν⟩) Z).trans U⟩
theorem Ug:(eU.info? 193).map (·.size)=μ 4:=gL
theorem DY(a pa b pb m:Int)(w:dR):eT eU 97 #[.agg #[ι κ a,ι κ pa,ι κ b,ι κ pb,ι κ m]] w λe w'=>e=ρ (.agg #[ι κ a,ι κ pa,ι κ b,ι κ pb])/\eh w w':=by
 have Y:jc ((w.alloc (γ #[ι κ a,ι κ pa,ι κ b,ι κ pb,ι κ m] 81)).alloc (γ #[ι κ a,ι κ pa,ι κ b,ι κ pb] 193)) (w.heap.size+1) #[ι κ a,ι κ pa,ι κ b,ι κ pb] 193:=by
  have:=jc.new (w.alloc (γ #[ι κ a,ι κ pa,ι κ b,ι κ pb,ι κ m] 81)) #[ι κ a,ι κ pa,ι κ b,ι κ pb] 193;simpa using this
 have hb:eh w ((w.alloc (γ #[ι κ a,ι κ pa,ι κ b,ι κ pb,ι κ m] 81)).alloc (γ #[ι κ a,ι κ pa,ι κ b,ι κ pb] 193)):=(gN _ _).alloc gO _;have Z:=bL (P:=eU) _ (w.heap.size+1) 193 193 #[ι κ a,ι κ pa,ι κ b,ι κ pb] (0,0) _ Y underlying193 rfl Ug
 go_in
 go_wp2_with(fail);refine aE (v:=.agg #[ι κ a,ι κ pa,ι κ b,ι κ pb]) (by simp[results,results97,asAddr,Z]) rfl ?_;exact⟨rfl,hb⟩
theorem wA(r p many:Int)(w:dR):eT eU 154 #[.agg #[ι κ r,ι κ p],ι κ many] w λe w'=>e=ρ (.bool (ot many r p))/\eh w w':=by
 have hb:=gN w (γ #[ι κ r,ι κ p] 192);unfold ot;by_cases Y:1<=r
 ·by_cases Z:r<=many
  ·by_cases V:0<=p
   ·by_cases X:p<3
    ·have hv:(decide (1<=r)&&decide (r<=many)&&decide (0<=p)&&decide (p<3))=true:=by simp[Y,Z,V,X]
     rw[hv];clear hv
     go_in
     go_wp2
     go_ret;exact⟨by first|rfl|(simp;omega),hb⟩
    ·have hv:(decide (1<=r)&&decide (r<=many)&&decide (0<=p)&&decide (p<3))=false:=by simp[X]
     rw[hv];clear hv
     go_in
     go_wp2
     go_ret;exact⟨by first|rfl|(simp;omega),hb⟩
   ·have hv:(decide (1<=r)&&decide (r<=many)&&decide (0<=p)&&decide (p<3))=false:=by simp[V]
    rw[hv];clear hv
    go_in
    go_wp2
    go_ret;exact⟨by first|rfl|(simp;omega),hb⟩
  ·have hv:(decide (1<=r)&&decide (r<=many)&&decide (0<=p)&&decide (p<3))=false:=by simp[Z]
   rw[hv];clear hv
   go_in
   go_wp2
   go_ret;exact⟨by first|rfl|(simp;omega),hb⟩
 ·have hv:(decide (1<=r)&&decide (r<=many)&&decide (0<=p)&&decide (p<3))=false:=by simp[Y]
  rw[hv];clear hv
  go_in
  go_wp2
  go_ret;exact⟨by first|rfl|(simp;omega),hb⟩
open Go.ChangeShapes Go.WideShapes Go.ChangeAt
theorem Kg {H:Type} {enc:TypeId×Value->H} {W:dR} {n cap:Nat} {d:DataW H} {ps:List MemPlace}
 (h:DataW.Trod enc eU W 0 (λ_=>true) true 61 (σ a n cap) d ps):
 ∃L:List oR,B1 W a L/\L.length=n/\n<=maxLen:=by
 obtain⟨fuel,hf⟩:=h;rcases de underlying61 hf with⟨hcs,_⟩|⟨x,len,cp,m',n',D,Pl,hcs,_,hl,hm,Ja,_,hx⟩
 ·simp[fj]at hcs;obtain⟨rfl,rfl,rfl⟩:=hcs;exact⟨[],λj X=>by simp at X,rfl,dX⟩
 ·simp[fj]at hcs;obtain⟨rfl,rfl,rfl⟩:=hcs;simp at Ja;have ce:(eU).cellsOf 81=5:=gL;rw[ce]at hx;have each:∀i,i<n->∃q:oR,W.cell? (x.add (i*5))=μ (ι κ q.a)/\W.cell? (x.add (i*5+1))=μ (ι κ q.pa)/\W.cell? (x.add (i*5+2))=μ (ι κ q.b)/\W.cell? (x.add (i*5+3))=μ (ι κ q.pb)/\W.cell? (x.add (i*5+4))=μ (ι κ q.m):=by
   intro i hi;obtain⟨cs',h1,h2⟩:=hx i dU;obtain⟨_,hlen,hcell⟩:=World.cells?_some h1;obtain⟨xs,k,hk,hxy,_,Oq,Y⟩:=cP underlying81 h2
   match xs,Oq,cs',hlen with
   |[y0,y1,y2,y3,y4],_,[v0,v1,v2,v3,v4],_=>
    have g0:=Y 0 _ rfl;have g1:=Y 1 _ rfl;have J:=Y 2 _ rfl;have M:=Y 3 _ rfl;have G:=Y 4 _ rfl;have ci:(eU).cellsOf 3=1:=gL;simp[ci]at g0 g1 J M G;obtain⟨i0,f0,_,_⟩:=bg underlying3 g0;obtain⟨i1,f1,_,_⟩:=bg underlying3 g1;obtain⟨i2,f2,_,_⟩:=bg underlying3 J;obtain⟨i3,A,_,_⟩:=bg underlying3 M;obtain⟨i4,V,_,_⟩:=bg underlying3 G;simp at f0 f1 f2 A V;subst f0 f1 f2 A V;have c0:=hcell 0 dU;have c1:=hcell 1 dU;have c2:=hcell 2 dU;have c3:=hcell 3 dU;have c4:=hcell 4 dU;rw[Go.Deep.add_add]at c0 c1 c2 c3 c4;exact⟨⟨i0,i1,i2,i3,i4⟩,c0,c1,c2,c3,c4⟩
  obtain⟨Q,T⟩:∃Q:Nat->oR,∀i,i<n->W.cell? (x.add (i*5))=μ (ι κ (Q i).a)/\W.cell? (x.add (i*5+1))=μ (ι κ (Q i).pa)/\W.cell? (x.add (i*5+2))=μ (ι κ (Q i).b)/\W.cell? (x.add (i*5+3))=μ (ι κ (Q i).pb)/\W.cell? (x.add (i*5+4))=μ (ι κ (Q i).m):=by
   refine⟨λi=>if hi:i<n then gM (each i hi)else⟨0,0,0,0,0⟩,λi hi=> ?_⟩;show W.cell? _=μ (ι κ (if hi:i<n then gM (each i hi)else⟨0,0,0,0,0⟩:oR).a)/\W.cell? _=μ (ι κ (if hi:i<n then gM (each i hi)else⟨0,0,0,0,0⟩:oR).pa)/\W.cell? _=μ (ι κ (if hi:i<n then gM (each i hi)else⟨0,0,0,0,0⟩:oR).b)/\W.cell? _=μ (ι κ (if hi:i<n then gM (each i hi)else⟨0,0,0,0,0⟩:oR).pb)/\W.cell? _=μ (ι κ (if hi:i<n then gM (each i hi)else⟨0,0,0,0,0⟩:oR).m);rw[dif_pos hi];exact Classical.choose_spec (each i hi)
  refine⟨(fR n).map Q,λj X=> ?_,gO,dU⟩;have IK:j<n:=by simpa using X
  obtain⟨b,off,Z⟩:=x;obtain⟨q0,q1,q2,U,u⟩:=T j IK;have CY:Z=ν:=by simpa[Addr.add]using cR (T 0 dU).1
  subst CY;have hg:((fR n).map Q)[j] =Q j:=gO;rw[hg];rw[mG]at q0 q1 q2 U u;exact⟨b,off,rfl,q0,by simpa[Nat.add_assoc]using q1,by simpa[Nat.add_assoc]using q2,by simpa[Nat.add_assoc]using U,by simpa[Nat.add_assoc]using u⟩
