import Derived.Test.YtieklnlbljejdaaGreatDoorS05
open Go.Value renaming int → ι, slice → σ, pointer → π, tuple → τ, nilIface → η, ownBlock → eD, cells → fB
open Go.IntKind renaming i64 → κ
open Go.Ending renaming returned → ρ
open Go.Obj renaming cells → γ
open Option renaming none → ν, some → μ
open Go renaming World → ew, Calls → fc, Value → eA
open Go.Proofs.Tryz renaming prog → fe
open Go.Addr renaming off → gj
open Go.RowKit renaming intOf → fh
open List renaming range → ft, append_nil → ij, length_append → eV, length_cons → eW, length_nil → eX, setIfInBounds_toArray → gS, set_cons_zero → gT, set_cons_succ → gU
open Go.Instr renaming makeSlice → il, loadAt → fR
open Go.Act renaming put → gQ
open Classical renaming choose → iq
set_option maxRecDepth 100000
set_option maxHeartbeats 8000000
open Go.Proofs.Tryz
namespace Go.Proofs.YtieklnlbljejdaaGreatDoor
open Go.RowKit St
namespace Rt
variable {L:List pz} {P:Nat->Nat} {W W2 w w' x:World} {a:Option Addr} {b c cap g i k m n q:Nat} {many:Int} {p:jI} {r:iW} {s:LS} {t u v:Value} {y y1:Yt} {z:Zt}
theorem jS.DQ {n:ja} (h:jS w y n)(hi:i<n.n)(Y:iP w w' (y.z i) r (n.R i).n)(X:r.n=(n.R i).n/\r.id=(n.R i).id):iR w w' y (n.jO i r) n.n:=by
 obtain⟨Z,V⟩:=h.rn i hi;rw[Z]at Y;exact h.E9 hi Y ⟨X.1.trans Z,X.2.trans V⟩
theorem SD(y:Yt)(n:ja)(D k i:Nat)(w:ew)(h:jS w y n)(X:jt w)(Y:ki n D k)(hD:D<=1000000000)(V:k<=90000)(hi:i<n.n):
 fc fe 25 #[π (μ ⟨(y.z i).R,0,ν⟩)] w λe w'=>e=ρ (τ #[])/\iR w w' y (n.jO i (n.R i).tick) n.n:=by
 refine(Sv (y.z i) (n.R i) k w (h.rt i hi) X (Y.ok i hi) (Y.fits eB hi) V).mono ?_;rintro e w1 ⟨rfl,U⟩;have Z:=jT.jn (n.R i) (n.R i).n;exact⟨rfl,h.DQ hi U ⟨Z.n,Z.id⟩⟩
theorem SE(y:Yt)(n:ja)(D k i:Nat)(t:Int)(tx:ByteArray)(w:ew)(h:jS w y n)(Y:ki n D k)(hD:D<=1000000000)(hk:k<=90000)(hi:i<n.n):
 fc fe 27 #[π (μ ⟨(y.z i).R,0,ν⟩),ι κ t,.string tx] w λe w'=>e=ρ (jB (kD (n.R i) t tx.data.toList).2)/\iR w w' y (n.jO i (kD (n.R i) t tx.data.toList).1) n.n:=by
 refine(Sw (y.z i) (n.R i) k t tx w (h.rt i hi) (Y.ok i hi) (Y.fits eB hi) eB).mono ?_;rintro e w1 ⟨rfl,X⟩;have Z:=jT.kD (n.R i) t tx.data.toList;exact⟨rfl,h.DQ hi X ⟨Z.n,Z.id⟩⟩
theorem BO(h:k<m)(hm:m<=6):κ.wrap ((k:Int)+1-1)=(k:Int):=by
 have:(k:Int)+1-1=k:=eB;rw[this];exact aS _ ⟨eB,eB⟩
theorem L5(y:Yt)(n:ja)(D:Nat)(i:Int)(w:ew)(h:jS w y n)(U:jt w)(Y:ki n D 0)(hD:D<=900000000):
 fc fe 56 #[π (μ ⟨y.N,0,ν⟩),ι κ i] w λe w'=>e=ρ (jB (n.tick i).2)/\iR w w' y (n.tick i).1 n.n:=by
 have hh:=rH y n i w h;rcases zj i n.n with⟨hn,hi⟩|⟨k,Z,rfl⟩
 ·have V:n.tick i=(n,6):=by unfold ja.tick;rw[ai hi]
  rw[V];rw[hn]at hh;have X:Hid _:=iR.refl h;clear h Y U
  go_in
  go_wp2_with(fail);refine hh.mono ?_;rintro e w1 ⟨rfl,rfl⟩;clear hh
  go_wp2
  go_ret;exact⟨rfl,X.out⟩
 ·rw[Ak Z]at hh;have V:n.tick ((k:Int)+1)=((n.jO k (n.R k).tick).gather,0):=by
   unfold ja.tick;have A:((k:Int)+1-1).toNat=k:=eB;rw[af eB,A]
  rw[V];have c0:=h.k0;have cl:=h.yA;have d0:=h.ptr Z;have dl:=h.Sd;have n6:=h.n6;have hw:=BO Z n6;have ll:(k:Int)<(n.n:Int):=eB;have PH:(0:Int)<=(k:Int):=eB;have T:=SD y n D 0 k w h U Y eB eB Z;have Q:=Y.jo eB Z;have hg:Hid (∀W,iR w W y (n.jO k (n.R k).tick) n.n->fc fe 111 #[π (μ ⟨y.N,0,ν⟩)] W λe w'=>e=ρ (τ #[])/\iR w w' y (n.jO k (n.R k).tick).gather n.n):=by
   intro W hW;refine hW.call λy1 H s1=> ?_;rw[<-s1.N];exact tI y1 _ D _ W H Q eB eB
  have G:jB 0=η:=rfl;rw[G];clear h Y U Q
  go_in
  go_wp2_with(fail);refine hh.mono ?_;rintro e w1 ⟨rfl,rfl⟩;clear hh;go_wp2_with(fail);refine T.mono ?_;rintro e w1 ⟨rfl,M⟩;have S:=hg.out _ M;clear T M;go_wp2_with(fail);refine S.mono ?_;rintro e w2 ⟨rfl,J⟩;have X:Hid _:=J;clear S J
  go_wp2
  go_ret;exact⟨rfl,X.out⟩
theorem Wz(y:Yt)(n:ja)(D:Nat)(i t:Int)(tx:ByteArray)(w:ew)(h:jS w y n)(S:ki n D 0)(hD:D<=900000000):
 fc fe 53 #[π (μ ⟨y.N,0,ν⟩),ι κ i,ι κ t,.string tx] w λe w'=>e=ρ (jB (n.send i t tx.data.toList).2)/\iR w w' y (n.send i t tx.data.toList).1 n.n:=by
 have hh:=rH y n i w h;rcases zj i n.n with⟨hn,hi⟩|⟨k,U,rfl⟩
 ·have V:n.send i t tx.data.toList=(n,6):=by unfold ja.send;rw[ai hi]
  rw[V];rw[hn]at hh;have X:Hid _:=iR.refl h;clear h S
  go_in
  go_wp2_with(fail);refine hh.mono ?_;rintro e w1 ⟨rfl,rfl⟩;clear hh
  go_wp2
  go_ret;exact⟨rfl,X.out⟩
 ·rw[Ak U]at hh;have e1:((k:Int)+1-1).toNat=k:=eB;have c0:=h.k0;have cl:=h.yA;have d0:=h.ptr U;have dl:=h.Sd;have n6:=h.n6;have hw:=BO U n6;have ll:(k:Int)<(n.n:Int):=eB;have PH:(0:Int)<=(k:Int):=eB;have Z:=SE y n D 0 k t tx w h S eB eB U;have J:=S.Wv eB U t tx.data.toList;obtain⟨q,T⟩:=fq (kD (n.R k) t tx.data.toList);have V:n.send ((k:Int)+1) t tx.data.toList=if q.2≠0 then(n,q.2)else((n.jO k q.1).gather,0):=by
   unfold ja.send;rw[af eB,e1,T]
  rw[V];rw[T]at Z J;have G:Hid (∀W,iR w W y (n.jO k q.1) n.n->fc fe 111 #[π (μ ⟨y.N,0,ν⟩)] W λe w'=>e=ρ (τ #[])/\iR w w' y (n.jO k q.1).gather n.n):=by
   intro W hW;refine hW.call λy1 R1 s1=> ?_;rw[<-s1.N];exact tI y1 _ _ _ W R1 J eB eB
  have H:q.2≠0->q.1=n.R k:=λM=>by
   rw[<-T]at M⊢;unfold Rt.kD at M⊢;split at M;{rename_i hc;rw[ai hc]};{exact absurd rfl M}
  have vN:n.jO k (n.R k)=n:=by
   unfold ja.jO;rw[wU]
  by_cases Y:q.2=0
  ·rw[af (by simp[Y])];rw[Y]at Z;have e0:jB 0=η:=rfl;rw[e0]at Z⊢;clear h S J H V T Y
   go_in
   go_wp2_with(fail);refine hh.mono ?_;rintro e w1 ⟨rfl,rfl⟩;clear hh;go_wp2_with(fail);refine Z.mono ?_;rintro e w1 ⟨rfl,Q⟩;have A:=G.out _ Q;clear Z Q;go_wp2_with(fail);refine A.mono ?_;rintro e w2 ⟨rfl,wi⟩;have X:Hid _:=wi;clear A wi
   go_wp2
   go_ret;exact⟨rfl,X.out⟩
  ·rw[ai Y];rw[H Y,vN]at Z;have ee:jB q.2=.iface 128 (ι κ (q.2:Int)):=by simp only[jB];rw[af Y]
   rw[ee]at Z⊢;clear h S J H V T G Y
   go_in
   go_wp2_with(fail);refine hh.mono ?_;rintro e w1 ⟨rfl,rfl⟩;clear hh;go_wp2_with(fail);refine Z.mono ?_;rintro e w1 ⟨rfl,Q⟩;have X:Hid _:=Q;clear Z Q
   go_wp2
   go_ret;exact⟨rfl,X.out⟩
theorem iR.abw {n:ja} {R:Nat} (Y:jS W y1 n)(s1:y.same y1)(hi:i<n.n)(hc:W.cell? ⟨y.gR,i,ν⟩=μ (π (μ ⟨R,0,ν⟩))):(y1.z i).R=R:=by
 have Z:=Y.ptr hi;rw[s1.gR,hc]at Z;have X:=Option.some.inj Z;injection X with V
 injection V with U
 injection U with T
 exact T.symm
def Ap(W3:ew)(y:Yt)(n n1:ja)(i R:Nat)(b:Bool)(W:ew):Prop:=iR W3 W y (if b=true then n1 else n) n.n/\W.cell? ⟨y.gR,i,ν⟩=μ (π (μ ⟨R,0,ν⟩))
theorem Ap.below {W3:ew} {y:Yt} {n n1:ja} {i R:Nat} {b:Bool} {W W':ew} (h:Ap W3 y n n1 i R b W)(Z:n1.n=n.n)(hb:eH W W'):Ap W3 y n n1 i R b W':=by
 refine⟨h.1.below (by cases b<;>simp[Z]) hb,?_⟩;exact(aj (a:=⟨y.gR,i,ν⟩) (hb.block y.gR (ag _ _ h.2))).trans h.2
theorem SF(V:ew)(y:Yt)(n n1:ja)(i p R:Nat)(b:Bool)(W:ew)(U:n1.n=n.n)(hi:i<n.n)(Z:Ap V y n n1 i R b W):
 fc fe 157 #[π (μ ⟨y.N,0,ν⟩),.agg #[ι κ ((i:Int)+1),ι κ (p:Int)]] W λe w'=>e=ρ (π (μ ⟨R,0,ν⟩))/\Ap V y n n1 i R b w':=by
 obtain⟨y1,X,s1,wv,zF⟩:=Z.1.ex;have Y:(if b=true then n1 else n).n=n.n:=by cases b<;>simp[U]
 have T:=iR.abw X s1 (by rw[Y];exact hi) Z.2;rw[<-s1.N];refine(OE y1 _ i p W X (by rw[Y];exact hi)).mono ?_;rintro e w1 ⟨rfl,b1⟩;exact⟨by rw[T],Z.below U b1⟩
theorem L6(V:ew)(y:Yt)(n:ja)(D c d g i R:Nat)(many:Int)(W:ew)(J:ki n D 0)(hc:c<n.nc)(hd:d<2)(M:y.gC=μ g)(n1:ja)(H:n.lP c {n.C c with on:=j6 (n.C c).on d (((n.C c).on d).drop (min many.toNat ((n.C c).on d).length))}=n1)(Q:Ap V y n n1 i R false W):
 fc fe 158 #[π (μ ⟨g,c*7,ν⟩),ι κ (d:Int),ι κ many] W λe w'=>e=ρ (.string ⟨(((n.C c).on d).take (min many.toNat ((n.C c).on d).length)).toArray⟩)/\Ap V y n n1 i R true w':=by
 obtain⟨Y,U⟩:=Q;have Y:iR V W y n n.n:=Y;obtain⟨y1,Z,s1,G,A⟩:=Y.ex;have X:y1.gC=μ g:=by rw[s1.gC];exact M
 refine(Sg g (c*7) d (n.C c) (y1.ov c) many W hd (Z.rc g X c hc) (Z.ob c d hc hd) (Z.ahg X) (Z.ol c d hc hd)).mono ?_;rintro e w1 ⟨rfl,v',S⟩;have T:=Z.cbW hc hd X S rfl (λx hx=>iI _ _ hx) (by
  show(j6 (n.C c).on d _ d).length<=2000;rw[iQ,dI];have:=J.ol c d hc hd;omega)
 rw[H]at T;refine⟨rfl,iR.ry Y.kept s1 G A T,?_⟩;rw[<-s1.gR]at U⊢;refine(aj (a:=⟨y1.gR,i,ν⟩) (S.block y1.gR Z.Sd (λe=> ?_) (λe=> ?_))).trans U;{exact Z.wZ (l:=.R) (l':=.C) rfl X (by intro e;cases e) e};{exact Z.wZ (l:=.on c d) (l':=.R) e rfl (by intro e;cases e) rfl}
theorem L7(Z:ew)(y:Yt)(n:ja)(D c d i p R q:Nat)(W:ew)(T:ki n D 0)(hD:D<=900000000)(h3:jS Z y n)(hT:jt Z)(hc:c<n.nc)(hd:d<2)(H:(n.C c).e (1-d)=(i,p))(n1:ja)(J:n.lP c {n.C c with on:=j6 (n.C c).on d (((n.C c).on d).drop q)}=n1)(hW:Ap Z y n n1 i R true W):
 fc fe 23 #[π (μ ⟨R,0,ν⟩),ι κ (p:Int),.string ⟨(((n.C c).on d).take q).toArray⟩] W λe w'=>e=ρ η/\iR Z w' y (n.jE c d q) n.n:=by
 obtain⟨Y,h2⟩:=hW;have Y:iR Z W y n1 n.n:=Y;have hi:=(T.en c (1-d) hc eB)
 rw[H]at hi;have S:n1.n=n.n:=by rw[<-J];rfl
 have X:n1.R=n.R:=by rw[<-J];rfl
 have M:=Y.tab h3 rfl hT;obtain⟨y1,Q,s1,wv,zF⟩:=Y.ex;have hR:=iR.abw Q s1 (by rw[S];exact hi.1) h2;rw[<-hR];have hl:=T.ol c d hc hd;have sG:(⟨(((n.C c).on d).take q).toArray⟩:ByteArray).size<=2000:=by
  show Array.size _<=_;simp;omega
 have V:=Q.rt i (by rw[S];exact hi.1);have Yv:=T.fits eB (i:=i) hi.1;rw[X]at V;refine(Wl _ (y1.z i) (n.R i) p 0 W V M (T.ok i hi.1) Yv eB (by rw[(T.rn i hi.1).1];exact hi.2)).mono ?_;rintro e w1 ⟨rfl,A⟩;have e1:(⟨(((n.C c).on d).take q).toArray⟩:ByteArray).data.toList=((n.C c).on d).take q:=ik;rw[e1]at A;have h:=jT.recv (n.R i) p (((n.C c).on d).take q);have vP:i<n1.n:=by rw[S];exact hi.1
 have U:iR W w1 y1 (n1.jO i ((n.R i).recv p (((n.C c).on d).take q))) n1.n:=by
  have G:(n.R i)=n1.R i:=by rw[X]
  refine Q.DQ vP ?_ ?_;{rw[<-G];exact A};{rw[<-G];exact⟨h.n,h.id⟩}
 rw[S]at U;refine⟨rfl,iR.ry Y.kept s1 wv zF ?_⟩;have e3:n.jE c d q=n1.jO i ((n.R i).recv p (((n.C c).on d).take q)):=by
  unfold ja.jE;rw[H,J]
 rw[e3];exact U
theorem CK {p q r:Addr} {o:Obj} (h:w.cell? p=μ u/\w.cell? q=μ v/\w.cell? r=μ t):(w.alloc o).cell? p=μ u/\(w.alloc o).cell? q=μ v/\(w.alloc o).cell? r=μ t:=⟨kV h.1,kV h.2.1,kV h.2.2⟩
theorem OP {d l:Nat} {a1 a2:eA} (h:x.cell? ⟨b,k,ν⟩=μ u/\x.cell? ⟨c,l,ν⟩=μ v/\x.cell? ⟨d,m,ν⟩=μ t)(hb:b≠g)(hc:c≠g)(hd:d≠g):
 ((x.setCell ⟨g,0,ν⟩ a1).setCell ⟨g,1,ν⟩ a2).cell? ⟨b,k,ν⟩=μ u/\((x.setCell ⟨g,0,ν⟩ a1).setCell ⟨g,1,ν⟩ a2).cell? ⟨c,l,ν⟩=μ v/\((x.setCell ⟨g,0,ν⟩ a1).setCell ⟨g,1,ν⟩ a2).cell? ⟨d,m,ν⟩=μ t:=
 ⟨oW (oW h.1 hb) hb,oW (oW h.2.1 hc) hc,oW (oW h.2.2 hd) hd⟩
theorem ZL(c:qX)(o:Nat->eA)(x:Nat)(hx:x<2):Dm c o (x*2)=ι κ (((c.e x).1:Int)+1)/\Dm c o (x*2+1)=ι κ ((c.e x).2:Int):=by
 have:x=0 \/x=1:=eB;rcases this with rfl|rfl<;>exact⟨rfl,rfl⟩
theorem CL(y:Yt)(n:ja)(D:Nat)(i d many:Int)(w:ew)(h:jS w y n)(hT:jt w)(jb:ki n D 0)(hD:D<=900000000):
 fc fe 101 #[π (μ ⟨y.N,0,ν⟩),ι κ i,ι κ d,ι κ many] w λe w'=>e=ρ (jB (n.deliver i d many).2)/\iR w w' y (n.deliver i d many).1 n.n:=by
 have hh:=OD y n i d w h;rcases OC i d n.nc with⟨hn,hi⟩|⟨c,k,hc,hk,rfl,rfl⟩
 ·have hE:n.deliver i d many=(n,6):=by unfold ja.deliver;rw[ai hi]
  rw[hE];rw[hn]at hh;have HW:Hid _:=iR.refl h;clear h jb hT
  go_in
  go_wp2_with(fail);refine hh.mono ?_;rintro e w1 ⟨rfl,rfl⟩;clear hh
  go_wp2
  go_ret;exact⟨rfl,HW.out⟩
 ·rw[Wf hc hk]at hh;obtain⟨q,hq⟩:=fq (min many.toNat ((n.C c).on k).length);have hE:n.deliver (c:Int) (k:Int) many=((n.jE c k q).gather,0):=by
   unfold ja.deliver;rw[af eB,Int.toNat_natCast,Int.toNat_natCast,hq]
  rw[hE];have e0:jB 0=η:=rfl;rw[e0];obtain⟨a,cp,wM,LX⟩:=h.cvs;obtain⟨g,hg,rfl⟩:=LX c hc;have lq:=jb.jE (D:=D) (k:=0) (c:=c) (d:=k) (q:=q) eB hc hk;have hG:Hid (∀W,iR w W y (n.jE c k q) n.n->fc fe 111 #[π (μ ⟨y.N,0,ν⟩)] W λe w'=>e=ρ (τ #[])/\iR w w' y (n.jE c k q).gather n.n):=by
   intro W V;refine V.call λy1 R1 s1=> ?_;rw[<-s1.N];exact tI y1 _ _ _ W R1 lq eB eB
  obtain⟨x,hx⟩:=fq (1-k);have Dt:x<2:=eB;have A:=λW=>Se k hk W;rw[hx]at A;obtain⟨j,p,Q⟩:∃j p,(n.C c).e x=(j,p):=⟨_,_,rfl⟩
  have HF:Hid (∀W,eH w W->W.cell? ⟨y.N,3,ν⟩=μ (σ (μ ⟨g,0,ν⟩) n.nc cp)/\W.cell? ⟨g,c*7+x*2,ν⟩=μ (ι κ ((j:Int)+1))/\W.cell? ⟨g,c*7+x*2+1,ν⟩=μ (ι κ (p:Int))):=by
   intro W hb;have R1:=h.below hb;have h3:=R1.k3;rw[wM]at h3;have h4:=(R1.rc g hg c hc).cell (x*2) eB;have h5:=(R1.rc g hg c hc).cell (x*2+1) eB;obtain⟨g1,g2⟩:=ZL (n.C c) (y.ov c) x Dt;rw[g1,Q]at h4;rw[g2,Q]at h5;exact⟨h3,h4,h5⟩
  have HH:Hid _:=h;have HT:Hid _:=hT;have Rq:Hid _:=jb;have HG:Hid _:=hg;have HJP:Hid _:=Q;have HX:Hid _:=hx;have HQ:Hid _:=hq;have c9:=h.c9;have j9:(c:Int)<(n.nc:Int):=eB;have si:(0:Int)<=(c:Int):=eB;have vY:(x:Int)<2:=eB;have hx0:(0:Int)<=(x:Int):=eB;obtain⟨nc,uG⟩:=fq (n.nc);rw[uG]at HF j9 c9;obtain⟨M,G⟩:=fq (y.N);rw[G]at HF hh⊢;have S:Hid _:=G;have HC:Hid _:=hc;clear h jb hT wM LX lq hE Q uG hq G hc hg;have U:=HF.out w.drew (jl w);have gl:g<w.drew.heap.size:=ag _ _ U.2.1;have Nl:M<w.drew.heap.size:=ag _ _ U.1;have gne:g≠w.heap.size:=by have:g<w.heap.size:=gl;omega
  have Nne:M≠w.heap.size:=by have:M<w.heap.size:=Nl;omega
  go_in
  go_wp2_with(fail);refine hh.mono ?_;rintro e w1 ⟨rfl,rfl⟩;clear hh
  go_wp2
  go_cut [9] (λv Z=>∃Y:Nat,v=π (μ ⟨Y,0,ν⟩)/\Z.cell? ⟨Y,0,ν⟩=μ (ι κ ((j:Int)+1))/\Z.cell? ⟨Y,1,ν⟩=μ (ι κ (p:Int))/\eH w Z/\w.heap.size<=Y)
  case first=>
   go_region_held3(λx'=>x'.cell? ⟨M,3,ν⟩=μ (σ (μ ⟨g,0,ν⟩) nc cp)/\x'.cell? ⟨g,c*7+x*2,ν⟩=μ (ι κ ((j:Int)+1))/\x'.cell? ⟨g,c*7+x*2+1,ν⟩=μ (ι κ (p:Int)))
    (first|assumption|exact U|exact CK U|exact OP (CK U) Nne gne gne)
    (first|(go_at_call 156;refine(A _).mono ?_;rintro e w1 ⟨rfl,rfl⟩))
   all_goals
    go_wp2_with(fail)
    go_meet
    have hB:ji (w.alloc (γ #[ι κ ((j:Int)+1),ι κ (p:Int)] 192)).drew w.heap.size #[ι κ ((j:Int)+1),ι κ (p:Int)] 192:=(ji.new w _ _).drew;exact⟨_,rfl,hB.cell 0,hB.cell 1,jK (gK _ _),Nat.le_refl _⟩
  case rest=>
   obtain⟨Y,rfl,y0,y1,r9,hY⟩:=hcut
   rename ew=>Z
   have R3:=HH.out.below r9;have hT3:jt Z:=jt.below (w:=w) HT.out r9;have Yl:=ag _ _ y0;have hYn:¬y.all n.n Y:=λe=>by
    have:=HH.out.CI e;omega
   obtain⟨n1,mP⟩:=fq (n.lP c {n.C c with on:=j6 (n.C c).on k (((n.C c).on k).drop q)});have AX:n1.n=n.n:=by rw[<-mP];rfl
   have ahn:n1.nc=n.nc:=by rw[<-mP];rfl
   have Pm:j<n.n:=by have:=(Rq.out.en c x HC.out Dt).1;rw[HJP.out]at this;exact this
   have aho:(n.C c).e (1-k)=(j,p):=by rw[HX.out];exact HJP.out
   have hF3:=HF.out;have FW:∀(W:ew) (n':ja),n'.nc=n.nc->iR Z W y n' n.n->W.cell? ⟨Y,0,ν⟩=μ (ι κ ((j:Int)+1))/\W.cell? ⟨Y,1,ν⟩=μ (ι κ (p:Int))/\W.cell? ⟨M,3,ν⟩=μ (σ (μ ⟨g,0,ν⟩) nc cp):=by
    intro W n' hn' V;have vm:=V.kept.block Y Yl hYn;refine⟨(aj (a:=⟨Y,0,ν⟩) vm).trans y0,(aj (a:=⟨Y,1,ν⟩) vm).trans y1,?_⟩;have h3:=(hF3 Z r9).1;have k3:=R3.k3;rw[S.out,h3]at k3;have k4:=V.k3;rw[hn',<-Option.some.inj k3,S.out]at k4;exact k4
   have J:∀(b:Bool) (W:ew),Ap Z y n n1 j (y.z j).R b W->W.cell? ⟨Y,0,ν⟩=μ (ι κ ((j:Int)+1))/\W.cell? ⟨Y,1,ν⟩=μ (ι κ (p:Int))/\W.cell? ⟨M,3,ν⟩=μ (σ (μ ⟨g,0,ν⟩) nc cp):=by
    intro b W V;refine FW W _ ?_ V.1;cases b;{rfl};{exact ahn}
   have hat:=λ(b:Bool) (W:ew) (V:Ap Z y n n1 j (y.z j).R b W)=>SF Z y n n1 j p (y.z j).R b W AX Pm V;have zE:=λ(W:ew) (V:Ap Z y n n1 j (y.z j).R false W)=>L6 Z y n D c k g j (y.z j).R many W Rq.out HC.out hk HG.out n1 (by rw[HQ.out];exact mP) V;have X:∀(W:ew),Ap Z y n n1 j (y.z j).R true W->fc fe 23 #[π (μ ⟨(y.z j).R,0,ν⟩),ι κ (p:Int),.string ⟨(((n.C c).on k).take q).toArray⟩] W λe w'=>e=ρ η/\iR Z w' y (n.jE c k q) n.n/\(w'.cell? ⟨Y,0,ν⟩=μ (ι κ ((j:Int)+1))/\w'.cell? ⟨Y,1,ν⟩=μ (ι κ (p:Int))/\w'.cell? ⟨M,3,ν⟩=μ (σ (μ ⟨g,0,ν⟩) nc cp)):=by
    intro W V;refine(L7 Z y n D c k j p (y.z j).R q W Rq.out hD R3 hT3 HC.out hk aho n1 mP V).mono ?_;rintro e w' ⟨rfl,hw⟩;exact⟨rfl,hw,FW w' (n.jE c k q) rfl hw⟩
   rw[HQ.out]at zE;have t0:Ap Z y n n1 j (y.z j).R false Z.drew:=⟨iR.still R3 (jl Z),(aj (a:=⟨y.gR,j,ν⟩) rfl).trans (R3.ptr Pm)⟩
   have U:=J _ _ t0;have Ez:Hid _:=r9;generalize (y.z j).R=RR at hat zE X t0 J;generalize (⟨(((n.C c).on k).take q).toArray⟩:ByteArray)=sx at zE X;obtain⟨T,hTe⟩:=fq (Ap Z y n n1 j RR);obtain⟨T2,ahp⟩:∃T2:ew->Prop,(λw'=>iR Z w' y (n.jE c k q) n.n)=T2:=⟨_,rfl⟩
   have H:∀x,iR Z x y (n.jE c k q) n.n=T2 x:=λx=>cy ahp x;have HT2:Hid _:=H;simp only[H]at X;rw[hTe]at hat zE X t0 J;rw[S.out]at hat;have Yl2:Y<Z.drew.heap.size:=Yl;have cl2:=ag _ _ U.2.2;clear FW mP AX ahn hF3 R3 hT3 hYn hTe ahp H aho y0 y1 r9 U A;have U:=J _ _ t0
   go_wp2
   go_region_held3(λx'=>x'.cell? ⟨Y,0,ν⟩=μ (ι κ ((j:Int)+1))/\x'.cell? ⟨Y,1,ν⟩=μ (ι κ (p:Int))/\x'.cell? ⟨M,3,ν⟩=μ (σ (μ ⟨g,0,ν⟩) nc cp))
    (first|assumption|exact U|exact F1|exact F2|exact F3)
    (first
     |(go_at_call 157;refine(hat _ _ jr).mono ?_;rintro e w1 ⟨rfl,t1⟩;have F1:=J _ _ t1)
     |(go_at_call 158;refine(zE _ jr).mono ?_;rintro e w2 ⟨rfl,t2⟩;have F2:=J _ _ t2)
     |(go_at_call 23;refine(X _ jr).mono ?_;rintro e w3 ⟨rfl,t3,F3⟩))
   all_goals
    have yh:=t3;rw[<-HT2.out]at yh;have kR:=hG.out _ (iR.first Ez.out yh);rw[S.out]at kR;clear yh hat zE X t0 t1 t2 t3 J U F1 F2 F3;go_wp2_with(fail);refine kR.mono ?_;rintro e w4 ⟨rfl,Qi⟩;have HW:Hid _:=Qi;clear kR Qi
    go_wp2
    go_ret;exact⟨rfl,HW.out⟩
theorem adZ(w:ew):(zeroValue 195).run fe w=.ok (.agg #[σ ν 0 0,σ ν 0 0]) w:=ga
theorem CM(w:ew)(y:Yt)(M:ja)(D k c d m:Nat)(up:Bool)(U:ki M D k)(hD:D<=900000000)(hk:k<=90000)(hc:c<M.nc)(hd:d<2)(hm:M.n=m)(i p:Nat)(J:(M.C c).e d=(i,p))(V Z:ew)(h:iR w V y M m)(hT:jt V)(hb:eH V Z)(E:Nat)(u v:eA)(hE:V.heap.size<=E)(Y:Z.cell? ⟨E,0,ν⟩=μ u/\Z.cell? ⟨E,1,ν⟩=μ v):
 fc fe 157 #[π (μ ⟨y.N,0,ν⟩),.agg #[ι κ ((i:Int)+1),ι κ (p:Int)]] Z λe w1=>∃R,e=ρ (π (μ ⟨R,0,ν⟩))/\(w1.cell? ⟨E,0,ν⟩=μ u/\w1.cell? ⟨E,1,ν⟩=μ v)/\
  fc fe 20 #[π (μ ⟨R,0,ν⟩),ι κ (p:Int),.bool up] w1 λe T=>∃f:Nat,e=ρ (jB f)/\(T.cell? ⟨E,0,ν⟩=μ u/\T.cell? ⟨E,1,ν⟩=μ v)/\iR w T y (M.np c d up) m:=by
 subst hm;obtain⟨hi,hp⟩:=U.en c d hc hd;rw[J]at hi hp;obtain⟨y1,H,s1,wv,zF⟩:=h.ex;have G:=H.below hb;have X:E<Z.heap.size:=ag _ _ Y.1;have Q:¬y1.all M.n E:=λe=>by
  have:=H.CI (k:=E) e;omega
 rw[<-s1.N];refine(OE y1 _ i p Z G hi).mono ?_;rintro e w1 ⟨rfl,b1⟩;refine⟨_,rfl,⟨(aj (a:=⟨E,0,ν⟩) (b1.block E X)).trans Y.1,(aj (a:=⟨E,1,ν⟩) (b1.block E X)).trans Y.2⟩,?_⟩;have S:E<w1.heap.size:=Nat.lt_of_lt_of_le X b1.size;have A:=G.below b1;have Zo:jt w1:=jt.below (w:=V) hT (fP hb b1);refine(Sx up (y1.z i) (M.R i) p k w1 (A.rt i hi) Zo (U.ok i hi) (U.fits eB hi) eB (by rw[(U.rn i hi).1];exact hp)).mono ?_;rintro e T ⟨rfl,hw⟩;have hg:=jT.iZ (M.R i) p up;have wi:=A.DQ hi hw ⟨hg.n,hg.id⟩;have sv:=wi.kept.block E S Q;refine⟨_,rfl,⟨(aj (a:=⟨E,0,ν⟩) (sv.trans (b1.block E X))).trans Y.1,(aj (a:=⟨E,1,ν⟩) (sv.trans (b1.block E X))).trans Y.2⟩,?_⟩;have e1:M.np c d up=M.jO i ((M.R i).iZ p up).1:=by
  unfold ja.np;rw[J]
 rw[e1];exact iR.ry h.kept s1 wv zF (iR.first (fP hb b1) wi)
theorem jS.turn {n:ja} (h:jS w y n)(hc:c<n.nc)(Y:y.gC=μ g)(up:Bool)(hx:x=((w.setCell ⟨g,c*7+4,ν⟩ (.bool up)).setCell ⟨g,c*7+5,ν⟩ (σ ν 0 0)).setCell ⟨g,c*7+6,ν⟩ (σ ν 0 0)):
 iR w x y (n.lP c {n.C c with jc:=up,on:=λ_=>[] }) n.n:=by
 have hC:=h.rc g Y c hc;have V:=((hC.set 4 eF (.bool up)).set 5 eF (σ ν 0 0)).set 6 eF (σ ν 0 0);have sG:x.heap.size=w.heap.size:=by rw[hx];simp
 have T:∀k,k≠g->x.heap[k]? =w.heap[k]? :=λk Z=>by
  rw[hx,aq _ _ _ k Z,aq _ _ _ k Z,aq _ _ _ k Z]
 have b1:Below 0 w x:=by rw[hx];exact(((au 0 w).setCell (Nat.zero_le _) _).setCell (Nat.zero_le _) _).setCell (Nat.zero_le _) _
 refine h.Qc hc Y _ (λ_=>σ ν 0 0) eB b1.os b1.tape b1.output (λk _ X _=>T k X) (λj U=> ?_) (λj=> ?_) ?_ (λd _=>Row.nil _ 1) (λd _=>Nat.zero_le _) rfl (λd k _ e=>by simp[eD]at e) (λk e=>by simp[eD]at e);{rw[hx];rw[aW _ _ _ _ (λe=>by have:=congrArg gj e;simp at this;omega),aW _ _ _ _ (λe=>by have:=congrArg gj e;simp at this;omega),aW _ _ _ _ (λe=>by have:=congrArg gj e;simp at this;omega)]};{rw[hx,mT,mT,mT]};{rw[hx];refine V.congr λj U=> ?_;have:j=0 \/j=1 \/j=2 \/j=3 \/j=4 \/j=5 \/j=6:=eB;rcases this with rfl|rfl|rfl|rfl|rfl|rfl|rfl<;>rfl}
theorem Iz(y:Yt)(n:ja)(D k c:Nat)(up:Bool)(w:ew)(h:jS w y n)(hT:jt w)(jb:ki n D k)(hD:D<=900000000)(hk:k<=80000)(hc:c<n.nc):
 fc fe 113 #[π (μ ⟨y.N,0,ν⟩),ι κ (c:Int),.bool up] w λe w'=>e=ρ (τ #[])/\iR w w' y (n.kd c up) n.n:=by
 have c3:=h.k3;obtain⟨a,cp,wM,LX⟩:=h.cvs;obtain⟨g,hg,rfl⟩:=LX c hc;rw[wM]at c3;have cl:=h.yA;have c9:=h.c9;have j9:(c:Int)<(n.nc:Int):=eB;have si:(0:Int)<=(c:Int):=eB;have hC:=h.rc g hg c hc;have gl:=hC.lt eF;have k4:=hC.cell 4 eF;have f4:=hC.fz 4 eF;have k5:=hC.cell 5 eF;have f5:=hC.fz 5 eF;have k6:w.cell? ⟨g,c*7+5+1,ν⟩=_:=hC.cell 6 eF;have f6:w.frozen? ⟨g,c*7+5+1,ν⟩=false:=hC.fz 6 eF;have hzo:=adZ;obtain⟨i0,Y,LY⟩:∃i0 Y,(n.C c).e 0=(i0,Y):=⟨_,_,rfl⟩
 obtain⟨i1,X,LZ⟩:∃i1 X,(n.C c).e 1=(i1,X):=⟨_,_,rfl⟩
 have k0:w.cell? ⟨g,c*7,ν⟩=μ (ι κ ((i0:Int)+1)):=by
  have:=hC.cell 0 eF;rw[(CJ _ _).1,LY]at this;exact this
 have k1:w.cell? ⟨g,c*7+1,ν⟩=μ (ι κ (Y:Int)):=by
  have:=hC.cell 1 eF;rw[(CJ _ _).2.1,LY]at this;exact this
 have k2:w.cell? ⟨g,c*7+2,ν⟩=μ (ι κ ((i1:Int)+1)):=by
  have:=hC.cell 2 eF;rw[(CJ _ _).2.2.1,LZ]at this;exact this
 have k3:w.cell? ⟨g,c*7+3,ν⟩=μ (ι κ (X:Int)):=by
  have:=hC.cell 3 eF;rw[(CJ _ _).2.2.2.1,LZ]at this;exact this
 have H0:Hid (iR w (((w.setCell ⟨g,c*7+4,ν⟩ (.bool up)).setCell ⟨g,c*7+5,ν⟩ (σ ν 0 0)).setCell ⟨g,c*7+5+1,ν⟩ (σ ν 0 0)) y (n.lP c {n.C c with jc:=up,on:=λ_=>[] }) n.n):=h.turn hc hg up rfl;have ZM:ki (n.lP c {n.C c with jc:=up,on:=λ_=>[] }) D k:=jb.lP (λ_=>rfl) (λ_ _ _=>Nat.zero_le _);obtain⟨V,LO⟩:=fq (n.lP c {n.C c with jc:=up,on:=λ_=>[] });have hMC:(V.C c).e=(n.C c).e:=by
  rw[<-LO];show(if c=c then _ else n.C c).e=_;rw[ai rfl]
 have hMn:V.n=n.n:=by rw[<-LO];rfl
 have S:V.nc=n.nc:=by rw[<-LO];rfl
 have HE1:Hid (n.kd c up=(V.np c 0 up).np c 1 up):=by
  show _=_;unfold ja.kd;rw[LO]
 rw[LO]at H0 ZM;have lq:ki (V.np c 0 up) D (k+1):=ZM.Wu eB (by rw[S];exact hc) eF up;have A:Hid (∀Z,iR w Z y V n.n->
  fc fe 157 #[π (μ ⟨y.N,0,ν⟩),.agg #[ι κ ((i0:Int)+1),ι κ (Y:Int)]] (Z.alloc (γ #[ι κ ((i0:Int)+1),ι κ (Y:Int)] 192)).drew λe w1=>∃R,e=ρ (π (μ ⟨R,0,ν⟩))/\(w1.cell? ⟨Z.heap.size,0,ν⟩=μ (ι κ ((i0:Int)+1))/\w1.cell? ⟨Z.heap.size,1,ν⟩=μ (ι κ (Y:Int)))/\
  fc fe 20 #[π (μ ⟨R,0,ν⟩),ι κ (Y:Int),.bool up] w1 λe J=>∃f:Nat,e=ρ (jB f)/\(J.cell? ⟨Z.heap.size,0,ν⟩=μ (ι κ ((i0:Int)+1))/\J.cell? ⟨Z.heap.size,1,ν⟩=μ (ι κ (Y:Int)))/\iR w J y (V.np c 0 up) n.n):=by
  intro Z hw;have hb:=jK (gK Z (γ #[ι κ ((i0:Int)+1),ι κ (Y:Int)] 192));have U:ji (Z.alloc (γ #[ι κ ((i0:Int)+1),ι κ (Y:Int)] 192)).drew Z.heap.size #[ι κ ((i0:Int)+1),ι κ (Y:Int)] 192:=(ji.new Z _ _).drew;exact CM w y V D k c 0 n.n up ZM hD eB (by rw[S];exact hc) eF hMn i0 Y (by rw[hMC];exact LY) Z _ hw (hw.tab h rfl hT) hb Z.heap.size _ _ (Nat.le_refl _) ⟨U.cell 0,U.cell 1⟩
 have T:Hid (∀Z,iR w Z y (V.np c 0 up) n.n->
  fc fe 157 #[π (μ ⟨y.N,0,ν⟩),.agg #[ι κ ((i1:Int)+1),ι κ (X:Int)]] (Z.alloc (γ #[ι κ ((i1:Int)+1),ι κ (X:Int)] 192)).drew λe w1=>∃R,e=ρ (π (μ ⟨R,0,ν⟩))/\(w1.cell? ⟨Z.heap.size,0,ν⟩=μ (ι κ ((i1:Int)+1))/\w1.cell? ⟨Z.heap.size,1,ν⟩=μ (ι κ (X:Int)))/\
  fc fe 20 #[π (μ ⟨R,0,ν⟩),ι κ (X:Int),.bool up] w1 λe J=>∃f:Nat,e=ρ (jB f)/\(J.cell? ⟨Z.heap.size,0,ν⟩=μ (ι κ ((i1:Int)+1))/\J.cell? ⟨Z.heap.size,1,ν⟩=μ (ι κ (X:Int)))/\iR w J y (n.kd c up) n.n):=by
  intro Z hw;have hb:=jK (gK Z (γ #[ι κ ((i1:Int)+1),ι κ (X:Int)] 192));have U:ji (Z.alloc (γ #[ι κ ((i1:Int)+1),ι κ (X:Int)] 192)).drew Z.heap.size #[ι κ ((i1:Int)+1),ι κ (X:Int)] 192:=(ji.new Z _ _).drew;rw[HE1.out];exact CM w y (V.np c 0 up) D (k+1) c 1 n.n up lq hD eB (by show c<V.nc;rw[S];exact hc) eF hMn i1 X (by show(V.C c).e 1=_;rw[hMC];exact LZ) Z _ hw (hw.tab h rfl hT) hb Z.heap.size _ _ (Nat.le_refl _) ⟨U.cell 0,U.cell 1⟩
 obtain⟨nc,uG⟩:=fq (n.nc);rw[uG]at c3 c9 j9;obtain⟨m,hm⟩:=fq (n.n);rw[hm]at H0 A T⊢;obtain⟨M1,rG⟩:=fq (V.np c 0 up);rw[rG]at A T;obtain⟨M2,uH⟩:=fq (n.kd c up);rw[uH]at T⊢;clear h hT jb wM LX hC hg hc uG hm rG uH HE1 ZM lq LO hMC hMn S LY LZ
 go_in
 go_wp2
 go_loopw [27] (λx wr=>(x=ι κ 0/\iR w wr y V m) \/(x=ι κ 1/\iR w wr y M1 m) \/(x=ι κ 2/\iR w wr y M2 m)) (λx _=>2-(fh x).toNat)
 case atStart=>exact .inl ⟨rfl,H0.out⟩
 case round=>
  rcases hrel with⟨rfl,H⟩|⟨rfl,H⟩|⟨rfl,H⟩
  ·have hix:=adT ((i0:Int)+1) (Y:Int) ((i1:Int)+1) (X:Int);have hE:=A.out wr H;obtain⟨W1,Q⟩:=fq (wr.alloc (γ #[ι κ ((i0:Int)+1),ι κ (Y:Int)] 192));obtain⟨E,M⟩:=fq (wr.heap.size);have G:W1.drew.cell? ⟨E,0,ν⟩=μ (ι κ ((i0:Int)+1))/\W1.drew.cell? ⟨E,1,ν⟩=μ (ι κ (Y:Int)):=by
    have U:ji (wr.alloc (γ #[ι κ ((i0:Int)+1),ι κ (Y:Int)] 192)).drew wr.heap.size #[ι κ ((i0:Int)+1),ι κ (Y:Int)] 192:=(ji.new wr _ _).drew;rw[Q,M]at U;exact⟨U.cell 0,U.cell 1⟩
   have El:E<W1.drew.heap.size:=ag _ _ G.1;rw[Q,M]at hE;have Ks:Hid _:=Q;have V9:Hid _:=M;clear H Q M;go_wp2_with(fail)
   try rw[Ks.out]
   try rw[V9.out]
   go_region_held3(λx=>x.cell? ⟨E,0,ν⟩=μ (ι κ ((i0:Int)+1))/\x.cell? ⟨E,1,ν⟩=μ (ι κ (Y:Int)))
    (first|assumption|exact G|exact F1|exact F2)
    (first
     |(go_at_call 157;refine hE.mono ?_;rintro e w1 ⟨R,rfl,F1,hO⟩)
     |(go_at_call 20;refine hO.mono ?_;rintro e J ⟨f,rfl,F2,hP⟩))
   all_goals
    have LP:Hid _:=hP;clear hE hO hP G F1 F2 El
    go_wp2
    go_roundw
    case rel=>exact .inr (.inl ⟨by go_num,LP.out⟩)
    case measure=>simp[fh]
  ·have hix:=adU ((i0:Int)+1) (Y:Int) ((i1:Int)+1) (X:Int);have hE:=T.out wr H;obtain⟨W1,Q⟩:=fq (wr.alloc (γ #[ι κ ((i1:Int)+1),ι κ (X:Int)] 192));obtain⟨E,M⟩:=fq (wr.heap.size);have G:W1.drew.cell? ⟨E,0,ν⟩=μ (ι κ ((i1:Int)+1))/\W1.drew.cell? ⟨E,1,ν⟩=μ (ι κ (X:Int)):=by
    have U:ji (wr.alloc (γ #[ι κ ((i1:Int)+1),ι κ (X:Int)] 192)).drew wr.heap.size #[ι κ ((i1:Int)+1),ι κ (X:Int)] 192:=(ji.new wr _ _).drew;rw[Q,M]at U;exact⟨U.cell 0,U.cell 1⟩
   have El:E<W1.drew.heap.size:=ag _ _ G.1;rw[Q,M]at hE;have Ks:Hid _:=Q;have V9:Hid _:=M;clear H Q M;go_wp2_with(fail)
   try rw[Ks.out]
   try rw[V9.out]
   go_region_held3(λx=>x.cell? ⟨E,0,ν⟩=μ (ι κ ((i1:Int)+1))/\x.cell? ⟨E,1,ν⟩=μ (ι κ (X:Int)))
    (first|assumption|exact G|exact F1|exact F2)
    (first
     |(go_at_call 157;refine hE.mono ?_;rintro e w1 ⟨R,rfl,F1,hO⟩)
     |(go_at_call 20;refine hO.mono ?_;rintro e J ⟨f,rfl,F2,hP⟩))
   all_goals
    have LP:Hid _:=hP;clear hE hO hP G F1 F2 El
    go_wp2
    go_roundw
    case rel=>exact .inr (.inr ⟨by go_num,LP.out⟩)
    case measure=>simp[fh]
  ·have HQ:Hid _:=H;clear H
   go_wp2
   first|go_end0|refine iX rfl rfl ?_
   exact⟨rfl,HQ.out⟩
theorem L8(y:Yt)(n:ja)(D:Nat)(i:Int)(up:Bool)(w:ew)(h:jS w y n)(U:jt w)(V:ki n D 0)(hD:D<=900000000):
 fc fe 57 #[π (μ ⟨y.N,0,ν⟩),ι κ i,.bool up] w λe w'=>e=ρ (jB (n.iZ i up).2)/\iR w w' y (n.iZ i up).1 n.n:=by
 have hh:=Al y n i w h;rcases Oi i n.nc with S|⟨c,hc,rfl⟩
 ·have hi:i<0 \/(n.nc:Int)<=i:=by
   unfold hasB at S;by_cases h0:0<=i;{by_cases h1:i<(n.nc:Int);{simp[h0,h1]at S};{omega}};{omega}
  have X:n.iZ i up=(n,6):=by unfold ja.iZ;rw[ai hi]
  rw[X];rw[S]at hh;have Y:Hid _:=iR.refl h;clear h V U
  go_in
  go_wp2_with(fail);refine hh.mono ?_;rintro e w1 ⟨rfl,rfl⟩;clear hh
  go_wp2
  go_ret;exact⟨rfl,Y.out⟩
 ·rw[Ag hc]at hh;have c3:=h.k3;obtain⟨a,cp,Q,T⟩:=h.cvs;obtain⟨g,J,rfl⟩:=T c hc;rw[Q]at c3;have cl:=h.yA;have c9:=h.c9;have j9:(c:Int)<(n.nc:Int):=eB;have si:(0:Int)<=(c:Int):=eB;have G:w.cell? ⟨g,c*7+4,ν⟩=μ (.bool (n.C c).jc):=(h.rc g J c hc).cell 4 eF;have gl:=(h.rc g J c hc).lt eF;have X:n.iZ (c:Int) up=if(n.C c).jc=up then(n,7)else((n.kd c up).gather,0):=by
   unfold ja.iZ;rw[af eB,Int.toNat_natCast]
  rw[X];by_cases Z:(n.C c).jc=up
  ·rw[ai Z];rw[Z]at G;have Y:Hid _:=iR.refl h;have M:(up==up)=true:=ik;clear h V U X Z Q T
   go_in
   go_wp2_with(fail);refine hh.mono ?_;rintro e w1 ⟨rfl,rfl⟩;clear hh
   go_wp2
   go_ret;exact⟨rfl,Y.out⟩
  ·rw[af Z];have M:((n.C c).jc==up)=false:=by simpa using Z
   have H:=Iz y n D 0 c up w h U V hD eB hc;have lq:=V.kd eB hc up;have hG:Hid (∀W,iR w W y (n.kd c up) n.n->fc fe 111 #[π (μ ⟨y.N,0,ν⟩)] W λe w'=>e=ρ (τ #[])/\iR w w' y (n.kd c up).gather n.n):=by
    intro W hW;refine hW.call λy1 R1 s1=> ?_;rw[<-s1.N];exact tI y1 _ _ _ W R1 lq eB eB
   have e0:jB 0=η:=rfl;rw[e0];generalize (n.C c).jc=b at G M;clear h V U X Z Q T lq
   go_in
   go_wp2_with(fail);refine hh.mono ?_;rintro e w1 ⟨rfl,rfl⟩;clear hh;go_wp2_with(fail);refine H.mono ?_;rintro e w1 ⟨rfl,ng⟩;have A:=hG.out _ ng;clear H ng;go_wp2_with(fail);refine A.mono ?_;rintro e w2 ⟨rfl,wi⟩;have Y:Hid _:=wi;clear A wi
   go_wp2
   go_ret;exact⟨rfl,Y.out⟩
theorem IA(y:ja)(i:Int):(y.tick i).1.n=y.n/\(y.tick i).1.nc=y.nc/\(y.tick i).1.ms=y.ms/\∀x,((y.tick i).1.C x).e=(y.C x).e/\((y.tick i).1.C x).jc=(y.C x).jc:=by
 unfold ja.tick;split;{exact⟨rfl,rfl,rfl,λ_=>⟨rfl,rfl⟩⟩};{exact mr _}
theorem rT(y:ja)(c d q:Nat):(y.jE c d q).n=y.n/\(y.jE c d q).nc=y.nc/\(y.jE c d q).ms=y.ms/\∀x,((y.jE c d q).C x).e=(y.C x).e/\((y.jE c d q).C x).jc=(y.C x).jc:=by
 refine⟨rfl,rfl,rfl,λx=> ?_⟩;show(if x=c then({y.C c with on:=j6 (y.C c).on d (((y.C c).on d).drop q)}:qX)else y.C x).e=_/\(if x=c then({y.C c with on:=j6 (y.C c).on d (((y.C c).on d).drop q)}:qX)else y.C x).jc=_;by_cases e:x=c;{rw[ai e];subst e;exact⟨rfl,rfl⟩};{rw[af e];exact⟨rfl,rfl⟩}
theorem nC(y:ja)(i d many:Int):(y.deliver i d many).1.n=y.n/\(y.deliver i d many).1.nc=y.nc/\(y.deliver i d many).1.ms=y.ms/\∀x,((y.deliver i d many).1.C x).e=(y.C x).e/\((y.deliver i d many).1.C x).jc=(y.C x).jc:=by
 unfold ja.deliver;split;{exact⟨rfl,rfl,rfl,λ_=>⟨rfl,rfl⟩⟩};{obtain⟨g1,X,V,Z⟩:=mr (y.jE i.toNat d.toNat (min many.toNat ((y.C i.toNat).on d.toNat).length));obtain⟨r1,U,T,Y⟩:=rT y i.toNat d.toNat (min many.toNat ((y.C i.toNat).on d.toNat).length);exact⟨g1.trans r1,X.trans U,V.trans T,λx=>⟨(Z x).1.trans (Y x).1,(Z x).2.trans (Y x).2⟩⟩}
theorem oX(y:ja):∀q,(y.jn q).n=y.n/\(y.jn q).nc=y.nc/\(y.jn q).ms=y.ms/\∀x,((y.jn q).C x).e=(y.C x).e/\((y.jn q).C x).jc=(y.C x).jc
 |0=>⟨rfl,rfl,rfl,λ_=>⟨rfl,rfl⟩⟩
 |q+1=>by
  obtain⟨g1,X,V,Z⟩:=IA (y.jn q) ((q:Int)+1);obtain⟨r1,U,T,Y⟩:=oX y q;exact⟨g1.trans r1,X.trans U,V.trans T,λx=>⟨(Z x).1.trans (Y x).1,(Z x).2.trans (Y x).2⟩⟩
def ja.rA(y:ja)(c d:Nat):ja:=if d=0 then y.j0 c else if d=1 then((y.j0 c).deliver (c:Int) 0 2000).1 else y.j0 (c+1)
theorem L9(y:ja)(c d:Nat)(hd:d<2):y.rA c (d+1)=((y.rA c d).deliver (c:Int) (d:Int) 2000).1:=by
 have:d=0 \/d=1:=eB;rcases this with rfl|rfl<;>rfl
theorem mA(y:ja):∀q,(y.j0 q).n=y.n/\(y.j0 q).nc=y.nc/\(y.j0 q).ms=y.ms/\∀x,((y.j0 q).C x).e=(y.C x).e/\((y.j0 q).C x).jc=(y.C x).jc
 |0=>⟨rfl,rfl,rfl,λ_=>⟨rfl,rfl⟩⟩
 |q+1=>by
  obtain⟨T,S,Q,Y⟩:=nC ((y.j0 q).deliver (q:Int) 0 2000).1 (q:Int) 1 2000;obtain⟨g1,V,U,Z⟩:=nC (y.j0 q) (q:Int) 0 2000;obtain⟨r1,M,J,X⟩:=mA y q;exact⟨T.trans (g1.trans r1),S.trans (V.trans M),Q.trans (U.trans J),λx=>⟨(Y x).1.trans ((Z x).1.trans (X x).1),(Y x).2.trans ((Z x).2.trans (X x).2)⟩⟩
theorem Ma(y:ja)(q d:Nat):(y.rA q d).n=y.n/\(y.rA q d).nc=y.nc:=by
 unfold ja.rA;split;{exact⟨(mA y q).1,(mA y q).2.1⟩};{split;{exact⟨(nC _ _ _ _).1.trans (mA y q).1,(nC _ _ _ _).2.1.trans (mA y q).2.1⟩};{exact⟨(mA y (q+1)).1,(mA y (q+1)).2.1⟩}}
theorem rB(y:ja):∀t,(y.turns t).n=y.n/\(y.turns t).nc=y.nc/\(y.turns t).ms=y.ms/\∀x,((y.turns t).C x).e=(y.C x).e/\((y.turns t).C x).jc=(y.C x).jc
 |0=>⟨rfl,rfl,rfl,λ_=>⟨rfl,rfl⟩⟩
 |t+1=>by
  obtain⟨g1,X,V,Z⟩:=mA (y.turns t) y.nc;obtain⟨r1,U,T,Y⟩:=rB y t;exact⟨g1.trans r1,X.trans U,V.trans T,λx=>⟨(Z x).1.trans (Y x).1,(Z x).2.trans (Y x).2⟩⟩
theorem kX(y:ja):y.round.n=y.n/\y.round.nc=y.nc/\y.round.ms=y.ms/\∀x,(y.round.C x).e=(y.C x).e/\(y.round.C x).jc=(y.C x).jc:=by
 obtain⟨g1,X,V,Z⟩:=rB (y.jn y.n) 12;obtain⟨r1,U,T,Y⟩:=oX y y.n;exact⟨g1.trans r1,X.trans U,V.trans T,λx=>⟨(Z x).1.trans (Y x).1,(Z x).2.trans (Y x).2⟩⟩
theorem ki.jn {y:ja} {D:Nat} (h:ki y D 0)(Z:D<=800000000):∀q,q<=6->ki (y.jn q) (D+6*q) 0
 |0,_=>h
 |q+1,hq=>((ki.jn h Z q eB).tick eB ((q:Int)+1)).mono eB (Nat.le_refl _)
theorem ki.j0 {y:ja} {D:Nat} (h:ki y D 0)(Z:D<=890000000):∀q,q<=9->ki (y.j0 q) (D+12000*q) 0
 |0,_=>h
 |q+1,hq=>(((ki.j0 h Z q eB).deliver eB (q:Int) 0 2000).deliver eB (q:Int) 1 2000).mono eB (Nat.le_refl _)
theorem ki.rA {y:ja} {D:Nat} (h:ki y D 0)(Z:D<=890000000)(q d:Nat)(hq:q<9)(hd:d<=2):ki (y.rA q d) (D+12000*q+6000*d) 0:=by
 unfold ja.rA;split;{exact(h.j0 Z q eB).mono eB (Nat.le_refl _)};{split;{exact((h.j0 Z q eB).deliver eB _ _ _).mono eB (Nat.le_refl _)};{exact(h.j0 Z (q+1) eB).mono eB (Nat.le_refl _)}}
theorem ki.turns {y:ja} {D:Nat} (h:ki y D 0)(X:D<=810000000):∀t,t<=12->ki (y.turns t) (D+108000*t) 0
 |0,_=>h
 |t+1,ht=>by
  have Z:=ki.turns h X t eB;have Y:=h.c9;exact(Z.j0 eB y.nc Y).mono eB (Nat.le_refl _)
theorem ki.round {y:ja} {D:Nat} (h:ki y D 0)(Y:D<=800000000):ki y.round (D+1300000) 0:=by
 have n6:=h.n6;have Z:=h.jn Y y.n n6;exact(Z.turns eB 12 (Nat.le_refl _)).mono eB (Nat.le_refl _)
theorem BP(y:Yt)(n:ja)(D:Nat)(w:ew)(h:jS w y n)(hT:jt w)(jb:ki n D 0)(hD:D<=800000000):
 fc fe 54 #[π (μ ⟨y.N,0,ν⟩)] w λe w'=>e=ρ (τ #[])/\iR w w' y n.round n.n:=by
 have c0:=h.k0;have cl:=h.yA;have n6:=h.n6;have c9:=h.c9;obtain⟨a,cp,wM,LX⟩:=h.cvs;obtain⟨m,S⟩:=fq (n.n);obtain⟨nc,uG⟩:=fq (n.nc);have H0:Hid (iR w w y (n.jn 0) m):=by
  show iR _ _ _ _ _;rw[<-S];exact iR.refl h
 have abz:Hid (∀q W,q<m->iR w W y (n.jn q) m->fc fe 56 #[π (μ ⟨y.N,0,ν⟩),ι κ ((q:Int)+1)] W λe w'=>(∃v,e=ρ v)/\iR w w' y (n.jn (q+1)) m):=by
  intro q W hq Z;have J:=Z.tab h S hT;refine(Z.call (E:=λe=>∃v,e=ρ v) λy1 R1 s1=> ?_);rw[<-s1.N];refine(L5 y1 (n.jn q) (D+6*q) ((q:Int)+1) W R1 J (jb.jn hD q eB) eB).mono ?_;rintro e w' ⟨rfl,hw⟩;rw[(oX n q).1,S]at hw;exact⟨⟨_,rfl⟩,hw⟩
 have Q:=jb.jn hD m eB;have HK3:Hid (∀M W,M.nc=nc->iR w W y M m->W.cell? ⟨y.N,3,ν⟩=μ (σ a nc cp)/\y.N<W.heap.size):=by
  intro M W hM Z;have h1:=Z.k3;rw[hM,<-uG,wM]at h1;rw[<-uG];exact⟨h1,Z.lt⟩
 have JQ:Hid (n.round=(n.jn m).turns 12):=by
  show _=_;unfold ja.round;rw[S]
 obtain⟨T,Y⟩:=fq (n.jn m);have hTn:T.n=m:=by rw[<-Y,(oX n m).1,S]
 have H:T.nc=nc:=by rw[<-Y,(oX n m).2.1,uG]
 have G:Hid (∀W,iR w W y (n.jn m) m->iR w W y (T.turns 0) m):=by
  intro W Z;rw[Y]at Z;exact Z
 rw[Y]at Q JQ;have amu:Hid (∀t c d W,t<12->c<nc->d<2->iR w W y ((T.turns t).rA c d) m->fc fe 101 #[π (μ ⟨y.N,0,ν⟩),ι κ (c:Int),ι κ (d:Int),ι κ 2000] W λe w'=>(∃v,e=ρ v)/\iR w w' y ((T.turns t).rA c (d+1)) m):=by
  intro t c d W ht hc hd Z;have J:=Z.tab h S hT;refine(Z.call (E:=λe=>∃v,e=ρ v) λy1 R1 s1=> ?_);rw[<-s1.N];have h1:=Q.turns eB t eB;have h2:=h1.rA eB c d eB eB;refine(CL y1 _ _ (c:Int) (d:Int) 2000 W R1 J h2 eB).mono ?_;rintro e w' ⟨rfl,hw⟩;rw[<-L9 _ _ _ hd,(Ma _ _ _).1,(rB T t).1,hTn]at hw;exact⟨⟨_,rfl⟩,hw⟩
 have HNC:Hid (∀t,(T.turns t).nc=nc):=λt=>by rw[(rB T t).2.1,H]
 have ahr:Hid (∀t W,iR w W y ((T.turns t).j0 nc) m->iR w W y (T.turns (t+1)) m):=by
  intro t W Z;show iR w W y ((T.turns t).j0 T.nc) m;rw[H];exact Z
 rw[S]at c0 n6⊢;rw[uG]at c9;clear h hT jb Q wM LX S uG Y hTn H
 go_in
 go_wp2
 go_loopw [10] (λx wr=>∃q:Nat,q<=m/\x=ι κ q/\iR w wr y (n.jn q) m) (λx _=>m-(fh x).toNat)
 case atStart=>exact⟨0,Nat.zero_le _,rfl,H0.out⟩
 case round=>
  obtain⟨q,hq,rfl,sP⟩:=hrel;obtain⟨V,rfl⟩:∃V,V=wr:=⟨_,rfl⟩
  by_cases kL:q<m
  ·have n9:(q:Int)<(m:Int):=eB;have X8:κ.wrap ((q:Int)+1)=(q:Int)+1:=aS _ ⟨eB,eB⟩;have ht:=abz.out q V kL sP;clear sP;go_wp2_with(fail);refine ht.mono ?_;rintro e w1 ⟨⟨v,rfl⟩,ng⟩;have X:Hid _:=ng;clear ht ng
   go_wp2
   go_roundw
   case rel=>exact⟨q+1,eB,by go_num,X.out⟩
   case measure=>simp[fh];omega
  ·have yc:¬(q:Int)<(m:Int):=eB;obtain rfl:q=m:=eB;have HT0:Hid (iR w V y (T.turns 0) q):=G.out V sP;clear sP G H0 abz
   go_wp2
   go_loopw [18] (λx wr=>∃t:Nat,t<=12/\x=ι κ t/\iR w wr y (T.turns t) q) (λx _=>12-(fh x).toNat)
   case atStart=>exact⟨0,Nat.zero_le _,rfl,HT0.out⟩
   case round=>
    obtain⟨t,ht,rfl,A⟩:=hrel;obtain⟨V2,rfl⟩:∃V2,V2=wr:=⟨_,rfl⟩
    by_cases ad1:t<12
    ·have ahs:(t:Int)<12:=eB;obtain⟨d3,dl⟩:=HK3.out _ V2 (HNC.out t) A;have HD0:Hid _:=A;clear A
     go_wp2
     go_loopw [25] (λx wr=>∃c:Nat,c<=nc/\x=ι κ c/\iR w wr y ((T.turns t).rA c 0) q) (λx _=>nc-(fh x).toNat)
     case atStart=>exact⟨0,Nat.zero_le _,rfl,HD0.out⟩
     case round=>
      obtain⟨c,hc,rfl,U⟩:=hrel;obtain⟨V3,rfl⟩:∃V3,V3=wr:=⟨_,rfl⟩
      by_cases amv:c<nc
      ·have ao2:(c:Int)<(nc:Int):=eB;have HDc:Hid _:=U;clear U
       go_wp2
       go_loopw [28] (λx wr=>∃d:Nat,d<=2/\x=ι κ d/\iR w wr y ((T.turns t).rA c d) q) (λx _=>2-(fh x).toNat)
       case atStart=>exact⟨0,Nat.zero_le _,rfl,HDc.out⟩
       case round=>
        obtain⟨d,hd,rfl,DP⟩:=hrel;obtain⟨V4,rfl⟩:∃V4,V4=wr:=⟨_,rfl⟩
        by_cases amw:d<2
        ·have ao3:(d:Int)<2:=eB;have aht:=amu.out t c d V4 ad1 amv amw DP;clear DP;go_wp2_with(fail);refine aht.mono ?_;rintro e w1 ⟨⟨v,rfl⟩,ng⟩;have X:Hid _:=ng;clear aht ng
         go_wp2
         go_roundw
         case rel=>exact⟨d+1,eB,by go_num,X.out⟩
         case measure=>simp[fh];omega
        ·have ars:¬(d:Int)<2:=eB;obtain rfl:d=2:=eB;have X:Hid _:=DP;clear DP
         go_wp2
         go_roundw
         case rel=>exact⟨c+1,eB,by go_num,X.out⟩
         case measure=>simp[fh];omega
      ·have art:¬(c:Int)<(nc:Int):=eB;obtain rfl:c=nc:=eB;have X:Hid (iR w V3 y (T.turns (t+1)) q):=ahr.out t V3 U;clear U
       go_wp2
       go_roundw
       case rel=>exact⟨t+1,eB,by go_num,X.out⟩
       case measure=>simp[fh];omega
    ·have ahu:¬(t:Int)<12:=eB;obtain rfl:t=12:=eB;have X:Hid (iR w V2 y n.round q):=by
      show iR _ _ _ _ _;rw[JQ.out];exact A
     clear A
     go_wp2
     first|go_end0|refine iX rfl rfl ?_
     exact⟨rfl,X.out⟩
def qY(l:List Nat):List eA:=l.map λ(n:Nat)=>ι .i64 (n:Int)
def tS(n:ja)(k c:Nat):Bool:=(n.C c).jc&& (((n.C c).e 0).1==k||((n.C c).e 1).1==k)
theorem JU(y:Yt)(n:ja)(k:Nat)(w:ew)(h:jS w y n):
 fc fe 115 #[π (μ ⟨y.N,0,ν⟩),ι κ ((k:Int)+1)] w λe w'=>∃v,e=ρ v/\Row w' 1 v (n.lT k).length (qY (n.lT k))/\(∀b,v.ownBlock=μ b->w.heap.size<=b)/\eH w w':=by
 obtain⟨i0,hi,oN,nG,mS⟩:=aX Qh;have c3:=h.k3;obtain⟨a,cp,wM,LX⟩:=h.cvs;rw[wM]at c3;have cl:=h.yA;have c9:=h.c9;obtain⟨nc,H⟩:=fq (n.nc);have HGC:Hid (∀c,c<nc->∃g,y.gC=μ g/\a=μ ⟨g,0,ν⟩):=by
  show∀c,_->_;rw[<-H];exact LX
 have HF:Hid (∀W q g,eH w W->q<nc->y.gC=μ g->∃T A c0 S n1 c1,W.cell? ⟨g,q*7,ν⟩=μ (ι κ ((((n.C q).e 0).1:Int)+1))/\W.cell? ⟨g,q*7+1,ν⟩=μ (ι κ (((n.C q).e 0).2:Int))/\W.cell? ⟨g,q*7+2,ν⟩=μ (ι κ ((((n.C q).e 1).1:Int)+1))/\W.cell? ⟨g,q*7+3,ν⟩=μ (ι κ (((n.C q).e 1).2:Int))/\W.cell? ⟨g,q*7+4,ν⟩=μ (.bool (n.C q).jc)/\W.cell? ⟨g,q*7+5,ν⟩=μ (σ T A c0)/\W.cell? ⟨g,q*7+6,ν⟩=μ (σ S n1 c1)/\g<W.heap.size):=by
  intro W q g hb hq hg;have R:=h.below hb;have hC:=R.rc g hg q (by rw[H];exact hq);obtain⟨T,c0,e0⟩:=Row.shape (R.ob q 0 (by rw[H];exact hq) eF);obtain⟨S,c1,e1⟩:=Row.shape (R.ob q 1 (by rw[H];exact hq) eF);refine⟨T,((n.C q).on 0).length,c0,S,((n.C q).on 1).length,c1,hC.cell 0 eF,hC.cell 1 eF,hC.cell 2 eF,hC.cell 3 eF,hC.cell 4 eF,?_,?_,hC.lt eF⟩;{rw[<-e0];exact hC.cell 5 eF};{rw[<-e1];exact hC.cell 6 eF}
 have HE:Hid (n.lT k=(ft nc).filter (tS n k)):=by
  show _=_;rw[<-H];rfl
 rw[H]at c3 c9;clear h LX wM H
 go_in
 go_wp2
 go_loopw [5,13] (λv x wr=>∃q:Nat,q<=nc/\x=ι κ q/\Row wr 1 v ((ft q).filter (tS n k)).length (qY ((ft q).filter (tS n k)))/\(∀b,v.ownBlock=μ b->w.heap.size<=b)/\eH w wr) (λ_ x _=>nc-(fh x).toNat)
 case atStart=>exact⟨0,Nat.zero_le _,rfl,Row.nil _ _,λb hb=>by simp[eD]at hb,au _ _⟩
 case round=>
  obtain⟨q,hq,rfl,Y,jA,iY⟩:=hrel;by_cases kL:q<nc
  ·have n9:(q:Int)<(nc:Int):=eB;have hq0:(0:Int)<=(q:Int):=eB;obtain⟨g,hg,rfl⟩:=HGC.out q kL;obtain⟨T,A,c0,S,n1,c1,k0,k1,k2,k3,k4,k5,k6,gl⟩:=HF.out wr q g iY kL hg;have HP:Hid ((ft (q+1)).filter (tS n k)=(ft q).filter (tS n k)++if tS n k q=true then [q]else []):=by
    show _=_;rw[cg,cD];congr 1;by_cases e:tS n k q=true;{rw[ai e,List.filter_cons_of_pos e];rfl};{rw[af e,List.filter_cons_of_neg e];rfl}
   have Z:tS n k q=((n.C q).jc&& (((n.C q).e 0).1==k||((n.C q).e 1).1==k)):=rfl;have HR:Hid _:=Y;have G:Hid _:=jA;have U:Hid _:=iY;clear jA iY hg;obtain⟨L,D⟩:=fq ((ft q).filter (tS n k));have hLq:L.length<=q:=by
    rw[<-D];have:=cK (tS n k) (ft q);simpa using this
   rw[D]at Y HP;generalize ((n.C q).e 0).1=V at k0 Z;generalize ((n.C q).e 1).1=r1 at k2 Z;generalize ((n.C q).e 0).2=p0 at k1;generalize ((n.C q).e 1).2=p1 at k3;generalize (n.C q).jc=jc at k4 Z;cases jc with
   |false=>
    have M:True:=trivial;have G7:True:=trivial;have X:tS n k q=false:=by rw[Z];first|rfl|simp[M,G7]
    have Q:Hid (Row (wr.alloc (γ #[ι κ ((V:Int)+1),ι κ (p0:Int),ι κ ((r1:Int)+1),ι κ (p1:Int),.bool false,σ T A c0,σ S n1 c1] 197)) 1 u5 ((ft (q+1)).filter (tS n k)).length (qY ((ft (q+1)).filter (tS n k)))/\(∀b,u5.ownBlock=μ b->w.heap.size<=b)/\eH w (wr.alloc (γ #[ι κ ((V:Int)+1),ι κ (p0:Int),ι κ ((r1:Int)+1),ι κ (p1:Int),.bool false,σ T A c0,σ S n1 c1] 197))):=by
     rw[HP.out,X];simp only[Bool.false_eq_true,if_false,ij];exact⟨Y.alloc _,G.out,U.out.alloc U.out.size _⟩
    clear Y Z X D
    go_wp2
    go_roundw
    case rel=>exact⟨q+1,eB,by go_num,Q.out⟩
    case measure=>simp[fh];omega
   |true=>
    by_cases h0:V=k
    ·rw[h0]at k0 Z;have X:tS n k q=true:=by rw[Z];simp
     go_wp2_with(at_builtin;go_must(refine iU _ rfl (.tmp 36) (.tmp 38) 22 rfl 3 i0 (ι κ 0) 1 8 underlying22 hi oN nG mS rfl eF u5 L.length (qY L) rfl ((Y.alloc _).alloc _) _ 1 1 [ι κ (q:Int)] rfl rfl eF (yT _ _ _ _ ik) (xI _ _) (by unfold maxLen;omega) eB ?_));intro J jH w3 tu tr zM;have Q:Hid (Row w3 1 (σ (μ ⟨J,0,ν⟩) (L.length+1) jH) ((ft (q+1)).filter (tS n k)).length (qY ((ft (q+1)).filter (tS n k)))/\(∀b,eD (σ (μ ⟨J,0,ν⟩) (L.length+1) jH)=μ b->w.heap.size<=b)/\eH w w3):=by
      have hs:=U.out.size;rw[HP.out,X];simp only[if_true,eV,eW,eX];refine⟨?_,λb hb=> ?_,?_⟩
      ·have e9:qY (L++ [q])=qY L++ [ι κ (q:Int)] :=by simp[qY]
       rw[e9];exact tu
      ·have:J=b:=by simpa[eD]using hb
       subst this;rcases zM with e|e
       ·exact G.out _ e
       ·(try simp at e)
        omega
      ·exact((U.out.alloc hs _).alloc (by simp;omega) _).grown tr (by simp;omega) (λb hb=>G.out b (by rw[<-hb]))
     clear tu tr zM Y Z X D
     go_wp2
     go_roundw
     case rel=>exact⟨q+1,eB,by go_num,Q.out⟩
     case measure=>simp[fh];omega
    ·have M:(V==k)=false:=by simpa using h0
     have hz:¬((V:Int)+1=(k:Int)+1):=eB;have TK:((V:Int)+1==(k:Int)+1)=false:=by simpa using hz
     have MY:¬((V:Int)=(k:Int)):=eB;by_cases h1:r1=k
     ·rw[h1]at k2 Z;have X:tS n k q=true:=by rw[Z];simp
      go_wp2_with(at_builtin;go_must(refine iU _ rfl (.tmp 36) (.tmp 38) 22 rfl 3 i0 (ι κ 0) 1 8 underlying22 hi oN nG mS rfl eF u5 L.length (qY L) rfl ((Y.alloc _).alloc _) _ 1 1 [ι κ (q:Int)] rfl rfl eF (yT _ _ _ _ ik) (xI _ _) (by unfold maxLen;omega) eB ?_));intro J jH w3 tu tr zM;have Q:Hid (Row w3 1 (σ (μ ⟨J,0,ν⟩) (L.length+1) jH) ((ft (q+1)).filter (tS n k)).length (qY ((ft (q+1)).filter (tS n k)))/\(∀b,eD (σ (μ ⟨J,0,ν⟩) (L.length+1) jH)=μ b->w.heap.size<=b)/\eH w w3):=by
       have hs:=U.out.size;rw[HP.out,X];simp only[if_true,eV,eW,eX];refine⟨?_,λb hb=> ?_,?_⟩
       ·have e9:qY (L++ [q])=qY L++ [ι κ (q:Int)] :=by simp[qY]
        rw[e9];exact tu
       ·have:J=b:=by simpa[eD]using hb
        subst this;rcases zM with e|e
        ·exact G.out _ e
        ·(try simp at e)
         omega
       ·exact((U.out.alloc hs _).alloc (by simp;omega) _).grown tr (by simp;omega) (λb hb=>G.out b (by rw[<-hb]))
      clear tu tr zM Y Z X D
      go_wp2
      go_roundw
      case rel=>exact⟨q+1,eB,by go_num,Q.out⟩
      case measure=>simp[fh];omega
     ·have G7:(r1==k)=false:=by simpa using h1
      have hy:¬((r1:Int)+1=(k:Int)+1):=eB;have qJ:((r1:Int)+1==(k:Int)+1)=false:=by simpa using hy
      have hy3:¬((r1:Int)=(k:Int)):=eB;have X:tS n k q=false:=by rw[Z];first|rfl|simp[M,G7]
      have Q:Hid (Row (wr.alloc (γ #[ι κ ((V:Int)+1),ι κ (p0:Int),ι κ ((r1:Int)+1),ι κ (p1:Int),.bool true,σ T A c0,σ S n1 c1] 197)) 1 u5 ((ft (q+1)).filter (tS n k)).length (qY ((ft (q+1)).filter (tS n k)))/\(∀b,u5.ownBlock=μ b->w.heap.size<=b)/\eH w (wr.alloc (γ #[ι κ ((V:Int)+1),ι κ (p0:Int),ι κ ((r1:Int)+1),ι κ (p1:Int),.bool true,σ T A c0,σ S n1 c1] 197))):=by
       rw[HP.out,X];simp only[Bool.false_eq_true,if_false,ij];exact⟨Y.alloc _,G.out,U.out.alloc U.out.size _⟩
      clear Y Z X D
      go_wp2
      go_roundw
      case rel=>exact⟨q+1,eB,by go_num,Q.out⟩
      case measure=>simp[fh];omega
  ·obtain rfl:q=nc:=eB;have HW:Hid (Row wr 1 u5 (n.lT k).length (qY (n.lT k))/\(∀b,u5.ownBlock=μ b->w.heap.size<=b)/\eH w wr):=by
    show _/\_/\_;rw[HE.out];exact⟨Y,jA,iY⟩
   have yc:¬(q:Int)<(q:Int):=eB;clear Y jA iY
   go_wp2
   go_ret;exact⟨_,rfl,HW.out⟩
theorem mM.zh(h:mM w z r)(Z:r.n=3)(hb:z.pM b):b<w.heap.size:=by
 rcases hb with e|e|e
 {have:=h.Bz b;rw[Z]at this;exact this e};{exact h.bs.mlt b (.inl e)};{exact h.bs.mlt b (.inr e)}
theorem mM.Mb(h:mM w z r)(Y:r.n=3)(Z:z.fm.no g/\¬z.mine 3 g)(j:Nat)(v:eA):mM (w.setCell ⟨g,j,ν⟩ v) (z.plus λ_=>False) r:=by
 refine h.besides ik (λk _ hc=>aq _ _ _ k (λe=> ?_)) _ (λk e=>e.elim);have e':k=g:=e;subst e';rcases hc with hc|hc
 {exact hc Z.1};{rw[Y]at hc;exact Z.2 hc}
theorem jS.renew {W0 W3:ew} {n n3:ja} (h0:jS W0 y n)(hk:k<n.n)(hb:eH W0 W2)(hz:mM W2 z r)(hr:r.n=3/\r.id=(k:Int)+1)
 (SH:∀b,z.pM b->W0.heap.size<=b) (D:∀b,y.all n.n b \/y.ext b->z.fm.no b) (A5:y.same y1) (G:∀b,y1.all n.n b↔y.all n.n b) (zF:∀b,y1.ext b↔y.ext b \/z.pM b)
 (hW:iR W2 W3 y1 n3 n.n) (M:n3.n=n.n):
 ∃y2,jS (W3.setCell ⟨y.gR,k,ν⟩ (π (μ ⟨z.R,0,ν⟩))) y2 (n3.jO k r)/\y.same y2/\(∀b,y2.all n.n b->y.all n.n b \/z.pM b \/W2.heap.size<=b)/\(∀b,y2.ext b↔y.ext b)/\yz W0 (W3.setCell ⟨y.gR,k,ν⟩ (π (μ ⟨z.R,0,ν⟩))) y n.n:=by
 obtain⟨y',R',s',Vm,Cp⟩:=hW.ex;have H:=hW.kept;have ZD:y'.gR=y.gR:=s'.gR.trans A5.gR;have hbM:y'.bM=y.bM:=s'.bM.trans A5.bM;have amx:∀b,z.pM b->b<W2.heap.size:=λb e=>hz.zh hr.1 e;have oa:∀b,y'.all n.n b->y.all n.n b \/W2.heap.size<=b:=λb e=>(Vm b e).imp_left (G b).1;have WA:∀b,y.all n.n b->b<W0.heap.size:=λb e=>h0.CI e;have amy:∀b,y'.all n.n b->b<W3.heap.size:=λb e=>R'.CI (by rw[M];exact e);obtain⟨X,MW⟩:∃X:Nat->Prop,X=λb=>W2.heap.size<=b/\b<W3.heap.size/\y'.all n.n b:=⟨_,rfl⟩
 have hX:∀b,X b->W2.heap.size<=b/\b<W3.heap.size:=λb e=>by rw[MW]at e;exact⟨e.1,e.2.1⟩
 have MY:mM W3 (z.plus X) r:=by
  refine hz.besides H.size (λb A hc=>H.block b A (λe=> ?_)) X hX;have Y:=(G b).1 e;rcases hc with hc|hc
  {exact hc (D b (.inl Y))};{rw[hr.1]at hc;have:=SH b (.inl hc);have:=WA b Y;omega}
 have jy:∀b,y'.all n.n b->(z.fm.no b \/X b)/\¬z.mine 3 b:=λb e=>by
  rcases oa b e with Y|Y
  {exact⟨.inl (D b (.inl Y)),λV=>by have:=SH b (.inl V);have:=WA b Y;omega⟩};{exact⟨.inr (by rw[MW];exact⟨Y,amy b e,e⟩),λV=>by have:=amx b (.inl V);omega⟩}
 have OQ:y'.own y.gR:=⟨.R,by rw[<-ZD];rfl⟩
 have ahv:(z.plus X).fm.no y.gR/\¬(z.plus X).mine 3 y.gR:=jy y.gR (.inl OQ);obtain⟨T,h⟩:=fq (W3.setCell ⟨y.gR,k,ν⟩ (π (μ ⟨z.R,0,ν⟩)));have Zg:mM T ((z.plus X).plus λ_=>False) r:=by rw[<-h];exact MY.Mb hr.1 ahv k _
 have Af:∀j,j<n.n->mM T ((y'.z j).plus λ_=>False) (n3.R j):=λj U=>by
  rw[<-h];exact(R'.rt j (by rw[M];exact U)).Mb (R'.rn j (by rw[M];exact U)).1 (R'.away j (by rw[M];exact U) y.gR (.inl OQ)) k _
 have oL:∀b,b≠y.gR->T.heap[b]? =W3.heap[b]? :=λb e=>by rw[<-h];exact aq _ _ _ b e
 have sG:T.heap.size=W3.heap.size:=by rw[<-h];simp
 have hat:∀l b,y'.at l=μ b->l≠ .R->T.heap[b]? =W3.heap[b]? :=λl b e hl=>oL b (λY=>R'.wZ e (show y'.at .R=μ y'.gR from rfl) hl (by rw[ZD];exact Y));obtain⟨Z,hZ⟩:∃Z:Nat->Zt,Z=λj=>if j=k then(z.plus X).plus λ_=>False else(y'.z j).plus λ_=>False:=⟨_,rfl⟩
 have Q:Z k=(z.plus X).plus λ_=>False:=by rw[hZ];simp
 have Zu:∀j,j≠k->Z j=(y'.z j).plus λ_=>False:=λj U=>by rw[hZ];simp[U]
 have S:∀j b,(Z j).pM b->(j=k/\z.pM b) \/(j≠k/\(y'.z j).pM b):=λj b e=>by
  by_cases ej:j=k;{subst ej;rw[Q]at e;exact .inl ⟨rfl,e⟩};{rw[Zu j ej]at e;exact .inr ⟨ej,e⟩}
 have ahw:yz W0 T y n.n:=by
  have b1:Below 0 W3 T:=by rw[<-h];exact(au 0 W3).setCell (Nat.zero_le _) _
  refine⟨b1.os.trans (H.os.trans hb.os),b1.tape.trans (H.tape.trans hb.tape),b1.output.trans (H.output.trans hb.output),by rw[sG];exact Nat.le_trans hb.size H.size,λb A hn=> ?_⟩;have Y:b≠y.gR:=λe=>hn (.inl ⟨.R,by rw[e];rfl⟩);rw[oL b Y,H.block b (Nat.lt_of_lt_of_le A hb.size) (λe=>hn ((G b).1 e)),hb.block b A]
 rw[h];refine⟨{y' with z:=Z,ext:=λb=>y'.ext b/\¬z.pM b},⟨R'.n1,R'.n6,R'.c9,R'.oE.keep (hat .N _ rfl (λe=>nomatch e)),?_,R'.ri.keep (hat .I _ rfl (λe=>nomatch e)),λg hg c hc=>(R'.rc g hg c hc).keep (hat .C _ hg (λe=>nomatch e)),R'.gc,?_,?_,?_,λj U=>(R'.ib j U).keep eB (λb e=>hat (.ib j) b e (λe=>nomatch e)),λc d hc hd=>(R'.ob c d hc hd).keep eB (λb e=>hat (.on c d) b e (λe=>nomatch e)),R'.ol,R'.en,R'.inj,?_,λb e=>R'.nx b e.1,⟨R'.nM.1,λe=>R'.nM.2.1 e.1,?_⟩,R'.z0⟩,Yt.zg A5 (Yt.zg s' ⟨rfl,rfl,rfl,rfl,rfl,rfl,rfl,rfl⟩),?_,?_,ahw⟩;{have h1:=R'.rr.set k (by rw[M];exact hk) (π (μ ⟨z.R,0,ν⟩));rw[ZD,Nat.zero_add,h]at h1;show qR T y'.gR 0 n3.n _;rw[ZD];refine h1.congr λj U=> ?_;show tR _ k _ j=π (μ ⟨(Z j).R,0,ν⟩);by_cases e:j=k;{subst e;rw[Q];unfold tR;simp;rfl};{rw[Zu j e,jV _ _ e];rfl}};{obtain⟨E,h1,h2⟩:=R'.mp;refine⟨E,h1.keep (oL y'.bM (λe=>R'.nM.1 ?_)),h2⟩;rw[e];exact OQ};{intro j U;show mM T (Z j) (j6 n3.R k r j);by_cases e:j=k;{subst e;rw[Q,iQ];exact Zg};{rw[Zu j e,iI _ _ e];exact Af j (by rw[<-M];exact U)}};{intro j U;show(j6 n3.R k r j).n=3/\(j6 n3.R k r j).id=(j:Int)+1;by_cases e:j=k;{subst e;rw[iQ];exact hr};{rw[iI _ _ e];exact R'.rn j U}}
 ·intro i hi b A;have ll:i<n.n:=by rw[<-M];exact hi
  show(Z i).fm.no b/\¬(Z i).mine 3 b;by_cases ei:i=k
  ·subst ei;rw[Q];have Mc:(z.fm.no b \/X b)/\¬z.mine 3 b:=by
    rcases A with e|e|⟨j,U,jx,e⟩
    ·exact jy b (.inl e)
    ·have Y:=(Cp b).1 e.1;rcases(zF b).1 Y with V|V
     {exact⟨.inl (D b (.inr V)),λJ=>e.2 (.inl J)⟩};{exact absurd V e.2}
    ·rcases S j b e with⟨Y,_⟩|⟨Y,V⟩
     {exact absurd Y jx};{exact jy b (.inr ⟨j,by rw[<-M];exact U,V⟩)}
   exact⟨.inl Mc.1,Mc.2⟩
  ·rw[Zu i ei];have Mc:(y'.z i).fm.no b/\¬(y'.z i).mine 3 b:=by
    rcases A with e|e|⟨j,U,jx,e⟩
    {exact R'.away i hi b (.inl e)};{exact R'.away i hi b (.inr (.inl e.1))}
    ·rcases S j b e with⟨Y,V⟩|⟨Y,V⟩
     {exact R'.away i hi b (.inr (.inl ((Cp b).2 ((zF b).2 (.inr V)))))};{exact R'.away i hi b (.inr (.inr ⟨j,U,jx,V⟩))}
   exact⟨.inl Mc.1,Mc.2⟩
 ·intro i hi e;show False;rcases S i _ e with⟨_,V⟩|⟨_,V⟩
  {have J:=SH _ V;have h1:=h0.Io;have e4:W0.heap.size<=y'.bM:=J;rw[hbM]at e4;omega};{exact R'.nM.2.2 i hi V}
 ·intro b e;rcases e with e|⟨j,U,e⟩
  ·rcases oa b (.inl e)with Y|Y
   {exact .inl Y};{exact .inr (.inr Y)}
  ·rcases S j b e with⟨_,V⟩|⟨_,V⟩
   ·exact .inr (.inl V)
   ·rcases oa b (.inr ⟨j,U,V⟩)with Y|Y
    {exact .inl Y};{exact .inr (.inr Y)}
 ·intro b;constructor
  ·rintro⟨Y,V⟩;rcases(zF b).1 ((Cp b).1 Y)with J|J
   {exact J};{exact absurd J V}
  ·intro e;refine⟨(Cp b).2 ((zF b).2 (.inl e)),λV=> ?_⟩;have h1:=h0.lt (.inr e);have h2:=SH b V;omega
theorem Fv(up:Bool):∀(l:List Nat) (y:ja) (c:Nat),y.jX up (l++ [c])=(y.jX up l).kd c up
 |[],_,_=>rfl
 |_::l,_,c=>Fv up l _ c
theorem WB(l:List Nat)(j:Nat)(h:j<l.length):(qY l)[j]? =μ (ι κ (l[j] :Int)):=by simp[qY,h]
theorem Aq(Z:ew)(y:Yt)(S M:ja)(D m:Nat)(up:Bool)(L:List Nat)(G:jS Z y S)(J:S.n=m)(hT:jt Z)(jb:ki M D 20)(h:D<=900000000)(V:∀c∈L,c<M.nc)(hl:L.length<=9)(Y:M.n=m)(q:Nat)(T:q<L.length)(W:ew)(U:iR Z W y (M.jX up (L.take q)) m):
 fc fe 113 #[π (μ ⟨y.N,0,ν⟩),ι κ (L[q] :Int),.bool up] W λe w'=>e=ρ (τ #[])/\iR Z w' y (M.jX up (L.take (q+1))) m:=by
 have X:=U.tab G J hT;obtain⟨s1,s2,s3,s4,s5⟩:=nI up (L.take q) M;have lq:=ki.jX eB up (L.take q) jb (λc hc=>V c (dj hc));have hlq:(L.take q).length<=q:=cB _ _;have H:M.jX up (L.take (q+1))=(M.jX up (L.take q)).kd L[q] up:=by
  rw[az T,Fv]
 rw[H];refine U.call λy1 Q A=> ?_;rw[<-A.N];have:=Iz y1 _ D _ L[q] up W Q X lq h eB (by rw[s2];exact V _ (aF T));rw[s1,Y]at this;exact this
theorem Md(y:Yt)(n:ja)(D:Nat)(i:Int)(w:ew)(h:jS w y n)(hT:jt w)(jb:ki n D 0)(hD:D<=900000000):
 fc fe 62 #[π (μ ⟨y.N,0,ν⟩),ι κ i] w λe w'=>e=ρ (jB (n.restart i).2)/\iR w w' y (n.restart i).1 n.n:=by
 have hh:=rH y n i w h;rcases zj i n.n with⟨hn,hi⟩|⟨k,hk,rfl⟩
 ·have hE:n.restart i=(n,6):=by unfold ja.restart;rw[ai hi]
  rw[hE];rw[hn]at hh;have HW:Hid _:=iR.refl h;clear h jb hT
  go_in
  go_wp2_with(fail);refine hh.mono ?_;rintro e w1 ⟨rfl,rfl⟩;clear hh
  go_wp2
  go_ret;exact⟨rfl,HW.out⟩
 ·rw[Ak hk]at hh;have n6:=h.n6;obtain⟨L,hL⟩:=fq (n.lT k);have hE:n.restart ((k:Int)+1)=((((n.jX false L).jO k (jZ ((k:Int)+1) 3 (n.ms k))).jX true L).gather,0):=by
   unfold ja.restart;have e1:((k:Int)+1-1).toNat=k:=eB;rw[af eB,e1,hL]
  rw[hE];have e0:jB 0=η:=rfl;rw[e0];obtain⟨E,hEm,hET,hEO⟩:=h.mp;have PY:=yB y.N y.bM k E (n.ms k) w h.k2 hEm hEO eB (λp hp=>hET k p hk hp) hT (λb=>y.all n.n b \/y.ext b) (λb hb=>hb.elim (λe=>h.CI e) (λe=>h.lt (.inr e)));have hLl:L.length<=9:=by
   rw[<-hL];exact Nat.le_trans (zo n k) h.c9
  have hLc:∀c∈L,c<n.nc:=λc hc=>by rw[<-hL]at hc;exact BN c hc
  have Me:Hid (∀W,eH w W->fc fe 115 #[π (μ ⟨y.N,0,ν⟩),ι κ ((k:Int)+1)] W λe w'=>∃v,e=ρ v/\Row w' 1 v L.length (qY L)/\(∀b,v.ownBlock=μ b->W.heap.size<=b)/\eH W w'):=by
   intro W U;have:=JU y n k W (h.below U);rw[hL]at this;exact this
  have HH:Hid _:=h;have HT:Hid _:=hT;have Rq:Hid _:=jb;have HK:Hid _:=hk;have J:Hid _:=hLc;clear h hT jb hEm hET hEO hE hL hLc
  go_in
  go_wp2_with(fail);refine hh.mono ?_;rintro e w1 ⟨rfl,rfl⟩;clear hh;go_wp2_with(fail);refine PY.mono ?_;rintro e W1 ⟨z,rfl,nG,kO,MY,hz4,hz5,hz6⟩;have hca:=Me.out W1 kO;have HZ1:Hid _:=nG;have EN:Hid _:=kO;have SH:Hid (∀b,z.pM b->w.heap.size<=b):=by
   intro b hb;rcases hb with e|e|e
   {exact MY b e};{rw[e];exact hz4};{exact hz5 b e}
  have HZX:Hid (∀b,y.all n.n b \/y.ext b->z.fm.no b):=λb hb=>hz6 b hb;clear PY nG kO MY hz4 hz5 hz6;go_wp2_with(fail);refine hca.mono ?_;rintro e W2 ⟨v,rfl,jf,jA,m7⟩;clear hca;have WC:eH w W2:=fP EN.out m7;have mS:mM W2 z (jZ ((k:Int)+1) 3 (n.ms k)):=HZ1.out.below m7;have sH:(jZ ((k:Int)+1) 3 (n.ms k)).n=3/\(jZ ((k:Int)+1) 3 (n.ms k)).id=(k:Int)+1:=⟨rfl,rfl⟩
  have xM:∀b,z.pM b->b<W1.heap.size:=λb e=>HZ1.out.zh rfl e;obtain⟨y1,R1,s1,ha1,zF⟩:=HH.out.beside WC.size (λb qK _=>WC.block b qK) z.pM (λb e=>⟨SH.out b e,Nat.lt_of_lt_of_le (xM b e) m7.size⟩);have YE:jt W2:=jt.below (w:=w) HT.out WC;have abB:ki n D 20:=Rq.out.mono (Nat.le_refl _) eB;obtain⟨a,cp,hve⟩:=Row.shape jf;subst hve;have X9:Hid (∀b,eD (σ a L.length cp)=μ b->W1.heap.size<=b/\b<W2.heap.size):=λb hb=>⟨jA b hb,jf.lt b hb⟩
  have wI:Hid _:=jf;have HP0:Hid (iR W2 W2 y1 (n.jX false (L.take 0)) n.n):=iR.refl R1;have HPl:Hid (∀q W,(hq:q<L.length)->iR W2 W y1 (n.jX false (L.take q)) n.n->fc fe 113 #[π (μ ⟨y.N,0,ν⟩),ι κ (L[q] :Int),.bool false] W λe w'=>e=ρ (τ #[])/\iR W2 w' y1 (n.jX false (L.take (q+1))) n.n):=by
   intro q W hq U;rw[<-s1.N];exact Aq W2 y1 n n D n.n false L R1 rfl YE abB hD J.out hLl rfl q hq W U
  have Wm:Hid (∀q W M,(hq:q<L.length)->iR W2 W y1 M n.n->∃g,a=μ ⟨g,0,ν⟩/\W.cell? ⟨g,q,ν⟩=μ (ι κ (L[q] :Int))):=by
   intro q W M hq U;rcases wI.out.2 with⟨_,e2⟩|⟨g,c,e,_,_,_,hc,_⟩
   {omega};{have ea:a=μ ⟨g,0,ν⟩:=(bQ e).1;have hg:=X9.out g (by rw[ea];rfl);refine⟨g,ea,(aj (a:=⟨g,q,ν⟩) (U.kept.block g hg.2 (λe3=> ?_))).trans (hc q _ (WB L q hq))⟩;have Y:=HH.out.CI ((ha1 g).1 e3);have h2:=EN.out.size;omega}
  have HR1:Hid _:=R1;have Z:Hid _:=s1;have HA1:Hid _:=ha1;have HE1:Hid _:=zF;have HZ2:Hid _:=mS;have ahC:Hid _:=WC;have HFL:Hid _:=xM;have HT2:Hid _:=YE;have A2:Hid _:=m7;obtain⟨len,hlen⟩:=fq (L.length);have SI:Hid _:=hlen;rw[hlen]at hLl;clear jf jA WC mS sH xM R1 s1 ha1 zF YE m7 abB
  go_wp2
  go_loopw [31] (λx wr=>∃q:Nat,q<=len/\x=ι κ q/\iR W2 wr y1 (n.jX false (L.take q)) n.n) (λx _=>len-(fh x).toNat)
  case atStart=>exact⟨0,Nat.zero_le _,rfl,HP0.out⟩
  case round=>
   obtain⟨q,hq,rfl,X⟩:=hrel;obtain⟨V,rfl⟩:∃V,V=wr:=⟨_,rfl⟩
   by_cases kL:q<len
   ·have n9:(q:Int)<(len:Int):=eB;have hq0:(0:Int)<=(q:Int):=eB;have hqL:q<L.length:=by rw[SI.out];exact kL
    obtain⟨g,rfl,hcell⟩:=Wm.out q V _ hqL X;have gl:=ag _ _ hcell;have DK:=HPl.out q V hqL X;generalize L[q] =cq at hcell DK;clear X;go_wp2_with(fail);refine DK.mono ?_;rintro e w1 ⟨rfl,G⟩;have HW:Hid _:=G;clear DK G
    go_wp2
    go_roundw
    case rel=>exact⟨q+1,eB,by go_num,HW.out⟩
    case measure=>simp[fh];omega
   ·have yc:¬(q:Int)<(len:Int):=eB;obtain rfl:q=len:=eB;have e9:L.take q=L:=by rw[<-SI.out];exact cu
    rw[e9]at X;obtain⟨n3,wj⟩:=fq (n.jX false L);obtain⟨A,p2,p3,p4,p5⟩:=nI false L n;rw[wj]at X A p2;have ahD:ki n3 D 20:=by
     rw[<-wj];exact(ki.jX eB false L Rq.out J.out).mono (Nat.le_refl _) (by rw[SI.out];omega)
    obtain⟨H,R2,s2,ha2,he2,sv⟩:=jS.renew HH.out HK.out ahC.out HZ2.out ⟨rfl,rfl⟩ SH.out HZX.out Z.out HA1.out HE1.out X A;have WD:=ahD.anew k (by rw[A];exact HK.out);have e8:n3.ms k=n.ms k:=by rw[<-wj,p3]
    rw[e8]at WD;obtain⟨S,Q⟩:=fq (n3.jO k (jZ ((k:Int)+1) 3 (n.ms k)));rw[Q]at R2 WD;have WE:S.n=n.n:=by rw[<-Q];exact A
    have ad6:S.nc=n.nc:=by rw[<-Q];exact p2
    have d0:=X.k0;have dl:=X.lt;rw[Z.out.N,Z.out.gR,Z.out.uz,A]at d0;rw[Z.out.N]at dl;obtain⟨Rk,hRk⟩:=X.ptr (i:=k) (by rw[A];exact HK.out);rw[Z.out.gR]at hRk;have gRl:=ag _ _ hRk;have gRf:V.frozen? ⟨y.gR,k,ν⟩=false:=by
     obtain⟨y9,R9,s9,_,_⟩:=X.ex;have Y:=R9.rr.fz k (by rw[A];exact HK.out);rw[Nat.zero_add,s9.gR,Z.out.gR]at Y;exact Y
    have X8:=BO HK.out n6;have hki:(k:Int)<(n.n:Int):=eB;have GF:(0:Int)<=(k:Int):=eB;have hTV:jt V:=X.tab HR1.out rfl HT2.out;obtain⟨T,vz⟩:=fq (V.setCell ⟨y.gR,k,ν⟩ (π (μ ⟨z.R,0,ν⟩)));rw[vz]at R2 sv;have amA:y.gR≠0:=λe=>HH.out.z0 ⟨.R,by rw[<-e];rfl⟩;have hT4:jt T:=λe s he hs=>by
     rw[<-vz,aW _ _ _ _ (λe1=>amA (congrArg Addr.block e1))];exact hTV e s he hs
    have arv:T.heap.size=V.heap.size:=by rw[<-vz];simp
    have hVs:=X.kept.size;have ahF:Hid (∀q' W M,(Zc:q'<L.length)->iR T W H M n.n->∃g,a=μ ⟨g,0,ν⟩/\W.cell? ⟨g,q',ν⟩=μ (ι κ (L[q'] :Int))):=by
     intro q' W M Zc U;obtain⟨g,ea,hc⟩:=Wm.out q' V _ Zc X;have hg:=X9.out g (by rw[ea];rfl);have A5:=EN.out.size;have QV:g≠y.gR:=λe=>by
      have:=HH.out.Sd;omega
     refine⟨g,ea,(aj (a:=⟨g,q',ν⟩) (U.kept.block g eB (λe3=> ?_))).trans ?_⟩
     ·rcases ha2 g e3 with Y|Y|Y
      {have:=HH.out.CI Y;omega};{have:=HFL.out g Y;omega};{omega}
     ·rw[<-vz,aW _ _ _ _ (λe1=>QV (congrArg Addr.block e1).symm)];exact hc
    have HP2:Hid (iR T T H (S.jX true (L.take 0)) n.n):=by
     show iR _ _ _ _ _;rw[<-WE];exact iR.refl R2
    have amB:Hid (∀q' W,(Zc:q'<L.length)->iR T W H (S.jX true (L.take q')) n.n->fc fe 113 #[π (μ ⟨y.N,0,ν⟩),ι κ (L[q'] :Int),.bool true] W λe w'=>e=ρ (τ #[])/\iR T w' H (S.jX true (L.take (q'+1))) n.n):=by
     intro q' W Zc U;rw[<-s2.N];exact Aq T H S S D n.n true L R2 WE hT4 WD hD (λc hc=>by rw[ad6];exact J.out c hc) (by rw[SI.out];exact hLl) WE q' Zc W U
    have HG:Hid (∀W,iR T W H (S.jX true L) n.n->fc fe 111 #[π (μ ⟨y.N,0,ν⟩)] W λe w'=>e=ρ (τ #[])/\iR T w' H (S.jX true L).gather n.n):=by
     intro W U;refine U.call λy3 R3 s3=> ?_;rw[<-s2.N,<-s3.N];have h5:=ki.jX eB true L WD (λc hc=>by rw[ad6];exact J.out c hc);have h6:=tI y3 _ D _ W R3 h5 eB (by rw[SI.out];omega);rw[(nI true L S).1,WE]at h6;exact h6
    have adL:Hid (∀W,iR T W H (S.jX true L).gather n.n->iR w W y ((((n.jX false L).jO k (jZ ((k:Int)+1) 3 (n.ms k))).jX true L).gather) n.n):=by
     intro W U;rw[wj,Q];refine iR.ry sv s2 (λb e=> ?_) he2 U;rcases ha2 b e with Y|Y|Y
     {exact .inl Y};{exact .inr (SH.out b Y)};{exact .inr (Nat.le_trans ahC.out.size Y)}
    have LP:Hid _:=vz;clear X R2 s2 ha2 he2 sv ahD WD wj Q WE ad6 hTV hT4 vz A p2 p3 p4 p5 e8 Wm HPl HP0;go_wp2_with(fail);rw[LP.out]
    go_loopw [49] (λx wr=>∃q':Nat,q'<=q/\x=ι κ q'/\iR T wr H (S.jX true (L.take q')) n.n) (λx _=>q-(fh x).toNat)
    case atStart=>exact⟨0,Nat.zero_le _,rfl,HP2.out⟩
    case round=>
     obtain⟨t,ht,rfl,Nn⟩:=hrel;by_cases ad1:t<q
     ·have ahs:(t:Int)<(q:Int):=eB;have ht0:(0:Int)<=(t:Int):=eB;have htL:t<L.length:=by rw[SI.out];exact ad1
      obtain⟨g,rfl,hcell⟩:=ahF.out t wr _ htL Nn;have gl:=ag _ _ hcell;have DK:=amB.out t wr htL Nn;generalize L[t] =cq at hcell DK;clear Nn;go_wp2_with(fail);refine DK.mono ?_;rintro e w1 ⟨rfl,G⟩;have HW:Hid _:=G;clear DK G
      go_wp2
      go_roundw
      case rel=>exact⟨t+1,eB,by go_num,HW.out⟩
      case measure=>simp[fh];omega
     ·have ahu:¬(t:Int)<(q:Int):=eB;obtain rfl:t=q:=eB;rw[e9]at Nn;have hg:=HG.out wr Nn;clear Nn;go_wp2_with(fail);refine hg.mono ?_;rintro e w1 ⟨rfl,G⟩;have HW:Hid _:=adL.out _ G;clear hg G
      go_wp2
      go_ret;exact⟨rfl,HW.out⟩
def Ar(w:ew)(a:Option Addr)(L:List pz):Prop:=∀j,(hj:j<L.length)->∃b off,a=μ ⟨b,off,ν⟩/\w.cell? ⟨b,off+j*5,ν⟩=μ (ι κ L[j].a)/\w.cell? ⟨b,off+j*5+1,ν⟩=μ (ι κ L[j].pa)/\w.cell? ⟨b,off+j*5+2,ν⟩=μ (ι κ L[j].b)/\w.cell? ⟨b,off+j*5+3,ν⟩=μ (ι κ L[j].pb)/\w.cell? ⟨b,off+j*5+4,ν⟩=μ (ι κ L[j].m)
theorem Ar.below(h:Ar w a L)(hb:eH w w'):Ar w' a L:=λj S=>by
 obtain⟨b,off,e,Y,X,V,U,T⟩:=h j S;have Z:=hb.block b (ag _ _ Y);exact⟨b,off,e,(aj (a:=⟨b,off+j*5,ν⟩) Z).trans Y,(aj (a:=⟨b,off+j*5+1,ν⟩) Z).trans X,(aj (a:=⟨b,off+j*5+2,ν⟩) Z).trans V,(aj (a:=⟨b,off+j*5+3,ν⟩) Z).trans U,(aj (a:=⟨b,off+j*5+4,ν⟩) Z).trans T⟩
theorem WG:(fe.info? 193).map (·.size)=μ 4:=ga
theorem Fw(a pa b pb m:Int)(w:ew):fc fe 97 #[.agg #[ι κ a,ι κ pa,ι κ b,ι κ pb,ι κ m]] w λe w'=>e=ρ (.agg #[ι κ a,ι κ pa,ι κ b,ι κ pb])/\eH w w':=by
 have Z:ji ((w.alloc (γ #[ι κ a,ι κ pa,ι κ b,ι κ pb,ι κ m] 81)).alloc (γ #[ι κ a,ι κ pa,ι κ b,ι κ pb] 193)) (w.heap.size+1) #[ι κ a,ι κ pa,ι κ b,ι κ pb] 193:=by
  have:=ji.new (w.alloc (γ #[ι κ a,ι κ pa,ι κ b,ι κ pb,ι κ m] 81)) #[ι κ a,ι κ pa,ι κ b,ι κ pb] 193;simpa using this
 have hb:eH w ((w.alloc (γ #[ι κ a,ι κ pa,ι κ b,ι κ pb,ι κ m] 81)).alloc (γ #[ι κ a,ι κ pa,ι κ b,ι κ pb] 193)):=(gK _ _).alloc ik _;have Y:=bV (P:=fe) _ (w.heap.size+1) 193 193 #[ι κ a,ι κ pa,ι κ b,ι κ pb] (0,0) _ Z underlying193 rfl WG
 go_in
 go_wp2_with(fail);refine aE (v:=.agg #[ι κ a,ι κ pa,ι κ b,ι κ pb]) (by simp[results,results97,asAddr,Y]) rfl ?_;exact⟨rfl,hb⟩
theorem xP(r p many:Int)(w:ew):fc fe 154 #[.agg #[ι κ r,ι κ p],ι κ many] w λe w'=>e=ρ (.bool (pA many r p))/\eH w w':=by
 have hb:=gK w (γ #[ι κ r,ι κ p] 192);unfold pA;by_cases Z:1<=r
 ·by_cases Y:r<=many
  ·by_cases X:0<=p
   ·by_cases V:p<3
    ·have hv:(decide (1<=r)&&decide (r<=many)&&decide (0<=p)&&decide (p<3))=true:=by simp[Z,Y,X,V]
     rw[hv];clear hv
     go_in
     go_wp2
     go_ret;exact⟨by first|rfl|(simp;omega),hb⟩
    ·have hv:(decide (1<=r)&&decide (r<=many)&&decide (0<=p)&&decide (p<3))=false:=by simp[V]
     rw[hv];clear hv
     go_in
     go_wp2
     go_ret;exact⟨by first|rfl|(simp;omega),hb⟩
   ·have hv:(decide (1<=r)&&decide (r<=many)&&decide (0<=p)&&decide (p<3))=false:=by simp[X]
    rw[hv];clear hv
    go_in
    go_wp2
    go_ret;exact⟨by first|rfl|(simp;omega),hb⟩
  ·have hv:(decide (1<=r)&&decide (r<=many)&&decide (0<=p)&&decide (p<3))=false:=by simp[Y]
   rw[hv];clear hv
   go_in
   go_wp2
   go_ret;exact⟨by first|rfl|(simp;omega),hb⟩
 ·have hv:(decide (1<=r)&&decide (r<=many)&&decide (0<=p)&&decide (p<3))=false:=by simp[Z]
  rw[hv];clear hv
  go_in
  go_wp2
  go_ret;exact⟨by first|rfl|(simp;omega),hb⟩
theorem OT(l:List pz)(c:pz):kK (l++ [c])=kK l++ [(c.a,c.pa,c.m),(c.b,c.pb,c.m)] :=by simp[kK]
theorem SJ {r p:Int} (h:pA many r p=true)(h6:many<=6):1<=r/\r<=6/\0<=p/\p<=2:=by
 unfold pA at h;simp only[Bool.and_eq_true,decide_eq_true_eq]at h;omega
def rU(many:Int)(c:pz)(E:List (Int×Int×Int)):Nat:=
 if c.m<1 \/20<c.m then 1
 else if pA many c.a c.pa=false then 1
 else if(lg E c.a c.pa).isSome=true then 8
 else if pA many c.b c.pb=false then 1
 else if(lg (E++ [(c.a,c.pa,c.m)]) c.b c.pb).isSome=true then 8
 else 0
theorem IB(many:Int)(c:pz)(l:List pz)(E:List (Int×Int×Int)):ze many (c::l) E=if rU many c E≠0 then rU many c E else ze many l (E++ [(c.a,c.pa,c.m),(c.b,c.pb,c.m)]):=by
 conv=>lhs;unfold ze
 unfold rU;split;{rfl};{split;{rfl};{split;{rfl};{split;{rfl};{split;{rfl};{rw[af ik]}}}}}
def BQ(w:ew)(many:Int)(L:List pz)(e:Ending)(w':ew):Prop:=(oc many L≠0->e=ρ (τ #[.map ν,jB (oc many L)]))/\(oc many L=0->∃b,e=ρ (τ #[.map (μ b),η])/\oU w' b (kK L)/\DL (kK L)/\w.heap.size<=b)/\eH w w'
theorem BQ.bad {f:Nat} (hf:oc many L=f)(Z:f≠0)(hb:eH w w'):BQ w many L (ρ (τ #[.map ν,jB f])) w':=⟨λ_=>by rw[hf],λe=>absurd (hf.symm.trans e) Z,hb⟩
theorem BQ.good(hf:oc many L=0)(X:oU w' b (kK L))(Y:DL (kK L))(hb:w.heap.size<=b)(Z:eH w w'):BQ w many L (ρ (τ #[.map (μ b),η])) w':=⟨λe=>absurd hf e,λ_=>⟨b,rfl,X,Y,hb⟩,Z⟩
theorem ZN(W:ew):(Instr.makeMap 184 ν).run fe W=.ok (.map (μ W.heap.size)) (W.alloc (.map #[] 0)):=rfl
theorem CN(w:ew)(b:Nat)(E:List (Int×Int×Int))(T:DL E)(many r p:Int)(h6:many<=6)(W:ew)(hM:oU W b E)(hb:w.heap.size<=b)(h:eH w W)(oP:b<W.heap.size)(Z Y:Nat)(m:Int)(J:W.cell? ⟨Z,0,ν⟩=μ (ι κ r)/\W.cell? ⟨Z,1,ν⟩=μ (ι κ p))(S:W.cell? ⟨Y,4,ν⟩=μ (ι κ m)):
 fc fe 154 #[.agg #[ι κ r,ι κ p],ι κ many] W λe w1=>e=ρ (.bool (pA many r p))/\eH w w1/\(w1.cell? ⟨Z,0,ν⟩=μ (ι κ r)/\w1.cell? ⟨Z,1,ν⟩=μ (ι κ p))/\w1.cell? ⟨Y,4,ν⟩=μ (ι κ m)/\
  (pA many r p=true->(Instr.lookup 184 (.map (μ b)) (.agg #[ι κ r,ι κ p]) true).run fe w1=.ok (τ #[ι κ ((lg E r p).getD 0),.bool (lg E r p).isSome]) w1/\
   (lg E r p=ν->∃X,(Instr.mapUpdate 184 (.map (μ b)) (.agg #[ι κ r,ι κ p]) (ι κ m)).run fe w1=.ok () X/\oU X b (E++ [(r,p,m)])/\DL (E++ [(r,p,m)])/\eH w X/\X.cell? ⟨Y,4,ν⟩=μ (ι κ m)/\b<X.heap.size)):=by
 refine(xP r p many W).mono ?_;rintro e w1 ⟨rfl,b1⟩;have V:=ag _ _ J.1;have M:=ag _ _ S;have y1:=(aj (a:=⟨Y,4,ν⟩) (b1.block Y M)).trans S;have rG:=hM.keep (b1.block b oP);refine⟨rfl,fP h b1,⟨(aj (a:=⟨Z,0,ν⟩) (b1.block Z V)).trans J.1,(aj (a:=⟨Z,1,ν⟩) (b1.block Z V)).trans J.2⟩,y1,λjb=> ?_⟩;have G:=SJ jb h6;refine⟨oU.look rG T G,λhn=> ?_⟩;obtain⟨X,g1,g2,g3,g4,g5,D,A⟩:=oU.store (m:=m) rG T G hn;have Q:Y≠b:=λe=>by
  subst e;obtain⟨es,clock,h1,_⟩:=hM;simp[World.cell?,h1]at S
 have U:=fP h b1;refine⟨X,g1,g2,T.snoc G hn,⟨g3.trans U.os,g4.trans U.tape,g5.trans U.output,by rw[D];exact U.size,λk hk=> ?_⟩,(aj (a:=⟨Y,4,ν⟩) (A Y Q)).trans y1,by rw[D];exact Nat.lt_of_lt_of_le oP b1.size⟩;have H:k≠b:=eB;exact(A k H).trans (U.block k hk)
theorem yC(many:Int)(a:Option Addr)(cap:Nat)(L:List pz)(w:ew)(hL:Ar w a L)(hl:L.length<=1000):
 fc fe 95 #[ι κ many,σ a L.length cap] w λe w'=>BQ w many L e w':=by
 by_cases D:many<1 \/6<many
 ·have G:oc many L=1:=by unfold oc;rw[ai D]
  have S:Hid _:=BQ.bad G eF (au _ w);clear hL G;generalize L.length=n at hl⊢;by_cases h2:many<1
  ·clear D
   go_in
   go_wp2
   go_ret2
   exact S.out
  ·have h3:6<many:=eB;clear D
   go_in
   go_wp2
   go_ret2
   exact S.out
 ·have h1a:¬many<1:=eB;have h1b:¬6<many:=eB;by_cases h9:9<L.length
  ·have G:oc many L=2:=by unfold oc;rw[af D,ai h9]
   have S:Hid _:=BQ.bad G eF (au _ w);have h9':(9:Int)<(L.length:Int):=eB;clear hL G D;generalize L.length=n at hl h9 h9'⊢
   go_in
   go_wp2
   go_ret2
   exact S.out
  ·have HE:Hid (oc many L=ze many L []):=by show _=_;unfold oc;rw[af D,af h9]
   have h9':¬(9:Int)<(L.length:Int):=eB;have HL:Hid _:=hL;obtain⟨n,hn⟩:=fq (L.length);have HN:Hid _:=hn;have LO:oU (w.alloc (.map #[] 0)) w.heap.size [] :=⟨#[],0,aY w _,rfl⟩
   have hmk:=ZN;obtain⟨bM,hbM⟩:=fq (w.heap.size);have H0:Hid (oU (w.alloc (.map #[] 0)) bM (kK (L.take 0))/\DL (kK (L.take 0))/\eH w (w.alloc (.map #[] 0))/\bM<(w.alloc (.map #[] 0)).heap.size/\ze many L [] =ze many (L.drop 0) (kK (L.take 0))):=by
    rw[hbM]at LO;exact⟨LO,λx hx=>by simp[kK]at hx,gK _ _,by rw[<-hbM];simp,rfl⟩
   have HbM:Hid _:=hbM;rw[hn]at hl h9'⊢;clear hL D h9 hn LO
   go_in
   go_wp2_with(fail)
   try rw[HbM.out]
   go_loopw [27] (λx wr=>∃j:Nat,j<=n/\x=ι κ j/\oU wr bM (kK (L.take j))/\DL (kK (L.take j))/\eH w wr/\bM<wr.heap.size/\ze many L [] =ze many (L.drop j) (kK (L.take j))) (λx _=>n-(fh x).toNat)
   case atStart=>exact⟨0,Nat.zero_le _,rfl,H0.out⟩
   case round=>
    obtain⟨j,hj,rfl,hm,G,hB,oP,hF⟩:=hrel;obtain⟨V,rfl⟩:∃V,V=wr:=⟨_,rfl⟩
    by_cases kL:j<n
    ·have n9:(j:Int)<(n:Int):=eB;have zc:(0:Int)<=(j:Int):=eB;have hjL:j<L.length:=by rw[HN.out];exact kL
     obtain⟨b,off,rfl,k0,k1,k2,k3,k4⟩:=Ar.below (w:=w) HL.out hB j hjL;have hd:L.drop j=L[j] ::L.drop (j+1):=aR hjL;have ht:kK (L.take (j+1))=kK (L.take j)++ [(L[j].a,L[j].pa,L[j].m),(L[j].b,L[j].pb,L[j].m)] :=by
      rw[az hjL,OT]
     rw[hd,IB]at hF;generalize L[j] =c at k0 k1 k2 k3 k4 hF ht;obtain⟨E,hEe⟩:=fq (kK (L.take j));rw[hEe]at hm G hF ht;have HT:Hid _:=ht;have WH:Hid (∀f,rU many c E=f->f≠0->oc many L=f):=by
      intro f D h2;rw[HE.out,hF,D,ai h2]
     have ahG:Hid (rU many c E=0->ze many L [] =ze many (L.drop (j+1)) (E++ [(c.a,c.pa,c.m),(c.b,c.pb,c.m)])):=by
      intro D;rw[hF,D,af ik]
     obtain⟨ca,X,U,T,cm⟩:=c;have bl:=ag _ _ k0;have HM:Hid _:=hm;have HEO:Hid _:=G;have HB:Hid _:=hB;have HBL:Hid _:=oP;obtain⟨W1,kt⟩:=fq (V.alloc (γ #[ι κ ca,ι κ X,ι κ U,ι κ T,ι κ cm] 81));obtain⟨Y,hY⟩:=fq (V.heap.size);have kO:=gK V (γ #[ι κ ca,ι κ X,ι κ U,ι κ T,ι κ cm] 81);have OU:ji (V.alloc (γ #[ι κ ca,ι κ X,ι κ U,ι κ T,ι κ cm] 81)) V.heap.size #[ι κ ca,ι κ X,ι κ U,ι κ T,ι κ cm] 81:=ji.new V _ _;rw[kt]at kO OU;rw[hY]at OU;have g0:W1.cell? ⟨Y,0,ν⟩=μ (ι κ ca):=OU.cell 0;have g1:W1.cell? ⟨Y,1,ν⟩=μ (ι κ X):=OU.cell 1;have g2:W1.cell? ⟨Y,2,ν⟩=μ (ι κ U):=OU.cell 2;have g3:W1.cell? ⟨Y,3,ν⟩=μ (ι κ T):=OU.cell 3;have g4:W1.cell? ⟨Y,4,ν⟩=μ (ι κ cm):=OU.cell 4;have gl:=OU.lt;have su:eH w W1:=fP hB kO;have rG:oU W1 bM E:=hm.keep (kO.block bM oP);have ahH:bM<W1.heap.size:=Nat.lt_of_lt_of_le oP kO.size;have Ks:Hid _:=kt;have HY:Hid _:=hY;have EN:Hid _:=su;have Y8:Hid _:=rG;have ahI:Hid _:=ahH;have HBY:Hid _:=OU;have Au:=Fw ca X U T cm W1;clear hm G hB oP hF hd ht hEe kO OU su rG ahH kt hY;by_cases wv:cm<1 \/20<cm
     ·have wL:oc many L=1:=WH.out 1 (by unfold rU;rw[ai wv]) eF;have S:Hid _:=BQ.bad (w':=W1) wL eF EN.out;clear Au;by_cases Dh:cm<1
      ·clear wv;go_wp2_with(fail);rw[Ks.out]
       try rw[HY.out]
       go_wp2
       go_ret2
       exact S.out
      ·have hm3:20<cm:=eB;clear wv;go_wp2_with(fail);rw[Ks.out]
       try rw[HY.out]
       go_wp2
       go_ret2
       exact S.out
     ·have Dh:¬cm<1:=eB;have hm3:¬20<cm:=eB;have HJ:Hid _:=wv;clear wv;go_wp2_with(fail);rw[Ks.out]
      try rw[HY.out]
      go_wp2_with(fail);refine Au.mono ?_;rintro e w2 ⟨rfl,be⟩;have HI0:Hid (oU w2 bM (E)/\DL (E)/\eH w w2/\bM<w2.heap.size/\w2.cell? ⟨Y,4,ν⟩=μ (ι κ cm)):=⟨oU.keep Y8.out (be.block bM ahI.out),HEO.out,fP EN.out be,Nat.lt_of_lt_of_le ahI.out be.size,(aj (a:=⟨Y,4,ν⟩) (be.block Y gl)).trans g4⟩
      clear Au be k0 k1 k2 k3 k4 g0 g1 g2 g3 g4 gl bl
      go_wp2
      go_loopw [42] (λx wr=>(x=ι κ 0/\(oU wr bM (E)/\DL (E)/\eH w wr/\bM<wr.heap.size/\wr.cell? ⟨Y,4,ν⟩=μ (ι κ cm))) \/(x=ι κ 1/\(oU wr bM (E++ [(ca,X,cm)])/\DL (E++ [(ca,X,cm)])/\eH w wr/\bM<wr.heap.size/\wr.cell? ⟨Y,4,ν⟩=μ (ι κ cm))/\(pA many ca X=true/\lg E ca X=ν)) \/(x=ι κ 2/\(oU wr bM (E++ [(ca,X,cm)] ++ [(U,T,cm)])/\DL (E++ [(ca,X,cm)] ++ [(U,T,cm)])/\eH w wr/\bM<wr.heap.size/\wr.cell? ⟨Y,4,ν⟩=μ (ι κ cm))/\rU many ⟨ca,X,U,T,cm⟩ E=0)) (λx _=>2-(fh x).toNat)
      case atStart=>exact .inl ⟨rfl,HI0.out⟩
      case round=>
       obtain⟨Q,rfl⟩:∃Q,Q=wr:=⟨_,rfl⟩
       rcases hrel with⟨rfl,A⟩|⟨rfl,A,zH⟩|⟨rfl,A,zH⟩
       ·skip
        obtain⟨i1,i2,i3,i4,i5⟩:=A;have hix:=adT ca X U T;obtain⟨W4,vz⟩:=fq (Q.alloc (γ #[ι κ ca,ι κ X] 192));obtain⟨Z,hZ⟩:=fq (Q.heap.size);have ba:=gK Q (γ #[ι κ ca,ι κ X] 192);have H:ji (Q.alloc (γ #[ι κ ca,ι κ X] 192)) Q.heap.size #[ι κ ca,ι κ X] 192:=ji.new Q _ _;rw[vz]at ba H;rw[hZ]at H;have z0:W4.cell? ⟨Z,0,ν⟩=μ (ι κ ca):=H.cell 0;have z1:W4.cell? ⟨Z,1,ν⟩=μ (ι κ X):=H.cell 1;have zl:=H.lt;have y4:W4.cell? ⟨Y,4,ν⟩=μ (ι κ cm):=(aj (a:=⟨Y,4,ν⟩) (ba.block Y (ag _ _ i5))).trans i5;have Mf:=CN w bM (E) i2 many ca X eB W4 (i1.keep (ba.block bM i4)) (by rw[HbM.out];exact Nat.le_refl _) (fP i3 ba) (Nat.lt_of_lt_of_le i4 ba.size) Z Y cm ⟨z0,z1⟩ y4;have LP:Hid _:=vz;have HZ:Hid _:=hZ;clear i1 i2 i3 i4 i5 vz hZ ba H;go_wp2_with(fail)
        try rw[LP.out]
        try rw[HZ.out]
        go_wp2_with(fail);refine Mf.mono ?_;rintro e w5 ⟨rfl,b5,⟨x0,x1⟩,x4,Fx⟩;have xl:=ag _ _ x0;have yl:=ag _ _ x4;clear Mf z0 z1 zl y4;cases J:pA many ca X with
        |false=>
         have wL:oc many L=1:=WH.out 1 (by unfold rU;rw[af HJ.out,ai J]) eF;have S:Hid _:=BQ.bad (w':=w5) wL eF b5;clear Fx b5
         go_wp2
         go_ret2
         exact S.out
        |true=>
         obtain⟨pV,kC⟩:=Fx J;clear Fx;cases M:lg (E) ca X with
         |some m0=>
          have wL:oc many L=8:=WH.out 8 (by unfold rU;rw[af HJ.out,af (by rw[J];simp),ai (by rw[M];rfl)]) eF;have S:Hid _:=BQ.bad (w':=w5) wL eF b5;rw[M]at pV;have q1:(Option.getD (μ m0) 0)=m0:=rfl;have q2:(Option.isSome (μ m0))=true:=rfl;rw[q1,q2]at pV;clear kC b5 J M wL
          go_wp2
          go_ret2
          exact S.out
         |none=>
          obtain⟨w6,u1,u2,u3,h,u5',u6'⟩:=kC M;have ad8:Hid (oU w6 bM (E++ [(ca,X,cm)])/\DL (E++ [(ca,X,cm)])/\eH w w6/\bM<w6.heap.size/\w6.cell? ⟨Y,4,ν⟩=μ (ι κ cm)):=⟨u2,u3,h,u6',u5'⟩
          have HKK:Hid (pA many ca X=true/\lg E ca X=ν):=⟨J,M⟩
          rw[M]at pV;have q1:(Option.getD (ν:Option Int) 0)=0:=rfl;have q2:(Option.isSome (ν:Option Int))=false:=rfl;rw[q1,q2]at pV;clear kC b5 u2 u3 h u5' u6' J M
          go_wp2
          go_roundw
          case rel=>exact .inr (.inl ⟨by go_num,ad8.out,HKK.out⟩)
          case measure=>simp[fh]
       ·obtain⟨Pr,sv⟩:=zH;obtain⟨i1,i2,i3,i4,i5⟩:=A;have hix:=adU ca X U T;obtain⟨W4,vz⟩:=fq (Q.alloc (γ #[ι κ U,ι κ T] 192));obtain⟨Z,hZ⟩:=fq (Q.heap.size);have ba:=gK Q (γ #[ι κ U,ι κ T] 192);have H:ji (Q.alloc (γ #[ι κ U,ι κ T] 192)) Q.heap.size #[ι κ U,ι κ T] 192:=ji.new Q _ _;rw[vz]at ba H;rw[hZ]at H;have z0:W4.cell? ⟨Z,0,ν⟩=μ (ι κ U):=H.cell 0;have z1:W4.cell? ⟨Z,1,ν⟩=μ (ι κ T):=H.cell 1;have zl:=H.lt;have y4:W4.cell? ⟨Y,4,ν⟩=μ (ι κ cm):=(aj (a:=⟨Y,4,ν⟩) (ba.block Y (ag _ _ i5))).trans i5;have Mf:=CN w bM (E++ [(ca,X,cm)]) i2 many U T eB W4 (i1.keep (ba.block bM i4)) (by rw[HbM.out];exact Nat.le_refl _) (fP i3 ba) (Nat.lt_of_lt_of_le i4 ba.size) Z Y cm ⟨z0,z1⟩ y4;have LP:Hid _:=vz;have HZ:Hid _:=hZ;clear i1 i2 i3 i4 i5 vz hZ ba H;go_wp2_with(fail)
        try rw[LP.out]
        try rw[HZ.out]
        go_wp2_with(fail);refine Mf.mono ?_;rintro e w5 ⟨rfl,b5,⟨x0,x1⟩,x4,Fx⟩;have xl:=ag _ _ x0;have yl:=ag _ _ x4;clear Mf z0 z1 zl y4;cases J:pA many U T with
        |false=>
         have wL:oc many L=1:=WH.out 1 (by unfold rU;rw[af HJ.out,af (by rw[Pr];simp),af (by rw[sv];simp),ai J]) eF;have S:Hid _:=BQ.bad (w':=w5) wL eF b5;clear Fx b5
         go_wp2
         go_ret2
         exact S.out
        |true=>
         obtain⟨pV,kC⟩:=Fx J;clear Fx;cases M:lg (E++ [(ca,X,cm)]) U T with
         |some m0=>
          have wL:oc many L=8:=WH.out 8 (by unfold rU;rw[af HJ.out,af (by rw[Pr];simp),af (by rw[sv];simp),af (by rw[J];simp),ai (by rw[M];rfl)]) eF;have S:Hid _:=BQ.bad (w':=w5) wL eF b5;rw[M]at pV;have q1:(Option.getD (μ m0) 0)=m0:=rfl;have q2:(Option.isSome (μ m0))=true:=rfl;rw[q1,q2]at pV;clear kC b5 J M wL
          go_wp2
          go_ret2
          exact S.out
         |none=>
          obtain⟨w6,u1,u2,u3,h,u5',u6'⟩:=kC M;have ad8:Hid (oU w6 bM (E++ [(ca,X,cm)] ++ [(U,T,cm)])/\DL (E++ [(ca,X,cm)] ++ [(U,T,cm)])/\eH w w6/\bM<w6.heap.size/\w6.cell? ⟨Y,4,ν⟩=μ (ι κ cm)):=⟨u2,u3,h,u6',u5'⟩
          have HKK:Hid (rU many ⟨ca,X,U,T,cm⟩ E=0):=by show _=_;unfold rU;rw[af HJ.out,af (by rw[Pr];simp),af (by rw[sv];simp),af (by rw[J];simp),af (by rw[M];simp)]
          rw[M]at pV;have q1:(Option.getD (ν:Option Int) 0)=0:=rfl;have q2:(Option.isSome (ν:Option Int))=false:=rfl;rw[q1,q2]at pV;clear kC b5 u2 u3 h u5' u6' J M
          go_wp2
          go_roundw
          case rel=>exact .inr (.inr ⟨by go_num,ad8.out,HKK.out⟩)
          case measure=>simp[fh]
       ·obtain⟨i1,i2,i3,i4,i5⟩:=A;have Y3:Hid (oU Q bM (kK (L.take (j+1)))/\DL (kK (L.take (j+1)))/\eH w Q/\bM<Q.heap.size/\ze many L [] =ze many (L.drop (j+1)) (kK (L.take (j+1)))):=by
         show _/\_/\_/\_/\_;rw[HT.out];have e5:E++ [(ca,X,cm)] ++ [(U,T,cm)] =E++ [(ca,X,cm),(U,T,cm)] :=ik;rw[e5]at i1 i2;exact⟨i1,i2,i3,i4,ahG.out zH⟩
        clear i1 i2 i3 i4 i5 zH
        go_wp2
        go_roundw
        case rel=>exact⟨j+1,eB,by go_num,Y3.out⟩
        case measure=>simp[fh];omega
    ·have yc:¬(j:Int)<(n:Int):=eB;obtain rfl:j=n:=eB;have e9:L.take j=L:=by rw[<-HN.out];exact cu
     have e8:L.drop j=[] :=by rw[<-HN.out];exact List.drop_length
     rw[e9]at hm G hF;rw[e8]at hF;have Ps:oc many L=0:=by rw[HE.out,hF];rfl
     have S:Hid _:=BQ.good Ps hm G (by rw[HbM.out];exact Nat.le_refl _) hB;clear hm G hB oP hF Ps e9 e8
     go_wp2
     go_ret2
     exact S.out
theorem uI(many:Int)(a:Option Addr)(cap:Nat)(L:List pz)(w:ew)(V:Ar w a L)(hl:L.length<=1000):
 fc fe 38 #[ι κ many,σ a L.length cap] w λe w'=>e=ρ (jB (oc many L))/\eH w w':=by
 have X:=yC many a cap L w V hl;generalize L.length=n at X⊢;have Z:fc fe 95 #[ι κ many,σ a n cap] w λe w'=>∃v,e=ρ (τ #[.map v,jB (oc many L)])/\eH w w':=by
  refine X.mono ?_;rintro e w1 ⟨T,Z,hb⟩;by_cases Y:oc many L=0;{obtain⟨b,rfl,_⟩:=Z Y;exact⟨μ b,by rw[Y];rfl,hb⟩};{exact⟨ν,T Y,hb⟩}
 clear X V;generalize jB (oc many L)=ev at Z⊢
 go_in
 go_wp2_with(fail);refine Z.mono ?_;rintro e w1 ⟨v,rfl,hb⟩;have U:Hid _:=hb;clear Z hb
 go_wp2
 go_ret;exact⟨rfl,U.out⟩
def ZO(W:ew)(i:Nat)(ms:Nat->Int)(P lo hi:Nat):Prop:=∃z:Zt,z.R=P/\mM W z (jZ ((i:Int)+1) 3 ms)/\(∀b,z.pM b->lo<=b/\b<hi)/\lo<=hi/\hi<=W.heap.size/\∀b,(b<lo \/(hi<=b/\b<W.heap.size))->z.fm.no b
theorem ZO.step {W':ew} {ms:Nat->Int} {P lo hi:Nat} (h:ZO W i ms P lo hi)(hs:W.heap.size<=W'.heap.size)(X:∀b,lo<=b->b<hi->W'.heap[b]? =W.heap[b]?):ZO W' i ms P lo hi:=by
 obtain⟨z,V,U,Z,T,S,Y⟩:=h;refine⟨z.plus λb=>W.heap.size<=b/\b<W'.heap.size,V,U.besides hs (λb hb hc=> ?_) _ (λb e=>e),Z,T,Nat.le_trans S hs,λb hb=> ?_⟩
 ·rcases hc with hc|hc
  {have:¬(b<lo \/(hi<=b/\b<W.heap.size)):=λe=>hc (Y b e);exact X b eB eB};{have:=Z b (.inl hc);exact X b this.1 this.2}
 ·show z.fm.no b \/_;by_cases e:b<W.heap.size;{exact .inl (Y b eB)};{exact .inr eB}
def vE:List pz->List eA
 |[] =>[]
 |c::l=>[.int .i64 c.a,.int .i64 c.pa,.int .i64 c.b,.int .i64 c.pb,.bool false,.slice none 0 0,.slice none 0 0] ++vE l
theorem Mg:∀(l m:List pz),vE (l++m)=vE l++vE m
 |[],_=>rfl
 |c::l,m=>by
  show _++vE (l++m)=_;rw[Mg l m,<-aD];rfl
theorem Qj:∀(l:List pz) (j i:Nat) (Z:j<l.length),i<7->(vE l)[j*7+i]? =[ι κ l[j].a,ι κ l[j].pa,ι κ l[j].b,ι κ l[j].pb,(.bool false:eA),σ ν 0 0,σ ν 0 0][i]?
 |c::l,0,i,_,hi=>by
  show([_,_,_,_,_,_,_] ++vE l)[0*7+i]? =_;rw[Nat.zero_mul,Nat.zero_add,bH (by simpa using hi)];rfl
 |c::l,j+1,i,Z,hi=>by
  show([_,_,_,_,_,_,_] ++vE l)[(j+1)*7+i]? =_;rw[bB (by simp;omega)];have e:(j+1)*7+i-List.length [ι .i64 c.a,ι κ c.pa,ι κ c.b,ι κ c.pb,.bool false,σ ν 0 0,σ ν 0 0] =j*7+i:=by simp;omega
  rw[e];exact Qj l j i (by simpa using Z) hi
theorem WI(l:List pz):∀u∈vE l,u.oneCell'=true:=by
 induction l with
 |nil=>intro u Z;simp[vE]at Z
 |cons c l ih=>
  intro u Z;have Y:u∈ [ι .i64 c.a,ι κ c.pa,ι κ c.b,ι κ c.pb,.bool false,σ ν 0 0,σ ν 0 0] ++vE l:=Z;rcases av.1 Y with h|h
  {simp at h;rcases h with rfl|rfl|rfl|rfl|rfl|rfl<;>rfl};{exact ih u h}
def xk(P:Nat->Nat)(q:Nat):List eA:=(ft q).map λi=>π (μ ⟨P i,0,ν⟩)
theorem OV(P:Nat->Nat)(q:Nat):xk P (q+1)=xk P q++ [π (μ ⟨P q,0,ν⟩)] :=by simp[xk,List.range_succ]
theorem Mh {P':Nat->Nat} (h:∀i,i<q->P i=P' i):xk P q=xk P' q:=by
 unfold xk;refine List.map_congr_left λi hi=> ?_;rw[h i (aN.1 hi)]
theorem WJ(P:Nat->Nat)(h:i<q):(xk P q)[i]? =μ (π (μ ⟨P i,0,ν⟩)):=by simp[xk,h]
def pZ(m:Nat):Array eA:=Array.replicate m (σ ν 0 0)
structure Fy(w W:ew)(N gI bM m:Nat)(E:List (Int×Int×Int))(ms:Nat->Nat->Int)(q j:Nat)(L:List pz)(v v2:eA)(P lo hi:Nat->Nat):Prop where
 ox:eH w W
 nb:ji W N #[v,σ (μ ⟨gI,0,ν⟩) m m,.map (μ bM),v2] 190
 gi:ji W gI (pZ m) 53
 mp:oU W bM E
 row:Row W 1 v q (xk P q)
 G9:Row W 7 v2 j (vE (L.take j))
 ne:N≠gI/\N≠bM/\gI≠bM/\w.heap.size<=N/\w.heap.size<=gI/\w.heap.size<=bM
 fv:∀k,v.ownBlock=μ k->w.heap.size<=k/\k≠N/\k≠gI/\k≠bM
 Mi:∀k,v2.ownBlock=μ k->w.heap.size<=k/\k≠N/\k≠gI/\k≠bM/\v.ownBlock≠μ k
 Ym:∀i,i<q->ZO W i (ms i) (P i) (lo i) (hi i)
 lw:∀i,i<q->w.heap.size<=lo i
 sep:∀i k,i<k->k<q->hi i<=lo k
 out:∀i,i<q->∀k,(k=N \/k=gI \/k=bM \/v.ownBlock=μ k \/v2.ownBlock=μ k)->k<lo i \/hi i<=k
section
variable {w W W':World} {N gI bM m:Nat} {E:List (Int×Int×Int)} {ms:Nat->Nat->Int} {q j:Nat} {L:List pz} {v v2:Value} {P lo hi:Nat->Nat}
theorem Fy.yA(h:Fy w W N gI bM m E ms q j L v v2 P lo hi):N<W.heap.size:=h.nb.lt
theorem Fy.SK(h:Fy w W N gI bM m E ms q j L v v2 P lo hi):bM<W.heap.size:=by
 obtain⟨es,clock,Z,_⟩:=h.mp;exact(ay.1 Z).1
theorem Fy.below(h:Fy w W N gI bM m E ms q j L v v2 P lo hi)(hb:eH W W'):Fy w W' N gI bM m E ms q j L v v2 P lo hi:=
 ⟨fP h.ox hb,h.nb.below hb,h.gi.below hb,h.mp.keep (hb.block bM h.SK),h.row.below hb,h.G9.below hb,h.ne,h.fv,h.Mi,λi Z=>(h.Ym i Z).step hb.size (λb _ h2=>hb.block b (by
  obtain⟨_,_,_,_,_,h5,_⟩:=h.Ym i Z;omega)),h.lw,h.sep,h.out⟩
theorem Fy.E9(h:Fy w W N gI bM m E ms q j L v v2 P lo hi) {W1:ew} (hz:mM W1 z (jZ ((q:Int)+1) 3 (ms q)))(hb:eH W W1)(S:∀b,z.pM b->W.heap.size<=b)(T:∀b,b<W.heap.size->z.fm.no b)
 {o:Obj} {v':eA} (hr:Row W2 1 v' (q+1) (xk P q++ [π (μ ⟨z.R,0,ν⟩)])) (hg:(W1.alloc o).grownBy W2 v.ownBlock) (hv:∀k,v'.ownBlock=μ k->v.ownBlock=μ k \/W1.heap.size<=k):
 Fy w (W2.setCell ⟨N,0,ν⟩ v') N gI bM m E ms (q+1) j L v' v2 (j6 P q z.R) (j6 lo q W.heap.size) (j6 hi q W1.heap.size):=by
 have H:W1.heap.size<=W2.heap.size:=Nat.le_trans ik hg.size;have WK:∀b,b<W1.heap.size->v.ownBlock≠μ b->W2.heap[b]? =W1.heap[b]? :=λb V hn=>(hg.block b (by simp;omega) (λe=>hn e.symm)).trans (aV W1 o b V);have M:∀b,b<W1.heap.size->v.ownBlock≠μ b->b≠N->(W2.setCell ⟨N,0,ν⟩ v').heap[b]? =W1.heap[b]? :=λb V hn hN=>(aq _ _ _ b hN).trans (WK b V hn);have Z:=h.below hb;have A:v.ownBlock≠μ N:=λe=>(h.fv N e).2.1 rfl;have G:∀k,v'.ownBlock=μ k->k≠N:=λk e D=>by
  rcases hv k e with Y|Y
  {exact(h.fv k Y).2.1 D};{have:=Z.yA;omega}
 have EZ:eH w W2:=by
  have Y:=(Z.ox.alloc Z.ox.size o).grown hg (by simp;have:=Z.ox.size;omega) (λk e=>(h.fv k e).1);exact Y
 have arA:=h.ox.size;have rj:∀i,i<q->lo i<=hi i/\hi i<=W.heap.size:=λi Q=>by
  obtain⟨_,_,_,_,h4,h5,_⟩:=h.Ym i Q;exact⟨h4,h5⟩
 have nG:mM (W2.setCell ⟨N,0,ν⟩ v') (z.plus λb=>W1.heap.size<=b/\b<(W2.setCell ⟨N,0,ν⟩ v').heap.size) (jZ ((q:Int)+1) 3 (ms q)):=by
  refine hz.besides (by simpa using H) (λb V hc=> ?_) _ (λb e=>e);have hbW:W.heap.size<=b:=by
   rcases hc with hc|hc
   {exact Nat.le_of_not_lt (λe=>hc (T b e))};{exact S b (.inl hc)}
  exact M b V (λe=>by have:=h.row.lt b e;omega) (λe=>by have:=h.yA;omega)
 refine⟨EZ.setCell (by show w.heap.size<=N;exact h.ne.2.2.2.1) _,?_,Z.gi.keep (M gI Z.gi.lt (λe=>(h.fv gI e).2.2.1 rfl) (λe=>h.ne.1 e.symm)),Z.mp.keep (M bM Z.SK (λe=>(h.fv bM e).2.2.2 rfl) (λe=>h.ne.2.1 e.symm)),?_,Z.G9.keep (by simpa using H) (λk e=>M k (Z.G9.lt k e) (h.Mi k e).2.2.2.2 (h.Mi k e).2.1),h.ne,λk e=> ?_,λk e=> ?_,λi Q=> ?_,λi Q=> ?_,λi k U hk=> ?_,λi Q k hk=> ?_⟩;{have Y:ji W2 N #[v,σ (μ ⟨gI,0,ν⟩) m m,.map (μ bM),v2] 190:=Z.nb.keep (WK N Z.yA A);exact Y.set 0 v'};{rw[OV,iQ,Mh (P':=P) (λi Q=>iI _ _ eB)];exact hr.keep ik (λk e=>aq _ _ _ k (G k e))}
 ·rcases hv k e with Y|Y
  {exact h.fv k Y};{have a1:=Z.yA;have a2:=Z.gi.lt;have a3:=Z.SK;have a4:=Z.ox.size;omega}
 ·refine⟨(h.Mi k e).1,(h.Mi k e).2.1,(h.Mi k e).2.2.1,(h.Mi k e).2.2.2.1,λD=> ?_⟩;rcases hv k D with Y|Y
  {exact(h.Mi k e).2.2.2.2 Y};{have:=Z.G9.lt k e;omega}
 ·by_cases X:i=q
  ·subst X;rw[iQ,iQ,iQ];refine⟨z.plus λb=>W1.heap.size<=b/\b<(W2.setCell ⟨N,0,ν⟩ v').heap.size,rfl,nG,λb V=>⟨S b V,hz.zh rfl V⟩,hb.size,by simpa using H,λb V=> ?_⟩;show z.fm.no b \/_;rcases V with e|e
   {exact .inl (T b e)};{exact .inr e}
  ·rw[iI _ _ X,iI _ _ X,iI _ _ X];have J:i<q:=eB;refine(Z.Ym i J).step (by simpa using H) (λb b1 b2=> ?_);have b3:=(rj i J).2;have hs:=hb.size;refine M b eB (λe=> ?_) (λe=> ?_);{have:=h.out i J b (.inr (.inr (.inr (.inl e))));omega};{have:=h.out i J b (.inl e);omega}
 {by_cases X:i=q;{subst X;rw[iQ];exact h.ox.size};{rw[iI _ _ X];exact h.lw i eB}};{by_cases ek:k=q;{subst ek;rw[iI _ _ eB,iQ];exact(rj i U).2};{rw[iI _ _ eB,iI _ _ ek];exact h.sep i k U eB}}
 ·have hold:(k=N \/k=gI \/k=bM \/v.ownBlock=μ k \/v2.ownBlock=μ k) \/W1.heap.size<=k:=by
   rcases hk with e|e|e|e|e
   {exact .inl (.inl e)};{exact .inl (.inr (.inl e))};{exact .inl (.inr (.inr (.inl e)))};{exact(hv k e).imp_left (λe=>.inr (.inr (.inr (.inl e))))};{exact .inl (.inr (.inr (.inr (.inr e))))}
  by_cases X:i=q
  ·subst X;rw[iQ,iQ];rcases hold with e|e
   ·left;rcases e with e|e|e|e|e
    {have:=h.yA;omega};{have:=h.gi.lt;omega};{have:=h.SK;omega};{exact h.row.lt k e};{exact h.G9.lt k e}
   ·exact .inr e
  ·rw[iI _ _ X,iI _ _ X];rcases hold with e|e
   {exact h.out i eB k e};{have:=(rj i eB).2;have hs:=hb.size;exact .inr eB}
theorem Fy.Qc(h:Fy w W N gI bM m E ms q j L v v2 P lo hi) {v':eA} {c:pz} (ht:L.take (j+1)=L.take j++ [c])(hr:Row W2 7 v' (j+1) (vE (L.take j)++vE [c]))(V:W.grownBy W2 v2.ownBlock)(hv:∀k,v'.ownBlock=μ k->v2.ownBlock=μ k \/W.heap.size<=k):
 Fy w (W2.setCell ⟨N,3,ν⟩ v') N gI bM m E ms q (j+1) L v v' P lo hi:=by
 have J:∀b,b<W.heap.size->v2.ownBlock≠μ b->W2.heap[b]? =W.heap[b]? :=λb M Q=>V.block b M (λe=>Q e.symm);have U:∀b,b<W.heap.size->v2.ownBlock≠μ b->b≠N->(W2.setCell ⟨N,3,ν⟩ v').heap[b]? =W.heap[b]? :=λb M Q A=>(aq _ _ _ b A).trans (J b M Q);have S:v2.ownBlock≠μ N:=λe=>(h.Mi N e).2.1 rfl;have T:∀k,v'.ownBlock=μ k->k≠N:=λk e X=>by
  rcases hv k e with Y|Y
  {exact(h.Mi k Y).2.1 X};{have:=h.yA;omega}
 have H:eH w W2:=h.ox.grown V h.ox.size (λk e=>(h.Mi k e).1);refine⟨H.setCell (by show w.heap.size<=N;exact h.ne.2.2.2.1) _,?_,h.gi.keep (U gI h.gi.lt (λe=>(h.Mi gI e).2.2.1 rfl) (λe=>h.ne.1 e.symm)),h.mp.keep (U bM h.SK (λe=>(h.Mi bM e).2.2.2.1 rfl) (λe=>h.ne.2.1 e.symm)),h.row.keep (by simpa using V.size) (λk e=>U k (h.row.lt k e) (λX=>(h.Mi k X).2.2.2.2 e) (h.fv k e).2.1),?_,h.ne,h.fv,λk e=> ?_,λi Z=> ?_,h.lw,h.sep,λi Z k hk=> ?_⟩;{have Y:ji W2 N #[v,σ (μ ⟨gI,0,ν⟩) m m,.map (μ bM),v2] 190:=h.nb.keep (J N h.yA S);exact Y.set 3 v'};{rw[ht,Mg];exact hr.keep ik (λk e=>aq _ _ _ k (T k e))}
 ·rcases hv k e with Y|Y
  {exact h.Mi k Y};{have a1:=h.yA;have a2:=h.gi.lt;have a3:=h.SK;have a4:=h.ox.size;refine⟨eB,eB,eB,eB,λX=> ?_⟩;have:=h.row.lt k X;omega}
 ·obtain⟨_,_,_,_,G,D,_⟩:=h.Ym i Z;refine(h.Ym i Z).step (by simpa using V.size) (λb b1 b2=>U b eB (λe=> ?_) (λe=> ?_));{have:=h.out i Z b (.inr (.inr (.inr (.inr e))));omega};{have:=h.out i Z b (.inl e);omega}
 ·obtain⟨_,_,_,_,G,D,_⟩:=h.Ym i Z;rcases hk with e|e|e|e|e
  {exact h.out i Z k (.inl e)};{exact h.out i Z k (.inr (.inl e))};{exact h.out i Z k (.inr (.inr (.inl e)))};{exact h.out i Z k (.inr (.inr (.inr (.inl e))))}
  ·rcases hv k e with Y|Y
   {exact h.out i Z k (.inr (.inr (.inr (.inr Y))))};{exact .inr eB}
end
def nV(E:List (Int×Int×Int)):List (Int×Int):=E.map λx=>(x.1,x.2.1)
theorem BS:∀ {E:List (Int×Int×Int)} {r p:Int},(lg E r p).isSome=true↔(r,p)∈nV E
 |[],r,p=>by simp[lg,nV]
 |x::E,r,p=>by
  unfold lg;have ih:=BS (E:=E) (r:=r) (p:=p);split
  ·rename_i h
   simp[nV,h.1,h.2]
  ·rename_i h
   rw[ih];constructor;{intro Y;exact cT _ Y}
   ·intro Y;have Z:(r,p)=(x.1,x.2.1) \/(r,p)∈nV E:=by
     have:(r,p)∈(x.1,x.2.1)::nV E:=Y;simpa using this
    rcases Z with Z|Z
    ·injection Z with X V
     exact absurd ⟨X.symm,V.symm⟩ h
    ·exact Z
theorem WL {c:pz} {E:List (Int×Int×Int)} (h:rU many c E=0):(1<=c.m/\c.m<=20)/\pA many c.a c.pa=true/\pA many c.b c.pb=true/\(c.a,c.pa)∉nV E/\(c.b,c.pb)∉nV (E++ [(c.a,c.pa,c.m)]):=by
 unfold rU at h;split at h;{simp at h}
 ·split at h;{simp at h}
  ·split at h;{simp at h}
   ·split at h;{simp at h}
    ·split at h;{simp at h}
     ·rename_i h1 Z Y X V
      refine⟨eB,by simpa using Z,by simpa using X,λe=>Y (BS.2 e),λe=>V (BS.2 e)⟩
theorem Qk {many:Int}:∀(L:List pz) (E:List (Int×Int×Int)),ze many L E=0->(nV E).Nodup->(∀c∈L,(1<=c.m/\c.m<=20)/\pA many c.a c.pa=true/\pA many c.b c.pb=true)/\(nV (E++kK L)).Nodup
 |[],E,_,hn=>⟨λc hc=>by simp at hc,by simpa[kK]using hn⟩
 |c::L,E,h,hn=>by
  rw[IB]at h;have Y:rU many c E=0:=by
   rcases Nat.eq_zero_or_pos (rU many c E)with e|e
   {exact e};{rw[ai eB]at h;omega}
  rw[Y,af ik]at h;obtain⟨g1,U,T,S,Z⟩:=WL Y;have J:(nV (E++ [(c.a,c.pa,c.m),(c.b,c.pb,c.m)])).Nodup:=by
   have X:nV (E++ [(c.a,c.pa,c.m),(c.b,c.pb,c.m)])=(nV E++ [(c.a,c.pa)])++ [(c.b,c.pb)] :=by simp[nV]
   have V:nV (E++ [(c.a,c.pa,c.m)])=nV E++ [(c.a,c.pa)] :=by simp[nV]
   rw[X];rw[V]at Z;refine bG.2 ⟨bG.2 ⟨hn,ik,?_⟩,ik,?_⟩
   ·intro x hx y hy e;have:y=(c.a,c.pa):=by simpa using hy
    exact S (by rw[<-this,<-e];exact hx)
   ·intro x hx y hy e;have:y=(c.b,c.pb):=by simpa using hy
    exact Z (by rw[<-this,<-e];exact hx)
  obtain⟨Q,M⟩:=Qk L _ h J;refine⟨λx hx=> ?_,?_⟩
  ·rcases aP.1 hx with rfl|hx
   {exact⟨g1,U,T⟩};{exact Q x hx}
  ·have e:E++kK (c::L)=E++ [(c.a,c.pa,c.m),(c.b,c.pb,c.m)] ++kK L:=by simp[kK]
   rw[e];exact M
structure lU(many:Int)(L:List pz):Prop where
 m:1<=many/\many<=6
 l:L.length<=9
 c:∀c∈L,(1<=c.m/\c.m<=20)/\pA many c.a c.pa=true/\pA many c.b c.pb=true
 nd:(nV (kK L)).Nodup
theorem vF(h:oc many L=0):lU many L:=by
 unfold oc at h;split at h;{simp at h};{split at h;{simp at h};{obtain⟨Z,Y⟩:=Qk L [] h (by simp[nV]);exact⟨eB,eB,Z,by simpa using Y⟩}}
theorem nu {r p:Int} (h:pA many r p=true):1<=r/\r<=many/\0<=p/\p<3:=by
 unfold pA at h;simp only[Bool.and_eq_true,decide_eq_true_eq]at h;omega
theorem SL {x:Int×Int×Int} (h:x∈kK L):∃c∈L,x=(c.a,c.pa,c.m) \/x=(c.b,c.pb,c.m):=by
 unfold kK at h;obtain⟨c,hc,Z⟩:=aT.1 h;exact⟨c,hc,by simpa using Z⟩
theorem lU.ms(h:lU many L)(i p:Nat):1<=pL L i p/\pL L i p<=20:=by
 unfold pL;cases hl:lg (kK L) ((i:Int)+1) (p:Int)with
 |none=>exact⟨eF,eF⟩
 |some m=>
  obtain⟨c,hc,Z⟩:=SL (Ip hl);have V:=(h.c c hc).1;show 1<=m/\m<=20;rcases Z with Z|Z
  ·injection Z with _ Y
   injection Y with _ X
   rw[X];exact V
  ·injection Z with _ Y
   injection Y with _ X
   rw[X];exact V
theorem lU.tells(h:lU many L)(m:Nat)(Z:DL (kK L)):VU (kK L) m (pL L):=⟨λi p _ _=>⟨rfl,h.ms i p⟩,Z⟩
theorem uf(L:List pz)(c d:Nat)(hc:c<L.length):(nh L c).e d=if d=0 then((L[c].a-1).toNat,L[c].pa.toNat)else((L[c].b-1).toNat,L[c].pb.toNat):=by
 unfold nh pz.at;simp only[List.getD_eq_getElem?_getD,List.getElem?_eq_getElem hc,Option.getD_some]
theorem lU.en(h:lU many L)(c d:Nat)(hc:c<L.length):((nh L c).e d).1<many.toNat/\((nh L c).e d).2<3:=by
 rw[uf L c d hc];obtain⟨_,Z,Y⟩:=h.c L[c] (aF hc);have e1:=nu Z;have e2:=nu Y;split;{simp only;omega};{simp only;omega}
theorem Fz:∀(L:List pz) (c d:Nat) (hc:c<L.length),d<2->(nV (kK L))[2*c+d]? =μ (if d=0 then(L[c].a,L[c].pa)else(L[c].b,L[c].pb))
 |x::L,0,d,_,hd=>by
  have:d=0 \/d=1:=eB;rcases this with rfl|rfl<;>rfl
 |x::L,c+1,d,hc,hd=>by
  have e:nV (kK (x::L))=[(x.a,x.pa),(x.b,x.pb)] ++nV (kK L):=by simp[nV,kK]
  rw[e,bB (by simp;omega)];have Z:2*(c+1)+d-List.length [(x.a,x.pa),(x.b,x.pb)] =2*c+d:=by simp;omega
  rw[Z];exact Fz L c d (by simpa using hc) hd
theorem SM {α:Type} {l:List α} (h:l.Nodup) {j:Nat} (hi:i<l.length)(Y:j<l.length)(e:l[i] =l[j]):i=j:=by
 have X:=dD.1 h;rcases Nat.lt_trichotomy i j with Z|Z|Z
 {exact absurd e (X i j hi Y Z)};{exact Z};{exact absurd e.symm (X j i Y hi Z)}
theorem lU.ds(h:lU many L)(c d c' d':Nat)(hc:c<L.length)(hd:d<2)(V:c'<L.length)(M:d'<2)(Z:(nh L c).e d=(nh L c').e d'):c=c'/\d=d':=by
 have k1:=Fz L c d hc hd;have k2:=Fz L c' d' V M;rw[uf L c d hc,uf L c' d' V]at Z;obtain⟨_,S,Q⟩:=h.c L[c] (aF hc);obtain⟨_,b1,b2⟩:=h.c L[c'] (aF V);have e1:=nu S;have e2:=nu Q;have e3:=nu b1;have e4:=nu b2;have J:(if d=0 then(L[c].a,L[c].pa)else(L[c].b,L[c].pb))=(if d'=0 then(L[c'].a,L[c'].pa)else(L[c'].b,L[c'].pb)):=by
  by_cases X:d=0
  ·by_cases Y:d'=0
   ·rw[ai X,ai Y]at Z⊢;injection Z with U T
    rw[show L[c].a=L[c'].a by omega,show L[c].pa=L[c'].pa by omega]
   ·rw[ai X,af Y]at Z⊢;injection Z with U T
    rw[show L[c].a=L[c'].b by omega,show L[c].pa=L[c'].pb by omega]
  ·by_cases Y:d'=0
   ·rw[af X,ai Y]at Z⊢;injection Z with U T
    rw[show L[c].b=L[c'].a by omega,show L[c].pb=L[c'].pa by omega]
   ·rw[af X,af Y]at Z⊢;injection Z with U T
    rw[show L[c].b=L[c'].b by omega,show L[c].pb=L[c'].pb by omega]
 rw[J]at k1;obtain⟨l1,v1⟩:=aK.1 k1;obtain⟨l2,v2⟩:=aK.1 k2;have:=SM h.nd l1 l2 (v1.trans v2.symm);omega
theorem Av(h:lU many L):ki (j2 many.toNat L) 0 0:=by
 have hm:=h.m;refine⟨by show 1<=many.toNat;omega,by show many.toNat<=6;omega,h.l,λc d hc _=>h.en c d hc,λc d c' d' hc hd Z Y e=>h.ds c d c' d' hc hd Z Y e,λi p _ _=>h.ms i p,λi _=>⟨rfl,rfl⟩,λi hi=> ?_,λ_ _=>⟨Int.le_refl _,Int.le_refl _⟩,λ_ _ _ _=>Nat.zero_le _,λ_ _=>Nat.le_refl _,λi p _ _ _=>rz _ _ p,λ_ _=>⟨Nat.le_refl _,λ_ _=>Nat.zero_le _⟩⟩;have ll:i<many.toNat:=hi;exact Ao eB (λp _=>h.ms i p)
theorem Row.spare {sz n':Nat} {xs:List eA} (h:Row w sz (σ (μ ⟨g,0,ν⟩) n' cap) n xs)(j:Nat)(X:j<n*sz):w.frozen? ⟨g,j,ν⟩=false:=by
 rcases h.2 with⟨e,_⟩|⟨g',jH,e,_,Z,_,_,Y⟩
 {simp at e};{simp at e;obtain⟨rfl,rfl,rfl⟩:=e;exact(Y j (Nat.lt_of_lt_of_le X (Nat.mul_le_mul_right sz Z))).2}
def aea(g:Option Nat)(n c:Nat):eA:=match g with|none=>.slice none 0 0|some g=>.slice (some ⟨g,0,none⟩) n c
theorem Fy.done {N gI bM:Nat} {v2:eA} {lo hi:Nat->Nat} (jb:lU many L)(hE:DL (kK L))(h:Fy w W N gI bM many.toNat (kK L) (pL L) many.toNat L.length L v v2 P lo hi)(hw:0<w.heap.size)(X:Nat->Prop)(hX:∀b,X b->b<w.heap.size):
 ∃y,jS W y (j2 many.toNat L)/\y.N=N/\(∀b,y.all many.toNat b->w.heap.size<=b)/\∀b,y.ext b↔X b:=by
 have hm:=jb.m;obtain⟨m,RF⟩:=fq (many.toNat);have wv:1<=m/\m<=6:=eB;have AZ:=λc d (hc:c<L.length) (_:d<2)=>jb.en c d hc;rw[RF]at h AZ⊢;have ZD:∃gR uz,v=σ (μ ⟨gR,0,ν⟩) m uz:=by
  rcases h.row.2 with⟨_,e2⟩|⟨g,c,e,_⟩
  {omega};{exact⟨g,c,e⟩}
 obtain⟨gR,uz,rfl⟩:=ZD;have hgC:∃gC wV,v2=aea gC L.length wV/\(gC=ν->L.length=0):=by
  rcases h.G9.2 with⟨e,e2⟩|⟨g,c,e,_⟩
  {exact⟨ν,0,e,λ_=>e2⟩};{exact⟨μ g,c,e,λe=>by simp at e⟩}
 obtain⟨gC,wV,rfl,Gr⟩:=hgC;have hex:∀i,∃z:Zt,i<m->z.R=P i/\mM W z (jZ ((i:Int)+1) 3 (pL L i))/\(∀b,z.pM b->lo i<=b/\b<hi i)/\∀b,(b<lo i \/(hi i<=b/\b<W.heap.size))->z.fm.no b:=λi=>by
  by_cases V:i<m;{obtain⟨z,Y,Z,S,_,_,h6⟩:=h.Ym i V;exact⟨z,λ_=>⟨Y,Z,S,h6⟩⟩};{obtain⟨z,_⟩:=h.Ym 0 eB;exact⟨z,λe=>absurd e V⟩}
 obtain⟨z,A⟩:=Classical.skolem.1 hex;have hhi:∀i,i<m->lo i<=hi i/\hi i<=W.heap.size:=λi V=>by
  obtain⟨_,_,_,_,U,h5,_⟩:=h.Ym i V;exact⟨U,h5⟩
 obtain⟨y,hy⟩:∃y:Yt,y={N:=N,gR:=gR,uz:=uz,gI:=gI,zf:=m,gC:=gC,wV:=wV,bM:=bM,z:=z,iv:=λ_=>σ ν 0 0,ov:=λ_ _=>σ ν 0 0,ext:=X}:=⟨_,rfl⟩
 have hvR:eD (σ (μ ⟨gR,0,ν⟩) m uz)=μ gR:=rfl;have G:∀g,gC=μ g->eD (aea gC L.length wV)=μ g:=λg e=>by subst e;rfl
 have hat:∀l k,y.at l=μ k->(l=.N/\k=N) \/(l=.R/\k=gR) \/(l=.I/\k=gI) \/(l=.C/\gC=μ k):=λl k e=>by
  rw[hy]at e;cases l with
  |N=>exact .inl ⟨rfl,(Option.some.inj e).symm⟩
  |R=>exact .inr (.inl ⟨rfl,(Option.some.inj e).symm⟩)
  |I=>exact .inr (.inr (.inl ⟨rfl,(Option.some.inj e).symm⟩))
  |C=>exact .inr (.inr (.inr ⟨rfl,e⟩))
  |ib i=>simp[Yt.at,eD]at e
  |on c d=>simp[Yt.at,eD]at e
 have jA:∀k,y.own k->(k=N \/k=gR \/k=gI \/gC=μ k):=λk ⟨l,e⟩=>by
  rcases hat l k e with⟨_,e⟩|⟨_,e⟩|⟨_,e⟩|⟨_,e⟩
  {exact .inl e};{exact .inr (.inl e)};{exact .inr (.inr (.inl e))};{exact .inr (.inr (.inr e))}
 have D:=h.fv gR hvR;have T:∀k,gC=μ k->w.heap.size<=k/\k≠N/\k≠gI/\k≠bM/\gR≠k:=λk e=>by
  obtain⟨a1,a2,a3,a4,a5⟩:=h.Mi k (G k e);exact⟨a1,a2,a3,a4,λe1=>a5 (by rw[<-e1];rfl)⟩
 have OW:∀k,y.own k->w.heap.size<=k:=λk e=>by
  rcases jA k e with e|e|e|e
  {rw[e];exact h.ne.2.2.2.1};{rw[e];exact D.1};{rw[e];exact h.ne.2.2.2.2.1};{exact(T k e).1}
 have aec:∀k,y.own k->k<W.heap.size:=λk e=>by
  rcases jA k e with e|e|e|e
  {rw[e];exact h.yA};{rw[e];exact h.row.lt gR hvR};{rw[e];exact h.gi.lt};{exact h.G9.lt k (G k e)}
 have ZQ:∀k,y.own k->∀i,i<m->k<lo i \/hi i<=k:=λk e i V=>by
  rcases jA k e with e|e|e|e
  {exact h.out i V k (.inl e)};{exact h.out i V k (.inr (.inr (.inr (.inl (by rw[e];rfl)))))};{exact h.out i V k (.inr (.inl e))};{exact h.out i V k (.inr (.inr (.inr (.inr (G k e)))))}
 have Q:y.z=z:=by rw[hy]
 have M:y.ext=X:=by rw[hy]
 have hwW:=h.ox.size;refine⟨y,⟨wv.1,wv.2,jb.l,?_,?_,?_,?_,?_,?_,?_,?_,?_,?_,λ_ _ _ _=>Nat.zero_le _,AZ,?_,?_,?_,?_,?_⟩,by rw[hy],?_,λb=>by rw[M]⟩
 ·rw[hy];have e:(Yt.cv {N:=N,gR:=gR,uz:=uz,gI:=gI,zf:=m,gC:=gC,wV:=wV,bM:=bM,z:=z,iv:=λ_=>σ ν 0 0,ov:=λ_ _=>σ ν 0 0,ext:=X} L.length)=aea gC L.length wV:=by
   rfl
  show ji W N #[σ (μ ⟨gR,0,ν⟩) m uz,σ (μ ⟨gI,0,ν⟩) m m,.map (μ bM),Yt.cv _ L.length] 190;rw[e];exact h.nb
 ·intro j H;have J:j<m:=H;rw[hy];show W.cell? ⟨gR,0+j,ν⟩=μ (π (μ ⟨(z j).R,0,ν⟩))/\W.frozen? ⟨gR,0+j,ν⟩=false;rw[Nat.zero_add,(A j J).1];exact⟨Row.cell h.row j _ (WJ P J),Row.spare h.row j eB⟩
 ·intro j H;have J:j<m:=H;rw[hy];show W.cell? ⟨gI,0+j,ν⟩=μ (σ ν 0 0)/\W.frozen? ⟨gI,0+j,ν⟩=false;rw[Nat.zero_add];have Y:=h.gi.cell j;have e:(pZ m)[j]? =μ (σ ν 0 0):=by
   unfold pZ;rw[Array.getElem?_replicate,ai J]
  exact⟨Y.trans e,h.gi.frozen j⟩
 ·intro g hg c hc;have D8:gC=μ g:=by rw[hy]at hg;exact hg
  subst D8;have j9:c<L.length:=hc;intro i V;have jf:Row W 7 (σ (μ ⟨g,0,ν⟩) L.length wV) L.length (vE (L.take L.length)):=h.G9;rw[cu]at jf;refine⟨?_,Row.spare jf (c*7+i) eB⟩;have Y:=Qj L c i j9 V;have Z:[ι .i64 L[c].a,ι κ L[c].pa,ι κ L[c].b,ι κ L[c].pb,.bool false,σ ν 0 0,σ ν 0 0][i]? =μ (Dm (nh L c) (y.ov c) i):=by
   obtain⟨_,a1,a2⟩:=jb.c L[c] (aF j9);have e1:=nu a1;have e2:=nu a2;have f0:=uf L c 0 j9;have f1:=uf L c 1 j9;rw[ai rfl]at f0;rw[af eF]at f1;have q1:(((L[c].a-1).toNat:Nat):Int)+1=L[c].a:=eB;have q2:((L[c].pa.toNat:Nat):Int)=L[c].pa:=eB;have q3:(((L[c].b-1).toNat:Nat):Int)+1=L[c].b:=eB;have q4:((L[c].pb.toNat:Nat):Int)=L[c].pb:=eB;have:i=0 \/i=1 \/i=2 \/i=3 \/i=4 \/i=5 \/i=6:=eB;rcases this with rfl|rfl|rfl|rfl|rfl|rfl|rfl
   {show μ _=μ (ι .i64 ((((nh L c).e 0).1:Int)+1));rw[f0,q1]};{show μ _=μ (ι .i64 (((nh L c).e 0).2:Int));rw[f0,q2]};{show μ _=μ (ι .i64 ((((nh L c).e 1).1:Int)+1));rw[f1,q3]};{show μ _=μ (ι .i64 (((nh L c).e 1).2:Int));rw[f1,q4]};{rfl};{rw[hy];rfl};{rw[hy];rfl}
  rw[Z]at Y;exact Row.cell jf _ _ Y
 ·intro c hc;have j9:c<L.length:=hc;rw[hy];show∃g,gC=μ g;cases hg:gC with
  |none=>have:=Gr hg;omega
  |some g=>exact⟨g,rfl⟩
 {exact⟨kK L,by rw[hy];exact h.mp,jb.tells m hE⟩};{intro i V;rw[Q];exact(A i V).2.1};{exact λi _=>⟨rfl,rfl⟩};{intro i _;rw[hy];exact Row.nil _ 3};{intro c d _ _;rw[hy];exact Row.nil _ 1}
 ·intro l l' k e e';rcases hat l k e with⟨Y,Z⟩|⟨Y,Z⟩|⟨Y,Z⟩|⟨Y,Z⟩<;>rcases hat l' k e' with⟨S,U⟩|⟨S,U⟩|⟨S,U⟩|⟨S,U⟩
  {rw[Y,S]};{exact absurd (U.symm.trans Z) D.2.1};{exact absurd (Z.symm.trans U) h.ne.1};{exact absurd Z (T k U).2.1};{exact absurd (Z.symm.trans U) D.2.1};{rw[Y,S]};{exact absurd (Z.symm.trans U) D.2.2.1};{exact absurd Z.symm (T k U).2.2.2.2};{exact absurd (U.symm.trans Z) h.ne.1};{exact absurd (U.symm.trans Z) D.2.2.1};{rw[Y,S]};{exact absurd Z (T k U).2.2.1};{exact absurd U (T k Z).2.1};{exact absurd U.symm (T k Z).2.2.2.2};{exact absurd U (T k Z).2.2.1};{rw[Y,S]}
 ·intro i V b hb;have ZR:i<m:=V;obtain⟨_,_,z3,z4⟩:=A i ZR;rw[Q];have ZA:b<lo i \/(hi i<=b/\b<W.heap.size):=by
   rcases hb with e|e|⟨j,H,jx,e⟩
   {have Y:=ZQ b e i ZR;have Z:=aec b e;omega};{rw[M]at e;have Y:=hX b e;have Z:=h.lw i ZR;omega}
   ·have J:j<m:=H;rw[Q]at e;have Y:=(A j J).2.2.1 b e;have Z:=hhi j J;rcases Nat.lt_or_gt_of_ne jx with S|S
    {have:=h.sep j i S ZR;omega};{have:=h.sep i j S J;omega}
  exact⟨z4 b ZA,λe=>by have:=z3 b (.inl e);omega⟩
 ·intro b hb e;rw[M]at hb;have Y:=hX b hb;have Z:=OW b e;omega
 ·have Rc:y.bM=bM:=by rw[hy]
  rw[Rc,M,Q];refine⟨λe=> ?_,λe=> ?_,λi V e=> ?_⟩
  ·rcases jA bM e with e|e|e|e
   {exact h.ne.2.1 e.symm};{exact D.2.2.2 e.symm};{exact h.ne.2.2.1 e.symm};{exact(T bM e).2.2.2.1 rfl}
  {have Y:=hX bM e;have Z:=h.ne.2.2.2.2.2;omega};{have Y:=(A i V).2.2.1 bM e;have Z:=h.out i V bM (.inr (.inr (.inl rfl)));omega}
 ·intro e;have:=OW 0 e;omega
 ·intro b e;rcases e with e|⟨j,H,e⟩
  {exact OW b e};{rw[Q]at e;have Y:=(A j H).2.2.1 b e;have Z:=h.lw j H;omega}
theorem aed(W:ew):(il 75 (ι κ 1) (ι κ 1)).run fe W=.ok (σ (μ ⟨W.heap.size,0,ν⟩) 1 1) (W.alloc (γ (pZ 1) 53)):=ga
theorem aee(W:ew):(il 75 (ι κ 2) (ι κ 2)).run fe W=.ok (σ (μ ⟨W.heap.size,0,ν⟩) 2 2) (W.alloc (γ (pZ 2) 53)):=ga
theorem aef(W:ew):(il 75 (ι κ 3) (ι κ 3)).run fe W=.ok (σ (μ ⟨W.heap.size,0,ν⟩) 3 3) (W.alloc (γ (pZ 3) 53)):=ga
theorem aeg(W:ew):(il 75 (ι κ 4) (ι κ 4)).run fe W=.ok (σ (μ ⟨W.heap.size,0,ν⟩) 4 4) (W.alloc (γ (pZ 4) 53)):=ga
theorem aeh(W:ew):(il 75 (ι κ 5) (ι κ 5)).run fe W=.ok (σ (μ ⟨W.heap.size,0,ν⟩) 5 5) (W.alloc (γ (pZ 5) 53)):=ga
theorem aei(W:ew):(il 75 (ι κ 6) (ι κ 6)).run fe W=.ok (σ (μ ⟨W.heap.size,0,ν⟩) 6 6) (W.alloc (γ (pZ 6) 53)):=ga
theorem ahN(p:Nat)(hp:1<=p/\p<=6)(W:ew):(il 75 (ι κ (p:Int)) (ι κ (p:Int))).run fe W=.ok (σ (μ ⟨W.heap.size,0,ν⟩) p p) (W.alloc (γ (pZ p) 53)):=by
 have:p=1 \/p=2 \/p=3 \/p=4 \/p=5 \/p=6:=eB;rcases this with rfl|rfl|rfl|rfl|rfl|rfl
 {exact aed W};{exact aee W};{exact aef W};{exact aeg W};{exact aeh W};{exact aei W}
theorem ZS:(fe.info? 26).map (λi=>(i.zero,i.size,i.bytes))=μ (μ (π ν),1,8):=ga
theorem SN:(fe.info? 197).map (λi=>(i.zero,i.size,i.bytes))=μ (μ (.agg #[ι κ 0,ι κ 0,ι κ 0,ι κ 0,.bool false,σ ν 0 0,σ ν 0 0]),7,88):=ga
theorem ZT:(fe.info? 81).map (·.size)=μ 5:=ga
theorem ZU(p:Option Addr):∀u∈ [Value.pointer p],u.oneCell'=true:=by simp[Value.oneCell']
theorem Mj(w:ew)(c:pz)(C:Array eA)(t:TypeId)(g:Nat)(Z:w.heap.size=g)(hC:C.toList=vE [c] :=by rfl):∀(j:Nat) (u:eA),(vE [c])[j]? =μ u->(w.alloc (γ C t)).cell? ((⟨g,0,ν⟩:Addr).add j)=μ u:=by
 subst Z;intro j u Y;rw[add_plain,ak,<-Y,<-hC];simp
def SP(w:ew)(many:Int)(L:List pz)(X:Nat->Prop)(e:Ending)(w':ew):Prop:=
 (oc many L≠0->e=ρ (τ #[π ν,jB (oc many L)]))/\(oc many L=0->∃y,e=ρ (τ #[π (μ ⟨y.N,0,ν⟩),η])/\jS w' y (j2 many.toNat L)/\(∀b,y.all many.toNat b->w.heap.size<=b)/\∀b,y.ext b↔X b)/\eH w w'
theorem Ql(many:Int)(a:Option Addr)(cap:Nat)(L:List pz)(w:ew)(hL:Ar w a L)(hl:L.length<=1000)(hT:jt w)(X:Nat->Prop)(hX:∀b,X b->b<w.heap.size):
 fc fe 36 #[ι κ many,σ a L.length cap] w λe w'=>SP w many L X e w':=by
 have hm:=yC many a cap L w hL hl;by_cases h0:oc many L=0
 ·have jb:=vF h0;have hm6:=jb.m;obtain⟨m,RF⟩:∃m:Nat,many=(m:Int):=⟨many.toNat,eB⟩
  subst RF;have JK:((m:Int)).toNat=m:=Int.toNat_natCast m;have Dh:fc fe 95 #[ι κ (m:Int),σ a L.length cap] w λe w'=>∃b,e=ρ (τ #[.map (μ b),η])/\oU w' b (kK L)/\DL (kK L)/\w.heap.size<=b/\eH w w':=by
   refine hm.mono ?_;rintro e w1 ⟨_,h2,hb⟩;obtain⟨b,h3,h4,h5,h6⟩:=h2 h0;exact⟨b,h3,h4,h5,h6,hb⟩
  have HL:Hid _:=hL;have V5:Hid _:=jb;have HT:Hid _:=hT;have H00:Hid _:=h0;obtain⟨i1,vP,amD,amE,amF⟩:=aX ZS;obtain⟨i2,Rv,amG,amH,amI⟩:=aX SN;obtain⟨n,hn⟩:=fq (L.length);have HN:Hid _:=hn;have hl9:=jb.l;rw[hn]at Dh hl9⊢;have wv:1<=m:=eB;have hm6:m<=6:=eB;have hmk:=ahN m ⟨wv,hm6⟩;clear hm hL jb hT hl h0 hn
  go_in
  go_wp2_with(fail);refine Dh.mono ?_;rintro e w1 ⟨bM,rfl,hE,hEO,hbM,kO⟩;have HE:Hid _:=hE;have HEO:Hid _:=hEO;have EN:Hid _:=kO;clear Dh hE hEO kO;go_wp2_with(fail);have Gt:(w1.alloc (γ (pZ m) 53)).heap.size=w1.heap.size+1:=ik;obtain⟨W2,nK⟩:=fq ((w1.alloc (γ (pZ m) 53)).alloc (γ #[σ ν 0 0,σ (μ ⟨w1.heap.size,0,ν⟩) m m,.map (μ bM),σ ν 0 0] 190));have JB:eH w1 W2:=by rw[<-nK];exact(gK _ _).alloc ik _
  have LO:Fy w W2 (w1.heap.size+1) w1.heap.size bM m (kK L) (pL L) 0 0 L (σ ν 0 0) (σ ν 0 0) (λ_=>0) (λ_=>0) (λ_=>0):=by
   have A5:=EN.out.size;have oP:bM<w1.heap.size:=by
    obtain⟨es,clock,h1,_⟩:=HE.out;exact(ay.1 h1).1
   refine⟨fP EN.out JB,?_,?_,oU.keep HE.out (JB.block bM oP),Row.nil _ _,Row.nil _ _,⟨eB,eB,eB,eB,eB,hbM⟩,λk e=>by simp[eD]at e,λk e=>by simp[eD]at e,λi hi=>eB,λi hi=>eB,λi k _ hk=>eB,λi hi=>eB⟩
   ·have h1:ji W2 ((w1.alloc (γ (pZ m) 53)).heap.size) #[σ ν 0 0,σ (μ ⟨w1.heap.size,0,ν⟩) m m,.map (μ bM),σ ν 0 0] 190:=by rw[<-nK];exact ji.new _ _ _
    rw[Gt]at h1;exact h1
   ·have h1:ji (w1.alloc (γ (pZ m) 53)) w1.heap.size (pZ m) 53:=ji.new w1 _ _;rw[<-nK];exact h1.below (gK _ _)
  obtain⟨N,X9⟩:=fq (w1.heap.size+1);obtain⟨gI,hgI⟩:=fq (w1.heap.size);rw[X9,hgI]at LO;have HM0:Hid _:=LO;have U9:Hid _:=nK;have HNe:Hid _:=X9;have HgI:Hid _:=hgI;clear nK JB LO X9 hgI Gt;rw[U9.out]
  try rw[HNe.out]
  try rw[HgI.out]
  go_loopw [29] (λx wr=>∃(q:Nat) (v:eA) (P lo hi:Nat->Nat),q<=m/\x=ι κ q/\Fy w wr N gI bM m (kK L) (pL L) q 0 L v (σ ν 0 0) P lo hi) (λx _=>m-(fh x).toNat)
  case atStart=>exact⟨0,_,_,_,_,Nat.zero_le _,rfl,HM0.out⟩
  case round=>
   obtain⟨q,v,P,lo,hi,hq,rfl,H⟩:=hrel;obtain⟨V,rfl⟩:∃V,V=wr:=⟨_,rfl⟩
   by_cases kL:q<m
   ·have n9:(q:Int)<(m:Int):=eB;have X8:κ.wrap ((q:Int)+1)=(q:Int)+1:=aS _ ⟨eB,eB⟩;have PY:=yB N bM q (kK L) (pL L q) V (H.nb.cell 2) H.mp HEO.out eB (λp _=>⟨rfl,V5.out.ms q p⟩) (jt.below (w:=w) HT.out H.ox) (λb=>b<V.heap.size) (λb e=>e);have HM:Hid _:=H;clear H;go_wp2_with(fail);refine PY.mono ?_;rintro e w3 ⟨z,rfl,nG,r9,MY,hz4,hz5,hz6⟩;have hM3:=HM.out.below r9;have c0:w3.cell? ⟨N,0,ν⟩=μ v:=hM3.nb.cell 0;have Nl:=hM3.yA;have jf:=hM3.row;have HZ:Hid (mM w3 z (jZ ((q:Int)+1) 3 (pL L q))/\eH V w3/\(∀b,z.pM b->V.heap.size<=b)/\∀b,b<V.heap.size->z.fm.no b):=by
     refine⟨nG,r9,λb hb=> ?_,hz6⟩;rcases hb with e|e|e
     {exact MY b e};{rw[e];exact hz4};{exact hz5 b e}
    have HM3:Hid _:=hM3;clear PY nG r9 MY hz4 hz5 hz6 hM3;go_wp2_with(at_builtin;go_must(refine iU _ rfl (.tmp 46) (.tmp 48) 187 rfl 26 i1 (π ν) 1 8 underlying187 vP amD amE amF rfl eF v q (xk P q) rfl (jf.alloc _) _ 1 1 [π (μ ⟨z.R,0,ν⟩)] rfl rfl eF (rh _ _ _) (ZU _) (by unfold maxLen;omega) eB ?_));intro g' jH w4 hr4 hg4 YC;have hNv:v.ownBlock≠μ N:=λe=>(HM3.out.fv N e).2.1 rfl;have M4:ji w4 N #[v,σ (μ ⟨gI,0,ν⟩) m m,.map (μ bM),σ ν 0 0] 190:=HM3.out.nb.keep ((hg4.block N (by simp;have:=HM3.out.yA;omega) (λe=>hNv e.symm)).trans (aV _ _ _ HM3.out.yA));have c4:w4.cell? ⟨N,0,ν⟩=μ v:=M4.cell 0;have f4:=M4.frozen 0;have l4:=M4.lt;have HAdd:Hid (Fy w (w4.setCell ⟨N,0,ν⟩ (σ (μ ⟨g',0,ν⟩) (q+1) jH)) N gI bM m (kK L) (pL L) (q+1) 0 L (σ (μ ⟨g',0,ν⟩) (q+1) jH) (σ ν 0 0) (j6 P q z.R) (j6 lo q V.heap.size) (j6 hi q w3.heap.size)):=by
     obtain⟨a1,a2,a3,a4⟩:=HZ.out;refine Fy.E9 HM.out a1 a2 a3 a4 hr4 hg4 (λk hk=> ?_);have zH:g'=k:=by simpa[eD]using hk
     subst zH;rcases YC with e|e
     {exact .inl e};{right;have:(w3.alloc (γ #[π (μ ⟨z.R,0,ν⟩)] 26)).heap.size=w3.heap.size+1:=ik;omega}
    clear hr4 hg4 YC M4 hNv jf c0 Nl
    go_wp2
    go_roundw
    case rel=>exact⟨q+1,_,_,_,_,eB,by go_num,HAdd.out⟩
    case measure=>simp[fh];omega
   ·have yc:¬(q:Int)<(m:Int):=eB;obtain rfl:q=m:=eB;have HMq:Hid _:=H;clear H
    go_wp2
    go_loopw [55] (λx wr=>∃(j:Nat) (v2:eA),j<=n/\x=ι κ j/\Fy w wr N gI bM q (kK L) (pL L) q j L v v2 P lo hi) (λx _=>n-(fh x).toNat)
    case atStart=>exact⟨0,_,Nat.zero_le _,rfl,HMq.out⟩
    case round=>
    obtain⟨j,v2,hj,rfl,H⟩:=hrel;obtain⟨A,rfl⟩:∃A,A=wr:=⟨_,rfl⟩
    by_cases hjl:j<n
    ·have amm:(j:Int)<(n:Int):=eB;have zc:(0:Int)<=(j:Int):=eB;have hjL:j<L.length:=by rw[HN.out];exact hjl
     obtain⟨b,off,rfl,k0,k1,k2,k3,k4⟩:=Ar.below (w:=w) HL.out H.ox j hjL;have bl:=ag _ _ k0;have Zl:Hid (L.take (j+1)=L.take j++ [L[j]]):=by
      show _=_;rw[az hjL]
     generalize L[j] =c at k0 k1 k2 k3 k4 Zl;obtain⟨ca,T,U,Q,cm⟩:=c;have kO:=gK A (γ #[ι κ ca,ι κ T,ι κ U,ι κ Q,ι κ cm] 81);have OU:ji (A.alloc (γ #[ι κ ca,ι κ T,ι κ U,ι κ Q,ι κ cm] 81)) A.heap.size #[ι κ ca,ι κ T,ι κ U,ι κ Q,ι κ cm] 81:=ji.new A _ _;obtain⟨W1,kt⟩:=fq (A.alloc (γ #[ι κ ca,ι κ T,ι κ U,ι κ Q,ι κ cm] 81));obtain⟨Y,hY⟩:=fq (A.heap.size);have hMW:=H.below kO;have HYo:Hid (v2.ownBlock≠μ Y):=λe=>by have:=H.G9.lt Y e;omega
     have HYN:Hid (Y≠N):=λe=>by have:=H.yA;omega
     rw[kt]at OU hMW;rw[hY]at OU;have HM:Hid _:=hMW;have hV0:ji W1.drew Y #[ι κ ca,ι κ T,ι κ U,ι κ Q,ι κ cm] 81:=OU.drew;have c3a:W1.drew.cell? ⟨N,3,ν⟩=μ v2:=hMW.nb.cell 3;have Nl0:N<W1.drew.heap.size:=hMW.yA;have kC:∀D:ew,ji D Y #[ι κ ca,ι κ T,ι κ U,ι κ Q,ι κ cm] 81->(fR 81 (π (μ ⟨Y,0,ν⟩))).run fe D=.ok (.agg #[ι κ ca,ι κ T,ι κ U,ι κ Q,ι κ cm]) D:=λD hS=>by
      simp only[fR,Instr.sureAddr,Sem.run_bind,Sem.run_pure,Result.andThen];exact bV D Y 81 81 _ (0,0) _ hS underlying81 rfl ZT
     have Au:=Fw ca T U Q cm W1.drew;have Ks:Hid _:=kt;have HY:Hid _:=hY;clear H hMW kO OU kt hY;go_wp2_with(fail);rw[Ks.out]
     try rw[HY.out]
     refine cC (S:=λx=>ji x Y #[ι κ ca,ι κ T,ι κ U,ι κ Q,ι κ cm] 81) ga hV0 (λlW=> ?_);refine jD 0 (μ 59) rfl rfl ga ga ga (λ_ _ _ h=>h) (by rfl) (v:= ?_) ?_ jr ?_
     rotate_left
     ·intro D J
      (try dsimp only at J)
      go_simp
      try with_reducible rfl
     simp only[gQ,gS,gT,gU];refine jD 1 (μ 60) rfl rfl ga ga ga (λ_ _ _ h=>h) (by rfl) (v:= ?_) ?_ jr ?_
     rotate_left
     ·intro D J
      (try dsimp only at J)
      go_simp
      try with_reducible rfl
     simp only[gQ,gS,gT,gU];refine jD 2 (μ 61) rfl rfl ga ga ga (λ_ _ _ h=>h) (by rfl) (v:= ?_) ?_ jr ?_
     rotate_left
     ·intro D J
      (try dsimp only at J)
      go_simp
      try with_reducible rfl
     simp only[gQ,gS,gT,gU];refine jD 3 (μ 62) rfl rfl ga ga ga (λ_ _ _ h=>h) (by rfl) (v:= ?_) ?_ jr ?_
     rotate_left
     ·intro D J
      (try dsimp only at J)
      go_simp
      try with_reducible rfl
     simp only[gQ,gS,gT,gU];refine jD 5 (μ 64) rfl rfl ga ga ga (λ_ _ _ h=>h) (by rfl) (v:=.agg #[ι κ ca,ι κ T,ι κ U,ι κ Q,ι κ cm]) ?_ jr ?_;{intro D J;have h7:=kC D J;simp[execOp,Act.eval,h7]};simp only[gQ,gS,gT,gU];refine aQ (rs:=[4,6]) ga ik ?_;refine aI (o:=_) rfl (λK Z=> ?_) (aI (o:=_) rfl (λK Z=> ?_) aO)
     focus
      go_simp
      (try go_wp2_with(fail))
      refine Z.out _ _ (by exact hV0) (λlW=> ?_);clear Z K;refine aQ (rs:=[6]) ga ik ?_;refine aI (o:=_) rfl (λK Z=> ?_) aO
      go_simp
      refine Au.mono ?_;rintro e w1 ⟨rfl,be⟩;have rG:=HM.out.below (fP (jl _) be);have M:=hV0.below be;have c3b:w1.cell? ⟨N,3,ν⟩=μ v2:=rG.nb.cell 3;have Nl1:=rG.yA
      (try go_wp2_with(fail))
      refine Z.out _ _ (by exact M) (λlW=> ?_);clear Z K;refine jD 7 (μ 66) rfl rfl ga ga ga (λ_ _ _ h=>h) (by rfl) (v:= ?_) ?_ jr ?_
      rotate_left
      ·intro D J
       (try dsimp only at J)
       go_simp
       try with_reducible rfl
      simp only[gQ,gS,gT,gU];refine aQ (rs:=[8]) ga ik ?_;refine aI (o:=_) rfl (λK Z=> ?_) aO
      go_simp
      have Sz:=ji.below M (gK w1 (γ #[ι κ ca,ι κ T,ι κ U,ι κ Q,.bool false,σ ν 0 0,σ ν 0 0] 197));have G:=rG.below (gK w1 (γ #[ι κ ca,ι κ T,ι κ U,ι κ Q,.bool false,σ ν 0 0,σ ν 0 0] 197));have c3c:(w1.alloc (γ #[ι κ ca,ι κ T,ι κ U,ι κ Q,.bool false,σ ν 0 0,σ ν 0 0] 197)).cell? ⟨N,3,ν⟩=μ v2:=G.nb.cell 3;have Nl2:=G.yA
      (try go_wp2_with(fail))
      refine Z.out _ _ (by exact Sz) (λlW=> ?_);clear Z K
     rotate_left
     focus
      go_simp
      refine Au.mono ?_;rintro e w1 ⟨rfl,be⟩;have rG:=HM.out.below (fP (jl _) be);have M:=hV0.below be;have c3b:w1.cell? ⟨N,3,ν⟩=μ v2:=rG.nb.cell 3;have Nl1:=rG.yA
      (try go_wp2_with(fail))
      refine Z.out _ _ (by exact M) (λlW=> ?_);clear Z K;refine jD 7 (μ 66) rfl rfl ga ga ga (λ_ _ _ h=>h) (by rfl) (v:= ?_) ?_ jr ?_
      rotate_left
      ·intro D J
       (try dsimp only at J)
       go_simp
       try with_reducible rfl
      simp only[gQ,gS,gT,gU];refine aQ (rs:=[4,8]) ga ik ?_;refine aI (o:=_) rfl (λK Z=> ?_) (aI (o:=_) rfl (λK Z=> ?_) aO)
      focus
       go_simp
       (try go_wp2_with(fail))
       refine Z.out _ _ (by exact M) (λlW=> ?_);clear Z K;refine aQ (rs:=[8]) ga ik ?_;refine aI (o:=_) rfl (λK Z=> ?_) aO
       go_simp
       have Sz:=ji.below M (gK w1 (γ #[ι κ ca,ι κ T,ι κ U,ι κ Q,.bool false,σ ν 0 0,σ ν 0 0] 197));have G:=rG.below (gK w1 (γ #[ι κ ca,ι κ T,ι κ U,ι κ Q,.bool false,σ ν 0 0,σ ν 0 0] 197));have c3c:(w1.alloc (γ #[ι κ ca,ι κ T,ι κ U,ι κ Q,.bool false,σ ν 0 0,σ ν 0 0] 197)).cell? ⟨N,3,ν⟩=μ v2:=G.nb.cell 3;have Nl2:=G.yA
       (try go_wp2_with(fail))
       refine Z.out _ _ (by exact Sz) (λlW=> ?_);clear Z K
      rotate_left
      go_simp
      have Sz:=ji.below M (gK w1 (γ #[ι κ ca,ι κ T,ι κ U,ι κ Q,.bool false,σ ν 0 0,σ ν 0 0] 197));have G:=rG.below (gK w1 (γ #[ι κ ca,ι κ T,ι κ U,ι κ Q,.bool false,σ ν 0 0,σ ν 0 0] 197));have c3c:(w1.alloc (γ #[ι κ ca,ι κ T,ι κ U,ι κ Q,.bool false,σ ν 0 0,σ ν 0 0] 197)).cell? ⟨N,3,ν⟩=μ v2:=G.nb.cell 3;have Nl2:=G.yA
      (try go_wp2_with(fail))
      refine Z.out _ _ (by exact Sz) (λlW=> ?_);clear Z K;refine aQ (rs:=[4]) ga ik ?_;refine aI (o:=_) rfl (λK Z=> ?_) aO
      go_simp
      (try go_wp2_with(fail))
      refine Z.out _ _ (by exact Sz) (λlW=> ?_);clear Z K
     all_goals
      refine aQ (rs:=[9]) ga ik ?_;refine aI (o:=_) rfl (λK Z=> ?_) aO;refine mE (by rfl) (.tmp 63) (.tmp 67) 188 (by rfl) 197 i2 (.agg #[ι κ 0,ι κ 0,ι κ 0,ι κ 0,.bool false,σ ν 0 0,σ ν 0 0]) 7 88 underlying188 Rv amG amH amI (by rfl) eF v2 j (vE (L.take j)) (by rfl) G.G9 _ 1 1 (vE [⟨ca,T,U,Q,cm⟩]) (by rfl) (by rfl) eF (Mj _ _ _ _ _ rfl) (WI _) (by unfold maxLen;omega) eB ?_;intro g' jH x1 lE kR jR;have Dt:ji x1 N _ 190:=G.nb.keep (kR.block N G.yA (λe=>(G.Mi N e.symm).2.1 rfl));have hV3:ji x1 Y _ 81:=Sz.keep (kR.block Y Sz.lt (λe=>HYo.out e.symm));have c3d:x1.cell? ⟨N,3,ν⟩=μ v2:=Dt.cell 3;have f3d:=Dt.frozen 3;have Nl3:=Dt.lt;refine Z.out _ _ (by exact hV3) (λlW=> ?_);clear Z K;refine jD 10 (μ 69) rfl rfl ga ga ga (λ_ _ _ h=>h) (by rfl) (v:= ?_) ?_ jr ?_
      rotate_left
      ·intro D J
       (try dsimp only at J)
       go_simp
       try with_reducible rfl
      simp only[gQ,gS];refine jD 11 (μ 70) rfl rfl ga ga ga (λ_ _ _ h=>h) (by rfl) (v:= ?_) ?_ jr ?_
      rotate_left
      ·intro D J
       (try dsimp only at J)
       go_simp
       try with_reducible rfl
      simp only[gQ];refine aQ (rs:=[12]) ga ik ?_;refine aI (o:=_) rfl (λK Z=> ?_) aO
      go_simp
      (try go_wp2_with(fail))
      refine Z.out _ _ (by exact hV3.other HYN.out _) (λlW=> ?_);clear Z K;refine cV ga ?_ _;have HAdd:Hid _:=Fy.Qc G (c:=⟨ca,T,U,Q,cm⟩) Zl.out lE kR (λk hk=>by
       have zH:g'=k:=by simpa[eD]using hk
       subst zH;exact jR)
      clear lE kR jR Dt hV3 c3d f3d Nl3 rG G M Sz
      go_wp2
      go_roundw
      case rel=>exact⟨j+1,_,eB,by go_num,HAdd.out⟩
      case measure=>simp[fh];omega
    ·have ahu:¬(j:Int)<(n:Int):=eB;obtain rfl:j=n:=eB;have um:∃y,jS A y (j2 ((q:Int)).toNat L)/\y.N=N/\(∀b,y.all ((q:Int)).toNat b->w.heap.size<=b)/\∀b,y.ext b↔X b:=by
      have G:Fy w A N gI bM ((q:Int)).toNat (kK L) (pL L) ((q:Int)).toNat L.length L v v2 P lo hi:=by
       rw[JK,HN.out];exact H
      exact Fy.done (w:=w) (many:=(q:Int)) V5.out HEO.out G (jt.lt (w:=w) HT.out) X hX
     have HF:Hid (SP w (q:Int) L X (ρ (τ #[π (μ ⟨N,0,ν⟩),η])) A):=by
      obtain⟨y,y1,y2,y3,y4⟩:=um;exact⟨λe=>absurd H00.out e,λ_=>⟨y,by rw[y2],y1,y3,y4⟩,H.ox⟩
     clear H um
     go_wp2
     go_ret2
     exact HF.out
 ·have Dh:fc fe 95 #[ι κ many,σ a L.length cap] w λe w'=>e=ρ (τ #[.map ν,jB (oc many L)])/\eH w w':=by
   refine hm.mono ?_;rintro e w1 ⟨h1,_,hb⟩;exact⟨h1 h0,hb⟩
  have ee:jB (oc many L)=.iface 128 (ι κ ((oc many L:Nat):Int)):=by simp only[jB];rw[af h0]
  have HE:Hid _:=ee;have H0:Hid _:=h0;rw[ee]at Dh;generalize L.length=n at Dh⊢;clear hm hL hT ee h0
  go_in
  go_wp2_with(fail);refine Dh.mono ?_;rintro e w1 ⟨rfl,hb⟩;have HB:Hid _:=hb;clear Dh hb
  go_wp2
  go_ret2
  exact⟨λ_=>by rw[HE.out];rfl,λe=>absurd e H0.out,HB.out⟩
def tT(y:ja)(v:AV):ja:=
 if(v.kind.toList==[112,108,117,103])=true then(y.iZ v.a (v.b==1)).1
 else if(v.kind.toList==[116,105,99,107])=true then(y.tick v.a).1
 else if(v.kind.toList==[100,101,108,105,118,101,114])=true then(y.deliver v.a v.b v.c).1
 else if(v.kind.toList==[114,101,115,116,97,114,116])=true then(y.restart v.a).1
 else if(v.kind.toList==[115,101,110,100])=true then(y.send v.a v.b v.s.data.toList).1
 else if(v.kind.toList==[114,111,117,110,100])=true then y.round
 else y
theorem SQ(y:ja)(i:Int)(up:Bool):(y.iZ i up).1.n=y.n/\(y.iZ i up).1.nc=y.nc/\(y.iZ i up).1.ms=y.ms/\∀x,((y.iZ i up).1.C x).e=(y.C x).e:=by
 unfold ja.iZ;split;{exact⟨rfl,rfl,rfl,λ_=>rfl⟩};{split;{exact⟨rfl,rfl,rfl,λ_=>rfl⟩};{obtain⟨g1,Z,Y,X⟩:=mr (y.kd i.toNat up);obtain⟨V,U,p3,_,T⟩:=pY y i.toNat up;exact⟨g1.trans V,Z.trans U,Y.trans p3,λx=>(X x).1.trans (T x).1⟩}}
theorem JV(y:ja)(i:Int):(y.restart i).1.n=y.n/\(y.restart i).1.nc=y.nc/\(y.restart i).1.ms=y.ms/\∀x,((y.restart i).1.C x).e=(y.C x).e:=by
 unfold ja.restart;split;{exact⟨rfl,rfl,rfl,λ_=>rfl⟩};{obtain⟨Z,Y,X,_,V⟩:=nI false (y.lT (i-1).toNat) y;obtain⟨b1,b2,b3,_,b5⟩:=nI true (y.lT (i-1).toNat) ((y.jX false (y.lT (i-1).toNat)).jO (i-1).toNat (jZ i 3 (y.ms (i-1).toNat)));obtain⟨g1,U,T,S⟩:=mr (((y.jX false (y.lT (i-1).toNat)).jO (i-1).toNat (jZ i 3 (y.ms (i-1).toNat))).jX true (y.lT (i-1).toNat));exact⟨g1.trans (b1.trans Z),U.trans (b2.trans Y),T.trans (b3.trans X),λx=>(S x).1.trans ((b5 x).trans (V x))⟩}
theorem SS(y:ja)(f t:Int)(tx:List UInt8):(y.send f t tx).1.n=y.n/\(y.send f t tx).1.nc=y.nc/\(y.send f t tx).1.ms=y.ms/\∀x,((y.send f t tx).1.C x).e=(y.C x).e:=by
 unfold ja.send;split;{exact⟨rfl,rfl,rfl,λ_=>rfl⟩};{split;{exact⟨rfl,rfl,rfl,λ_=>rfl⟩};{obtain⟨g1,Z,Y,X⟩:=mr (y.jO (f-1).toNat (kD (y.R (f-1).toNat) t tx).1);exact⟨g1,Z,Y,λx=>(X x).1⟩}}
theorem SU(y:ja)(v:AV):(tT y v).n=y.n/\(tT y v).nc=y.nc/\(tT y v).ms=y.ms/\∀x,((tT y v).C x).e=(y.C x).e:=by
 unfold tT;split;{exact SQ _ _ _};{split;{obtain⟨a,b,c,d⟩:=IA y v.a;exact⟨a,b,c,λx=>(d x).1⟩};{split;{obtain⟨a,b,c,d⟩:=nC y v.a v.b v.c;exact⟨a,b,c,λx=>(d x).1⟩};{split;{exact JV _ _};{split;{exact SS _ _ _ _};{split;{obtain⟨a,b,c,d⟩:=kX y;exact⟨a,b,c,λx=>(d x).1⟩};{exact⟨rfl,rfl,rfl,λ_=>rfl⟩}}}}}}
theorem ki.act {y:ja} {D:Nat} (h:ki y D 0)(Z:D<=800000000)(v:AV):ki (tT y v) (D+1300000) 0:=by
 unfold tT;split;{exact(h.iZ eB _ _).mono eB (Nat.le_refl _)};{split;{exact(h.tick eB _).mono eB (Nat.le_refl _)};{split;{exact(h.deliver eB _ _ _).mono eB (Nat.le_refl _)};{split;{exact(h.restart eB _).mono eB (Nat.le_refl _)};{split;{exact(h.send eB _ _ _).mono eB (Nat.le_refl _)};{split;{exact h.round Z};{exact h.mono eB (Nat.le_refl _)}}}}}}
theorem jS.from {n n':ja} {f:FuncId} {args:Array eA} {ev:eA} (hb:eH w W)(hc:fc fe f args W λe w'=>e=ρ ev/\iR W w' y n' n.n):fc fe f args W λe w'=>(∃v,e=ρ v)/\iR w w' y n' n.n:=by
 refine hc.mono ?_;rintro e w' ⟨rfl,Z⟩;exact⟨⟨_,rfl⟩,iR.first hb Z⟩
theorem Dy(y:Yt)(n:ja)(D:Nat)(v:AV)(w:ew)(h:jS w y n)(hT:jt w)(jb:ki n D 0)(hD:D<=800000000):
 fc fe 59 #[π (μ ⟨y.N,0,ν⟩),.agg #[.string v.kind,ι κ v.a,ι κ v.b,ι κ v.c,ι κ v.d,.string v.s,ι κ v.PX,ι κ v.pid,σ v.po v.pn v.EK,ι κ v.x.own,ι κ v.x.seq,σ v.x.a v.x.n v.x.cap]] w λe w'=>e=ρ (τ #[])/\iR w w' y (tT n v) n.n:=by
 obtain⟨Z,T,M,vc,vd,vs,J,H,A,Yc,Cy,⟨xo,xq,xa,xn,xc⟩⟩:=v;have hb:=gK w (γ #[.string Z,ι κ T,ι κ M,ι κ vc,ι κ vd,.string vs,ι κ J,ι κ H,σ A Yc Cy,ι κ xo,ι κ xq,σ xa xn xc] 42);have hB:ji (w.alloc (γ #[.string Z,ι κ T,ι κ M,ι κ vc,ι κ vd,.string vs,ι κ J,ι κ H,σ A Yc Cy,ι κ xo,ι κ xq,σ xa xn xc] 42)) w.heap.size #[.string Z,ι κ T,ι κ M,ι κ vc,ι κ vd,.string vs,ι κ J,ι κ H,σ A Yc Cy,ι κ xo,ι κ xq,σ xa xn xc] 42:=ji.new w _ _;obtain⟨S,nL⟩:=fq (w.alloc (γ #[.string Z,ι κ T,ι κ M,ι κ vc,ι κ vd,.string vs,ι κ J,ι κ H,σ A Yc Cy,ι κ xo,ι κ xq,σ xa xn xc] 42));obtain⟨X,hX⟩:=fq (w.heap.size);rw[nL]at hb hB;rw[hX]at hB;have R0:=h.below hb;have T0:jt S:=jt.below (w:=w) hT hb;have c0:S.cell? ⟨X,0,ν⟩=μ (.string Z):=hB.cell 0;have c1:S.cell? ⟨X,1,ν⟩=μ (ι κ T):=hB.cell 1;have c2:S.cell? ⟨X,2,ν⟩=μ (ι κ M):=hB.cell 2;have c3:S.cell? ⟨X,3,ν⟩=μ (ι κ vc):=hB.cell 3;have c5:S.cell? ⟨X,5,ν⟩=μ (.string vs):=hB.cell 5;have xl:=hB.lt;have DN:Hid _:=nL;have HX:Hid _:=hX;have q1:=jS.from hb (L8 y n D T (M==1) S R0 T0 jb eB);have q2:=jS.from hb (L5 y n D T S R0 T0 jb eB);have q3:=jS.from hb (CL y n D T M vc S R0 T0 jb eB);have q4:=jS.from hb (Md y n D T S R0 T0 jb eB);have q5:=jS.from hb (Wz y n D T M vs S R0 jb eB);have q6:=jS.from hb (BP y n D S R0 T0 jb hD);have q7:iR w S y n n.n:=iR.still h hb;obtain⟨G,hG⟩:=fq (tT n ⟨Z,T,M,vc,vd,vs,J,H,A,Yc,Cy,⟨xo,xq,xa,xn,xc⟩⟩)
 rw[hG];have HG:Hid (G=if(Z.toList==[112,108,117,103])=true then(n.iZ T (M==1)).1
  else if(Z.toList==[116,105,99,107])=true then(n.tick T).1
  else if(Z.toList==[100,101,108,105,118,101,114])=true then(n.deliver T M vc).1
  else if(Z.toList==[114,101,115,116,97,114,116])=true then(n.restart T).1
  else if(Z.toList==[115,101,110,100])=true then(n.send T M vs.data.toList).1
  else if(Z.toList==[114,111,117,110,100])=true then n.round
  else n):=hG.symm
 clear h hT jb R0 T0 hb hB nL hX hG;cases k1:(Z.toList==[112,108,117,103])
 case true=>
  have V:=q1;clear q1 q2 q3 q4 q5 q6 q7;have Y:Hid (∀x,iR w x y _ n.n->iR w x y G n.n):=λx hx=>by
   rw[HG.out,ai k1];exact hx
  go_in
  go_wp2_with(fail)
  try rw[DN.out]
  try rw[HX.out]
  go_wp2_with(fail);refine V.mono ?_;rintro e w6 ⟨⟨ev,rfl⟩,U⟩;have Q:Hid _:=Y.out _ U;clear V U Y
  go_wp2
  first|go_end0|refine iX rfl rfl ?_
  exact⟨rfl,Q.out⟩
 case false=>
  cases k2:(Z.toList==[116,105,99,107])
  case true=>
   have V:=q2;clear q1 q2 q3 q4 q5 q6 q7;have Y:Hid (∀x,iR w x y _ n.n->iR w x y G n.n):=λx hx=>by
    rw[HG.out,af (by rw[k1];simp),ai k2];exact hx
   go_in
   go_wp2_with(fail)
   try rw[DN.out]
   try rw[HX.out]
   go_wp2_with(fail);refine V.mono ?_;rintro e w6 ⟨⟨ev,rfl⟩,U⟩;have Q:Hid _:=Y.out _ U;clear V U Y
   go_wp2
   first|go_end0|refine iX rfl rfl ?_
   exact⟨rfl,Q.out⟩
  case false=>
   cases k3:(Z.toList==[100,101,108,105,118,101,114])
   case true=>
    have V:=q3;clear q1 q2 q3 q4 q5 q6 q7;have Y:Hid (∀x,iR w x y _ n.n->iR w x y G n.n):=λx hx=>by
     rw[HG.out,af (by rw[k1];simp),af (by rw[k2];simp),ai k3];exact hx
    go_in
    go_wp2_with(fail)
    try rw[DN.out]
    try rw[HX.out]
    go_wp2_with(fail);refine V.mono ?_;rintro e w6 ⟨⟨ev,rfl⟩,U⟩;have Q:Hid _:=Y.out _ U;clear V U Y
    go_wp2
    first|go_end0|refine iX rfl rfl ?_
    exact⟨rfl,Q.out⟩
   case false=>
    cases k4:(Z.toList==[114,101,115,116,97,114,116])
    case true=>
     have V:=q4;clear q1 q2 q3 q4 q5 q6 q7;have Y:Hid (∀x,iR w x y _ n.n->iR w x y G n.n):=λx hx=>by
      rw[HG.out,af (by rw[k1];simp),af (by rw[k2];simp),af (by rw[k3];simp),ai k4];exact hx
     go_in
     go_wp2_with(fail)
     try rw[DN.out]
     try rw[HX.out]
     go_wp2_with(fail);refine V.mono ?_;rintro e w6 ⟨⟨ev,rfl⟩,U⟩;have Q:Hid _:=Y.out _ U;clear V U Y
     go_wp2
     first|go_end0|refine iX rfl rfl ?_
     exact⟨rfl,Q.out⟩
    case false=>
     cases k5:(Z.toList==[115,101,110,100])
     case true=>
      have V:=q5;clear q1 q2 q3 q4 q5 q6 q7;have Y:Hid (∀x,iR w x y _ n.n->iR w x y G n.n):=λx hx=>by
       rw[HG.out,af (by rw[k1];simp),af (by rw[k2];simp),af (by rw[k3];simp),af (by rw[k4];simp),ai k5];exact hx
      go_in
      go_wp2_with(fail)
      try rw[DN.out]
      try rw[HX.out]
      go_wp2_with(fail);refine V.mono ?_;rintro e w6 ⟨⟨ev,rfl⟩,U⟩;have Q:Hid _:=Y.out _ U;clear V U Y
      go_wp2
      first|go_end0|refine iX rfl rfl ?_
      exact⟨rfl,Q.out⟩
     case false=>
      cases k6:(Z.toList==[114,111,117,110,100])
      case true=>
       have V:=q6;clear q1 q2 q3 q4 q5 q6 q7;have Y:Hid (∀x,iR w x y _ n.n->iR w x y G n.n):=λx hx=>by
        rw[HG.out,af (by rw[k1];simp),af (by rw[k2];simp),af (by rw[k3];simp),af (by rw[k4];simp),af (by rw[k5];simp),ai k6];exact hx
       go_in
       go_wp2_with(fail)
       try rw[DN.out]
       try rw[HX.out]
       go_wp2_with(fail);refine V.mono ?_;rintro e w6 ⟨⟨ev,rfl⟩,U⟩;have Q:Hid _:=Y.out _ U;clear V U Y
       go_wp2
       first|go_end0|refine iX rfl rfl ?_
       exact⟨rfl,Q.out⟩
      case false=>
       have Q:Hid (iR w S y G n.n):=by
        show iR _ _ _ _ _;rw[HG.out,af (by rw[k1];simp),af (by rw[k2];simp),af (by rw[k3];simp),af (by rw[k4];simp),af (by rw[k5];simp),af (by rw[k6];simp)];exact q7
       clear q1 q2 q3 q4 q5 q6 q7
       go_in
       go_wp2_with(fail)
       try rw[DN.out]
       try rw[HX.out]
       go_wp2
       first|go_end0|refine iX rfl rfl ?_
       exact⟨rfl,Q.out⟩
theorem ZV(c:UInt8)(s:LS):(qB c s).st=s.st:=by
 unfold qB
 repeat' split
 all_goals rfl
theorem Qm:∀(L:List UInt8) (s:LS),(rk L s).st=s.st
 |[],_=>rfl
 |c::r,s=>by
  show(rk r (qB c s)).st=s.st;rw[Qm r,ZV]
theorem ZW(s:LS)(nx:Int):(s.next nx).st=nx:=by
 unfold LS.next;split<;>rfl
theorem xm(s:LS)(ev:Int):(ot s ev).st=(jv s.st ev).2.1:=by
 unfold ot;rw[Qm,ZW]
def uU(s:Int):Bool:=s==3||(decide (5<=s)&&decide (s<=9))
theorem DR {s:Int} (h:uU s=true):∃k:Nat,s=k/\k<10:=by
 refine⟨s.toNat,?_⟩;simp only[uU,Bool.or_eq_true,beq_iff_eq,Bool.and_eq_true,decide_eq_true_eq]at h;omega
theorem aej:((ft 12).all λe=>(ft 10).all λs=> !(decide (4<=e)&&uU (s:Int)&& ((lO s e).2.2==0))||uU (lO s e).2.1)=true:=by decide+kernel
theorem ZX {e s:Nat} (V:e<12)(X:4<=e)(hs:s<10)(U:uU (s:Int)=true)(Y:(lO s e).2.2=0):uU (lO s e).2.1=true:=by
 have Z:=aZ.1 (aZ.1 aej e (aN.2 V)) s (aN.2 hs);have b4:decide (4<=e)=true:=by simpa using X
 have b7:((lO s e).2.2==0)=true:=by simpa using Y
 rw[b4,U,b7]at Z;simpa using Z
theorem FA(e:Nat)(X:e<12)(V:4<=e)(a:kZ)(h:uU s.st=true):uU (tO s e a).1.st=true:=by
 obtain⟨k,U,Y⟩:=DR h;by_cases Z:(jv s.st e).2.2=0;{rw[uo a Z];show uU (ot s e).st=true;rw[xm];rw[U]at h Z⊢;rw[nQ k e Y X]at Z⊢;exact ZX X V Y h Z};{rw[wB a Z];exact h}
theorem ZY(s:LS)(code:Int)(os:List jQ):(s.tell code os).st=s.st:=by
 unfold LS.tell;split<;>rfl
theorem WM(s:LS)(os:List jQ):(s.sized os).st=s.st:=by
 unfold LS.sized;split<;>rfl
theorem ZZ(p:kZ)(h:uU s.st=true):uU (jW s p).1.st=true:=by
 unfold jW;split;{exact h};{split;{unfold uK;split;{split;{rw[WM];exact FA 6 eF eF _ h};{exact FA 6 eF eF _ h}};{exact FA 7 eF eF _ h}};{split;{exact FA 10 eF eF _ h};{split;{exact FA 11 eF eF _ h};{unfold ur;split;{exact h};{split;{split;{exact h};{exact FA 8 eF eF _ h}};{exact FA 9 eF eF _ (by rw[ZY];exact h)}}}}}}
theorem Ml:((ft 10).all λs=> !(uU (s:Int)&&decide (4<=s)&&decide (s<=8))||(uU (lO s 4).2.1&&uU (lO s 5).2.1))=true:=by decide+kernel
theorem WN(h:uU s.st=true):uU (kI s).st=true:=by
 obtain⟨k,Y,X⟩:=DR h;unfold kI;split;{exact h}
 ·rename_i U
  have V:4<=k/\k<=8:=by
   rw[Y]at U;simp at U;omega
  have Z:=aZ.1 Ml k (aN.2 X);rw[<-Y,h]at Z;simp[V.1,V.2]at Z;split;{exact h};{split;{rw[xm];show uU (jv s.st 4).2.1=true;rw[Y,show(4:Int)=((4:Nat):Int)from rfl,nQ k 4 X eF];exact Z.1};{rw[xm];show uU (jv s.st 5).2.1=true;rw[Y,show(5:Int)=((5:Nat):Int)from rfl,nQ k 5 X eF];exact Z.2}}
theorem Mm:((ft 10).all λs=> !(uU (s:Int))||((lO s 1).2.2==0&& (lO s 1).2.1==1))=true:=by decide+kernel
theorem ug(h:uU s.st=true):(lr s 1).2.2=0/\(lr s 1).1.st=1:=by
 obtain⟨k,X,Y⟩:=DR h;have Z:=aZ.1 Mm k (aN.2 Y);rw[<-X,h]at Z;simp at Z;have V:(jv s.st 1).2.2=0:=by
  rw[X,show(1:Int)=((1:Nat):Int)from rfl,nQ k 1 Y eF];exact Z.1
 have e:lr s 1=(ot s 1,qk s 1 (0,0,[]),0):=by
  unfold lr;rw[ai ik,uo _ V]
 rw[e];refine⟨rfl,?_⟩;show(ot s 1).st=1;rw[xm,X,show(1:Int)=((1:Nat):Int)from rfl,nQ k 1 Y eF];exact Z.2
theorem EA(h:s.st=1):(lr s 0).2.2=0/\uU (lr s 0).1.st=true:=by
 have Z:(jv s.st 0).2.2=0:=by rw[h];decide+kernel
 have e:lr s 0=(ot s 0,qk s 0 (0,0,[]),0):=by
  unfold lr;rw[ai ik,uo _ Z]
 rw[e];refine⟨rfl,?_⟩;show uU (ot s 0).st=true;rw[xm,h];decide+kernel
theorem WO(h:uU s.st=true):uU (jq s).1.st=true:=by
 have Z:=WN h;unfold jq;split;{exact(EA (ug Z).2).2};{exact Z}
theorem SW(h:s.st=1):(jq s).1=s:=by
 have Z:kI s=s:=by unfold kI;simp[h]
 unfold jq;rw[Z];simp[h]
structure pN(up:Bool)(p:jI):Prop where
 st:if up=true then uU p.L.st=true else p.L.st=1
 gate:p.pe.who≠0->p.L.st=9
theorem pN.congr {up:Bool} {q:jI} (h:pN up p)(Z:q.L=p.L)(Y:q.pe=p.pe):pN up q:=⟨by rw[Z];exact h.st,by rw[Z,Y];exact h.gate⟩
theorem xr(p:jI)(c:UInt8)(s:List UInt8):(p.put c s).L=p.L:=by
 unfold jI.put
 repeat' split
 all_goals rfl
theorem FC:∀(l:List kZ) (p:jI),(p.say l).L=p.L
 |[],_=>rfl
 |q::r,p=>by
  show((if j4 q.1 q.2.1 q.2.2=0 then p.put 76 (mV q.1 q.2.1 q.2.2)else p).say r).L=_;rw[FC r];split;{exact xr _ _ _};{rfl}
theorem xt:∀(l:List (Int×PS)) (p:jI),(p.kU l).L=p.L/\(p.kU l).pe=p.pe
 |[],_=>⟨rfl,rfl⟩
 |q::r,p=>by
  obtain⟨Z,Y⟩:=xt r (p.put 83 (rN q.1 q.2.1 q.2.2));exact⟨Z.trans (xr _ _ _),Y.trans (sC _ _ _)⟩
def kG(r r':iW)(p:Nat):Prop:=(r'.P p).L=(r.P p).L/\(r'.P p).pe=(r.P p).pe
theorem kG.refl(r:iW)(p:Nat):kG r r p:=⟨rfl,rfl⟩
theorem kG.trans {a b c:iW} {p:Nat} (h:kG a b p)(g:kG b c p):kG a c p:=⟨g.1.trans h.1,g.2.trans h.2⟩
theorem kG.yk {r':iW} (h:r'.P=r.P)(p:Nat):kG r r' p:=by unfold kG;rw[h];exact⟨rfl,rfl⟩
theorem kG.jh(r:iW)(i:Nat)(q:jI)(Z:q.L=(r.P i).L)(Y:q.pe=(r.P i).pe)(p:Nat):kG r (r.jh i q) p:=by
 show(lF r.P i q p).L=_/\(lF r.P i q p).pe=_;by_cases e:p=i;{subst e;rw[jL];exact⟨Z,Y⟩};{rw[jG _ _ e];exact⟨rfl,rfl⟩}
theorem kG.zp(r:iW)(q:jI) {p:Nat} (h:p≠i):kG r (r.jh i q) p:=by
 show(lF r.P i q p).L=_/\(lF r.P i q p).pe=_;rw[jG _ _ h];exact⟨rfl,rfl⟩
theorem kG.rC(r:iW)(q:lK) {p:Nat} (h:p≠i):kG r (r.meet i q) p:=by
 unfold kG;rw[(nr r i q).2.2.2,jG _ _ h];exact⟨rfl,rfl⟩
theorem Aw(r:iW)(i:Nat)(q:lK):((r.meet i q).P i).L=(r.P i).L/\((r.meet i q).P i).pe=q:=by
 rw[(nr r i q).2.2.2,jL];exact⟨rfl,rfl⟩
theorem kG.send(r:iW)(t:zD)(p:Nat):kG r (r.send t) p:=by
 unfold iW.send;split;{exact kG.yk rfl p};{split;{exact kG.yk rfl p};{exact kG.jh _ _ _ (xr _ _ _) (sC _ _ _) p}}
theorem kG.state(r:iW)(i:Nat)(l:List UInt8)(p:Nat):kG r (jw r i l) p:=by
 unfold jw;simp only;split;{exact kG.refl r p};{split;{exact kG.yk (oV _ _).2.2.2 p};{split;{exact kG.jh _ i _ (xr _ _ _) (sC _ _ _) p};{exact kG.yk rfl p}}}
theorem OX(r:iW)(i:Nat)(c:UInt8)(s:List UInt8)(p:Nat):((mO r i c s).P p).L=(r.P p).L/\(p≠i->kG r (mO r i c s) p):=by
 unfold mO;split;{split;{refine⟨?_,λh=>kG.rC r _ h⟩;by_cases e:p=i;{subst e;exact(Aw r p _).1};{exact(kG.rC r _ e).1}};{exact⟨rfl,λ_=>kG.refl r p⟩}}
 ·split;{exact⟨(kG.state r i s p).1,λ_=>kG.state r i s p⟩}
  ·split
   ·have h:kG r (kQ r i s) p:=by
     unfold kQ;simp only;split<;>exact kG.yk rfl p
    exact⟨h.1,λ_=>h⟩
   ·split
    ·have h:kG r (rS r s) p:=by
      unfold rS;split;{exact kG.send _ _ p};{exact kG.refl r p}
     exact⟨h.1,λ_=>h⟩
    ·exact⟨rfl,λ_=>kG.refl r p⟩
def OY(p:jI):Prop:=uU p.L.st=true/\(p.pe.who≠0->p.L.st=9)
theorem pN.up:pN true p↔OY p:=⟨λh=>⟨by simpa using h.st,h.gate⟩,λh=>⟨by simpa using h.1,h.2⟩⟩
theorem OY.congr {q:jI} (h:OY p)(Z:q.L=p.L)(Y:q.pe=p.pe):OY q:=by
 unfold OY;rw[Z,Y];exact h
theorem SX(s:List UInt8)(h:uU p.L.st=true):uU (p.packet s).L.st=true:=by
 unfold jI.packet;simp only;split;{rw[FC];exact ZZ _ h};{exact h}
theorem IC(i:Nat)(c:UInt8)(s:List UInt8)(h:OY (r.P i)):OY ((r.take i c s).P i)/\∀p,p≠i->kG r (r.take i c s) p:=by
 have X:uU ((kg r i c s).P i).L.st=true:=by
  unfold kg;split;{show uU (lF r.P i _ i).L.st=true;rw[jL];exact SX s h.1};{exact h.1}
 have V:∀p,p≠i->kG r (kg r i c s) p:=λp Z=>by
  unfold kg;split;{exact kG.zp r _ Z};{exact kG.refl r p}
 rw[l7];split;{obtain⟨a,b⟩:=Aw (kg r i c s) i nobody;refine⟨⟨by rw[a];exact X,λe=>absurd (by rw[b];rfl) e⟩,λp Z=>(V p Z).trans (kG.rC _ _ Z)⟩}
 ·rename_i U
  have Y:((kg r i c s).P i).L.st=9:=by simpa using U
  obtain⟨a,_⟩:=OX (kg r i c s) i c s i;exact⟨⟨by rw[a];exact X,λ_=>by rw[a];exact Y⟩,λp Z=>(V p Z).trans ((OX _ i c s p).2 Z)⟩
theorem FD:∀(l:List (List UInt8)) {r:iW} (i:Nat),OY (r.P i)->OY ((r.takes i l).P i)/\∀p,p≠i->kG r (r.takes i l) p
 |[],r,i,h=>⟨h,λp _=>kG.refl r p⟩
 |t::l,r,i,h=>by
  show OY (((jY r i t).takes i l).P i)/\∀p,p≠i->kG r ((jY r i t).takes i l) p;have Z:OY ((jY r i t).P i)/\∀p,p≠i->kG r (jY r i t) p:=by
   cases t with
   |nil=>exact⟨h,λp _=>kG.refl r p⟩
   |cons c s=>exact IC i c s h
  obtain⟨a,b⟩:=FD l i Z.1;exact⟨a,λp Y=>(Z.2 p Y).trans (b p Y)⟩
theorem S0(i:Nat)(l:List UInt8)(h:OY (r.P i)):OY ((r.recv i l).P i)/\∀p,p≠i->kG r (r.recv i l) p:=by
 unfold iW.recv;simp only;have Z:∀p,kG r (r.jh i {r.P i with rd:=(kN (r.P i).rd l).2.2}) p:=λp=>kG.jh r i {r.P i with rd:=(kN (r.P i).rd l).2.2} rfl rfl p;obtain⟨a,b⟩:=FD (kN (r.P i).rd l).1 (r:=r.jh i {r.P i with rd:=(kN (r.P i).rd l).2.2}) i (h.congr (Z i).1 (Z i).2);exact⟨a,λp Y=>(Z p).trans (b p Y)⟩
theorem WQ(r:iW)(i p:Nat):kG r (r.recv i []) p:=kG.jh r i _ rfl rfl p
theorem tJ(p:jI):p.tick.L=(jq p.L).1:=by
 unfold jI.tick;rw[FC]
theorem IE {up:Bool} (i:Nat)(h:pN up (r.P i)):pN up ((r.jj i).P i)/\∀p,p≠i->kG r (r.jj i) p:=by
 have S:((jo r i).P i).L=(jq (r.P i).L).1:=by
  show(lF r.P i (r.P i).tick i).L=_;rw[jL,tJ]
 have V:if up=true then uU ((jo r i).P i).L.st=true else((jo r i).P i).L.st=1:=by
  rw[S];have:=h.st;split;{rename_i X;rw[ai X]at this;exact WO this};{rename_i X;rw[af X]at this;rw[SW this];exact this}
 have U:∀p,p≠i->kG r (jo r i) p:=λp Z=>kG.zp r _ Z;rw[lA];split;{obtain⟨a,b⟩:=Aw (jo r i) i nobody;exact⟨⟨by rw[a];exact V,λe=>absurd (by rw[b];rfl) e⟩,λp Z=>(U p Z).trans (kG.rC _ _ Z)⟩}
 ·rename_i Q
  have Y:((jo r i).P i).L.st=9:=by simpa using Q
  have T:∀(x:iW) (p:Nat),kG x (mX x i) p:=λx p=>by
   unfold mX;simp only;refine kG.jh x i _ ?_ ?_ p;{split;{exact(xt _ _).1.trans (xr _ _ _)};{exact xr _ _ _}};{split;{exact(xt _ _).2.trans (sC _ _ _)};{exact sC _ _ _}}
  obtain⟨a,b⟩:=Aw (jo r i) i (iV ((jo r i).P i).pe);obtain⟨c,d⟩:=T ((jo r i).meet i (iV ((jo r i).P i).pe)) i;exact⟨⟨by rw[c,a];exact V,λ_=>by rw[c,a];exact Y⟩,λp Z=>(U p Z).trans ((kG.rC _ _ Z).trans (T _ p))⟩
theorem FF {r:iW} {U:Nat->Bool}:∀q,(∀p,p<q->pN (U p) (r.P p))->(∀p,p<q->pN (U p) ((r.jn q).P p))/\∀p,q<=p->kG r (r.jn q) p
 |0,_=>⟨λp Z=>absurd Z eB,λp _=>kG.refl r p⟩
 |q+1,h=>by
  obtain⟨a,b⟩:=FF (U:=U) q (λp Z=>h p eB);have Y:=b q (Nat.le_refl q);obtain⟨c,d⟩:=IE (r:=r.jn q) q ((h q eB).congr Y.1 Y.2);refine⟨λp Z=> ?_,λp Z=>(b p eB).trans (d p eB)⟩;by_cases e:p=q;{subst e;exact c};{have:=d p e;exact(a p eB).congr this.1 this.2}
theorem xV {up:Bool} (i:Nat)(h:pN (!up) (r.P i)):pN up ((r.iZ i up).1.P i)/\(r.iZ i up).2=0/\∀p,p≠i->kG r (r.iZ i up).1 p:=by
 have Y:(lr (r.P i).L (if up=true then 0 else 1)).2.2=0/\(if up=true then uU (lr (r.P i).L (if up=true then 0 else 1)).1.st=true else(lr (r.P i).L (if up=true then 0 else 1)).1.st=1):=by
  cases up;{exact ug (pN.up.1 h).1};{exact EA (by simpa using h.st)}
 have e:(r.P i).iZ up=(({r.P i with L:=(lr (r.P i).L (if up=true then 0 else 1)).1,rd:=([],false,false)}:jI).say (lr (r.P i).L (if up=true then 0 else 1)).2.1,0):=by
  unfold jI.iZ;simp only;rw[af (by simp[Y.1])]
 unfold iW.iZ;rw[e];simp only;rw[af ik];obtain⟨x,hx⟩:=fq (({r.P i with L:=(lr (r.P i).L (if up=true then 0 else 1)).1,rd:=([],false,false)}:jI).say (lr (r.P i).L (if up=true then 0 else 1)).2.1);have Z:x.L=(lr (r.P i).L (if up=true then 0 else 1)).1:=by rw[<-hx,FC]
 rw[hx];obtain⟨a,b⟩:=Aw (r.jh i x) i nobody;have c:((r.jh i x).P i)=x:=by show lF r.P i x i=x;exact jL _ _ _
 refine⟨⟨by rw[a,c,Z];exact Y.2,λe=>absurd (by rw[b];rfl) e⟩,rfl,λp X=>(kG.zp r _ X).trans (kG.rC _ _ X)⟩
open Go.ChangeShapes Go.WideShapes Go.ChangeAt
theorem Mn {H:Type} {enc:TypeId×eA->H} {d:DataW H} {ps:List MemPlace}
 (h:DataW.Trod enc fe W 0 (λ_=>true) true 61 (σ a n cap) d ps):
 ∃L:List pz,Ar W a L/\L.length=n/\n<=maxLen:=by
 obtain⟨fuel,hf⟩:=h;rcases dv underlying61 hf with⟨hcs,_⟩|⟨x,len,cp,m',n',D,Pl,hcs,_,hl,hm,KY,_,hx⟩
 ·simp[fB]at hcs;obtain⟨rfl,rfl,rfl⟩:=hcs;exact⟨[],λj X=>by simp at X,rfl,eF⟩
 ·simp[fB]at hcs;obtain⟨rfl,rfl,rfl⟩:=hcs;simp at KY;have ce:(fe).cellsOf 81=5:=ga;rw[ce]at hx;have each:∀i,i<n->∃q:pz,W.cell? (x.add (i*5))=μ (ι κ q.a)/\W.cell? (x.add (i*5+1))=μ (ι κ q.pa)/\W.cell? (x.add (i*5+2))=μ (ι κ q.b)/\W.cell? (x.add (i*5+3))=μ (ι κ q.pb)/\W.cell? (x.add (i*5+4))=μ (ι κ q.m):=by
   intro i hi;obtain⟨cs',h1,h2⟩:=hx i eB;obtain⟨_,hlen,hcell⟩:=World.cells?_some h1;obtain⟨xs,k,hk,hxy,_,QK,Z⟩:=dc underlying81 h2
   match xs,QK,cs',hlen with
   |[y0,y1,y2,y3,y4],_,[v0,v1,v2,v3,v4],_=>
    have g0:=Z 0 _ rfl;have g1:=Z 1 _ rfl;have T:=Z 2 _ rfl;have S:=Z 3 _ rfl;have M:=Z 4 _ rfl;have ci:(fe).cellsOf 3=1:=ga;simp[ci]at g0 g1 T S M;obtain⟨i0,f0,_,_⟩:=bq underlying3 g0;obtain⟨i1,f1,_,_⟩:=bq underlying3 g1;obtain⟨i2,f2,_,_⟩:=bq underlying3 T;obtain⟨i3,V,_,_⟩:=bq underlying3 S;obtain⟨i4,U,_,_⟩:=bq underlying3 M;simp at f0 f1 f2 V U;subst f0 f1 f2 V U;have c0:=hcell 0 eB;have c1:=hcell 1 eB;have c2:=hcell 2 eB;have c3:=hcell 3 eB;have c4:=hcell 4 eB;rw[Go.Deep.add_add]at c0 c1 c2 c3 c4;exact⟨⟨i0,i1,i2,i3,i4⟩,c0,c1,c2,c3,c4⟩
  obtain⟨Q,J⟩:∃Q:Nat->pz,∀i,i<n->W.cell? (x.add (i*5))=μ (ι κ (Q i).a)/\W.cell? (x.add (i*5+1))=μ (ι κ (Q i).pa)/\W.cell? (x.add (i*5+2))=μ (ι κ (Q i).b)/\W.cell? (x.add (i*5+3))=μ (ι κ (Q i).pb)/\W.cell? (x.add (i*5+4))=μ (ι κ (Q i).m):=by
   refine⟨λi=>if hi:i<n then iq (each i hi)else⟨0,0,0,0,0⟩,λi hi=> ?_⟩;show W.cell? _=μ (ι κ (if hi:i<n then iq (each i hi)else⟨0,0,0,0,0⟩:pz).a)/\W.cell? _=μ (ι κ (if hi:i<n then iq (each i hi)else⟨0,0,0,0,0⟩:pz).pa)/\W.cell? _=μ (ι κ (if hi:i<n then iq (each i hi)else⟨0,0,0,0,0⟩:pz).b)/\W.cell? _=μ (ι κ (if hi:i<n then iq (each i hi)else⟨0,0,0,0,0⟩:pz).pb)/\W.cell? _=μ (ι κ (if hi:i<n then iq (each i hi)else⟨0,0,0,0,0⟩:pz).m);rw[dif_pos hi];exact Classical.choose_spec (each i hi)
  refine⟨(ft n).map Q,λj X=> ?_,ik,eB⟩;have KA:j<n:=by simpa using X
  obtain⟨b,off,Y⟩:=x;obtain⟨q0,q1,q2,G,A⟩:=J j KA;have Eh:Y=ν:=by simpa[Addr.add]using de (J 0 eB).1
  subst Eh;have hg:((ft n).map Q)[j] =Q j:=ik;rw[hg];rw[nE]at q0 q1 q2 G A;exact⟨b,off,rfl,q0,by simpa[Nat.add_assoc]using q1,by simpa[Nat.add_assoc]using q2,by simpa[Nat.add_assoc]using G,by simpa[Nat.add_assoc]using A⟩
