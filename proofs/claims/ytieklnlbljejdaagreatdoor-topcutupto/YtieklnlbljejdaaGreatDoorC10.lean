import Derived.Test.YtieklnlbljejdaaGreatDoorC09
open Go.Value renaming int → ι, slice → σ, pointer → π, tuple → τ, nilIface → η, ownBlock → eh, cells → fF
open Go.IntKind renaming i64 → κ
open Go.Ending renaming returned → ρ
open Go.Obj renaming cells → γ
open Option renaming none → ν, some → μ
open Go renaming Value → dY, World → dX, Calls → eX
open Go.Proofs.Tryz renaming prog → eY
open Go.RowKit renaming intOf → eZ
open List renaming range → fW, setIfInBounds_toArray → gA, set_cons_zero → gD, set_cons_succ → gE
open Go.Instr renaming makeSlice → gW, loadAt → fO
open Go.Act renaming put → gw
open Classical renaming choose → gX
set_option maxRecDepth 100000
set_option maxHeartbeats 8000000
open Go.Proofs.Tryz
namespace Go.Proofs.YtieklnlbljejdaaGreatDoor
open Go.RowKit St
namespace Rt
variable {L:List ot} {P:Nat->Nat} {W W2 w w':World} {a:Option Addr} {b cap g i q:Nat} {c:ot} {many p:Int} {n:iM} {r:iN} {y:Yt} {z:Zt}
theorem mA.yL(h:mA w z r)(Z:r.n=3)(hb:z.ph b):b<w.heap.size:=by
 rcases hb with e|e|e
 {have:=h.A7 b;rw[Z]at this;exact this e};{exact h.bs.mlt b (.inl e)};{exact h.bs.mlt b (.inr e)}
theorem mA.LO(h:mA w z r)(Y:r.n=3)(Z:z.fm.no g/\¬z.mine 3 g)(j:Nat)(v:dY):mA (w.setCell ⟨g,j,ν⟩ v) (z.plus λ_=>False) r:=by
 refine h.besides gU (λk _ hc=>ak _ _ _ k (λe=> ?_)) _ (λk e=>e.elim);have e':k=g:=e;subst e';rcases hc with hc|hc
 {exact hc Z.1};{rw[Y]at hc;exact Z.2 hc}
theorem jF.renew {W0 W3:dX} {y1:Yt} {n3:iM} {k:Nat} (h0:jF W0 y n)(hk:k<n.n)(hb:eB W0 W2)(hz:mA W2 z r)(hr:r.n=3/\r.id=(k:Int)+1)
 (Sg:∀b,z.ph b->W0.heap.size<=b) (D:∀b,y.all n.n b \/y.ext b->z.fm.no b) (DQ:y.same y1) (G:∀b,y1.all n.n b↔y.all n.n b) (zd:∀b,y1.ext b↔y.ext b \/z.ph b)
 (hW:iF W2 W3 y1 n3 n.n) (M:n3.n=n.n):
 ∃y2,jF (W3.setCell ⟨y.gR,k,ν⟩ (π (μ ⟨z.R,0,ν⟩))) y2 (n3.jB k r)/\y.same y2/\(∀b,y2.all n.n b->y.all n.n b \/z.ph b \/W2.heap.size<=b)/\(∀b,y2.ext b↔y.ext b)/\ya W0 (W3.setCell ⟨y.gR,k,ν⟩ (π (μ ⟨z.R,0,ν⟩))) y n.n:=by
 obtain⟨y',R',s',UD,BP⟩:=hW.ex;have H:=hW.kept;have YX:y'.gR=y.gR:=s'.gR.trans DQ.gR;have hbM:y'.bM=y.bM:=s'.bM.trans DQ.bM;have alK:∀b,z.ph b->b<W2.heap.size:=λb e=>hz.yL hr.1 e;have nN:∀b,y'.all n.n b->y.all n.n b \/W2.heap.size<=b:=λb e=>(UD b e).imp_left (G b).1;have VZ:∀b,y.all n.n b->b<W0.heap.size:=λb e=>h0.Ci e;have alL:∀b,y'.all n.n b->b<W3.heap.size:=λb e=>R'.Ci (by rw[M];exact e);obtain⟨X,MD⟩:∃X:Nat->Prop,X=λb=>W2.heap.size<=b/\b<W3.heap.size/\y'.all n.n b:=⟨_,rfl⟩
 have hX:∀b,X b->W2.heap.size<=b/\b<W3.heap.size:=λb e=>by rw[MD]at e;exact⟨e.1,e.2.1⟩
 have PZ:mA W3 (z.plus X) r:=by
  refine hz.besides H.size (λb A hc=>H.block b A (λe=> ?_)) X hX;have Y:=(G b).1 e;rcases hc with hc|hc
  {exact hc (D b (.inl Y))};{rw[hr.1]at hc;have:=Sg b (.inl hc);have:=VZ b Y;omega}
 have jk:∀b,y'.all n.n b->(z.fm.no b \/X b)/\¬z.mine 3 b:=λb e=>by
  rcases nN b e with Y|Y
  {exact⟨.inl (D b (.inl Y)),λV=>by have:=Sg b (.inl V);have:=VZ b Y;omega⟩};{exact⟨.inr (by rw[MD];exact⟨Y,alL b e,e⟩),λV=>by have:=alK b (.inl V);omega⟩}
 have Ol:y'.own y.gR:=⟨.R,by rw[<-YX];rfl⟩
 have agJ:(z.plus X).fm.no y.gR/\¬(z.plus X).mine 3 y.gR:=jk y.gR (.inl Ol);obtain⟨T,u⟩:=gg (W3.setCell ⟨y.gR,k,ν⟩ (π (μ ⟨z.R,0,ν⟩)));have YC:mA T ((z.plus X).plus λ_=>False) r:=by rw[<-u];exact PZ.LO hr.1 agJ k _
 have zH:∀j,j<n.n->mA T ((y'.z j).plus λ_=>False) (n3.R j):=λj U=>by
  rw[<-u];exact(R'.rt j (by rw[M];exact U)).LO (R'.rn j (by rw[M];exact U)).1 (R'.away j (by rw[M];exact U) y.gR (.inl Ol)) k _
 have ox:∀b,b≠y.gR->T.heap[b]? =W3.heap[b]? :=λb e=>by rw[<-u];exact ak _ _ _ b e
 have rS:T.heap.size=W3.heap.size:=by rw[<-u];simp
 have hat:∀l b,y'.at l=μ b->l≠ .R->T.heap[b]? =W3.heap[b]? :=λl b e hl=>ox b (λY=>R'.wD e (show y'.at .R=μ y'.gR from rfl) hl (by rw[YX];exact Y));obtain⟨Z,hZ⟩:∃Z:Nat->Zt,Z=λj=>if j=k then(z.plus X).plus λ_=>False else(y'.z j).plus λ_=>False:=⟨_,rfl⟩
 have Q:Z k=(z.plus X).plus λ_=>False:=by rw[hZ];simp
 have YP:∀j,j≠k->Z j=(y'.z j).plus λ_=>False:=λj U=>by rw[hZ];simp[U]
 have S:∀j b,(Z j).ph b->(j=k/\z.ph b) \/(j≠k/\(y'.z j).ph b):=λj b e=>by
  by_cases ej:j=k;{subst ej;rw[Q]at e;exact .inl ⟨rfl,e⟩};{rw[YP j ej]at e;exact .inr ⟨ej,e⟩}
 have agK:ya W0 T y n.n:=by
  have b1:Below 0 W3 T:=by rw[<-u];exact(au 0 W3).setCell (Nat.zero_le _) _
  refine⟨b1.os.trans (H.os.trans hb.os),b1.tape.trans (H.tape.trans hb.tape),b1.output.trans (H.output.trans hb.output),by rw[rS];exact Nat.le_trans hb.size H.size,λb A hn=> ?_⟩;have Y:b≠y.gR:=λe=>hn (.inl ⟨.R,by rw[e];rfl⟩);rw[ox b Y,H.block b (Nat.lt_of_lt_of_le A hb.size) (λe=>hn ((G b).1 e)),hb.block b A]
 rw[u];refine⟨{y' with z:=Z,ext:=λb=>y'.ext b/\¬z.ph b},⟨R'.n1,R'.n6,R'.c9,R'.od.keep (hat .N _ rfl (λe=>nomatch e)),?_,R'.ri.keep (hat .I _ rfl (λe=>nomatch e)),λg hg c hc=>(R'.rc g hg c hc).keep (hat .C _ hg (λe=>nomatch e)),R'.gc,?_,?_,?_,λj U=>(R'.ib j U).keep dZ (λb e=>hat (.ib j) b e (λe=>nomatch e)),λc d hc hd=>(R'.ob c d hc hd).keep dZ (λb e=>hat (.on c d) b e (λe=>nomatch e)),R'.ol,R'.en,R'.inj,?_,λb e=>R'.nx b e.1,⟨R'.nM.1,λe=>R'.nM.2.1 e.1,?_⟩,R'.z0⟩,Yt.yK DQ (Yt.yK s' ⟨rfl,rfl,rfl,rfl,rfl,rfl,rfl,rfl⟩),?_,?_,agK⟩;{have h:=R'.rr.set k (by rw[M];exact hk) (π (μ ⟨z.R,0,ν⟩));rw[YX,Nat.zero_add,u]at h;show qg T y'.gR 0 n3.n _;rw[YX];refine h.congr λj U=> ?_;show tg _ k _ j=π (μ ⟨(Z j).R,0,ν⟩);by_cases e:j=k;{subst e;rw[Q];unfold tg;simp;rfl};{rw[YP j e,jI _ _ e];rfl}};{obtain⟨E,h,h2⟩:=R'.mp;refine⟨E,h.keep (ox y'.bM (λe=>R'.nM.1 ?_)),h2⟩;rw[e];exact Ol};{intro j U;show mA T (Z j) (jU n3.R k r j);by_cases e:j=k;{subst e;rw[Q,iE];exact YC};{rw[YP j e,iC _ _ e];exact zH j (by rw[<-M];exact U)}};{intro j U;show(jU n3.R k r j).n=3/\(jU n3.R k r j).id=(j:Int)+1;by_cases e:j=k;{subst e;rw[iE];exact hr};{rw[iC _ _ e];exact R'.rn j U}}
 ·intro i hi b A;have kT:i<n.n:=by rw[<-M];exact hi
  show(Z i).fm.no b/\¬(Z i).mine 3 b;by_cases ei:i=k
  ·subst ei;rw[Q];have LP:(z.fm.no b \/X b)/\¬z.mine 3 b:=by
    rcases A with e|e|⟨j,U,jt,e⟩
    ·exact jk b (.inl e)
    ·have Y:=(BP b).1 e.1;rcases(zd b).1 Y with V|V
     {exact⟨.inl (D b (.inr V)),λJ=>e.2 (.inl J)⟩};{exact absurd V e.2}
    ·rcases S j b e with⟨Y,_⟩|⟨Y,V⟩
     {exact absurd Y jt};{exact jk b (.inr ⟨j,by rw[<-M];exact U,V⟩)}
   exact⟨.inl LP.1,LP.2⟩
  ·rw[YP i ei];have LP:(y'.z i).fm.no b/\¬(y'.z i).mine 3 b:=by
    rcases A with e|e|⟨j,U,jt,e⟩
    {exact R'.away i hi b (.inl e)};{exact R'.away i hi b (.inr (.inl e.1))}
    ·rcases S j b e with⟨Y,V⟩|⟨Y,V⟩
     {exact R'.away i hi b (.inr (.inl ((BP b).2 ((zd b).2 (.inr V)))))};{exact R'.away i hi b (.inr (.inr ⟨j,U,jt,V⟩))}
   exact⟨.inl LP.1,LP.2⟩
 ·intro i hi e;show False;rcases S i _ e with⟨_,V⟩|⟨_,V⟩
  {have J:=Sg _ V;have h:=h0.Hz;have e4:W0.heap.size<=y'.bM:=J;rw[hbM]at e4;omega};{exact R'.nM.2.2 i hi V}
 ·intro b e;rcases e with e|⟨j,U,e⟩
  ·rcases nN b (.inl e)with Y|Y
   {exact .inl Y};{exact .inr (.inr Y)}
  ·rcases S j b e with⟨_,V⟩|⟨_,V⟩
   ·exact .inr (.inl V)
   ·rcases nN b (.inr ⟨j,U,V⟩)with Y|Y
    {exact .inl Y};{exact .inr (.inr Y)}
 ·intro b;constructor
  ·rintro⟨Y,V⟩;rcases(zd b).1 ((BP b).1 Y)with J|J
   {exact J};{exact absurd J V}
  ·intro e;refine⟨(BP b).2 ((zd b).2 (.inl e)),λV=> ?_⟩;have h:=h0.lt (.inr e);have h2:=Sg b V;omega
theorem E3(up:Bool):∀(l:List Nat) (y:iM) (c:Nat),y.jL up (l++ [c])=(y.jL up l).jZ c up
 |[],_,_=>rfl
 |_::l,_,c=>E3 up l _ c
theorem V5(l:List Nat)(j:Nat)(h:j<l.length):(qD l)[j]? =μ (ι κ (l[j] :Int)):=by simp[qD,h]
theorem zS(Z:dX)(y:Yt)(S M:iM)(D m:Nat)(up:Bool)(L:List Nat)(G:jF Z y S)(J:S.n=m)(h:jf Z)(iO:j3 M D 20)(u:D<=900000000)(V:∀c∈L,c<M.nc)(hl:L.length<=9)(Y:M.n=m)(q:Nat)(T:q<L.length)(W:dX)(U:iF Z W y (M.jL up (L.take q)) m):
 eX eY 113 #[π (μ ⟨y.N,0,ν⟩),ι κ (L[q] :Int),.bool up] W λe w'=>e=ρ (τ #[])/\iF Z w' y (M.jL up (L.take (q+1))) m:=by
 have X:=U.tab G J h;obtain⟨s1,s2,s3,s4,s5⟩:=nj up (L.take q) M;have kX:=j3.jL dZ up (L.take q) iO (λc hc=>V c (di hc));have hlq:(L.take q).length<=q:=cz _ _;have H:M.jL up (L.take (q+1))=(M.jL up (L.take q)).jZ L[q] up:=by
  rw[aA T,E3]
 rw[H];refine U.call λy1 Q A=> ?_;rw[<-A.N];have:=Ib y1 _ D _ L[q] up W Q X kX u dZ (by rw[s2];exact V _ (aF T));rw[s1,Y]at this;exact this
theorem LQ(y:Yt)(n:iM)(D:Nat)(i:Int)(w:dX)(h:jF w y n)(hT:jf w)(iO:j3 n D 0)(hD:D<=900000000):
 eX eY 62 #[π (μ ⟨y.N,0,ν⟩),ι κ i] w λe w'=>e=ρ (ji (n.restart i).2)/\iF w w' y (n.restart i).1 n.n:=by
 have hh:=qV y n i w h;rcases yP i n.n with⟨hn,hi⟩|⟨k,hk,rfl⟩
 ·have hE:n.restart i=(n,6):=by unfold iM.restart;rw[ai hi]
  rw[hE];rw[hn]at hh;have HW:Hid _:=iF.refl h;clear h iO hT
  go_in
  go_wp2_with(fail);refine hh.mono ?_;rintro e w1 ⟨rfl,rfl⟩;clear hh
  go_wp2
  go_ret;exact⟨rfl,HW.out⟩
 ·rw[zO hk]at hh;have n6:=h.n6;obtain⟨L,hL⟩:=gg (n.lA k);have hE:n.restart ((k:Int)+1)=((((n.jL false L).jB k (jO ((k:Int)+1) 3 (n.ms k))).jL true L).gather,0):=by
   unfold iM.restart;have e1:((k:Int)+1-1).toNat=k:=dZ;rw[af dZ,e1,hL]
  rw[hE];have e0:ji 0=η:=rfl;rw[e0];obtain⟨E,hEm,hET,hEO⟩:=h.mp;have Pf:=yb y.N y.bM k E (n.ms k) w h.k2 hEm hEO dZ (λp hp=>hET k p hk hp) hT (λb=>y.all n.n b \/y.ext b) (λb hb=>hb.elim (λe=>h.Ci e) (λe=>h.lt (.inr e)));have hLl:L.length<=9:=by
   rw[<-hL];exact Nat.le_trans (yQ n k) h.c9
  have hLc:∀c∈L,c<n.nc:=λc hc=>by rw[<-hL]at hc;exact Bm c hc
  have Zb:Hid (∀W,eB w W->eX eY 115 #[π (μ ⟨y.N,0,ν⟩),ι κ ((k:Int)+1)] W λe w'=>∃v,e=ρ v/\Row w' 1 v L.length (qD L)/\(∀b,v.ownBlock=μ b->W.heap.size<=b)/\eB W w'):=by
   intro W U;have:=JA y n k W (h.below U);rw[hL]at this;exact this
  have HH:Hid _:=h;have HT:Hid _:=hT;have QS:Hid _:=iO;have HK:Hid _:=hk;have J:Hid _:=hLc;clear h hT iO hEm hET hEO hE hL hLc
  go_in
  go_wp2_with(fail);refine hh.mono ?_;rintro e w1 ⟨rfl,rfl⟩;clear hh;go_wp2_with(fail);refine Pf.mono ?_;rintro e W1 ⟨z,rfl,mZ,kE,PZ,hz4,hz5,hz6⟩;have hca:=Zb.out W1 kE;have HZ1:Hid _:=mZ;have Dn:Hid _:=kE;have Sg:Hid (∀b,z.ph b->w.heap.size<=b):=by
   intro b hb;rcases hb with e|e|e
   {exact PZ b e};{rw[e];exact hz4};{exact hz5 b e}
  have HZX:Hid (∀b,y.all n.n b \/y.ext b->z.fm.no b):=λb hb=>hz6 b hb;clear Pf mZ kE PZ hz4 hz5 hz6;go_wp2_with(fail);refine hca.mono ?_;rintro e W2 ⟨v,rfl,iV,jm,mS⟩;clear hca;have V6:eB w W2:=gh Dn.out mS;have mc:mA W2 z (jO ((k:Int)+1) 3 (n.ms k)):=HZ1.out.below mS;have sW:(jO ((k:Int)+1) 3 (n.ms k)).n=3/\(jO ((k:Int)+1) 3 (n.ms k)).id=(k:Int)+1:=⟨rfl,rfl⟩
  have xk:∀b,z.ph b->b<W1.heap.size:=λb e=>HZ1.out.yL rfl e;obtain⟨y1,R1,s1,ha1,zd⟩:=HH.out.beside V6.size (λb qo _=>V6.block b qo) z.ph (λb e=>⟨Sg.out b e,Nat.lt_of_lt_of_le (xk b e) mS.size⟩);have Yr:jf W2:=jf.below (w:=w) HT.out V6;have aa1:j3 n D 20:=QS.out.mono (Nat.le_refl _) dZ;obtain⟨a,cp,hve⟩:=Row.shape iV;subst hve;have XL:Hid (∀b,eh (σ a L.length cp)=μ b->W1.heap.size<=b/\b<W2.heap.size):=λb hb=>⟨jm b hb,iV.lt b hb⟩
  have AR:Hid _:=iV;have HP0:Hid (iF W2 W2 y1 (n.jL false (L.take 0)) n.n):=iF.refl R1;have HPl:Hid (∀q W,(hq:q<L.length)->iF W2 W y1 (n.jL false (L.take q)) n.n->eX eY 113 #[π (μ ⟨y.N,0,ν⟩),ι κ (L[q] :Int),.bool false] W λe w'=>e=ρ (τ #[])/\iF W2 w' y1 (n.jL false (L.take (q+1))) n.n):=by
   intro q W hq U;rw[<-s1.N];exact zS W2 y1 n n D n.n false L R1 rfl Yr aa1 hD J.out hLl rfl q hq W U
  have VG:Hid (∀q W M,(hq:q<L.length)->iF W2 W y1 M n.n->∃g,a=μ ⟨g,0,ν⟩/\W.cell? ⟨g,q,ν⟩=μ (ι κ (L[q] :Int))):=by
   intro q W M hq U;rcases AR.out.2 with⟨_,e2⟩|⟨g,c,e,_,_,_,hc,_⟩
   {omega};{have ea:a=μ ⟨g,0,ν⟩:=(bO e).1;have hg:=XL.out g (by rw[ea];rfl);refine⟨g,ea,(aj (a:=⟨g,q,ν⟩) (U.kept.block g hg.2 (λe3=> ?_))).trans (hc q _ (V5 L q hq))⟩;have Y:=HH.out.Ci ((ha1 g).1 e3);have h2:=Dn.out.size;omega}
  have HR1:Hid _:=R1;have Z:Hid _:=s1;have HA1:Hid _:=ha1;have HE1:Hid _:=zd;have HZ2:Hid _:=mc;have agP:Hid _:=V6;have HFL:Hid _:=xk;have HT2:Hid _:=Yr;have Au:Hid _:=mS;obtain⟨len,hlen⟩:=gg (L.length);have Sh:Hid _:=hlen;rw[hlen]at hLl;clear iV jm V6 mc sW xk R1 s1 ha1 zd Yr mS aa1
  go_wp2
  go_loopw [31] (λx wr=>∃q:Nat,q<=len/\x=ι κ q/\iF W2 wr y1 (n.jL false (L.take q)) n.n) (λx _=>len-(eZ x).toNat)
  case atStart=>exact⟨0,Nat.zero_le _,rfl,HP0.out⟩
  case round=>
   obtain⟨q,hq,rfl,X⟩:=hrel;obtain⟨V,rfl⟩:∃V,V=wr:=⟨_,rfl⟩
   by_cases kA:q<len
   ·have nL:(q:Int)<(len:Int):=dZ;have hq0:(0:Int)<=(q:Int):=dZ;have hqL:q<L.length:=by rw[Sh.out];exact kA
    obtain⟨g,rfl,hcell⟩:=VG.out q V _ hqL X;have gl:=ag _ _ hcell;have u:=HPl.out q V hqL X;generalize L[q] =cq at hcell u;clear X;go_wp2_with(fail);refine u.mono ?_;rintro e w1 ⟨rfl,G⟩;have HW:Hid _:=G;clear u G
    go_wp2
    go_roundw
    case rel=>exact⟨q+1,dZ,by go_num,HW.out⟩
    case measure=>simp[eZ];omega
   ·have xL:¬(q:Int)<(len:Int):=dZ;obtain rfl:q=len:=dZ;have e9:L.take q=L:=by rw[<-Sh.out];exact ct
    rw[e9]at X;obtain⟨n3,x5⟩:=gg (n.jL false L);obtain⟨A,p2,p3,p4,p5⟩:=nj false L n;rw[x5]at X A p2;have agQ:j3 n3 D 20:=by
     rw[<-x5];exact(j3.jL dZ false L QS.out J.out).mono (Nat.le_refl _) (by rw[Sh.out];omega)
    obtain⟨H,R2,s2,ha2,he2,rL⟩:=jF.renew HH.out HK.out agP.out HZ2.out ⟨rfl,rfl⟩ Sg.out HZX.out Z.out HA1.out HE1.out X A;have V7:=agQ.anew k (by rw[A];exact HK.out);have e8:n3.ms k=n.ms k:=by rw[<-x5,p3]
    rw[e8]at V7;obtain⟨S,Q⟩:=gg (n3.jB k (jO ((k:Int)+1) 3 (n.ms k)));rw[Q]at R2 V7;have V8:S.n=n.n:=by rw[<-Q];exact A
    have adl:S.nc=n.nc:=by rw[<-Q];exact p2
    have d0:=X.k0;have dl:=X.lt;rw[Z.out.N,Z.out.gR,Z.out.tR,A]at d0;rw[Z.out.N]at dl;obtain⟨Rk,hRk⟩:=X.ptr (i:=k) (by rw[A];exact HK.out);rw[Z.out.gR]at hRk;have gRl:=ag _ _ hRk;have gRf:V.frozen? ⟨y.gR,k,ν⟩=false:=by
     obtain⟨y9,R9,s9,_,_⟩:=X.ex;have Y:=R9.rr.fz k (by rw[A];exact HK.out);rw[Nat.zero_add,s9.gR,Z.out.gR]at Y;exact Y
    have Uy:=Bn HK.out n6;have hki:(k:Int)<(n.n:Int):=dZ;have Gi:(0:Int)<=(k:Int):=dZ;have hTV:jf V:=X.tab HR1.out rfl HT2.out;obtain⟨T,uN⟩:=gg (V.setCell ⟨y.gR,k,ν⟩ (π (μ ⟨z.R,0,ν⟩)));rw[uN]at R2 rL;have alN:y.gR≠0:=λe=>HH.out.z0 ⟨.R,by rw[<-e];rfl⟩;have hT4:jf T:=λe s he hs=>by
     rw[<-uN,aX _ _ _ _ (λe1=>alN (congrArg Addr.block e1))];exact hTV e s he hs
    have aqF:T.heap.size=V.heap.size:=by rw[<-uN];simp
    have hVs:=X.kept.size;have agS:Hid (∀q' W M,(Yy:q'<L.length)->iF T W H M n.n->∃g,a=μ ⟨g,0,ν⟩/\W.cell? ⟨g,q',ν⟩=μ (ι κ (L[q'] :Int))):=by
     intro q' W M Yy U;obtain⟨g,ea,hc⟩:=VG.out q' V _ Yy X;have hg:=XL.out g (by rw[ea];rfl);have DQ:=Dn.out.size;have QD:g≠y.gR:=λe=>by
      have:=HH.out.RX;omega
     refine⟨g,ea,(aj (a:=⟨g,q',ν⟩) (U.kept.block g dZ (λe3=> ?_))).trans ?_⟩
     ·rcases ha2 g e3 with Y|Y|Y
      {have:=HH.out.Ci Y;omega};{have:=HFL.out g Y;omega};{omega}
     ·rw[<-uN,aX _ _ _ _ (λe1=>QD (congrArg Addr.block e1).symm)];exact hc
    have HP2:Hid (iF T T H (S.jL true (L.take 0)) n.n):=by
     show iF _ _ _ _ _;rw[<-V8];exact iF.refl R2
    have alO:Hid (∀q' W,(Yy:q'<L.length)->iF T W H (S.jL true (L.take q')) n.n->eX eY 113 #[π (μ ⟨y.N,0,ν⟩),ι κ (L[q'] :Int),.bool true] W λe w'=>e=ρ (τ #[])/\iF T w' H (S.jL true (L.take (q'+1))) n.n):=by
     intro q' W Yy U;rw[<-s2.N];exact zS T H S S D n.n true L R2 V8 hT4 V7 hD (λc hc=>by rw[adl];exact J.out c hc) (by rw[Sh.out];exact hLl) V8 q' Yy W U
    have HG:Hid (∀W,iF T W H (S.jL true L) n.n->eX eY 111 #[π (μ ⟨y.N,0,ν⟩)] W λe w'=>e=ρ (τ #[])/\iF T w' H (S.jL true L).gather n.n):=by
     intro W U;refine U.call λy3 R3 s3=> ?_;rw[<-s2.N,<-s3.N];have h5:=j3.jL dZ true L V7 (λc hc=>by rw[adl];exact J.out c hc);have h6:=sO y3 _ D _ W R3 h5 dZ (by rw[Sh.out];omega);rw[(nj true L S).1,V8]at h6;exact h6
    have acR:Hid (∀W,iF T W H (S.jL true L).gather n.n->iF w W y ((((n.jL false L).jB k (jO ((k:Int)+1) 3 (n.ms k))).jL true L).gather) n.n):=by
     intro W U;rw[x5,Q];refine iF.qL rL s2 (λb e=> ?_) he2 U;rcases ha2 b e with Y|Y|Y
     {exact .inl Y};{exact .inr (Sg.out b Y)};{exact .inr (Nat.le_trans agP.out.size Y)}
    have Lv:Hid _:=uN;clear X R2 s2 ha2 he2 rL agQ V7 x5 Q V8 adl hTV hT4 uN A p2 p3 p4 p5 e8 VG HPl HP0;go_wp2_with(fail);rw[Lv.out]
    go_loopw [49] (λx wr=>∃q':Nat,q'<=q/\x=ι κ q'/\iF T wr H (S.jL true (L.take q')) n.n) (λx _=>q-(eZ x).toNat)
    case atStart=>exact⟨0,Nat.zero_le _,rfl,HP2.out⟩
    case round=>
     obtain⟨t,ht,rfl,Ns⟩:=hrel;by_cases adf:t<q
     ·have agG:(t:Int)<(q:Int):=dZ;have ht0:(0:Int)<=(t:Int):=dZ;have htL:t<L.length:=by rw[Sh.out];exact adf
      obtain⟨g,rfl,hcell⟩:=agS.out t wr _ htL Ns;have gl:=ag _ _ hcell;have u:=alO.out t wr htL Ns;generalize L[t] =cq at hcell u;clear Ns;go_wp2_with(fail);refine u.mono ?_;rintro e w1 ⟨rfl,G⟩;have HW:Hid _:=G;clear u G
      go_wp2
      go_roundw
      case rel=>exact⟨t+1,dZ,by go_num,HW.out⟩
      case measure=>simp[eZ];omega
     ·have agI:¬(t:Int)<(q:Int):=dZ;obtain rfl:t=q:=dZ;rw[e9]at Ns;have hg:=HG.out wr Ns;clear Ns;go_wp2_with(fail);refine hg.mono ?_;rintro e w1 ⟨rfl,G⟩;have HW:Hid _:=acR.out _ G;clear hg G
      go_wp2
      go_ret;exact⟨rfl,HW.out⟩
def zT(w:dX)(a:Option Addr)(L:List ot):Prop:=∀j,(hj:j<L.length)->∃b off,a=μ ⟨b,off,ν⟩/\w.cell? ⟨b,off+j*5,ν⟩=μ (ι κ L[j].a)/\w.cell? ⟨b,off+j*5+1,ν⟩=μ (ι κ L[j].pa)/\w.cell? ⟨b,off+j*5+2,ν⟩=μ (ι κ L[j].b)/\w.cell? ⟨b,off+j*5+3,ν⟩=μ (ι κ L[j].pb)/\w.cell? ⟨b,off+j*5+4,ν⟩=μ (ι κ L[j].m)
theorem zT.below(h:zT w a L)(hb:eB w w'):zT w' a L:=λj S=>by
 obtain⟨b,off,e,Y,X,V,U,T⟩:=h j S;have Z:=hb.block b (ag _ _ Y);exact⟨b,off,e,(aj (a:=⟨b,off+j*5,ν⟩) Z).trans Y,(aj (a:=⟨b,off+j*5+1,ν⟩) Z).trans X,(aj (a:=⟨b,off+j*5+2,ν⟩) Z).trans V,(aj (a:=⟨b,off+j*5+3,ν⟩) Z).trans U,(aj (a:=⟨b,off+j*5+4,ν⟩) Z).trans T⟩
theorem V9:(eY.info? 193).map (·.size)=μ 4:=gS
theorem E4(a pa b pb m:Int)(w:dX):eX eY 97 #[.agg #[ι κ a,ι κ pa,ι κ b,ι κ pb,ι κ m]] w λe w'=>e=ρ (.agg #[ι κ a,ι κ pa,ι κ b,ι κ pb])/\eB w w':=by
 have Z:iX ((w.alloc (γ #[ι κ a,ι κ pa,ι κ b,ι κ pb,ι κ m] 81)).alloc (γ #[ι κ a,ι κ pa,ι κ b,ι κ pb] 193)) (w.heap.size+1) #[ι κ a,ι κ pa,ι κ b,ι κ pb] 193:=by
  have:=iX.new (w.alloc (γ #[ι κ a,ι κ pa,ι κ b,ι κ pb,ι κ m] 81)) #[ι κ a,ι κ pa,ι κ b,ι κ pb] 193;simpa using this
 have hb:eB w ((w.alloc (γ #[ι κ a,ι κ pa,ι κ b,ι κ pb,ι κ m] 81)).alloc (γ #[ι κ a,ι κ pa,ι κ b,ι κ pb] 193)):=(gT _ _).alloc gU _;have Y:=bS (P:=eY) _ (w.heap.size+1) 193 193 #[ι κ a,ι κ pa,ι κ b,ι κ pb] (0,0) _ Z underlying193 rfl V9
 go_in
 go_wp2_with(fail);refine aE (v:=.agg #[ι κ a,ι κ pa,ι κ b,ι κ pb]) (by simp[results,results97,asAddr,Y]) rfl ?_;exact⟨rfl,hb⟩
theorem xt(r p many:Int)(w:dX):eX eY 154 #[.agg #[ι κ r,ι κ p],ι κ many] w λe w'=>e=ρ (.bool (oU many r p))/\eB w w':=by
 have hb:=gT w (γ #[ι κ r,ι κ p] 192);unfold oU;by_cases Z:1<=r
 ·by_cases Y:r<=many
  ·by_cases X:0<=p
   ·by_cases V:p<3
    ·have hv:(decide (1<=r)&&decide (r<=many)&&decide (0<=p)&&decide (p<3))=true:=by simp[Z,Y,X,V]
     rw[hv];clear hv
     go_in
     go_wp2
     go_ret;exact⟨by first|rfl|(simp;omega),hb⟩
    ·have hv:(decide (1<=r)&&decide (r<=many)&&decide (0<=p)&&decide (p<3))=false:=by simp[V]
     rw[hv];clear hv
     go_in
     go_wp2
     go_ret;exact⟨by first|rfl|(simp;omega),hb⟩
   ·have hv:(decide (1<=r)&&decide (r<=many)&&decide (0<=p)&&decide (p<3))=false:=by simp[X]
    rw[hv];clear hv
    go_in
    go_wp2
    go_ret;exact⟨by first|rfl|(simp;omega),hb⟩
  ·have hv:(decide (1<=r)&&decide (r<=many)&&decide (0<=p)&&decide (p<3))=false:=by simp[Y]
   rw[hv];clear hv
   go_in
   go_wp2
   go_ret;exact⟨by first|rfl|(simp;omega),hb⟩
 ·have hv:(decide (1<=r)&&decide (r<=many)&&decide (0<=p)&&decide (p<3))=false:=by simp[Z]
  rw[hv];clear hv
  go_in
  go_wp2
  go_ret;exact⟨by first|rfl|(simp;omega),hb⟩
theorem Om(l:List ot)(c:ot):kt (l++ [c])=kt l++ [(c.a,c.pa,c.m),(c.b,c.pb,c.m)] :=by simp[kt]
theorem Si {r:Int} (h:oU many r p=true)(h6:many<=6):1<=r/\r<=6/\0<=p/\p<=2:=by
 unfold oU at h;simp only[Bool.and_eq_true,decide_eq_true_eq]at h;omega
def rA(many:Int)(c:ot)(E:List (Int×Int×Int)):Nat:=
 if c.m<1 \/20<c.m then 1
 else if oU many c.a c.pa=false then 1
 else if(kR E c.a c.pa).isSome=true then 8
 else if oU many c.b c.pb=false then 1
 else if(kR (E++ [(c.a,c.pa,c.m)]) c.b c.pb).isSome=true then 8
 else 0
theorem Ie(many:Int)(c:ot)(l:List ot)(E:List (Int×Int×Int)):yI many (c::l) E=if rA many c E≠0 then rA many c E else yI many l (E++ [(c.a,c.pa,c.m),(c.b,c.pb,c.m)]):=by
 conv=>lhs;unfold yI
 unfold rA;split;{rfl};{split;{rfl};{split;{rfl};{split;{rfl};{split;{rfl};{rw[af gU]}}}}}
def Bq(w:dX)(many:Int)(L:List ot)(e:Ending)(w':dX):Prop:=(nO many L≠0->e=ρ (τ #[.map ν,ji (nO many L)]))/\(nO many L=0->∃b,e=ρ (τ #[.map (μ b),η])/\oE w' b (kt L)/\Dt (kt L)/\w.heap.size<=b)/\eB w w'
theorem Bq.bad {f:Nat} (hf:nO many L=f)(Z:f≠0)(hb:eB w w'):Bq w many L (ρ (τ #[.map ν,ji f])) w':=⟨λ_=>by rw[hf],λe=>absurd (hf.symm.trans e) Z,hb⟩
theorem Bq.good(hf:nO many L=0)(X:oE w' b (kt L))(Y:Dt (kt L))(hb:w.heap.size<=b)(Z:eB w w'):Bq w many L (ρ (τ #[.map (μ b),η])) w':=⟨λe=>absurd hf e,λ_=>⟨b,rfl,X,Y,hb⟩,Z⟩
theorem Zc(W:dX):(Instr.makeMap 184 ν).run eY W=.ok (.map (μ W.heap.size)) (W.alloc (.map #[] 0)):=rfl
theorem Co(w:dX)(b:Nat)(E:List (Int×Int×Int))(T:Dt E)(many r p:Int)(h6:many<=6)(W:dX)(h:oE W b E)(hb:w.heap.size<=b)(u:eB w W)(pW:b<W.heap.size)(Z Y:Nat)(m:Int)(J:W.cell? ⟨Z,0,ν⟩=μ (ι κ r)/\W.cell? ⟨Z,1,ν⟩=μ (ι κ p))(S:W.cell? ⟨Y,4,ν⟩=μ (ι κ m)):
 eX eY 154 #[.agg #[ι κ r,ι κ p],ι κ many] W λe w1=>e=ρ (.bool (oU many r p))/\eB w w1/\(w1.cell? ⟨Z,0,ν⟩=μ (ι κ r)/\w1.cell? ⟨Z,1,ν⟩=μ (ι κ p))/\w1.cell? ⟨Y,4,ν⟩=μ (ι κ m)/\
  (oU many r p=true->(Instr.lookup 184 (.map (μ b)) (.agg #[ι κ r,ι κ p]) true).run eY w1=.ok (τ #[ι κ ((kR E r p).getD 0),.bool (kR E r p).isSome]) w1/\
   (kR E r p=ν->∃X,(Instr.mapUpdate 184 (.map (μ b)) (.agg #[ι κ r,ι κ p]) (ι κ m)).run eY w1=.ok () X/\oE X b (E++ [(r,p,m)])/\Dt (E++ [(r,p,m)])/\eB w X/\X.cell? ⟨Y,4,ν⟩=μ (ι κ m)/\b<X.heap.size)):=by
 refine(xt r p many W).mono ?_;rintro e w1 ⟨rfl,b1⟩;have V:=ag _ _ J.1;have M:=ag _ _ S;have y1:=(aj (a:=⟨Y,4,ν⟩) (b1.block Y M)).trans S;have qU:=h.keep (b1.block b pW);refine⟨rfl,gh u b1,⟨(aj (a:=⟨Z,0,ν⟩) (b1.block Z V)).trans J.1,(aj (a:=⟨Z,1,ν⟩) (b1.block Z V)).trans J.2⟩,y1,λiO=> ?_⟩;have G:=Si iO h6;refine⟨oE.look qU T G,λhn=> ?_⟩;obtain⟨X,g1,g2,g3,g4,g5,D,A⟩:=oE.store (m:=m) qU T G hn;have Q:Y≠b:=λe=>by
  subst e;obtain⟨es,clock,h1,_⟩:=h;simp[World.cell?,h1]at S
 have U:=gh u b1;refine⟨X,g1,g2,T.snoc G hn,⟨g3.trans U.os,g4.trans U.tape,g5.trans U.output,by rw[D];exact U.size,λk hk=> ?_⟩,(aj (a:=⟨Y,4,ν⟩) (A Y Q)).trans y1,by rw[D];exact Nat.lt_of_lt_of_le pW b1.size⟩;have H:k≠b:=dZ;exact(A k H).trans (U.block k hk)
theorem ye(many:Int)(a:Option Addr)(cap:Nat)(L:List ot)(w:dX)(hL:zT w a L)(hl:L.length<=1000):
 eX eY 95 #[ι κ many,σ a L.length cap] w λe w'=>Bq w many L e w':=by
 by_cases D:many<1 \/6<many
 ·have G:nO many L=1:=by unfold nO;rw[ai D]
  have S:Hid _:=Bq.bad G ew (au _ w);clear hL G;generalize L.length=n at hl⊢;by_cases h2:many<1
  ·clear D
   go_in
   go_wp2
   go_ret2
   exact S.out
  ·have h3:6<many:=dZ;clear D
   go_in
   go_wp2
   go_ret2
   exact S.out
 ·have h1a:¬many<1:=dZ;have h1b:¬6<many:=dZ;by_cases h9:9<L.length
  ·have G:nO many L=2:=by unfold nO;rw[af D,ai h9]
   have S:Hid _:=Bq.bad G ew (au _ w);have h9':(9:Int)<(L.length:Int):=dZ;clear hL G D;generalize L.length=n at hl h9 h9'⊢
   go_in
   go_wp2
   go_ret2
   exact S.out
  ·have HE:Hid (nO many L=yI many L []):=by show _=_;unfold nO;rw[af D,af h9]
   have h9':¬(9:Int)<(L.length:Int):=dZ;have HL:Hid _:=hL;obtain⟨n,hn⟩:=gg (L.length);have HN:Hid _:=hn;have Lu:oE (w.alloc (.map #[] 0)) w.heap.size [] :=⟨#[],0,aY w _,rfl⟩
   have hmk:=Zc;obtain⟨bM,hbM⟩:=gg (w.heap.size);have H0:Hid (oE (w.alloc (.map #[] 0)) bM (kt (L.take 0))/\Dt (kt (L.take 0))/\eB w (w.alloc (.map #[] 0))/\bM<(w.alloc (.map #[] 0)).heap.size/\yI many L [] =yI many (L.drop 0) (kt (L.take 0))):=by
    rw[hbM]at Lu;exact⟨Lu,λx hx=>by simp[kt]at hx,gT _ _,by rw[<-hbM];simp,rfl⟩
   have HbM:Hid _:=hbM;rw[hn]at hl h9'⊢;clear hL D h9 hn Lu
   go_in
   go_wp2_with(fail)
   try rw[HbM.out]
   go_loopw [27] (λx wr=>∃j:Nat,j<=n/\x=ι κ j/\oE wr bM (kt (L.take j))/\Dt (kt (L.take j))/\eB w wr/\bM<wr.heap.size/\yI many L [] =yI many (L.drop j) (kt (L.take j))) (λx _=>n-(eZ x).toNat)
   case atStart=>exact⟨0,Nat.zero_le _,rfl,H0.out⟩
   case round=>
    obtain⟨j,hj,rfl,hm,G,hB,pW,hF⟩:=hrel;obtain⟨V,rfl⟩:∃V,V=wr:=⟨_,rfl⟩
    by_cases kA:j<n
    ·have nL:(j:Int)<(n:Int):=dZ;have yG:(0:Int)<=(j:Int):=dZ;have hjL:j<L.length:=by rw[HN.out];exact kA
     obtain⟨b,off,rfl,k0,k1,k2,k3,k4⟩:=zT.below (w:=w) HL.out hB j hjL;have hd:L.drop j=L[j] ::L.drop (j+1):=aR hjL;have ht:kt (L.take (j+1))=kt (L.take j)++ [(L[j].a,L[j].pa,L[j].m),(L[j].b,L[j].pb,L[j].m)] :=by
      rw[aA hjL,Om]
     rw[hd,Ie]at hF;generalize L[j] =c at k0 k1 k2 k3 k4 hF ht;obtain⟨E,hEe⟩:=gg (kt (L.take j));rw[hEe]at hm G hF ht;have HT:Hid _:=ht;have Wa:Hid (∀f,rA many c E=f->f≠0->nO many L=f):=by
      intro f D h2;rw[HE.out,hF,D,ai h2]
     have agT:Hid (rA many c E=0->yI many L [] =yI many (L.drop (j+1)) (E++ [(c.a,c.pa,c.m),(c.b,c.pb,c.m)])):=by
      intro D;rw[hF,D,af gU]
     obtain⟨ca,X,U,T,cm⟩:=c;have bl:=ag _ _ k0;have HM:Hid _:=hm;have HEO:Hid _:=G;have HB:Hid _:=hB;have HBL:Hid _:=pW;obtain⟨W1,j6⟩:=gg (V.alloc (γ #[ι κ ca,ι κ X,ι κ U,ι κ T,ι κ cm] 81));obtain⟨Y,hY⟩:=gg (V.heap.size);have kE:=gT V (γ #[ι κ ca,ι κ X,ι κ U,ι κ T,ι κ cm] 81);have Oo:iX (V.alloc (γ #[ι κ ca,ι κ X,ι κ U,ι κ T,ι κ cm] 81)) V.heap.size #[ι κ ca,ι κ X,ι κ U,ι κ T,ι κ cm] 81:=iX.new V _ _;rw[j6]at kE Oo;rw[hY]at Oo;have g0:W1.cell? ⟨Y,0,ν⟩=μ (ι κ ca):=Oo.cell 0;have g1:W1.cell? ⟨Y,1,ν⟩=μ (ι κ X):=Oo.cell 1;have g2:W1.cell? ⟨Y,2,ν⟩=μ (ι κ U):=Oo.cell 2;have g3:W1.cell? ⟨Y,3,ν⟩=μ (ι κ T):=Oo.cell 3;have g4:W1.cell? ⟨Y,4,ν⟩=μ (ι κ cm):=Oo.cell 4;have gl:=Oo.lt;have rK:eB w W1:=gh hB kE;have qU:oE W1 bM E:=hm.keep (kE.block bM pW);have agU:bM<W1.heap.size:=Nat.lt_of_lt_of_le pW kE.size;have Kd:Hid _:=j6;have HY:Hid _:=hY;have Dn:Hid _:=rK;have YY:Hid _:=qU;have agV:Hid _:=agU;have HBY:Hid _:=Oo;have zU:=E4 ca X U T cm W1;clear hm G hB pW hF hd ht hEe kE Oo rK qU agU j6 hY;by_cases vP:cm<1 \/20<cm
     ·have wj:nO many L=1:=Wa.out 1 (by unfold rA;rw[ai vP]) ew;have S:Hid _:=Bq.bad (w':=W1) wj ew Dn.out;clear zU;by_cases CT:cm<1
      ·clear vP;go_wp2_with(fail);rw[Kd.out]
       try rw[HY.out]
       go_wp2
       go_ret2
       exact S.out
      ·have hm3:20<cm:=dZ;clear vP;go_wp2_with(fail);rw[Kd.out]
       try rw[HY.out]
       go_wp2
       go_ret2
       exact S.out
     ·have CT:¬cm<1:=dZ;have hm3:¬20<cm:=dZ;have Hg:Hid _:=vP;clear vP;go_wp2_with(fail);rw[Kd.out]
      try rw[HY.out]
      go_wp2_with(fail);refine zU.mono ?_;rintro e w2 ⟨rfl,be⟩;have HI0:Hid (oE w2 bM (E)/\Dt (E)/\eB w w2/\bM<w2.heap.size/\w2.cell? ⟨Y,4,ν⟩=μ (ι κ cm)):=⟨oE.keep YY.out (be.block bM agV.out),HEO.out,gh Dn.out be,Nat.lt_of_lt_of_le agV.out be.size,(aj (a:=⟨Y,4,ν⟩) (be.block Y gl)).trans g4⟩
      clear zU be k0 k1 k2 k3 k4 g0 g1 g2 g3 g4 gl bl
      go_wp2
      go_loopw [42] (λx wr=>(x=ι κ 0/\(oE wr bM (E)/\Dt (E)/\eB w wr/\bM<wr.heap.size/\wr.cell? ⟨Y,4,ν⟩=μ (ι κ cm))) \/(x=ι κ 1/\(oE wr bM (E++ [(ca,X,cm)])/\Dt (E++ [(ca,X,cm)])/\eB w wr/\bM<wr.heap.size/\wr.cell? ⟨Y,4,ν⟩=μ (ι κ cm))/\(oU many ca X=true/\kR E ca X=ν)) \/(x=ι κ 2/\(oE wr bM (E++ [(ca,X,cm)] ++ [(U,T,cm)])/\Dt (E++ [(ca,X,cm)] ++ [(U,T,cm)])/\eB w wr/\bM<wr.heap.size/\wr.cell? ⟨Y,4,ν⟩=μ (ι κ cm))/\rA many ⟨ca,X,U,T,cm⟩ E=0)) (λx _=>2-(eZ x).toNat)
      case atStart=>exact .inl ⟨rfl,HI0.out⟩
      case round=>
       obtain⟨Q,rfl⟩:∃Q,Q=wr:=⟨_,rfl⟩
       rcases hrel with⟨rfl,A⟩|⟨rfl,A,zf⟩|⟨rfl,A,zf⟩
       ·skip
        obtain⟨i1,i2,i3,i4,i5⟩:=A;have hix:=ac5 ca X U T;obtain⟨W4,uN⟩:=gg (Q.alloc (γ #[ι κ ca,ι κ X] 192));obtain⟨Z,hZ⟩:=gg (Q.heap.size);have ba:=gT Q (γ #[ι κ ca,ι κ X] 192);have H:iX (Q.alloc (γ #[ι κ ca,ι κ X] 192)) Q.heap.size #[ι κ ca,ι κ X] 192:=iX.new Q _ _;rw[uN]at ba H;rw[hZ]at H;have z0:W4.cell? ⟨Z,0,ν⟩=μ (ι κ ca):=H.cell 0;have z1:W4.cell? ⟨Z,1,ν⟩=μ (ι κ X):=H.cell 1;have zl:=H.lt;have y4:W4.cell? ⟨Y,4,ν⟩=μ (ι κ cm):=(aj (a:=⟨Y,4,ν⟩) (ba.block Y (ag _ _ i5))).trans i5;have LR:=Co w bM (E) i2 many ca X dZ W4 (i1.keep (ba.block bM i4)) (by rw[HbM.out];exact Nat.le_refl _) (gh i3 ba) (Nat.lt_of_lt_of_le i4 ba.size) Z Y cm ⟨z0,z1⟩ y4;have Lv:Hid _:=uN;have HZ:Hid _:=hZ;clear i1 i2 i3 i4 i5 uN hZ ba H;go_wp2_with(fail)
        try rw[Lv.out]
        try rw[HZ.out]
        go_wp2_with(fail);refine LR.mono ?_;rintro e w5 ⟨rfl,b5,⟨x0,x1⟩,x4,E5⟩;have xl:=ag _ _ x0;have yl:=ag _ _ x4;clear LR z0 z1 zl y4;cases J:oU many ca X with
        |false=>
         have wj:nO many L=1:=Wa.out 1 (by unfold rA;rw[af Hg.out,ai J]) ew;have S:Hid _:=Bq.bad (w':=w5) wj ew b5;clear E5 b5
         go_wp2
         go_ret2
         exact S.out
        |true=>
         obtain⟨pA,kd⟩:=E5 J;clear E5;cases M:kR (E) ca X with
         |some m0=>
          have wj:nO many L=8:=Wa.out 8 (by unfold rA;rw[af Hg.out,af (by rw[J];simp),ai (by rw[M];rfl)]) ew;have S:Hid _:=Bq.bad (w':=w5) wj ew b5;rw[M]at pA;have q1:(Option.getD (μ m0) 0)=m0:=rfl;have q2:(Option.isSome (μ m0))=true:=rfl;rw[q1,q2]at pA;clear kd b5 J M wj
          go_wp2
          go_ret2
          exact S.out
         |none=>
          obtain⟨w6,u1,u2,u3,u,h,u6'⟩:=kd M;have ado:Hid (oE w6 bM (E++ [(ca,X,cm)])/\Dt (E++ [(ca,X,cm)])/\eB w w6/\bM<w6.heap.size/\w6.cell? ⟨Y,4,ν⟩=μ (ι κ cm)):=⟨u2,u3,u,u6',h⟩
          have HKK:Hid (oU many ca X=true/\kR E ca X=ν):=⟨J,M⟩
          rw[M]at pA;have q1:(Option.getD (ν:Option Int) 0)=0:=rfl;have q2:(Option.isSome (ν:Option Int))=false:=rfl;rw[q1,q2]at pA;clear kd b5 u2 u3 u h u6' J M
          go_wp2
          go_roundw
          case rel=>exact .inr (.inl ⟨by go_num,ado.out,HKK.out⟩)
          case measure=>simp[eZ]
       ·obtain⟨Xr,rL⟩:=zf;obtain⟨i1,i2,i3,i4,i5⟩:=A;have hix:=ac6 ca X U T;obtain⟨W4,uN⟩:=gg (Q.alloc (γ #[ι κ U,ι κ T] 192));obtain⟨Z,hZ⟩:=gg (Q.heap.size);have ba:=gT Q (γ #[ι κ U,ι κ T] 192);have H:iX (Q.alloc (γ #[ι κ U,ι κ T] 192)) Q.heap.size #[ι κ U,ι κ T] 192:=iX.new Q _ _;rw[uN]at ba H;rw[hZ]at H;have z0:W4.cell? ⟨Z,0,ν⟩=μ (ι κ U):=H.cell 0;have z1:W4.cell? ⟨Z,1,ν⟩=μ (ι κ T):=H.cell 1;have zl:=H.lt;have y4:W4.cell? ⟨Y,4,ν⟩=μ (ι κ cm):=(aj (a:=⟨Y,4,ν⟩) (ba.block Y (ag _ _ i5))).trans i5;have LR:=Co w bM (E++ [(ca,X,cm)]) i2 many U T dZ W4 (i1.keep (ba.block bM i4)) (by rw[HbM.out];exact Nat.le_refl _) (gh i3 ba) (Nat.lt_of_lt_of_le i4 ba.size) Z Y cm ⟨z0,z1⟩ y4;have Lv:Hid _:=uN;have HZ:Hid _:=hZ;clear i1 i2 i3 i4 i5 uN hZ ba H;go_wp2_with(fail)
        try rw[Lv.out]
        try rw[HZ.out]
        go_wp2_with(fail);refine LR.mono ?_;rintro e w5 ⟨rfl,b5,⟨x0,x1⟩,x4,E5⟩;have xl:=ag _ _ x0;have yl:=ag _ _ x4;clear LR z0 z1 zl y4;cases J:oU many U T with
        |false=>
         have wj:nO many L=1:=Wa.out 1 (by unfold rA;rw[af Hg.out,af (by rw[Xr];simp),af (by rw[rL];simp),ai J]) ew;have S:Hid _:=Bq.bad (w':=w5) wj ew b5;clear E5 b5
         go_wp2
         go_ret2
         exact S.out
        |true=>
         obtain⟨pA,kd⟩:=E5 J;clear E5;cases M:kR (E++ [(ca,X,cm)]) U T with
         |some m0=>
          have wj:nO many L=8:=Wa.out 8 (by unfold rA;rw[af Hg.out,af (by rw[Xr];simp),af (by rw[rL];simp),af (by rw[J];simp),ai (by rw[M];rfl)]) ew;have S:Hid _:=Bq.bad (w':=w5) wj ew b5;rw[M]at pA;have q1:(Option.getD (μ m0) 0)=m0:=rfl;have q2:(Option.isSome (μ m0))=true:=rfl;rw[q1,q2]at pA;clear kd b5 J M wj
          go_wp2
          go_ret2
          exact S.out
         |none=>
          obtain⟨w6,u1,u2,u3,u,h,u6'⟩:=kd M;have ado:Hid (oE w6 bM (E++ [(ca,X,cm)] ++ [(U,T,cm)])/\Dt (E++ [(ca,X,cm)] ++ [(U,T,cm)])/\eB w w6/\bM<w6.heap.size/\w6.cell? ⟨Y,4,ν⟩=μ (ι κ cm)):=⟨u2,u3,u,u6',h⟩
          have HKK:Hid (rA many ⟨ca,X,U,T,cm⟩ E=0):=by show _=_;unfold rA;rw[af Hg.out,af (by rw[Xr];simp),af (by rw[rL];simp),af (by rw[J];simp),af (by rw[M];simp)]
          rw[M]at pA;have q1:(Option.getD (ν:Option Int) 0)=0:=rfl;have q2:(Option.isSome (ν:Option Int))=false:=rfl;rw[q1,q2]at pA;clear kd b5 u2 u3 u h u6' J M
          go_wp2
          go_roundw
          case rel=>exact .inr (.inr ⟨by go_num,ado.out,HKK.out⟩)
          case measure=>simp[eZ]
       ·obtain⟨i1,i2,i3,i4,i5⟩:=A;have Y6:Hid (oE Q bM (kt (L.take (j+1)))/\Dt (kt (L.take (j+1)))/\eB w Q/\bM<Q.heap.size/\yI many L [] =yI many (L.drop (j+1)) (kt (L.take (j+1)))):=by
         show _/\_/\_/\_/\_;rw[HT.out];have e5:E++ [(ca,X,cm)] ++ [(U,T,cm)] =E++ [(ca,X,cm),(U,T,cm)] :=gU;rw[e5]at i1 i2;exact⟨i1,i2,i3,i4,agT.out zf⟩
        clear i1 i2 i3 i4 i5 zf
        go_wp2
        go_roundw
        case rel=>exact⟨j+1,dZ,by go_num,Y6.out⟩
        case measure=>simp[eZ];omega
    ·have xL:¬(j:Int)<(n:Int):=dZ;obtain rfl:j=n:=dZ;have e9:L.take j=L:=by rw[<-HN.out];exact ct
     have e8:L.drop j=[] :=by rw[<-HN.out];exact List.drop_length
     rw[e9]at hm G hF;rw[e8]at hF;have O4:nO many L=0:=by rw[HE.out,hF];rfl
     have S:Hid _:=Bq.good O4 hm G (by rw[HbM.out];exact Nat.le_refl _) hB;clear hm G hB pW hF O4 e9 e8
     go_wp2
     go_ret2
     exact S.out
theorem uh(many:Int)(a:Option Addr)(cap:Nat)(L:List ot)(w:dX)(V:zT w a L)(hl:L.length<=1000):
 eX eY 38 #[ι κ many,σ a L.length cap] w λe w'=>e=ρ (ji (nO many L))/\eB w w':=by
 have X:=ye many a cap L w V hl;generalize L.length=n at X⊢;have Z:eX eY 95 #[ι κ many,σ a n cap] w λe w'=>∃v,e=ρ (τ #[.map v,ji (nO many L)])/\eB w w':=by
  refine X.mono ?_;rintro e w1 ⟨T,Z,hb⟩;by_cases Y:nO many L=0;{obtain⟨b,rfl,_⟩:=Z Y;exact⟨μ b,by rw[Y];rfl,hb⟩};{exact⟨ν,T Y,hb⟩}
 clear X V;generalize ji (nO many L)=ev at Z⊢
 go_in
 go_wp2_with(fail);refine Z.mono ?_;rintro e w1 ⟨v,rfl,hb⟩;have U:Hid _:=hb;clear Z hb
 go_wp2
 go_ret;exact⟨rfl,U.out⟩
def Zd(W:dX)(i:Nat)(ms:Nat->Int)(P lo hi:Nat):Prop:=∃z:Zt,z.R=P/\mA W z (jO ((i:Int)+1) 3 ms)/\(∀b,z.ph b->lo<=b/\b<hi)/\lo<=hi/\hi<=W.heap.size/\∀b,(b<lo \/(hi<=b/\b<W.heap.size))->z.fm.no b
theorem Zd.step {W':dX} {ms:Nat->Int} {P lo hi:Nat} (h:Zd W i ms P lo hi)(hs:W.heap.size<=W'.heap.size)(X:∀b,lo<=b->b<hi->W'.heap[b]? =W.heap[b]?):Zd W' i ms P lo hi:=by
 obtain⟨z,V,U,Z,T,S,Y⟩:=h;refine⟨z.plus λb=>W.heap.size<=b/\b<W'.heap.size,V,U.besides hs (λb hb hc=> ?_) _ (λb e=>e),Z,T,Nat.le_trans S hs,λb hb=> ?_⟩
 ·rcases hc with hc|hc
  {have:¬(b<lo \/(hi<=b/\b<W.heap.size)):=λe=>hc (Y b e);exact X b dZ dZ};{have:=Z b (.inl hc);exact X b this.1 this.2}
 ·show z.fm.no b \/_;by_cases e:b<W.heap.size;{exact .inl (Y b dZ)};{exact .inr dZ}
def uT:List ot->List dY
 |[] =>[]
 |c::l=>[.int .i64 c.a,.int .i64 c.pa,.int .i64 c.b,.int .i64 c.pb,.bool false,.slice none 0 0,.slice none 0 0] ++uT l
theorem LU:∀(l m:List ot),uT (l++m)=uT l++uT m
 |[],_=>rfl
 |c::l,m=>by
  show _++uT (l++m)=_;rw[LU l m,<-aD];rfl
theorem P2:∀(l:List ot) (j i:Nat) (Z:j<l.length),i<7->(uT l)[j*7+i]? =[ι κ l[j].a,ι κ l[j].pa,ι κ l[j].b,ι κ l[j].pb,(.bool false:dY),σ ν 0 0,σ ν 0 0][i]?
 |c::l,0,i,_,hi=>by
  show([_,_,_,_,_,_,_] ++uT l)[0*7+i]? =_;rw[Nat.zero_mul,Nat.zero_add,bz (by simpa using hi)];rfl
 |c::l,j+1,i,Z,hi=>by
  show([_,_,_,_,_,_,_] ++uT l)[(j+1)*7+i]? =_;rw[br (by simp;omega)];have e:(j+1)*7+i-List.length [ι .i64 c.a,ι κ c.pa,ι κ c.b,ι κ c.pb,.bool false,σ ν 0 0,σ ν 0 0] =j*7+i:=by simp;omega
  rw[e];exact P2 l j i (by simpa using Z) hi
theorem Wc(l:List ot):∀u∈uT l,u.oneCell'=true:=by
 induction l with
 |nil=>intro u Z;simp[uT]at Z
 |cons c l ih=>
  intro u Z;have Y:u∈ [ι .i64 c.a,ι κ c.pa,ι κ c.b,ι κ c.pb,.bool false,σ ν 0 0,σ ν 0 0] ++uT l:=Z;rcases av.1 Y with h|h
  {simp at h;rcases h with rfl|rfl|rfl|rfl|rfl|rfl<;>rfl};{exact ih u h}
def wK(P:Nat->Nat)(q:Nat):List dY:=(fW q).map λi=>π (μ ⟨P i,0,ν⟩)
theorem Oq(P:Nat->Nat)(q:Nat):wK P (q+1)=wK P q++ [π (μ ⟨P q,0,ν⟩)] :=by simp[wK,List.range_succ]
theorem LV {P':Nat->Nat} (h:∀i,i<q->P i=P' i):wK P q=wK P' q:=by
 unfold wK;refine List.map_congr_left λi hi=> ?_;rw[h i (aP.1 hi)]
theorem Wd(P:Nat->Nat)(h:i<q):(wK P q)[i]? =μ (π (μ ⟨P i,0,ν⟩)):=by simp[wK,h]
def pE(m:Nat):Array dY:=Array.replicate m (σ ν 0 0)
structure E6(w W:dX)(N gI bM m:Nat)(E:List (Int×Int×Int))(ms:Nat->Nat->Int)(q j:Nat)(L:List ot)(v v2:dY)(P lo hi:Nat->Nat):Prop where
 nQ:eB w W
 nb:iX W N #[v,σ (μ ⟨gI,0,ν⟩) m m,.map (μ bM),v2] 190
 gi:iX W gI (pE m) 53
 mp:oE W bM E
 row:Row W 1 v q (wK P q)
 GG:Row W 7 v2 j (uT (L.take j))
 ne:N≠gI/\N≠bM/\gI≠bM/\w.heap.size<=N/\w.heap.size<=gI/\w.heap.size<=bM
 fv:∀k,v.ownBlock=μ k->w.heap.size<=k/\k≠N/\k≠gI/\k≠bM
 LW:∀k,v2.ownBlock=μ k->w.heap.size<=k/\k≠N/\k≠gI/\k≠bM/\v.ownBlock≠μ k
 XM:∀i,i<q->Zd W i (ms i) (P i) (lo i) (hi i)
 lw:∀i,i<q->w.heap.size<=lo i
 sep:∀i k,i<k->k<q->hi i<=lo k
 out:∀i,i<q->∀k,(k=N \/k=gI \/k=bM \/v.ownBlock=μ k \/v2.ownBlock=μ k)->k<lo i \/hi i<=k
section
variable {w W W':World} {N gI bM m:Nat} {E:List (Int×Int×Int)} {ms:Nat->Nat->Int} {q j:Nat} {L:List ot} {v v2:Value} {P lo hi:Nat->Nat}
theorem E6.yc(h:E6 w W N gI bM m E ms q j L v v2 P lo hi):N<W.heap.size:=h.nb.lt
theorem E6.Sj(h:E6 w W N gI bM m E ms q j L v v2 P lo hi):bM<W.heap.size:=by
 obtain⟨es,clock,Z,_⟩:=h.mp;exact(ax.1 Z).1
theorem E6.below(h:E6 w W N gI bM m E ms q j L v v2 P lo hi)(hb:eB W W'):E6 w W' N gI bM m E ms q j L v v2 P lo hi:=
 ⟨gh h.nQ hb,h.nb.below hb,h.gi.below hb,h.mp.keep (hb.block bM h.Sj),h.row.below hb,h.GG.below hb,h.ne,h.fv,h.LW,λi Z=>(h.XM i Z).step hb.size (λb _ h2=>hb.block b (by
  obtain⟨_,_,_,_,_,h5,_⟩:=h.XM i Z;omega)),h.lw,h.sep,h.out⟩
theorem E6.EH(h:E6 w W N gI bM m E ms q j L v v2 P lo hi) {W1:dX} (hz:mA W1 z (jO ((q:Int)+1) 3 (ms q)))(hb:eB W W1)(S:∀b,z.ph b->W.heap.size<=b)(T:∀b,b<W.heap.size->z.fm.no b)
 {o:Obj} {v':dY} (hr:Row W2 1 v' (q+1) (wK P q++ [π (μ ⟨z.R,0,ν⟩)])) (u:(W1.alloc o).grownBy W2 v.ownBlock) (hv:∀k,v'.ownBlock=μ k->v.ownBlock=μ k \/W1.heap.size<=k):
 E6 w (W2.setCell ⟨N,0,ν⟩ v') N gI bM m E ms (q+1) j L v' v2 (jU P q z.R) (jU lo q W.heap.size) (jU hi q W1.heap.size):=by
 have H:W1.heap.size<=W2.heap.size:=Nat.le_trans gU u.size;have Wf:∀b,b<W1.heap.size->v.ownBlock≠μ b->W2.heap[b]? =W1.heap[b]? :=λb V hn=>(u.block b (by simp;omega) (λe=>hn e.symm)).trans (aU W1 o b V);have M:∀b,b<W1.heap.size->v.ownBlock≠μ b->b≠N->(W2.setCell ⟨N,0,ν⟩ v').heap[b]? =W1.heap[b]? :=λb V hn hN=>(ak _ _ _ b hN).trans (Wf b V hn);have Z:=h.below hb;have A:v.ownBlock≠μ N:=λe=>(h.fv N e).2.1 rfl;have G:∀k,v'.ownBlock=μ k->k≠N:=λk e D=>by
  rcases hv k e with Y|Y
  {exact(h.fv k Y).2.1 D};{have:=Z.yc;omega}
 have EB:eB w W2:=by
  have Y:=(Z.nQ.alloc Z.nQ.size o).grown u (by simp;have:=Z.nQ.size;omega) (λk e=>(h.fv k e).1);exact Y
 have aqK:=h.nQ.size;have qG:∀i,i<q->lo i<=hi i/\hi i<=W.heap.size:=λi Q=>by
  obtain⟨_,_,_,_,h4,h5,_⟩:=h.XM i Q;exact⟨h4,h5⟩
 have mZ:mA (W2.setCell ⟨N,0,ν⟩ v') (z.plus λb=>W1.heap.size<=b/\b<(W2.setCell ⟨N,0,ν⟩ v').heap.size) (jO ((q:Int)+1) 3 (ms q)):=by
  refine hz.besides (by simpa using H) (λb V hc=> ?_) _ (λb e=>e);have hbW:W.heap.size<=b:=by
   rcases hc with hc|hc
   {exact Nat.le_of_not_lt (λe=>hc (T b e))};{exact S b (.inl hc)}
  exact M b V (λe=>by have:=h.row.lt b e;omega) (λe=>by have:=h.yc;omega)
 refine⟨EB.setCell (by show w.heap.size<=N;exact h.ne.2.2.2.1) _,?_,Z.gi.keep (M gI Z.gi.lt (λe=>(h.fv gI e).2.2.1 rfl) (λe=>h.ne.1 e.symm)),Z.mp.keep (M bM Z.Sj (λe=>(h.fv bM e).2.2.2 rfl) (λe=>h.ne.2.1 e.symm)),?_,Z.GG.keep (by simpa using H) (λk e=>M k (Z.GG.lt k e) (h.LW k e).2.2.2.2 (h.LW k e).2.1),h.ne,λk e=> ?_,λk e=> ?_,λi Q=> ?_,λi Q=> ?_,λi k U hk=> ?_,λi Q k hk=> ?_⟩;{have Y:iX W2 N #[v,σ (μ ⟨gI,0,ν⟩) m m,.map (μ bM),v2] 190:=Z.nb.keep (Wf N Z.yc A);exact Y.set 0 v'};{rw[Oq,iE,LV (P':=P) (λi Q=>iC _ _ dZ)];exact hr.keep gU (λk e=>ak _ _ _ k (G k e))}
 ·rcases hv k e with Y|Y
  {exact h.fv k Y};{have a1:=Z.yc;have a2:=Z.gi.lt;have a3:=Z.Sj;have a4:=Z.nQ.size;omega}
 ·refine⟨(h.LW k e).1,(h.LW k e).2.1,(h.LW k e).2.2.1,(h.LW k e).2.2.2.1,λD=> ?_⟩;rcases hv k D with Y|Y
  {exact(h.LW k e).2.2.2.2 Y};{have:=Z.GG.lt k e;omega}
 ·by_cases X:i=q
  ·subst X;rw[iE,iE,iE];refine⟨z.plus λb=>W1.heap.size<=b/\b<(W2.setCell ⟨N,0,ν⟩ v').heap.size,rfl,mZ,λb V=>⟨S b V,hz.yL rfl V⟩,hb.size,by simpa using H,λb V=> ?_⟩;show z.fm.no b \/_;rcases V with e|e
   {exact .inl (T b e)};{exact .inr e}
  ·rw[iC _ _ X,iC _ _ X,iC _ _ X];have J:i<q:=dZ;refine(Z.XM i J).step (by simpa using H) (λb b1 b2=> ?_);have b3:=(qG i J).2;have hs:=hb.size;refine M b dZ (λe=> ?_) (λe=> ?_);{have:=h.out i J b (.inr (.inr (.inr (.inl e))));omega};{have:=h.out i J b (.inl e);omega}
 {by_cases X:i=q;{subst X;rw[iE];exact h.nQ.size};{rw[iC _ _ X];exact h.lw i dZ}};{by_cases ek:k=q;{subst ek;rw[iC _ _ dZ,iE];exact(qG i U).2};{rw[iC _ _ dZ,iC _ _ ek];exact h.sep i k U dZ}}
 ·have hold:(k=N \/k=gI \/k=bM \/v.ownBlock=μ k \/v2.ownBlock=μ k) \/W1.heap.size<=k:=by
   rcases hk with e|e|e|e|e
   {exact .inl (.inl e)};{exact .inl (.inr (.inl e))};{exact .inl (.inr (.inr (.inl e)))};{exact(hv k e).imp_left (λe=>.inr (.inr (.inr (.inl e))))};{exact .inl (.inr (.inr (.inr (.inr e))))}
  by_cases X:i=q
  ·subst X;rw[iE,iE];rcases hold with e|e
   ·left;rcases e with e|e|e|e|e
    {have:=h.yc;omega};{have:=h.gi.lt;omega};{have:=h.Sj;omega};{exact h.row.lt k e};{exact h.GG.lt k e}
   ·exact .inr e
  ·rw[iC _ _ X,iC _ _ X];rcases hold with e|e
   {exact h.out i dZ k e};{have:=(qG i dZ).2;have hs:=hb.size;exact .inr dZ}
theorem E6.PO(h:E6 w W N gI bM m E ms q j L v v2 P lo hi) {v':dY} (ht:L.take (j+1)=L.take j++ [c])(hr:Row W2 7 v' (j+1) (uT (L.take j)++uT [c]))(V:W.grownBy W2 v2.ownBlock)(hv:∀k,v'.ownBlock=μ k->v2.ownBlock=μ k \/W.heap.size<=k):
 E6 w (W2.setCell ⟨N,3,ν⟩ v') N gI bM m E ms q (j+1) L v v' P lo hi:=by
 have J:∀b,b<W.heap.size->v2.ownBlock≠μ b->W2.heap[b]? =W.heap[b]? :=λb M Q=>V.block b M (λe=>Q e.symm);have U:∀b,b<W.heap.size->v2.ownBlock≠μ b->b≠N->(W2.setCell ⟨N,3,ν⟩ v').heap[b]? =W.heap[b]? :=λb M Q A=>(ak _ _ _ b A).trans (J b M Q);have S:v2.ownBlock≠μ N:=λe=>(h.LW N e).2.1 rfl;have T:∀k,v'.ownBlock=μ k->k≠N:=λk e X=>by
  rcases hv k e with Y|Y
  {exact(h.LW k Y).2.1 X};{have:=h.yc;omega}
 have H:eB w W2:=h.nQ.grown V h.nQ.size (λk e=>(h.LW k e).1);refine⟨H.setCell (by show w.heap.size<=N;exact h.ne.2.2.2.1) _,?_,h.gi.keep (U gI h.gi.lt (λe=>(h.LW gI e).2.2.1 rfl) (λe=>h.ne.1 e.symm)),h.mp.keep (U bM h.Sj (λe=>(h.LW bM e).2.2.2.1 rfl) (λe=>h.ne.2.1 e.symm)),h.row.keep (by simpa using V.size) (λk e=>U k (h.row.lt k e) (λX=>(h.LW k X).2.2.2.2 e) (h.fv k e).2.1),?_,h.ne,h.fv,λk e=> ?_,λi Z=> ?_,h.lw,h.sep,λi Z k u=> ?_⟩;{have Y:iX W2 N #[v,σ (μ ⟨gI,0,ν⟩) m m,.map (μ bM),v2] 190:=h.nb.keep (J N h.yc S);exact Y.set 3 v'};{rw[ht,LU];exact hr.keep gU (λk e=>ak _ _ _ k (T k e))}
 ·rcases hv k e with Y|Y
  {exact h.LW k Y};{have a1:=h.yc;have a2:=h.gi.lt;have a3:=h.Sj;have a4:=h.nQ.size;refine⟨dZ,dZ,dZ,dZ,λX=> ?_⟩;have:=h.row.lt k X;omega}
 ·obtain⟨_,_,_,_,G,D,_⟩:=h.XM i Z;refine(h.XM i Z).step (by simpa using V.size) (λb b1 b2=>U b dZ (λe=> ?_) (λe=> ?_));{have:=h.out i Z b (.inr (.inr (.inr (.inr e))));omega};{have:=h.out i Z b (.inl e);omega}
 ·obtain⟨_,_,_,_,G,D,_⟩:=h.XM i Z;rcases u with e|e|e|e|e
  {exact h.out i Z k (.inl e)};{exact h.out i Z k (.inr (.inl e))};{exact h.out i Z k (.inr (.inr (.inl e)))};{exact h.out i Z k (.inr (.inr (.inr (.inl e))))}
  ·rcases hv k e with Y|Y
   {exact h.out i Z k (.inr (.inr (.inr (.inr Y))))};{exact .inr dZ}
end
def nH(E:List (Int×Int×Int)):List (Int×Int):=E.map λx=>(x.1,x.2.1)
theorem Br:∀ {E:List (Int×Int×Int)} {r p:Int},(kR E r p).isSome=true↔(r,p)∈nH E
 |[],r,p=>by simp[kR,nH]
 |x::E,r,p=>by
  unfold kR;have ih:=Br (E:=E) (r:=r) (p:=p);split
  ·rename_i h
   simp[nH,h.1,h.2]
  ·rename_i h
   rw[ih];constructor;{intro Y;exact cO _ Y}
   ·intro Y;have Z:(r,p)=(x.1,x.2.1) \/(r,p)∈nH E:=by
     have:(r,p)∈(x.1,x.2.1)::nH E:=Y;simpa using this
    rcases Z with Z|Z
    ·injection Z with X V
     exact absurd ⟨X.symm,V.symm⟩ h
    ·exact Z
theorem Wg {E:List (Int×Int×Int)} (h:rA many c E=0):(1<=c.m/\c.m<=20)/\oU many c.a c.pa=true/\oU many c.b c.pb=true/\(c.a,c.pa)∉nH E/\(c.b,c.pb)∉nH (E++ [(c.a,c.pa,c.m)]):=by
 unfold rA at h;split at h;{simp at h}
 ·split at h;{simp at h}
  ·split at h;{simp at h}
   ·split at h;{simp at h}
    ·split at h;{simp at h}
     ·rename_i h1 Z Y X V
      refine⟨dZ,by simpa using Z,by simpa using X,λe=>Y (Br.2 e),λe=>V (Br.2 e)⟩
theorem P4 {many:Int}:∀(L:List ot) (E:List (Int×Int×Int)),yI many L E=0->(nH E).Nodup->(∀c∈L,(1<=c.m/\c.m<=20)/\oU many c.a c.pa=true/\oU many c.b c.pb=true)/\(nH (E++kt L)).Nodup
 |[],E,_,hn=>⟨λc hc=>by simp at hc,by simpa[kt]using hn⟩
 |c::L,E,h,hn=>by
  rw[Ie]at h;have Y:rA many c E=0:=by
   rcases Nat.eq_zero_or_pos (rA many c E)with e|e
   {exact e};{rw[ai dZ]at h;omega}
  rw[Y,af gU]at h;obtain⟨g1,U,T,S,Z⟩:=Wg Y;have J:(nH (E++ [(c.a,c.pa,c.m),(c.b,c.pb,c.m)])).Nodup:=by
   have X:nH (E++ [(c.a,c.pa,c.m),(c.b,c.pb,c.m)])=(nH E++ [(c.a,c.pa)])++ [(c.b,c.pb)] :=by simp[nH]
   have V:nH (E++ [(c.a,c.pa,c.m)])=nH E++ [(c.a,c.pa)] :=by simp[nH]
   rw[X];rw[V]at Z;refine bE.2 ⟨bE.2 ⟨hn,gU,?_⟩,gU,?_⟩
   ·intro x hx y hy e;have:y=(c.a,c.pa):=by simpa using hy
    exact S (by rw[<-this,<-e];exact hx)
   ·intro x hx y hy e;have:y=(c.b,c.pb):=by simpa using hy
    exact Z (by rw[<-this,<-e];exact hx)
  obtain⟨Q,M⟩:=P4 L _ h J;refine⟨λx hx=> ?_,?_⟩
  ·rcases aO.1 hx with rfl|hx
   {exact⟨g1,U,T⟩};{exact Q x hx}
  ·have e:E++kt (c::L)=E++ [(c.a,c.pa,c.m),(c.b,c.pb,c.m)] ++kt L:=by simp[kt]
   rw[e];exact M
structure mK(many:Int)(L:List ot):Prop where
 m:1<=many/\many<=6
 l:L.length<=9
 c:∀c∈L,(1<=c.m/\c.m<=20)/\oU many c.a c.pa=true/\oU many c.b c.pb=true
 nd:(nH (kt L)).Nodup
theorem uU(h:nO many L=0):mK many L:=by
 unfold nO at h;split at h;{simp at h};{split at h;{simp at h};{obtain⟨Z,Y⟩:=P4 L [] h (by simp[nH]);exact⟨dZ,dZ,Z,by simpa using Y⟩}}
theorem mX {r:Int} (h:oU many r p=true):1<=r/\r<=many/\0<=p/\p<3:=by
 unfold oU at h;simp only[Bool.and_eq_true,decide_eq_true_eq]at h;omega
theorem Sk {x:Int×Int×Int} (h:x∈kt L):∃c∈L,x=(c.a,c.pa,c.m) \/x=(c.b,c.pb,c.m):=by
 unfold kt at h;obtain⟨c,hc,Z⟩:=aT.1 h;exact⟨c,hc,by simpa using Z⟩
theorem mK.ms(h:mK many L)(i p:Nat):1<=pg L i p/\pg L i p<=20:=by
 unfold pg;cases hl:kR (kt L) ((i:Int)+1) (p:Int)with
 |none=>exact⟨ew,ew⟩
 |some m=>
  obtain⟨c,hc,Z⟩:=Sk (HJ hl);have V:=(h.c c hc).1;show 1<=m/\m<=20;rcases Z with Z|Z
  ·injection Z with _ Y
   injection Y with _ X
   rw[X];exact V
  ·injection Z with _ Y
   injection Y with _ X
   rw[X];exact V
theorem mK.tells(h:mK many L)(m:Nat)(Z:Dt (kt L)):Vp (kt L) m (pg L):=⟨λi p _ _=>⟨rfl,h.ms i p⟩,Z⟩
theorem tG(L:List ot)(c d:Nat)(hc:c<L.length):(nG L c).e d=if d=0 then((L[c].a-1).toNat,L[c].pa.toNat)else((L[c].b-1).toNat,L[c].pb.toNat):=by
 unfold nG ot.at;simp only[List.getD_eq_getElem?_getD,List.getElem?_eq_getElem hc,Option.getD_some]
theorem mK.en(h:mK many L)(c d:Nat)(hc:c<L.length):((nG L c).e d).1<many.toNat/\((nG L c).e d).2<3:=by
 rw[tG L c d hc];obtain⟨_,Z,Y⟩:=h.c L[c] (aF hc);have e1:=mX Z;have e2:=mX Y;split;{simp only;omega};{simp only;omega}
theorem E7:∀(L:List ot) (c d:Nat) (hc:c<L.length),d<2->(nH (kt L))[2*c+d]? =μ (if d=0 then(L[c].a,L[c].pa)else(L[c].b,L[c].pb))
 |x::L,0,d,_,hd=>by
  have:d=0 \/d=1:=dZ;rcases this with rfl|rfl<;>rfl
 |x::L,c+1,d,hc,hd=>by
  have e:nH (kt (x::L))=[(x.a,x.pa),(x.b,x.pb)] ++nH (kt L):=by simp[nH,kt]
  rw[e,br (by simp;omega)];have Z:2*(c+1)+d-List.length [(x.a,x.pa),(x.b,x.pb)] =2*c+d:=by simp;omega
  rw[Z];exact E7 L c d (by simpa using hc) hd
theorem Sl {α:Type} {l:List α} (h:l.Nodup) {j:Nat} (hi:i<l.length)(Y:j<l.length)(e:l[i] =l[j]):i=j:=by
 have X:=dA.1 h;rcases Nat.lt_trichotomy i j with Z|Z|Z
 {exact absurd e (X i j hi Y Z)};{exact Z};{exact absurd e.symm (X j i Y hi Z)}
theorem mK.ds(h:mK many L)(c d c' d':Nat)(hc:c<L.length)(hd:d<2)(V:c'<L.length)(M:d'<2)(Z:(nG L c).e d=(nG L c').e d'):c=c'/\d=d':=by
 have k1:=E7 L c d hc hd;have k2:=E7 L c' d' V M;rw[tG L c d hc,tG L c' d' V]at Z;obtain⟨_,S,Q⟩:=h.c L[c] (aF hc);obtain⟨_,b1,b2⟩:=h.c L[c'] (aF V);have e1:=mX S;have e2:=mX Q;have e3:=mX b1;have e4:=mX b2;have J:(if d=0 then(L[c].a,L[c].pa)else(L[c].b,L[c].pb))=(if d'=0 then(L[c'].a,L[c'].pa)else(L[c'].b,L[c'].pb)):=by
  by_cases X:d=0
  ·by_cases Y:d'=0
   ·rw[ai X,ai Y]at Z⊢;injection Z with U T
    rw[show L[c].a=L[c'].a by omega,show L[c].pa=L[c'].pa by omega]
   ·rw[ai X,af Y]at Z⊢;injection Z with U T
    rw[show L[c].a=L[c'].b by omega,show L[c].pa=L[c'].pb by omega]
  ·by_cases Y:d'=0
   ·rw[af X,ai Y]at Z⊢;injection Z with U T
    rw[show L[c].b=L[c'].a by omega,show L[c].pb=L[c'].pa by omega]
   ·rw[af X,af Y]at Z⊢;injection Z with U T
    rw[show L[c].b=L[c'].b by omega,show L[c].pb=L[c'].pb by omega]
 rw[J]at k1;obtain⟨l1,v1⟩:=aK.1 k1;obtain⟨l2,v2⟩:=aK.1 k2;have:=Sl h.nd l1 l2 (v1.trans v2.symm);omega
theorem zV(h:mK many L):j3 (jM many.toNat L) 0 0:=by
 have hm:=h.m;refine⟨by show 1<=many.toNat;omega,by show many.toNat<=6;omega,h.l,λc d hc _=>h.en c d hc,λc d c' d' hc hd Z Y e=>h.ds c d c' d' hc hd Z Y e,λi p _ _=>h.ms i p,λi _=>⟨rfl,rfl⟩,λi hi=> ?_,λ_ _=>⟨Int.le_refl _,Int.le_refl _⟩,λ_ _ _ _=>Nat.zero_le _,λ_ _=>Nat.le_refl _,λi p _ _ _=>qM _ _ p,λ_ _=>⟨Nat.le_refl _,λ_ _=>Nat.zero_le _⟩⟩;have kT:i<many.toNat:=hi;exact zQ dZ (λp _=>h.ms i p)
theorem Row.spare {sz n n':Nat} {xs:List dY} (h:Row w sz (σ (μ ⟨g,0,ν⟩) n' cap) n xs)(j:Nat)(X:j<n*sz):w.frozen? ⟨g,j,ν⟩=false:=by
 rcases h.2 with⟨e,_⟩|⟨g',jn,e,_,Z,_,_,Y⟩
 {simp at e};{simp at e;obtain⟨rfl,rfl,rfl⟩:=e;exact(Y j (Nat.lt_of_lt_of_le X (Nat.mul_le_mul_right sz Z))).2}
def adq(g:Option Nat)(n c:Nat):dY:=match g with|none=>.slice none 0 0|some g=>.slice (some ⟨g,0,none⟩) n c
theorem E6.done {N gI bM:Nat} {v v2:dY} {lo hi:Nat->Nat} (iO:mK many L)(hE:Dt (kt L))(h:E6 w W N gI bM many.toNat (kt L) (pg L) many.toNat L.length L v v2 P lo hi)(hw:0<w.heap.size)(X:Nat->Prop)(hX:∀b,X b->b<w.heap.size):
 ∃y,jF W y (jM many.toNat L)/\y.N=N/\(∀b,y.all many.toNat b->w.heap.size<=b)/\∀b,y.ext b↔X b:=by
 have hm:=iO.m;obtain⟨m,Ru⟩:=gg (many.toNat);have vP:1<=m/\m<=6:=dZ;have Ar:=λc d (hc:c<L.length) (_:d<2)=>iO.en c d hc;rw[Ru]at h Ar⊢;have YX:∃gR tR,v=σ (μ ⟨gR,0,ν⟩) m tR:=by
  rcases h.row.2 with⟨_,e2⟩|⟨g,c,e,_⟩
  {omega};{exact⟨g,c,e⟩}
 obtain⟨gR,tR,rfl⟩:=YX;have hgC:∃gC wz,v2=adq gC L.length wz/\(gC=ν->L.length=0):=by
  rcases h.GG.2 with⟨e,e2⟩|⟨g,c,e,_⟩
  {exact⟨ν,0,e,λ_=>e2⟩};{exact⟨μ g,c,e,λe=>by simp at e⟩}
 obtain⟨gC,wz,rfl,FZ⟩:=hgC;have hex:∀i,∃z:Zt,i<m->z.R=P i/\mA W z (jO ((i:Int)+1) 3 (pg L i))/\(∀b,z.ph b->lo i<=b/\b<hi i)/\∀b,(b<lo i \/(hi i<=b/\b<W.heap.size))->z.fm.no b:=λi=>by
  by_cases V:i<m;{obtain⟨z,Y,Z,S,_,_,h6⟩:=h.XM i V;exact⟨z,λ_=>⟨Y,Z,S,h6⟩⟩};{obtain⟨z,_⟩:=h.XM 0 dZ;exact⟨z,λe=>absurd e V⟩}
 obtain⟨z,A⟩:=Classical.skolem.1 hex;have hhi:∀i,i<m->lo i<=hi i/\hi i<=W.heap.size:=λi V=>by
  obtain⟨_,_,_,_,U,h5,_⟩:=h.XM i V;exact⟨U,h5⟩
 obtain⟨y,hy⟩:∃y:Yt,y={N:=N,gR:=gR,tR:=tR,gI:=gI,yJ:=m,gC:=gC,wz:=wz,bM:=bM,z:=z,iv:=λ_=>σ ν 0 0,ov:=λ_ _=>σ ν 0 0,ext:=X}:=⟨_,rfl⟩
 have u:eh (σ (μ ⟨gR,0,ν⟩) m tR)=μ gR:=rfl;have G:∀g,gC=μ g->eh (adq gC L.length wz)=μ g:=λg e=>by subst e;rfl
 have hat:∀l k,y.at l=μ k->(l=.N/\k=N) \/(l=.R/\k=gR) \/(l=.I/\k=gI) \/(l=.C/\gC=μ k):=λl k e=>by
  rw[hy]at e;cases l with
  |N=>exact .inl ⟨rfl,(Option.some.inj e).symm⟩
  |R=>exact .inr (.inl ⟨rfl,(Option.some.inj e).symm⟩)
  |I=>exact .inr (.inr (.inl ⟨rfl,(Option.some.inj e).symm⟩))
  |C=>exact .inr (.inr (.inr ⟨rfl,e⟩))
  |ib i=>simp[Yt.at,eh]at e
  |on c d=>simp[Yt.at,eh]at e
 have jm:∀k,y.own k->(k=N \/k=gR \/k=gI \/gC=μ k):=λk ⟨l,e⟩=>by
  rcases hat l k e with⟨_,e⟩|⟨_,e⟩|⟨_,e⟩|⟨_,e⟩
  {exact .inl e};{exact .inr (.inl e)};{exact .inr (.inr (.inl e))};{exact .inr (.inr (.inr e))}
 have D:=h.fv gR u;have T:∀k,gC=μ k->w.heap.size<=k/\k≠N/\k≠gI/\k≠bM/\gR≠k:=λk e=>by
  obtain⟨a1,a2,a3,a4,a5⟩:=h.LW k (G k e);exact⟨a1,a2,a3,a4,λe1=>a5 (by rw[<-e1];rfl)⟩
 have Ot:∀k,y.own k->w.heap.size<=k:=λk e=>by
  rcases jm k e with e|e|e|e
  {rw[e];exact h.ne.2.2.2.1};{rw[e];exact D.1};{rw[e];exact h.ne.2.2.2.2.1};{exact(T k e).1}
 have ads:∀k,y.own k->k<W.heap.size:=λk e=>by
  rcases jm k e with e|e|e|e
  {rw[e];exact h.yc};{rw[e];exact h.row.lt gR u};{rw[e];exact h.gi.lt};{exact h.GG.lt k (G k e)}
 have Zf:∀k,y.own k->∀i,i<m->k<lo i \/hi i<=k:=λk e i V=>by
  rcases jm k e with e|e|e|e
  {exact h.out i V k (.inl e)};{exact h.out i V k (.inr (.inr (.inr (.inl (by rw[e];rfl)))))};{exact h.out i V k (.inr (.inl e))};{exact h.out i V k (.inr (.inr (.inr (.inr (G k e)))))}
 have Q:y.z=z:=by rw[hy]
 have M:y.ext=X:=by rw[hy]
 have hwW:=h.nQ.size;refine⟨y,⟨vP.1,vP.2,iO.l,?_,?_,?_,?_,?_,?_,?_,?_,?_,?_,λ_ _ _ _=>Nat.zero_le _,Ar,?_,?_,?_,?_,?_⟩,by rw[hy],?_,λb=>by rw[M]⟩
 ·rw[hy];have e:(Yt.cv {N:=N,gR:=gR,tR:=tR,gI:=gI,yJ:=m,gC:=gC,wz:=wz,bM:=bM,z:=z,iv:=λ_=>σ ν 0 0,ov:=λ_ _=>σ ν 0 0,ext:=X} L.length)=adq gC L.length wz:=by
   rfl
  show iX W N #[σ (μ ⟨gR,0,ν⟩) m tR,σ (μ ⟨gI,0,ν⟩) m m,.map (μ bM),Yt.cv _ L.length] 190;rw[e];exact h.nb
 ·intro j H;have J:j<m:=H;rw[hy];show W.cell? ⟨gR,0+j,ν⟩=μ (π (μ ⟨(z j).R,0,ν⟩))/\W.frozen? ⟨gR,0+j,ν⟩=false;rw[Nat.zero_add,(A j J).1];exact⟨Row.cell h.row j _ (Wd P J),Row.spare h.row j dZ⟩
 ·intro j H;have J:j<m:=H;rw[hy];show W.cell? ⟨gI,0+j,ν⟩=μ (σ ν 0 0)/\W.frozen? ⟨gI,0+j,ν⟩=false;rw[Nat.zero_add];have Y:=h.gi.cell j;have e:(pE m)[j]? =μ (σ ν 0 0):=by
   unfold pE;rw[Array.getElem?_replicate,ai J]
  exact⟨Y.trans e,h.gi.frozen j⟩
 ·intro g hg c hc;have DM:gC=μ g:=by rw[hy]at hg;exact hg
  subst DM;have jX:c<L.length:=hc;intro i V;have iV:Row W 7 (σ (μ ⟨g,0,ν⟩) L.length wz) L.length (uT (L.take L.length)):=h.GG;rw[ct]at iV;refine⟨?_,Row.spare iV (c*7+i) dZ⟩;have Y:=P2 L c i jX V;have Z:[ι .i64 L[c].a,ι κ L[c].pa,ι κ L[c].b,ι κ L[c].pb,.bool false,σ ν 0 0,σ ν 0 0][i]? =μ (C2 (nG L c) (y.ov c) i):=by
   obtain⟨_,a1,a2⟩:=iO.c L[c] (aF jX);have e1:=mX a1;have e2:=mX a2;have f0:=tG L c 0 jX;have f1:=tG L c 1 jX;rw[ai rfl]at f0;rw[af ew]at f1;have q1:(((L[c].a-1).toNat:Nat):Int)+1=L[c].a:=dZ;have q2:((L[c].pa.toNat:Nat):Int)=L[c].pa:=dZ;have q3:(((L[c].b-1).toNat:Nat):Int)+1=L[c].b:=dZ;have q4:((L[c].pb.toNat:Nat):Int)=L[c].pb:=dZ;have:i=0 \/i=1 \/i=2 \/i=3 \/i=4 \/i=5 \/i=6:=dZ;rcases this with rfl|rfl|rfl|rfl|rfl|rfl|rfl
   {show μ _=μ (ι .i64 ((((nG L c).e 0).1:Int)+1));rw[f0,q1]};{show μ _=μ (ι .i64 (((nG L c).e 0).2:Int));rw[f0,q2]};{show μ _=μ (ι .i64 ((((nG L c).e 1).1:Int)+1));rw[f1,q3]};{show μ _=μ (ι .i64 (((nG L c).e 1).2:Int));rw[f1,q4]};{rfl};{rw[hy];rfl};{rw[hy];rfl}
  rw[Z]at Y;exact Row.cell iV _ _ Y
 ·intro c hc;have jX:c<L.length:=hc;rw[hy];show∃g,gC=μ g;cases hg:gC with
  |none=>have:=FZ hg;omega
  |some g=>exact⟨g,rfl⟩
 {exact⟨kt L,by rw[hy];exact h.mp,iO.tells m hE⟩};{intro i V;rw[Q];exact(A i V).2.1};{exact λi _=>⟨rfl,rfl⟩};{intro i _;rw[hy];exact Row.nil _ 3};{intro c d _ _;rw[hy];exact Row.nil _ 1}
 ·intro l l' k e e';rcases hat l k e with⟨Y,Z⟩|⟨Y,Z⟩|⟨Y,Z⟩|⟨Y,Z⟩<;>rcases hat l' k e' with⟨S,U⟩|⟨S,U⟩|⟨S,U⟩|⟨S,U⟩
  {rw[Y,S]};{exact absurd (U.symm.trans Z) D.2.1};{exact absurd (Z.symm.trans U) h.ne.1};{exact absurd Z (T k U).2.1};{exact absurd (Z.symm.trans U) D.2.1};{rw[Y,S]};{exact absurd (Z.symm.trans U) D.2.2.1};{exact absurd Z.symm (T k U).2.2.2.2};{exact absurd (U.symm.trans Z) h.ne.1};{exact absurd (U.symm.trans Z) D.2.2.1};{rw[Y,S]};{exact absurd Z (T k U).2.2.1};{exact absurd U (T k Z).2.1};{exact absurd U.symm (T k Z).2.2.2.2};{exact absurd U (T k Z).2.2.1};{rw[Y,S]}
 ·intro i V b hb;have Zg:i<m:=V;obtain⟨_,_,z3,z4⟩:=A i Zg;rw[Q];have YW:b<lo i \/(hi i<=b/\b<W.heap.size):=by
   rcases hb with e|e|⟨j,H,jt,e⟩
   {have Y:=Zf b e i Zg;have Z:=ads b e;omega};{rw[M]at e;have Y:=hX b e;have Z:=h.lw i Zg;omega}
   ·have J:j<m:=H;rw[Q]at e;have Y:=(A j J).2.2.1 b e;have Z:=hhi j J;rcases Nat.lt_or_gt_of_ne jt with S|S
    {have:=h.sep j i S Zg;omega};{have:=h.sep i j S J;omega}
  exact⟨z4 b YW,λe=>by have:=z3 b (.inl e);omega⟩
 ·intro b hb e;rw[M]at hb;have Y:=hX b hb;have Z:=Ot b e;omega
 ·have QM:y.bM=bM:=by rw[hy]
  rw[QM,M,Q];refine⟨λe=> ?_,λe=> ?_,λi V e=> ?_⟩
  ·rcases jm bM e with e|e|e|e
   {exact h.ne.2.1 e.symm};{exact D.2.2.2 e.symm};{exact h.ne.2.2.1 e.symm};{exact(T bM e).2.2.2.1 rfl}
  {have Y:=hX bM e;have Z:=h.ne.2.2.2.2.2;omega};{have Y:=(A i V).2.2.1 bM e;have Z:=h.out i V bM (.inr (.inr (.inl rfl)));omega}
 ·intro e;have:=Ot 0 e;omega
 ·intro b e;rcases e with e|⟨j,H,e⟩
  {exact Ot b e};{rw[Q]at e;have Y:=(A j H).2.2.1 b e;have Z:=h.lw j H;omega}
theorem adt(W:dX):(gW 75 (ι κ 1) (ι κ 1)).run eY W=.ok (σ (μ ⟨W.heap.size,0,ν⟩) 1 1) (W.alloc (γ (pE 1) 53)):=gS
theorem adu(W:dX):(gW 75 (ι κ 2) (ι κ 2)).run eY W=.ok (σ (μ ⟨W.heap.size,0,ν⟩) 2 2) (W.alloc (γ (pE 2) 53)):=gS
theorem adv(W:dX):(gW 75 (ι κ 3) (ι κ 3)).run eY W=.ok (σ (μ ⟨W.heap.size,0,ν⟩) 3 3) (W.alloc (γ (pE 3) 53)):=gS
theorem adw(W:dX):(gW 75 (ι κ 4) (ι κ 4)).run eY W=.ok (σ (μ ⟨W.heap.size,0,ν⟩) 4 4) (W.alloc (γ (pE 4) 53)):=gS
theorem adx(W:dX):(gW 75 (ι κ 5) (ι κ 5)).run eY W=.ok (σ (μ ⟨W.heap.size,0,ν⟩) 5 5) (W.alloc (γ (pE 5) 53)):=gS
theorem ady(W:dX):(gW 75 (ι κ 6) (ι κ 6)).run eY W=.ok (σ (μ ⟨W.heap.size,0,ν⟩) 6 6) (W.alloc (γ (pE 6) 53)):=gS
theorem ag0(p:Nat)(hp:1<=p/\p<=6)(W:dX):(gW 75 (ι κ (p:Int)) (ι κ (p:Int))).run eY W=.ok (σ (μ ⟨W.heap.size,0,ν⟩) p p) (W.alloc (γ (pE p) 53)):=by
 have:p=1 \/p=2 \/p=3 \/p=4 \/p=5 \/p=6:=dZ;rcases this with rfl|rfl|rfl|rfl|rfl|rfl
 {exact adt W};{exact adu W};{exact adv W};{exact adw W};{exact adx W};{exact ady W}
theorem Zh:(eY.info? 26).map (λi=>(i.zero,i.size,i.bytes))=μ (μ (π ν),1,8):=gS
theorem Sm:(eY.info? 197).map (λi=>(i.zero,i.size,i.bytes))=μ (μ (.agg #[ι κ 0,ι κ 0,ι κ 0,ι κ 0,.bool false,σ ν 0 0,σ ν 0 0]),7,88):=gS
theorem Zi:(eY.info? 81).map (·.size)=μ 5:=gS
theorem Zj(p:Option Addr):∀u∈ [Value.pointer p],u.oneCell'=true:=by simp[Value.oneCell']
theorem LX(w:dX)(c:ot)(C:Array dY)(t:TypeId)(g:Nat)(Z:w.heap.size=g)(hC:C.toList=uT [c] :=by rfl):∀(j:Nat) (u:dY),(uT [c])[j]? =μ u->(w.alloc (γ C t)).cell? ((⟨g,0,ν⟩:Addr).add j)=μ u:=by
 subst Z;intro j u Y;rw[add_plain,aq,<-Y,<-hC];simp
def Sn(w:dX)(many:Int)(L:List ot)(X:Nat->Prop)(e:Ending)(w':dX):Prop:=
 (nO many L≠0->e=ρ (τ #[π ν,ji (nO many L)]))/\(nO many L=0->∃y,e=ρ (τ #[π (μ ⟨y.N,0,ν⟩),η])/\jF w' y (jM many.toNat L)/\(∀b,y.all many.toNat b->w.heap.size<=b)/\∀b,y.ext b↔X b)/\eB w w'
theorem P5(many:Int)(a:Option Addr)(cap:Nat)(L:List ot)(w:dX)(hL:zT w a L)(hl:L.length<=1000)(hT:jf w)(X:Nat->Prop)(hX:∀b,X b->b<w.heap.size):
 eX eY 36 #[ι κ many,σ a L.length cap] w λe w'=>Sn w many L X e w':=by
 have hm:=ye many a cap L w hL hl;by_cases h0:nO many L=0
 ·have iO:=uU h0;have hm6:=iO.m;obtain⟨m,Ru⟩:∃m:Nat,many=(m:Int):=⟨many.toNat,dZ⟩
  subst Ru;have Js:((m:Int)).toNat=m:=Int.toNat_natCast m;have CT:eX eY 95 #[ι κ (m:Int),σ a L.length cap] w λe w'=>∃b,e=ρ (τ #[.map (μ b),η])/\oE w' b (kt L)/\Dt (kt L)/\w.heap.size<=b/\eB w w':=by
   refine hm.mono ?_;rintro e w1 ⟨_,h2,hb⟩;obtain⟨b,h3,h4,h5,h6⟩:=h2 h0;exact⟨b,h3,h4,h5,h6,hb⟩
  have HL:Hid _:=hL;have Vu:Hid _:=iO;have HT:Hid _:=hT;have H00:Hid _:=h0;obtain⟨i1,vm,alQ,alR,alS⟩:=aW Zh;obtain⟨i2,QW,alT,alU,alV⟩:=aW Sm;obtain⟨n,hn⟩:=gg (L.length);have HN:Hid _:=hn;have hl9:=iO.l;rw[hn]at CT hl9⊢;have vP:1<=m:=dZ;have hm6:m<=6:=dZ;have hmk:=ag0 m ⟨vP,hm6⟩;clear hm hL iO hT hl h0 hn
  go_in
  go_wp2_with(fail);refine CT.mono ?_;rintro e w1 ⟨bM,rfl,hE,hEO,hbM,kE⟩;have HE:Hid _:=hE;have HEO:Hid _:=hEO;have Dn:Hid _:=kE;clear CT hE hEO kE;go_wp2_with(fail);have Ga:(w1.alloc (γ (pE m) 53)).heap.size=w1.heap.size+1:=gU;obtain⟨W2,nr⟩:=gg ((w1.alloc (γ (pE m) 53)).alloc (γ #[σ ν 0 0,σ (μ ⟨w1.heap.size,0,ν⟩) m m,.map (μ bM),σ ν 0 0] 190));have Jo:eB w1 W2:=by rw[<-nr];exact(gT _ _).alloc gU _
  have Lu:E6 w W2 (w1.heap.size+1) w1.heap.size bM m (kt L) (pg L) 0 0 L (σ ν 0 0) (σ ν 0 0) (λ_=>0) (λ_=>0) (λ_=>0):=by
   have DQ:=Dn.out.size;have pW:bM<w1.heap.size:=by
    obtain⟨es,clock,h1,_⟩:=HE.out;exact(ax.1 h1).1
   refine⟨gh Dn.out Jo,?_,?_,oE.keep HE.out (Jo.block bM pW),Row.nil _ _,Row.nil _ _,⟨dZ,dZ,dZ,dZ,dZ,hbM⟩,λk e=>by simp[eh]at e,λk e=>by simp[eh]at e,λi hi=>dZ,λi hi=>dZ,λi k _ hk=>dZ,λi hi=>dZ⟩
   ·have h1:iX W2 ((w1.alloc (γ (pE m) 53)).heap.size) #[σ ν 0 0,σ (μ ⟨w1.heap.size,0,ν⟩) m m,.map (μ bM),σ ν 0 0] 190:=by rw[<-nr];exact iX.new _ _ _
    rw[Ga]at h1;exact h1
   ·have h1:iX (w1.alloc (γ (pE m) 53)) w1.heap.size (pE m) 53:=iX.new w1 _ _;rw[<-nr];exact h1.below (gT _ _)
  obtain⟨N,XL⟩:=gg (w1.heap.size+1);obtain⟨gI,hgI⟩:=gg (w1.heap.size);rw[XL,hgI]at Lu;have HM0:Hid _:=Lu;have Uq:Hid _:=nr;have HNe:Hid _:=XL;have HgI:Hid _:=hgI;clear nr Jo Lu XL hgI Ga;rw[Uq.out]
  try rw[HNe.out]
  try rw[HgI.out]
  go_loopw [29] (λx wr=>∃(q:Nat) (v:dY) (P lo hi:Nat->Nat),q<=m/\x=ι κ q/\E6 w wr N gI bM m (kt L) (pg L) q 0 L v (σ ν 0 0) P lo hi) (λx _=>m-(eZ x).toNat)
  case atStart=>exact⟨0,_,_,_,_,Nat.zero_le _,rfl,HM0.out⟩
  case round=>
   obtain⟨q,v,P,lo,hi,hq,rfl,H⟩:=hrel;obtain⟨V,rfl⟩:∃V,V=wr:=⟨_,rfl⟩
   by_cases kA:q<m
   ·have nL:(q:Int)<(m:Int):=dZ;have Uy:IntKind.i64.wrap ((q:Int)+1)=(q:Int)+1:=aS _ ⟨dZ,dZ⟩;have Pf:=yb N bM q (kt L) (pg L q) V (H.nb.cell 2) H.mp HEO.out dZ (λp _=>⟨rfl,Vu.out.ms q p⟩) (jf.below (w:=w) HT.out H.nQ) (λb=>b<V.heap.size) (λb e=>e);have HM:Hid _:=H;clear H;go_wp2_with(fail);refine Pf.mono ?_;rintro e w3 ⟨z,rfl,mZ,sg,PZ,hz4,hz5,hz6⟩;have u:=HM.out.below sg;have c0:w3.cell? ⟨N,0,ν⟩=μ v:=u.nb.cell 0;have Nl:=u.yc;have iV:=u.row;have HZ:Hid (mA w3 z (jO ((q:Int)+1) 3 (pg L q))/\eB V w3/\(∀b,z.ph b->V.heap.size<=b)/\∀b,b<V.heap.size->z.fm.no b):=by
     refine⟨mZ,sg,λb hb=> ?_,hz6⟩;rcases hb with e|e|e
     {exact PZ b e};{rw[e];exact hz4};{exact hz5 b e}
    have HM3:Hid _:=u;clear Pf mZ sg PZ hz4 hz5 hz6 u;go_wp2_with(at_builtin;go_must(refine iG _ rfl (.tmp 46) (.tmp 48) 187 rfl 26 i1 (π ν) 1 8 underlying187 vm alQ alR alS rfl ew v q (wK P q) rfl (iV.alloc _) _ 1 1 [π (μ ⟨z.R,0,ν⟩)] rfl rfl ew (qF _ _ _) (Zj _) (by unfold maxLen;omega) dZ ?_));intro g' jn w4 hr4 hg4 Yp;have hNv:v.ownBlock≠μ N:=λe=>(HM3.out.fv N e).2.1 rfl;have MG:iX w4 N #[v,σ (μ ⟨gI,0,ν⟩) m m,.map (μ bM),σ ν 0 0] 190:=HM3.out.nb.keep ((hg4.block N (by simp;have:=HM3.out.yc;omega) (λe=>hNv e.symm)).trans (aU _ _ _ HM3.out.yc));have c4:w4.cell? ⟨N,0,ν⟩=μ v:=MG.cell 0;have f4:=MG.frozen 0;have l4:=MG.lt;have HAdd:Hid (E6 w (w4.setCell ⟨N,0,ν⟩ (σ (μ ⟨g',0,ν⟩) (q+1) jn)) N gI bM m (kt L) (pg L) (q+1) 0 L (σ (μ ⟨g',0,ν⟩) (q+1) jn) (σ ν 0 0) (jU P q z.R) (jU lo q V.heap.size) (jU hi q w3.heap.size)):=by
     obtain⟨a1,a2,a3,a4⟩:=HZ.out;refine E6.EH HM.out a1 a2 a3 a4 hr4 hg4 (λk hk=> ?_);have zf:g'=k:=by simpa[eh]using hk
     subst zf;rcases Yp with e|e
     {exact .inl e};{right;have:(w3.alloc (γ #[π (μ ⟨z.R,0,ν⟩)] 26)).heap.size=w3.heap.size+1:=gU;omega}
    clear hr4 hg4 Yp MG hNv iV c0 Nl
    go_wp2
    go_roundw
    case rel=>exact⟨q+1,_,_,_,_,dZ,by go_num,HAdd.out⟩
    case measure=>simp[eZ];omega
   ·have xL:¬(q:Int)<(m:Int):=dZ;obtain rfl:q=m:=dZ;have HMq:Hid _:=H;clear H
    go_wp2
    go_loopw [55] (λx wr=>∃(j:Nat) (v2:dY),j<=n/\x=ι κ j/\E6 w wr N gI bM q (kt L) (pg L) q j L v v2 P lo hi) (λx _=>n-(eZ x).toNat)
    case atStart=>exact⟨0,_,Nat.zero_le _,rfl,HMq.out⟩
    case round=>
    obtain⟨j,v2,hj,rfl,H⟩:=hrel;obtain⟨A,rfl⟩:∃A,A=wr:=⟨_,rfl⟩
    by_cases hjl:j<n
    ·have alz:(j:Int)<(n:Int):=dZ;have yG:(0:Int)<=(j:Int):=dZ;have hjL:j<L.length:=by rw[HN.out];exact hjl
     obtain⟨b,off,rfl,k0,k1,k2,k3,k4⟩:=zT.below (w:=w) HL.out H.nQ j hjL;have bl:=ag _ _ k0;have YH:Hid (L.take (j+1)=L.take j++ [L[j]]):=by
      show _=_;rw[aA hjL]
     generalize L[j] =c at k0 k1 k2 k3 k4 YH;obtain⟨ca,T,U,Q,cm⟩:=c;have kE:=gT A (γ #[ι κ ca,ι κ T,ι κ U,ι κ Q,ι κ cm] 81);have Oo:iX (A.alloc (γ #[ι κ ca,ι κ T,ι κ U,ι κ Q,ι κ cm] 81)) A.heap.size #[ι κ ca,ι κ T,ι κ U,ι κ Q,ι κ cm] 81:=iX.new A _ _;obtain⟨W1,j6⟩:=gg (A.alloc (γ #[ι κ ca,ι κ T,ι κ U,ι κ Q,ι κ cm] 81));obtain⟨Y,hY⟩:=gg (A.heap.size);have hMW:=H.below kE;have HYo:Hid (v2.ownBlock≠μ Y):=λe=>by have:=H.GG.lt Y e;omega
     have HYN:Hid (Y≠N):=λe=>by have:=H.yc;omega
     rw[j6]at Oo hMW;rw[hY]at Oo;have HM:Hid _:=hMW;have hV0:iX W1.drew Y #[ι κ ca,ι κ T,ι κ U,ι κ Q,ι κ cm] 81:=Oo.drew;have c3a:W1.drew.cell? ⟨N,3,ν⟩=μ v2:=hMW.nb.cell 3;have Nl0:N<W1.drew.heap.size:=hMW.yc;have kd:∀D:dX,iX D Y #[ι κ ca,ι κ T,ι κ U,ι κ Q,ι κ cm] 81->(fO 81 (π (μ ⟨Y,0,ν⟩))).run eY D=.ok (.agg #[ι κ ca,ι κ T,ι κ U,ι κ Q,ι κ cm]) D:=λD hS=>by
      simp only[fO,Instr.sureAddr,Sem.run_bind,Sem.run_pure,Result.andThen];exact bS D Y 81 81 _ (0,0) _ hS underlying81 rfl Zi
     have zU:=E4 ca T U Q cm W1.drew;have Kd:Hid _:=j6;have HY:Hid _:=hY;clear H hMW kE Oo j6 hY;go_wp2_with(fail);rw[Kd.out]
     try rw[HY.out]
     refine cA (S:=λx=>iX x Y #[ι κ ca,ι κ T,ι κ U,ι κ Q,ι κ cm] 81) gS hV0 (λlF=> ?_);refine jo 0 (μ 59) rfl rfl gS gS gS (λ_ _ _ h=>h) (by rfl) (v:= ?_) ?_ je ?_
     rotate_left
     ·intro D J
      (try dsimp only at J)
      go_simp
      try with_reducible rfl
     simp only[gw,gA,gD,gE];refine jo 1 (μ 60) rfl rfl gS gS gS (λ_ _ _ h=>h) (by rfl) (v:= ?_) ?_ je ?_
     rotate_left
     ·intro D J
      (try dsimp only at J)
      go_simp
      try with_reducible rfl
     simp only[gw,gA,gD,gE];refine jo 2 (μ 61) rfl rfl gS gS gS (λ_ _ _ h=>h) (by rfl) (v:= ?_) ?_ je ?_
     rotate_left
     ·intro D J
      (try dsimp only at J)
      go_simp
      try with_reducible rfl
     simp only[gw,gA,gD,gE];refine jo 3 (μ 62) rfl rfl gS gS gS (λ_ _ _ h=>h) (by rfl) (v:= ?_) ?_ je ?_
     rotate_left
     ·intro D J
      (try dsimp only at J)
      go_simp
      try with_reducible rfl
     simp only[gw,gA,gD,gE];refine jo 5 (μ 64) rfl rfl gS gS gS (λ_ _ _ h=>h) (by rfl) (v:=.agg #[ι κ ca,ι κ T,ι κ U,ι κ Q,ι κ cm]) ?_ je ?_;{intro D J;have h7:=kd D J;simp[execOp,Act.eval,h7]};simp only[gw,gA,gD,gE];refine aQ (rs:=[4,6]) gS gU ?_;refine aG (o:=_) rfl (λK Z=> ?_) (aG (o:=_) rfl (λK Z=> ?_) aN)
     focus
      go_simp
      (try go_wp2_with(fail))
      refine Z.out _ _ (by exact hV0) (λlF=> ?_);clear Z K;refine aQ (rs:=[6]) gS gU ?_;refine aG (o:=_) rfl (λK Z=> ?_) aN
      go_simp
      refine zU.mono ?_;rintro e w1 ⟨rfl,be⟩;have qU:=HM.out.below (gh (iZ _) be);have M:=hV0.below be;have c3b:w1.cell? ⟨N,3,ν⟩=μ v2:=qU.nb.cell 3;have Nl1:=qU.yc
      (try go_wp2_with(fail))
      refine Z.out _ _ (by exact M) (λlF=> ?_);clear Z K;refine jo 7 (μ 66) rfl rfl gS gS gS (λ_ _ _ h=>h) (by rfl) (v:= ?_) ?_ je ?_
      rotate_left
      ·intro D J
       (try dsimp only at J)
       go_simp
       try with_reducible rfl
      simp only[gw,gA,gD,gE];refine aQ (rs:=[8]) gS gU ?_;refine aG (o:=_) rfl (λK Z=> ?_) aN
      go_simp
      have RW:=iX.below M (gT w1 (γ #[ι κ ca,ι κ T,ι κ U,ι κ Q,.bool false,σ ν 0 0,σ ν 0 0] 197));have G:=qU.below (gT w1 (γ #[ι κ ca,ι κ T,ι κ U,ι κ Q,.bool false,σ ν 0 0,σ ν 0 0] 197));have c3c:(w1.alloc (γ #[ι κ ca,ι κ T,ι κ U,ι κ Q,.bool false,σ ν 0 0,σ ν 0 0] 197)).cell? ⟨N,3,ν⟩=μ v2:=G.nb.cell 3;have Nl2:=G.yc
      (try go_wp2_with(fail))
      refine Z.out _ _ (by exact RW) (λlF=> ?_);clear Z K
     rotate_left
     focus
      go_simp
      refine zU.mono ?_;rintro e w1 ⟨rfl,be⟩;have qU:=HM.out.below (gh (iZ _) be);have M:=hV0.below be;have c3b:w1.cell? ⟨N,3,ν⟩=μ v2:=qU.nb.cell 3;have Nl1:=qU.yc
      (try go_wp2_with(fail))
      refine Z.out _ _ (by exact M) (λlF=> ?_);clear Z K;refine jo 7 (μ 66) rfl rfl gS gS gS (λ_ _ _ h=>h) (by rfl) (v:= ?_) ?_ je ?_
      rotate_left
      ·intro D J
       (try dsimp only at J)
       go_simp
       try with_reducible rfl
      simp only[gw,gA,gD,gE];refine aQ (rs:=[4,8]) gS gU ?_;refine aG (o:=_) rfl (λK Z=> ?_) (aG (o:=_) rfl (λK Z=> ?_) aN)
      focus
       go_simp
       (try go_wp2_with(fail))
       refine Z.out _ _ (by exact M) (λlF=> ?_);clear Z K;refine aQ (rs:=[8]) gS gU ?_;refine aG (o:=_) rfl (λK Z=> ?_) aN
       go_simp
       have RW:=iX.below M (gT w1 (γ #[ι κ ca,ι κ T,ι κ U,ι κ Q,.bool false,σ ν 0 0,σ ν 0 0] 197));have G:=qU.below (gT w1 (γ #[ι κ ca,ι κ T,ι κ U,ι κ Q,.bool false,σ ν 0 0,σ ν 0 0] 197));have c3c:(w1.alloc (γ #[ι κ ca,ι κ T,ι κ U,ι κ Q,.bool false,σ ν 0 0,σ ν 0 0] 197)).cell? ⟨N,3,ν⟩=μ v2:=G.nb.cell 3;have Nl2:=G.yc
       (try go_wp2_with(fail))
       refine Z.out _ _ (by exact RW) (λlF=> ?_);clear Z K
      rotate_left
      go_simp
      have RW:=iX.below M (gT w1 (γ #[ι κ ca,ι κ T,ι κ U,ι κ Q,.bool false,σ ν 0 0,σ ν 0 0] 197));have G:=qU.below (gT w1 (γ #[ι κ ca,ι κ T,ι κ U,ι κ Q,.bool false,σ ν 0 0,σ ν 0 0] 197));have c3c:(w1.alloc (γ #[ι κ ca,ι κ T,ι κ U,ι κ Q,.bool false,σ ν 0 0,σ ν 0 0] 197)).cell? ⟨N,3,ν⟩=μ v2:=G.nb.cell 3;have Nl2:=G.yc
      (try go_wp2_with(fail))
      refine Z.out _ _ (by exact RW) (λlF=> ?_);clear Z K;refine aQ (rs:=[4]) gS gU ?_;refine aG (o:=_) rfl (λK Z=> ?_) aN
      go_simp
      (try go_wp2_with(fail))
      refine Z.out _ _ (by exact RW) (λlF=> ?_);clear Z K
     all_goals
      refine aQ (rs:=[9]) gS gU ?_;refine aG (o:=_) rfl (λK Z=> ?_) aN;refine lV (by rfl) (.tmp 63) (.tmp 67) 188 (by rfl) 197 i2 (.agg #[ι κ 0,ι κ 0,ι κ 0,ι κ 0,.bool false,σ ν 0 0,σ ν 0 0]) 7 88 underlying188 QW alT alU alV (by rfl) ew v2 j (uT (L.take j)) (by rfl) G.GG _ 1 1 (uT [⟨ca,T,U,Q,cm⟩]) (by rfl) (by rfl) ew (LX _ _ _ _ _ rfl) (Wc _) (by unfold maxLen;omega) dZ ?_;intro g' jn x1 k8 kD jE;have Da:iX x1 N _ 190:=G.nb.keep (kD.block N G.yc (λe=>(G.LW N e.symm).2.1 rfl));have hV3:iX x1 Y _ 81:=RW.keep (kD.block Y RW.lt (λe=>HYo.out e.symm));have c3d:x1.cell? ⟨N,3,ν⟩=μ v2:=Da.cell 3;have f3d:=Da.frozen 3;have Nl3:=Da.lt;refine Z.out _ _ (by exact hV3) (λlF=> ?_);clear Z K;refine jo 10 (μ 69) rfl rfl gS gS gS (λ_ _ _ h=>h) (by rfl) (v:= ?_) ?_ je ?_
      rotate_left
      ·intro D J
       (try dsimp only at J)
       go_simp
       try with_reducible rfl
      simp only[gw,gA];refine jo 11 (μ 70) rfl rfl gS gS gS (λ_ _ _ h=>h) (by rfl) (v:= ?_) ?_ je ?_
      rotate_left
      ·intro D J
       (try dsimp only at J)
       go_simp
       try with_reducible rfl
      simp only[gw];refine aQ (rs:=[12]) gS gU ?_;refine aG (o:=_) rfl (λK Z=> ?_) aN
      go_simp
      (try go_wp2_with(fail))
      refine Z.out _ _ (by exact hV3.other HYN.out _) (λlF=> ?_);clear Z K;refine cS gS ?_ _;have HAdd:Hid _:=E6.PO G (c:=⟨ca,T,U,Q,cm⟩) YH.out k8 kD (λk hk=>by
       have zf:g'=k:=by simpa[eh]using hk
       subst zf;exact jE)
      clear k8 kD jE Da hV3 c3d f3d Nl3 qU G M RW
      go_wp2
      go_roundw
      case rel=>exact⟨j+1,_,dZ,by go_num,HAdd.out⟩
      case measure=>simp[eZ];omega
    ·have agI:¬(j:Int)<(n:Int):=dZ;obtain rfl:j=n:=dZ;have ui:∃y,jF A y (jM ((q:Int)).toNat L)/\y.N=N/\(∀b,y.all ((q:Int)).toNat b->w.heap.size<=b)/\∀b,y.ext b↔X b:=by
      have G:E6 w A N gI bM ((q:Int)).toNat (kt L) (pg L) ((q:Int)).toNat L.length L v v2 P lo hi:=by
       rw[Js,HN.out];exact H
      exact E6.done (w:=w) (many:=(q:Int)) Vu.out HEO.out G (jf.lt (w:=w) HT.out) X hX
     have HF:Hid (Sn w (q:Int) L X (ρ (τ #[π (μ ⟨N,0,ν⟩),η])) A):=by
      obtain⟨y,y1,y2,y3,y4⟩:=ui;exact⟨λe=>absurd H00.out e,λ_=>⟨y,by rw[y2],y1,y3,y4⟩,H.nQ⟩
     clear H ui
     go_wp2
     go_ret2
     exact HF.out
 ·have CT:eX eY 95 #[ι κ many,σ a L.length cap] w λe w'=>e=ρ (τ #[.map ν,ji (nO many L)])/\eB w w':=by
   refine hm.mono ?_;rintro e w1 ⟨h1,_,hb⟩;exact⟨h1 h0,hb⟩
  have ee:ji (nO many L)=.iface 128 (ι κ ((nO many L:Nat):Int)):=by simp only[ji];rw[af h0]
  have HE:Hid _:=ee;have H0:Hid _:=h0;rw[ee]at CT;generalize L.length=n at CT⊢;clear hm hL hT ee h0
  go_in
  go_wp2_with(fail);refine CT.mono ?_;rintro e w1 ⟨rfl,hb⟩;have HB:Hid _:=hb;clear CT hb
  go_wp2
  go_ret2
  exact⟨λ_=>by rw[HE.out];rfl,λe=>absurd e H0.out,HB.out⟩
def rB(y:iM)(v:AV):iM:=
 if(v.kind.toList==[112,108,117,103])=true then(y.iH v.a (v.b==1)).1
 else if(v.kind.toList==[116,105,99,107])=true then(y.tick v.a).1
 else if(v.kind.toList==[100,101,108,105,118,101,114])=true then(y.deliver v.a v.b v.c).1
 else if(v.kind.toList==[114,101,115,116,97,114,116])=true then(y.restart v.a).1
 else if(v.kind.toList==[115,101,110,100])=true then(y.send v.a v.b v.s.data.toList).1
 else if(v.kind.toList==[114,111,117,110,100])=true then y.round
 else y
theorem Ig(y:iM)(i:Int)(up:Bool):(y.iH i up).1.n=y.n/\(y.iH i up).1.nc=y.nc/\(y.iH i up).1.ms=y.ms/\∀x,((y.iH i up).1.C x).e=(y.C x).e:=by
 unfold iM.iH;split;{exact⟨rfl,rfl,rfl,λ_=>rfl⟩};{split;{exact⟨rfl,rfl,rfl,λ_=>rfl⟩};{obtain⟨g1,Z,Y,X⟩:=lQ (y.jZ i.toNat up);obtain⟨V,U,p3,_,T⟩:=pD y i.toNat up;exact⟨g1.trans V,Z.trans U,Y.trans p3,λx=>(X x).1.trans (T x).1⟩}}
theorem JB(y:iM)(i:Int):(y.restart i).1.n=y.n/\(y.restart i).1.nc=y.nc/\(y.restart i).1.ms=y.ms/\∀x,((y.restart i).1.C x).e=(y.C x).e:=by
 unfold iM.restart;split;{exact⟨rfl,rfl,rfl,λ_=>rfl⟩};{obtain⟨Z,Y,X,_,V⟩:=nj false (y.lA (i-1).toNat) y;obtain⟨b1,b2,b3,_,b5⟩:=nj true (y.lA (i-1).toNat) ((y.jL false (y.lA (i-1).toNat)).jB (i-1).toNat (jO i 3 (y.ms (i-1).toNat)));obtain⟨g1,U,T,S⟩:=lQ (((y.jL false (y.lA (i-1).toNat)).jB (i-1).toNat (jO i 3 (y.ms (i-1).toNat))).jL true (y.lA (i-1).toNat));exact⟨g1.trans (b1.trans Z),U.trans (b2.trans Y),T.trans (b3.trans X),λx=>(S x).1.trans ((b5 x).trans (V x))⟩}
theorem Sr(y:iM)(f t:Int)(tx:List UInt8):(y.send f t tx).1.n=y.n/\(y.send f t tx).1.nc=y.nc/\(y.send f t tx).1.ms=y.ms/\∀x,((y.send f t tx).1.C x).e=(y.C x).e:=by
 unfold iM.send;split;{exact⟨rfl,rfl,rfl,λ_=>rfl⟩};{split;{exact⟨rfl,rfl,rfl,λ_=>rfl⟩};{obtain⟨g1,Z,Y,X⟩:=lQ (y.jB (f-1).toNat (kf (y.R (f-1).toNat) t tx).1);exact⟨g1,Z,Y,λx=>(X x).1⟩}}
theorem Ss(y:iM)(v:AV):(rB y v).n=y.n/\(rB y v).nc=y.nc/\(rB y v).ms=y.ms/\∀x,((rB y v).C x).e=(y.C x).e:=by
 unfold rB;split;{exact Ig _ _ _};{split;{obtain⟨a,b,c,d⟩:=Ic y v.a;exact⟨a,b,c,λx=>(d x).1⟩};{split;{obtain⟨a,b,c,d⟩:=m8 y v.a v.b v.c;exact⟨a,b,c,λx=>(d x).1⟩};{split;{exact JB _ _};{split;{exact Sr _ _ _ _};{split;{obtain⟨a,b,c,d⟩:=kI y;exact⟨a,b,c,λx=>(d x).1⟩};{exact⟨rfl,rfl,rfl,λ_=>rfl⟩}}}}}}
theorem j3.act {y:iM} {D:Nat} (h:j3 y D 0)(Z:D<=800000000)(v:AV):j3 (rB y v) (D+1300000) 0:=by
 unfold rB;split;{exact(h.iH dZ _ _).mono dZ (Nat.le_refl _)};{split;{exact(h.tick dZ _).mono dZ (Nat.le_refl _)};{split;{exact(h.deliver dZ _ _ _).mono dZ (Nat.le_refl _)};{split;{exact(h.restart dZ _).mono dZ (Nat.le_refl _)};{split;{exact(h.send dZ _ _ _).mono dZ (Nat.le_refl _)};{split;{exact h.round Z};{exact h.mono dZ (Nat.le_refl _)}}}}}}
theorem jF.from {n':iM} {f:FuncId} {args:Array dY} {ev:dY} (hb:eB w W)(hc:eX eY f args W λe w'=>e=ρ ev/\iF W w' y n' n.n):eX eY f args W λe w'=>(∃v,e=ρ v)/\iF w w' y n' n.n:=by
 refine hc.mono ?_;rintro e w' ⟨rfl,Z⟩;exact⟨⟨_,rfl⟩,iF.first hb Z⟩
theorem Df(y:Yt)(n:iM)(D:Nat)(v:AV)(w:dX)(h:jF w y n)(hT:jf w)(iO:j3 n D 0)(hD:D<=800000000):
 eX eY 59 #[π (μ ⟨y.N,0,ν⟩),.agg #[.string v.kind,ι κ v.a,ι κ v.b,ι κ v.c,ι κ v.d,.string v.s,ι κ v.Pb,ι κ v.pid,σ v.po v.pn v.D5,ι κ v.x.own,ι κ v.x.seq,σ v.x.a v.x.n v.x.cap]] w λe w'=>e=ρ (τ #[])/\iF w w' y (rB n v) n.n:=by
 obtain⟨Z,T,M,vc,vd,vs,J,H,A,XA,BV,⟨xo,xq,xa,xn,xc⟩⟩:=v;have hb:=gT w (γ #[.string Z,ι κ T,ι κ M,ι κ vc,ι κ vd,.string vs,ι κ J,ι κ H,σ A XA BV,ι κ xo,ι κ xq,σ xa xn xc] 42);have u:iX (w.alloc (γ #[.string Z,ι κ T,ι κ M,ι κ vc,ι κ vd,.string vs,ι κ J,ι κ H,σ A XA BV,ι κ xo,ι κ xq,σ xa xn xc] 42)) w.heap.size #[.string Z,ι κ T,ι κ M,ι κ vc,ι κ vd,.string vs,ι κ J,ι κ H,σ A XA BV,ι κ xo,ι κ xq,σ xa xn xc] 42:=iX.new w _ _;obtain⟨S,nX⟩:=gg (w.alloc (γ #[.string Z,ι κ T,ι κ M,ι κ vc,ι κ vd,.string vs,ι κ J,ι κ H,σ A XA BV,ι κ xo,ι κ xq,σ xa xn xc] 42));obtain⟨X,hX⟩:=gg (w.heap.size);rw[nX]at hb u;rw[hX]at u;have R0:=h.below hb;have T0:jf S:=jf.below (w:=w) hT hb;have c0:S.cell? ⟨X,0,ν⟩=μ (.string Z):=u.cell 0;have c1:S.cell? ⟨X,1,ν⟩=μ (ι κ T):=u.cell 1;have c2:S.cell? ⟨X,2,ν⟩=μ (ι κ M):=u.cell 2;have c3:S.cell? ⟨X,3,ν⟩=μ (ι κ vc):=u.cell 3;have c5:S.cell? ⟨X,5,ν⟩=μ (.string vs):=u.cell 5;have xl:=u.lt;have Gz:Hid _:=nX;have HX:Hid _:=hX;have q1:=jF.from hb (EY y n D T (M==1) S R0 T0 iO dZ);have q2:=jF.from hb (LJ y n D T S R0 T0 iO dZ);have q3:=jF.from hb (Cm y n D T M vc S R0 T0 iO dZ);have q4:=jF.from hb (LQ y n D T S R0 T0 iO dZ);have q5:=jF.from hb (VY y n D T M vs S R0 iO dZ);have q6:=jF.from hb (Bp y n D S R0 T0 iO hD);have q7:iF w S y n n.n:=iF.still h hb;obtain⟨G,hG⟩:=gg (rB n ⟨Z,T,M,vc,vd,vs,J,H,A,XA,BV,⟨xo,xq,xa,xn,xc⟩⟩)
 rw[hG];have HG:Hid (G=if(Z.toList==[112,108,117,103])=true then(n.iH T (M==1)).1
  else if(Z.toList==[116,105,99,107])=true then(n.tick T).1
  else if(Z.toList==[100,101,108,105,118,101,114])=true then(n.deliver T M vc).1
  else if(Z.toList==[114,101,115,116,97,114,116])=true then(n.restart T).1
  else if(Z.toList==[115,101,110,100])=true then(n.send T M vs.data.toList).1
  else if(Z.toList==[114,111,117,110,100])=true then n.round
  else n):=hG.symm
 clear h hT iO R0 T0 hb u nX hX hG;cases k1:(Z.toList==[112,108,117,103])
 case true=>
  have V:=q1;clear q1 q2 q3 q4 q5 q6 q7;have Y:Hid (∀x,iF w x y _ n.n->iF w x y G n.n):=λx hx=>by
   rw[HG.out,ai k1];exact hx
  go_in
  go_wp2_with(fail)
  try rw[Gz.out]
  try rw[HX.out]
  go_wp2_with(fail);refine V.mono ?_;rintro e w6 ⟨⟨ev,rfl⟩,U⟩;have Q:Hid _:=Y.out _ U;clear V U Y
  go_wp2
  first|go_end0|refine iK rfl rfl ?_
  exact⟨rfl,Q.out⟩
 case false=>
  cases k2:(Z.toList==[116,105,99,107])
  case true=>
   have V:=q2;clear q1 q2 q3 q4 q5 q6 q7;have Y:Hid (∀x,iF w x y _ n.n->iF w x y G n.n):=λx hx=>by
    rw[HG.out,af (by rw[k1];simp),ai k2];exact hx
   go_in
   go_wp2_with(fail)
   try rw[Gz.out]
   try rw[HX.out]
   go_wp2_with(fail);refine V.mono ?_;rintro e w6 ⟨⟨ev,rfl⟩,U⟩;have Q:Hid _:=Y.out _ U;clear V U Y
   go_wp2
   first|go_end0|refine iK rfl rfl ?_
   exact⟨rfl,Q.out⟩
  case false=>
   cases k3:(Z.toList==[100,101,108,105,118,101,114])
   case true=>
    have V:=q3;clear q1 q2 q3 q4 q5 q6 q7;have Y:Hid (∀x,iF w x y _ n.n->iF w x y G n.n):=λx hx=>by
     rw[HG.out,af (by rw[k1];simp),af (by rw[k2];simp),ai k3];exact hx
    go_in
    go_wp2_with(fail)
    try rw[Gz.out]
    try rw[HX.out]
    go_wp2_with(fail);refine V.mono ?_;rintro e w6 ⟨⟨ev,rfl⟩,U⟩;have Q:Hid _:=Y.out _ U;clear V U Y
    go_wp2
    first|go_end0|refine iK rfl rfl ?_
    exact⟨rfl,Q.out⟩
   case false=>
    cases k4:(Z.toList==[114,101,115,116,97,114,116])
    case true=>
     have V:=q4;clear q1 q2 q3 q4 q5 q6 q7;have Y:Hid (∀x,iF w x y _ n.n->iF w x y G n.n):=λx hx=>by
      rw[HG.out,af (by rw[k1];simp),af (by rw[k2];simp),af (by rw[k3];simp),ai k4];exact hx
     go_in
     go_wp2_with(fail)
     try rw[Gz.out]
     try rw[HX.out]
     go_wp2_with(fail);refine V.mono ?_;rintro e w6 ⟨⟨ev,rfl⟩,U⟩;have Q:Hid _:=Y.out _ U;clear V U Y
     go_wp2
     first|go_end0|refine iK rfl rfl ?_
     exact⟨rfl,Q.out⟩
    case false=>
     cases k5:(Z.toList==[115,101,110,100])
     case true=>
      have V:=q5;clear q1 q2 q3 q4 q5 q6 q7;have Y:Hid (∀x,iF w x y _ n.n->iF w x y G n.n):=λx hx=>by
       rw[HG.out,af (by rw[k1];simp),af (by rw[k2];simp),af (by rw[k3];simp),af (by rw[k4];simp),ai k5];exact hx
      go_in
      go_wp2_with(fail)
      try rw[Gz.out]
      try rw[HX.out]
      go_wp2_with(fail);refine V.mono ?_;rintro e w6 ⟨⟨ev,rfl⟩,U⟩;have Q:Hid _:=Y.out _ U;clear V U Y
      go_wp2
      first|go_end0|refine iK rfl rfl ?_
      exact⟨rfl,Q.out⟩
     case false=>
      cases k6:(Z.toList==[114,111,117,110,100])
      case true=>
       have V:=q6;clear q1 q2 q3 q4 q5 q6 q7;have Y:Hid (∀x,iF w x y _ n.n->iF w x y G n.n):=λx hx=>by
        rw[HG.out,af (by rw[k1];simp),af (by rw[k2];simp),af (by rw[k3];simp),af (by rw[k4];simp),af (by rw[k5];simp),ai k6];exact hx
       go_in
       go_wp2_with(fail)
       try rw[Gz.out]
       try rw[HX.out]
       go_wp2_with(fail);refine V.mono ?_;rintro e w6 ⟨⟨ev,rfl⟩,U⟩;have Q:Hid _:=Y.out _ U;clear V U Y
       go_wp2
       first|go_end0|refine iK rfl rfl ?_
       exact⟨rfl,Q.out⟩
      case false=>
       have Q:Hid (iF w S y G n.n):=by
        show iF _ _ _ _ _;rw[HG.out,af (by rw[k1];simp),af (by rw[k2];simp),af (by rw[k3];simp),af (by rw[k4];simp),af (by rw[k5];simp),af (by rw[k6];simp)];exact q7
       clear q1 q2 q3 q4 q5 q6 q7
       go_in
       go_wp2_with(fail)
       try rw[Gz.out]
       try rw[HX.out]
       go_wp2
       first|go_end0|refine iK rfl rfl ?_
       exact⟨rfl,Q.out⟩
open Go.ChangeShapes Go.WideShapes Go.ChangeAt
theorem LY {H:Type} {enc:TypeId×dY->H} {n:Nat} {d:DataW H} {ps:List MemPlace}
 (h:DataW.Trod enc eY W 0 (λ_=>true) true 61 (σ a n cap) d ps):
 ∃L:List ot,zT W a L/\L.length=n/\n<=maxLen:=by
 obtain⟨fuel,hf⟩:=h;rcases cX underlying61 hf with⟨hcs,_⟩|⟨x,len,cp,m',n',D,Pl,hcs,_,hl,hm,J7,_,hx⟩
 ·simp[fF]at hcs;obtain⟨rfl,rfl,rfl⟩:=hcs;exact⟨[],λj X=>by simp at X,rfl,ew⟩
 ·simp[fF]at hcs;obtain⟨rfl,rfl,rfl⟩:=hcs;simp at J7;have ce:(eY).cellsOf 81=5:=gS;rw[ce]at hx;have each:∀i,i<n->∃q:ot,W.cell? (x.add (i*5))=μ (ι κ q.a)/\W.cell? (x.add (i*5+1))=μ (ι κ q.pa)/\W.cell? (x.add (i*5+2))=μ (ι κ q.b)/\W.cell? (x.add (i*5+3))=μ (ι κ q.pb)/\W.cell? (x.add (i*5+4))=μ (ι κ q.m):=by
   intro i hi;obtain⟨cs',h1,h2⟩:=hx i dZ;obtain⟨_,hlen,hcell⟩:=World.cells?_some h1;obtain⟨xs,k,hk,hxy,_,Qs,Z⟩:=da underlying81 h2
   match xs,Qs,cs',hlen with
   |[y0,y1,y2,y3,y4],_,[v0,v1,v2,v3,v4],_=>
    have g0:=Z 0 _ rfl;have g1:=Z 1 _ rfl;have T:=Z 2 _ rfl;have S:=Z 3 _ rfl;have M:=Z 4 _ rfl;have ci:(eY).cellsOf 3=1:=gS;simp[ci]at g0 g1 T S M;obtain⟨i0,f0,_,_⟩:=bg underlying3 g0;obtain⟨i1,f1,_,_⟩:=bg underlying3 g1;obtain⟨i2,f2,_,_⟩:=bg underlying3 T;obtain⟨i3,V,_,_⟩:=bg underlying3 S;obtain⟨i4,U,_,_⟩:=bg underlying3 M;simp at f0 f1 f2 V U;subst f0 f1 f2 V U;have c0:=hcell 0 dZ;have c1:=hcell 1 dZ;have c2:=hcell 2 dZ;have c3:=hcell 3 dZ;have c4:=hcell 4 dZ;rw[Go.Deep.add_add]at c0 c1 c2 c3 c4;exact⟨⟨i0,i1,i2,i3,i4⟩,c0,c1,c2,c3,c4⟩
  obtain⟨Q,J⟩:∃Q:Nat->ot,∀i,i<n->W.cell? (x.add (i*5))=μ (ι κ (Q i).a)/\W.cell? (x.add (i*5+1))=μ (ι κ (Q i).pa)/\W.cell? (x.add (i*5+2))=μ (ι κ (Q i).b)/\W.cell? (x.add (i*5+3))=μ (ι κ (Q i).pb)/\W.cell? (x.add (i*5+4))=μ (ι κ (Q i).m):=by
   refine⟨λi=>if hi:i<n then gX (each i hi)else⟨0,0,0,0,0⟩,λi hi=> ?_⟩;show W.cell? _=μ (ι κ (if hi:i<n then gX (each i hi)else⟨0,0,0,0,0⟩:ot).a)/\W.cell? _=μ (ι κ (if hi:i<n then gX (each i hi)else⟨0,0,0,0,0⟩:ot).pa)/\W.cell? _=μ (ι κ (if hi:i<n then gX (each i hi)else⟨0,0,0,0,0⟩:ot).b)/\W.cell? _=μ (ι κ (if hi:i<n then gX (each i hi)else⟨0,0,0,0,0⟩:ot).pb)/\W.cell? _=μ (ι κ (if hi:i<n then gX (each i hi)else⟨0,0,0,0,0⟩:ot).m);rw[dif_pos hi];exact Classical.choose_spec (each i hi)
  refine⟨(fW n).map Q,λj X=> ?_,gU,dZ⟩;have Kj:j<n:=by simpa using X
  obtain⟨b,off,Y⟩:=x;obtain⟨q0,q1,q2,G,A⟩:=J j Kj;have u:Y=ν:=by simpa[Addr.add]using de (J 0 dZ).1
  subst u;have hg:((fW n).map Q)[j] =Q j:=gU;rw[hg];rw[ng]at q0 q1 q2 G A;exact⟨b,off,rfl,q0,by simpa[Nat.add_assoc]using q1,by simpa[Nat.add_assoc]using q2,by simpa[Nat.add_assoc]using G,by simpa[Nat.add_assoc]using A⟩
