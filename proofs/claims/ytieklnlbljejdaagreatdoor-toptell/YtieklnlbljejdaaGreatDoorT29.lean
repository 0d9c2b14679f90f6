import Derived.Test.YtieklnlbljejdaaGreatDoorT28
namespace Go.Proofs.YtieklnlbljejdaaGreatDoor
open Go.RowKit St
namespace Rt
variable {S:List (Int×List UInt8)} {T:List (Nat×Nat)} {p:jb} {r s:iy} {up:Bool} {y:iB}
abbrev mb:=List UInt8
structure AN where
 n:Nat
 nc:Nat
 e:Nat->Nat->Nat×Nat
 ms:Nat->Nat->Int
 jr:Nat->Bool
 R:Nat->iy
 F:Nat->Nat->List mb
 ib:Nat->List wT
def tu(y:iB)(c d:Nat):List mb:=(j2 (kf y c d) ((y.C c).on d)).1++je ((y.R ((y.C c).e d).1).P ((y.C c).e d).2)
def jh(y:iB):AN:=⟨y.n,y.nc,λc=>(y.C c).e,y.ms,λc=>(y.C c).jr,λi=>(y.R i).core,λc d=>if c<y.nc/\d<2 then tu y c d else [],λi=>y.jM i++(y.R i).jM⟩
def AN.op(a:AN)(i:Nat)(s:iy):AN:=
 {a with R:=jy a.R i s.core,F:=λc d=>if(c<a.nc/\d<2)/\(a.e c d).1=i then a.F c d++je (s.P (a.e c d).2)else a.F c d,ib:=jy a.ib i (a.ib i++s.jM)}
def AN.lM(a:AN)(c d:Nat)(l:List mb):AN:={a with F:=λc' d'=>if c'=c/\d'=d then l else a.F c' d'}
def AN.pop(a:AN)(c d:Nat)(x:mb)(l:List mb):AN:=(a.lM c d l).op (a.e c (1-d)).1 (jT (a.R (a.e c (1-d)).1) (a.e c (1-d)).2 x)
def AN.mI(a:AN)(c d:Nat)(up:Bool):AN:=a.op (a.e c d).1 ((a.R (a.e c d).1).iw (a.e c d).2 up).1
def AN.iw(a:AN)(c:Nat)(up:Bool):AN:=((({a with jr:=jy a.jr c up}:AN).lM c 0 []).lM c 1 []).mI c 0 up|>.mI c 1 up
def wI(a b:AN):Prop:=b={a with F:=b.F} /\∀c d,∃m,b.F c d=(a.F c d).take m
theorem wI.refl(a:AN):wI a a:=⟨rfl,λc d=>⟨(a.F c d).length,gN⟩⟩
theorem wI.trans {a b c:AN} (h:wI a b)(g:wI b c):wI a c:=by
 refine⟨?_,λx d=> ?_⟩
 ·rw[g.1,h.1]
 ·obtain⟨m,Y⟩:=h.2 x d;obtain⟨k,Z⟩:=g.2 x d;exact⟨min k m,by rw[Z,Y,List.take_take]⟩
inductive mc:AN->List (Nat×Nat)->List (Int×List UInt8)->AN->Prop
 |lost {a b:AN}:wI a b->mc a [] [] b
 |tick {a:AN} (i p:Nat):i<a.n->p<3->mc a [(i,p)] [] (a.op i ((a.R i).iV p))
 |pop {a:AN} (c d:Nat) (x:mb) (l:List mb):c<a.nc->d<2->a.F c d=x::l->mc a [] [] (a.pop c d x l)
 |send {a:AN} (i:Nat) (t:Int) (tx:List UInt8):i<a.n->1<=t->t<=6->tx.length<=20->mc a [] [(t,tx)] (a.op i ((a.R i).send (t,8,tx)))
 |iw {a:AN} (c:Nat):c<a.nc->a.jr c=false->a.F c 0=[]->a.F c 1=[]->mc a [a.e c 0,a.e c 1] [] (a.iw c true)
 |draw {a:AN} (c:Nat):c<a.nc->a.jr c=true->mc a [] [] (a.iw c false)
 |anew {a:AN} (i m:Nat):i<a.n->(∀c d,c<a.nc->d<2->(a.e c d).1=i->a.jr c=false/\a.F c 0=[] /\a.F c 1=[])->mc a [] [] {a with R:=jy a.R i (jt ((i:Int)+1) 3 (a.ms i)),ib:=jy a.ib i ((a.ib i).take m)}
inductive jI:AN->List (Nat×Nat)->List (Int×List UInt8)->AN->Prop
 |nil (a:AN):jI a [] [] a
 |snoc {a b c:AN} {T U:List (Nat×Nat)} {S V:List (Int×List UInt8)}:jI a T S b->mc b U V c->jI a (T++U) (S++V) c
theorem jI.one {a b:AN} (h:mc a T S b):jI a T S b:=jI.snoc (jI.nil a) h
theorem jI.trans {a b c:AN} {U:List (Nat×Nat)} {V:List (Int×List UInt8)} (h:jI a T S b)(g:jI b U V c):jI a (T++U) (S++V) c:=by
 induction g with
 |nil=>simpa using h
 |snoc _ s ih=>rw[<-az,<-az];exact ih.snoc s
theorem jI.lost {a b c:AN} {T:List (Nat×Nat)} {S:List (Int×List UInt8)} (h:jI a T S b)(g:wI b c):jI a T S c:=by
 have:=h.snoc (mc.lost g);simpa using this
theorem mc.same {a b:AN} (h:mc a T S b):b.n=a.n/\b.nc=a.nc/\b.e=a.e/\b.ms=a.ms:=by
 cases h with
 |lost h=>rw[h.1];exact⟨rfl,rfl,rfl,rfl⟩
 |_=>exact⟨rfl,rfl,rfl,rfl⟩
theorem jI.same {a b:AN} {T:List (Nat×Nat)} {S:List (Int×List UInt8)} (h:jI a T S b):b.n=a.n/\b.nc=a.nc/\b.e=a.e/\b.ms=a.ms:=by
 induction h with
 |nil=>exact⟨rfl,rfl,rfl,rfl⟩
 |snoc _ s ih=>
  obtain⟨Z,Y,X,V⟩:=s.same;exact⟨Z.trans ih.1,Y.trans ih.2.1,X.trans ih.2.2.1,V.trans ih.2.2.2⟩
theorem AN.ext' {a b:AN} (Z:a.n=b.n)(Y:a.nc=b.nc)(X:a.e=b.e)(V:a.ms=b.ms)(U:a.jr=b.jr)(Q:a.R=b.R)(M:a.F=b.F)(J:a.ib=b.ib):a=b:=by
 cases a;cases b;simp only at*;subst Z Y X V U Q M J;rfl
theorem xQ {o:List UInt8} {ps:List mb} (Y:Frames o ps)(X:∃qs,Frames p.out qs)(rd:jY):je (p.pt rd o)=ps++je p/\∃qs,Frames (p.pt rd o).out qs:=by
 obtain⟨qs,Z⟩:=X;have h:Frames (p.pt rd o).out (ps++qs):=by
  refine⟨?_,λx hx=> ?_⟩
  ·show o++p.out=_;rw[Y.1,Z.1,cF]
  ·rcases aF.1 hx with e|e
   ·exact Y.2 x e
   ·exact Z.2 x e
 exact⟨by rw[mO h,mO Z],_,h⟩
theorem jf(h:p.out=[]):je p=[] :=by unfold je;rw[h];rfl
theorem Fl(h:∃ps,Frames p.out ps):Frames p.out (je p):=by
 obtain⟨ps,Z⟩:=h;rw[mO Z];exact Z
theorem Fm(hF:∀i p,∃ps,Frames ((y.R i).P p).out ps)(i:Nat)(rd:Nat->jY)(X:r=s.pat rd (λp=>((y.R i).P p).out) (y.R i).jM)(U:∀c d,c<y.nc->d<2->((y.C c).e (1-d)).1=i->rd ((y.C c).e (1-d)).2=((y.R i).P ((y.C c).e (1-d)).2).rd \/(y.C c).on d=[])(hs:∀p,∃ps,Frames (s.P p).out ps):jh (y.jg i r)=(jh y).op i s:=by
 have Y:∀j,(y.jg i r).R j=if j=i then r else y.R j:=λj=>rfl
 refine AN.ext' rfl rfl rfl rfl rfl ?_ ?_ ?_
 ·funext j
  show((y.jg i r).R j).core=jy _ i s.core j;rw[Y];by_cases e:j=i
  ·subst e;rw[ag rfl,ij,X,Ir]
  ·rw[ae e,gW _ _ e];rfl
 ·funext c d
  show(if c<y.nc/\d<2 then tu (y.jg i r) c d else [])=if(c<y.nc/\d<2)/\((y.C c).e d).1=i then(if c<y.nc/\d<2 then tu y c d else [])++je (s.P ((y.C c).e d).2)else if c<y.nc/\d<2 then tu y c d else []
  by_cases hc:c<y.nc/\d<2
  ·rw[ag hc,ag hc];have hf:(j2 (kf (y.jg i r) c d) ((y.C c).on d)).1=(j2 (kf y c d) ((y.C c).on d)).1:=by
    have Z:kf (y.jg i r) c d=kf y c d \/(y.C c).on d=[] :=by
     show(((y.jg i r).R ((y.C c).e (1-d)).1).P ((y.C c).e (1-d)).2).rd=_ \/_;rw[Y];by_cases e:((y.C c).e (1-d)).1=i
     ·rw[ag e,X];unfold kf;rw[e];exact U c d hc.1 hc.2 e
     ·rw[ae e];exact .inl rfl
    rcases Z with Z|Z
    ·rw[Z]
    ·rw[Z];rfl
   unfold tu;show(j2 (kf (y.jg i r) c d) ((y.C c).on d)).1++_=_;rw[hf];show(j2 (kf y c d) ((y.C c).on d)).1++je (((y.jg i r).R ((y.C c).e d).1).P ((y.C c).e d).2)=_;rw[Y];by_cases e:((y.C c).e d).1=i
   ·rw[ag e,ag ⟨hc,e⟩,X,e];obtain⟨ps,V⟩:=hF i ((y.C c).e d).2;have Q:=(xQ V (hs ((y.C c).e d).2) (rd ((y.C c).e d).2)).1;show _++je ((s.P ((y.C c).e d).2).pt _ _)=_;rw[Q,mO V,az]
   ·rw[ae e,ae (λh=>e h.2)]
  ·rw[ae hc,ae (λh=>hc h.1),ae hc]
 ·funext j
  show y.jM j++((y.jg i r).R j).jM=jy _ i _ j;rw[Y];by_cases e:j=i
  ·subst e;rw[ag rfl,ij,X];show y.jM j++((y.R j).jM++s.jM)=(y.jM j++(y.R j).jM)++s.jM;rw[az]
  ·rw[ae e,gW _ _ e];rfl
theorem RX(hF:∀i p,∃ps,Frames ((y.R i).P p).out ps)(i:Nat)(Z:r=s.pat (λp=>((y.R i).P p).rd) (λp=>((y.R i).P p).out) (y.R i).jM)(hs:∀p,∃ps,Frames (s.P p).out ps):jh (y.jg i r)=(jh y).op i s:=Fm hF i _ Z (λ_ _ _ _ _=>.inl rfl) hs
def Room(y:iB):Prop:=∀c d,c<y.nc->d<2->((y.R ((y.C c).e d).1).P ((y.C c).e d).2).out=[] \/((y.C c).jr=true/\((y.C c).on d).length+((y.R ((y.C c).e d).1).P ((y.C c).e d).2).out.length<=2000)
theorem Fp(y:iB)(c d x f:Nat):((y.kN c d).C x).on f=(if x=c/\f=d/\(y.C c).jr=true/\((y.C c).on d).length+((y.R ((y.C c).e d).1).P ((y.C c).e d).2).out.length<=2000 then(y.C c).on d++((y.R ((y.C c).e d).1).P ((y.C c).e d).2).out else(y.C x).on f):=by
 show((if x=c then(y.C c).put d _ else y.C x):pz).on f=_;by_cases ex:x=c
 ·rw[ag ex];subst ex;unfold pz.put;split
  ·rename_i h
   show jy (y.C x).on d _ f=_;by_cases ed:f=d
   ·subst ed;rw[ij,ag ⟨rfl,rfl,h⟩]
   ·rw[gW _ _ ed,ae (λq=>ed q.2.1)]
  ·rename_i h
   rw[ae (λq=>h q.2.2)]
 ·rw[ae ex,ae (λq=>ex q.1)]
theorem Iw(hF:jE y)(E:Ends y)(c d:Nat)(hc:c<y.nc)(hd:d<2):wI (jh y) (jh (y.kN c d))/\(Room y->jh (y.kN c d)=jh y/\Room (y.kN c d)):=by
 have X:∀x,((y.kN c d).C x).e=(y.C x).e:=λx=>((mH y c d).2.2.2.2 x).1;have hi:∀x,((y.kN c d).C x).jr=(y.C x).jr:=λx=>((mH y c d).2.2.2.2 x).2;have D:∀j,((y.kN c d).R j)=if j=((y.C c).e d).1 then(y.R j).out ((y.C c).e d).2 else y.R j:=λj=>by
  show jy y.R ((y.C c).e d).1 _ j=_;by_cases e:j=((y.C c).e d).1
  ·subst e;rw[ij,ag rfl]
  ·rw[gW _ _ e,ae e]
 have U:∀j,((y.kN c d).R j).core=(y.R j).core:=λj=>by
  rw[D];split
  ·show iy.core (iy.iE _ _ _)=_;unfold iy.core iy.iE;congr 1
   funext p
   show({kA (y.R j).P ((y.C c).e d).2 {(y.R j).P ((y.C c).e d).2 with out:=[] } p with rd:=lh,out:=[] }:jb)=_;by_cases e:p=((y.C c).e d).2
   ·rw[e,ja]
   ·rw[iU _ _ e]
  ·rfl
 have Q:∀j,((y.kN c d).R j).jM=(y.R j).jM:=λj=>by
  rw[D];split<;>rfl
 have V:∀j p,((y.kN c d).R j).P p=if(y.C c).e d=(j,p)then {(y.R j).P p with out:=[] }else(y.R j).P p:=λj p=>B5 y c d j p
 have t:∀x f,kf (y.kN c d) x f=kf y x f:=λx f=>by
  unfold kf;rw[X,V];split<;>rfl
 have Y:∀x f,x<y.nc->f<2->¬(x=c/\f=d)->tu (y.kN c d) x f=tu y x f:=λx f hx hf A=>by
  unfold tu;rw[t,X,Fp,ae (λq=>A ⟨q.1,q.2.1⟩),V,ae (λq=>A (E.ds x f c d hx hf hc hd q.symm))]
 have hq:=(hF.q c d hc hd).1;obtain⟨ps,J⟩:=hF.o ((y.C c).e d).1 ((y.C c).e d).2;have h0:je (((y.kN c d).R ((y.C c).e d).1).P ((y.C c).e d).2)=[] :=jf (by rw[V,ag rfl]);have H:tu (y.kN c d) c d=(if(y.C c).jr=true/\((y.C c).on d).length+((y.R ((y.C c).e d).1).P ((y.C c).e d).2).out.length<=2000 then tu y c d else(j2 (kf y c d) ((y.C c).on d)).1):=by
  unfold tu;rw[t,X,h0,aL,Fp];split
  ·rename_i h
   rw[ag h.2.2,pM,hq,mO J];rw[J.1,rz ps J.2]
  ·rename_i h
   rw[ae (λq=>h ⟨rfl,rfl,q⟩)]
 have xk:∀G:Nat->Nat->List mb,(∀x f,(if x<y.nc/\f<2 then tu (y.kN c d) x f else [])=G x f)->jh (y.kN c d)={jh y with F:=G}:=λG hG=>by
  refine AN.ext' rfl rfl (funext X) rfl (funext hi) (funext U) ?_ (funext λj=> ?_)
  ·funext x f;exact hG x f
  ·show y.jM j++((y.kN c d).R j).jM=_;rw[Q];rfl
 refine⟨⟨?_,λx f=> ?_⟩,λu=>⟨?_,λx f hx hf=> ?_⟩⟩
 ·exact xk _ λ_ _=>rfl
 ·show∃m,(if x<y.nc/\f<2 then tu (y.kN c d) x f else [])=(if x<y.nc/\f<2 then tu y x f else []).take m;split
  ·rename_i Z
   by_cases e:x=c/\f=d
   ·obtain⟨rfl,rfl⟩:=e;rw[H];split
    ·exact⟨(tu y x f).length,gN⟩
    ·exact⟨(j2 (kf y x f) ((y.C x).on f)).1.length,by unfold tu;simp⟩
   ·rw[Y x f Z.1 Z.2 e];exact⟨(tu y x f).length,gN⟩
  ·exact⟨0,rfl⟩
 ·refine xk (jh y).F λx f=> ?_;show _=if x<y.nc/\f<2 then tu y x f else []
  split
  ·rename_i Z
   by_cases e:x=c/\f=d
   ·obtain⟨rfl,rfl⟩:=e;rw[H];rcases u x f hc hd with M|M
    ·split
     ·rfl
     ·unfold tu;rw[jf M,aL]
    ·rw[ag M]
   ·exact Y x f Z.1 Z.2 e
  ·rfl
 ·rw[X,V,hi,Fp];by_cases e:x=c/\f=d
  ·obtain⟨rfl,rfl⟩:=e;rw[ag rfl];exact .inl rfl
  ·rw[ae (λq=>e (E.ds x f c d hx hf hc hd q.symm)),ae (λq=>e ⟨q.1,q.2.1⟩)];exact u x f hx hf
theorem Ends.same {y':iB} (h:Ends y)(X:y'.n=y.n)(Y:y'.nc=y.nc)(Z:∀c,(y'.C c).e=(y.C c).e)(V:∀i,(y'.R i).n=(y.R i).n):Ends y':=
 ⟨λc d c' d'=>by rw[Y,Z,Z];exact h.ds c d c' d',λc d=>by rw[Y,Z];exact h.p3 c d,λi=>by rw[V,X];exact h.rn i,λc d=>by rw[Y,Z,X];exact h.en c d⟩
theorem Ends.kN {y:iB} (h:Ends y)(c d:Nat):Ends (y.kN c d):=h.same (mH y c d).1 (mH y c d).2.1 (λx=>((mH y c d).2.2.2.2 x).1) λj=>by
 show(jy y.R ((y.C c).e d).1 _ j).n=_;by_cases e:j=((y.C c).e d).1
 ·subst e;rw[ij];rfl
 ·rw[gW _ _ e]
theorem Ix {y:iB} (hF:jE y)(X:Ends y):∀k,k<=y.nc->(Ends (y.jW k)/\wI (jh y) (jh (y.jW k)))/\(Room y->jh (y.jW k)=jh y/\Room (y.jW k))
 |0,_=>⟨⟨X,wI.refl _⟩,λh=>⟨rfl,h⟩⟩
 |k+1,hk=>by
  obtain⟨⟨Z,l1⟩,r1⟩:=Ix hF X k dP;have f1:=jE.jW hF k dP;have n1:(y.jW k).nc=y.nc:=(jK y k).2.1;obtain⟨l2,Q⟩:=Iw f1 Z k 0 (by rw[n1];omega) dS;have Y:=Z.kN k 0;have f2:=f1.kN k 0 (by rw[n1];omega);obtain⟨V,M⟩:=Iw f2 Y k 1 (by show k<(y.jW k).nc;rw[n1];omega) dS;refine⟨⟨Y.kN k 1,l1.trans (l2.trans V)⟩,λh=> ?_⟩;obtain⟨q1,J⟩:=r1 h;obtain⟨q2,H⟩:=Q J;obtain⟨U,G⟩:=M H;exact⟨U.trans (q2.trans q1),G⟩
theorem Iy(y:iB):∀k,jh (y.mf k)=jh y
 |0=>rfl
 |k+1=>by
  rw[<-Iy y k];obtain⟨z,Y⟩:=fP (y.mf k);show jh ((y.mf k).vF k)=jh (y.mf k);rw[Y];have Z:∀j,((z.vF k).R j).P=(z.R j).P:=λj=>by
   show(jy z.R k {z.R k with jM:=[] } j).P=_;by_cases e:j=k
   ·subst e;rw[ij]
   ·rw[gW _ _ e]
  refine AN.ext' rfl rfl rfl rfl rfl (funext λj=> ?_) (funext λc=>funext λd=> ?_) (funext λj=> ?_)
  ·show(jy z.R k {z.R k with jM:=[] } j).core=_;by_cases e:j=k
   ·subst e;rw[ij];rfl
   ·rw[gW _ _ e];rfl
  ·show(if c<z.nc/\d<2 then(j2 (((z.vF k).R _).P _).rd _).1++je (((z.vF k).R _).P _)else [])=_;rw[Z,Z];rfl
  ·show jy z.jM k (z.jM k++(z.R k).jM) j++(jy z.R k {z.R k with jM:=[] } j).jM=z.jM j++(z.R j).jM;by_cases e:j=k
   ·subst e;rw[ij,ij];simp
   ·rw[gW _ _ e,gW _ _ e]
theorem qN(hF:jE y)(Z:Ends y):wI (jh y) (jh y.gather)/\(Room y->jh y.gather=jh y):=by
 obtain⟨⟨_,l⟩,r⟩:=Ix hF Z y.nc (Nat.le_refl _);unfold iB.gather;rw[Iy];exact⟨l,λh=>(r h).1⟩
theorem yR(a:AN)(i:Nat)(s:iy)(c d:Nat):(a.op i s).F c d=if(c<a.nc/\d<2)/\(a.e c d).1=i then a.F c d++je (s.P (a.e c d).2)else a.F c d:=rfl
theorem Ov(a:AN)(i:Nat)(s:iy):(a.op i s).e=a.e:=rfl
theorem acy(a:AN)(i:Nat)(s:iy):(a.op i s).nc=a.nc:=rfl
theorem wJ(a:AN)(c d:Nat)(l:List mb)(x f:Nat):(a.lM c d l).F x f=if x=c/\f=d then l else a.F x f:=rfl
theorem KH(a:AN)(c d:Nat)(l:List mb):(a.lM c d l).e=a.e:=rfl
theorem Fq(a:AN)(c d:Nat)(l:List mb):(a.lM c d l).nc=a.nc:=rfl
def Norm(a:AN):Prop:=∀i,(a.R i).core=a.R i
theorem Cp(y:iB):Norm (jh y):=λ_=>rfl
theorem qt {a:AN} (h:Norm a)(i:Nat)(s:iy):Norm (a.op i s):=λj=>by
 show(jy a.R i s.core j).core=jy a.R i s.core j;by_cases e:j=i
 ·subst e;rw[ij];rfl
 ·rw[gW _ _ e];exact h j
theorem Norm.out {a:AN} (h:Norm a)(i p:Nat):((a.R i).P p).out=[] :=by rw[<-h i];rfl
theorem Norm.jM {a:AN} (h:Norm a)(i:Nat):(a.R i).jM=[] :=by rw[<-h i];rfl
theorem mJ.frN(h:mJ r s)(Y:∀p,(r.P p).out=[]):∀p,∃ps,Frames (s.P p).out ps:=λp=>by
 obtain⟨qs,Z⟩:=h.out p [] (by rw[Y p];exact Frames.nil);exact⟨_,Z⟩
theorem mJ.jT(r:iy)(i:Nat)(x:mb):mJ r (jT r i x):=by
 cases x with
 |nil=>exact mJ.refl r
 |cons c s=>exact mJ.take r i c s
theorem acA(a:AN)(i:Nat)(s t:iy)(rd:Nat->jY)(hs:∀p,∃ps,Frames (s.P p).out ps)(Z:∀p,∃ps,Frames (t.P p).out ps):(a.op i s).op i t=a.op i (t.pat rd (λp=>(s.P p).out) s.jM):=by
 refine AN.ext' rfl rfl rfl rfl rfl (funext λj=> ?_) (funext λc=>funext λd=> ?_) (funext λj=> ?_)
 ·show jy (jy a.R i s.core) i t.core j=jy a.R i t.core j;by_cases e:j=i
  ·subst e;rw[ij,ij]
  ·rw[gW _ _ e,gW _ _ e,gW _ _ e]
 ·rw[yR,yR,yR,Ov,acy];by_cases e:(c<a.nc/\d<2)/\(a.e c d).1=i
  ·rw[ag e,ag e,ag e,az];congr 1;exact(xQ (Fl (hs _)) (Z _) _).1.symm
  ·rw[ae e,ae e,ae e]
 ·show jy (jy a.ib i (a.ib i++s.jM)) i (jy a.ib i (a.ib i++s.jM) i++t.jM) j=jy a.ib i (a.ib i++(s.jM++t.jM)) j;by_cases e:j=i
  ·subst e;rw[ij,ij,ij,az]
  ·rw[gW _ _ e,gW _ _ e,gW _ _ e]
inductive Fs(c d:Nat):List mb->AN->AN->Prop
 |nil (a:AN):Fs c d [] a a
 |cons {a b:AN} {x:mb} {l r:List mb}:c<a.nc->d<2->a.F c d=x::r->Fs c d l (a.pop c d x r) b->Fs c d (x::l) a b
theorem Fs.path {c d:Nat} {l:List mb} {a b:AN} (h:Fs c d l a b):jI a [] [] b:=by
 induction h with
 |nil a=>exact jI.nil a
 |cons Z Y X _ ih=>exact(jI.one (mc.pop _ _ _ _ Z Y X)).trans ih
theorem acB:∀(l rest:List mb) (a:AN) (c d:Nat),Norm a->c<a.nc->d<2->a.F c d=l++rest->Fs c d l a ((a.lM c d rest).op (a.e c (1-d)).1 ((a.R (a.e c (1-d)).1).takes (a.e c (1-d)).2 l))
 |[],rest,a,c,d,hN,hc,hd,hF=>by
  have J:(a.lM c d rest).op (a.e c (1-d)).1 ((a.R (a.e c (1-d)).1).takes (a.e c (1-d)).2 [])=a:=by
   refine AN.ext' rfl rfl rfl rfl rfl ?_ (funext λx=>funext λf=> ?_) ?_
   ·show jy a.R _ (a.R _).core=_;rw[hN];exact ui _ _
   ·show(if _/\_ then(if x=c/\f=d then rest else a.F x f)++je _ else if x=c/\f=d then rest else a.F x f)=_;have H:(if x=c/\f=d then rest else a.F x f)=a.F x f:=by
     split
     ·rename_i h;rw[h.1,h.2,hF];rfl
     ·rfl
    rw[H];split
    ·show _++je ((a.R _).P _)=_;rw[jf (hN.out _ _),aL]
    ·rfl
   ·show jy a.ib _ (a.ib _++(a.R _).jM)=_;rw[hN.jM,aL];exact ui _ _
  rw[J];exact Fs.nil a
 |x::l,rest,a,c,d,hN,hc,hd,hF=>by
  obtain⟨i,hi⟩:=fP ((a.e c (1-d)).1);obtain⟨p,Q⟩:=fP ((a.e c (1-d)).2);have hs:=(mJ.jT (a.R i) p x).frN (hN.out i);obtain⟨s,Z⟩:=fP (jT (a.R i) p x);have D:a.pop c d x (l++rest)=(a.lM c d (l++rest)).op i s:=by unfold AN.pop;rw[hi,Q,Z]
  rw[Z]at hs;have V:Norm ((a.lM c d (l++rest)).op i s):=qt (a:=a.lM c d (l++rest)) hN i s;have M:(if c=c/\d=d then l++rest else a.F c d)=l++rest:=ag ⟨rfl,rfl⟩;have X:((a.lM c d (l++rest)).op i s).F c d=l++(if(c<a.nc/\d<2)/\(a.e c d).1=i then rest++je (s.P (a.e c d).2)else rest):=by
   show(if(c<a.nc/\d<2)/\(a.e c d).1=i then(if c=c/\d=d then l++rest else a.F c d)++je (s.P (a.e c d).2)else(if c=c/\d=d then l++rest else a.F c d))=_;rw[M];split<;>simp
  have ih:=acB l _ _ c d V hc hd X;have U:((a.lM c d (l++rest)).op i s).R i=s.core:=ij _ _ _;have Y:=ih;have E:((a.lM c d (l++rest)).op i s).e=a.e:=rfl;rw[E,hi,Q,U]at Y;have G:(((a.lM c d (l++rest)).op i s).lM c d (if(c<a.nc/\d<2)/\(a.e c d).1=i then rest++je (s.P (a.e c d).2)else rest))=(a.lM c d rest).op i s:=by
   refine AN.ext' rfl rfl rfl rfl rfl rfl (funext λy=>funext λf=> ?_) rfl;rw[wJ,yR,yR,wJ,wJ,KH,KH,Fq,Fq];by_cases e:y=c/\f=d
   ·rw[ag e,ag e,e.1,e.2]
   ·rw[ae e,ae e,ae e]
  rw[G,acA _ _ _ _ (λq=>(s.P q).rd) hs ((mJ.takes l s.core p).frN λ_=>rfl),<-yQ,uF]at Y;rw[hi,Q];show Fs c d (x::l) a ((a.lM c d rest).op i ((jT (a.R i) p x).takes p l));rw[Z];exact Fs.cons (r:=l++rest) hc hd hF (by rw[D];exact Y)
theorem KI(hF:jE y)(D:Ends y)(c d k:Nat)(hc:c<y.nc)(hd:d<2):∃l rest,tu y c d=l++rest/\l=(j2 (kf y c d) (((y.C c).on d).take k)).1/\jh (y.jw c d k)=((jh y).lM c d rest).op ((y.C c).e (1-d)).1 (((y.R ((y.C c).e (1-d)).1).core).takes ((y.C c).e (1-d)).2 l):=by
 obtain⟨i,hi⟩:=fP (((y.C c).e (1-d)).1);obtain⟨p,X⟩:=fP (((y.C c).e (1-d)).2);obtain⟨A,hA⟩:=fP (j2 ((y.R i).P p).rd (((y.C c).on d).take k));have M:kf y c d=((y.R i).P p).rd:=by unfold kf;rw[hi,X]
 have E:(j2 (kf y c d) ((y.C c).on d)).1=A.1++(j2 A.2.2 (((y.C c).on d).drop k)).1:=by
  have:=pM (kf y c d) (((y.C c).on d).take k) (((y.C c).on d).drop k);rw[bO,M,hA]at this;rw[M,this]
 refine⟨A.1,(j2 A.2.2 (((y.C c).on d).drop k)).1++je ((y.R ((y.C c).e d).1).P ((y.C c).e d).2),?_,by rw[M,hA],?_⟩
 ·unfold tu;rw[E,az]
 rw[hi,X];have Y:(y.R i).recv p (((y.C c).on d).take k)=(((y.R i).core).takes p A.1).pat (jy (λq=>((y.R i).P q).rd) p A.2.2) (λq=>((y.R i).P q).out) (y.R i).jM:=by
  rw[<-yQ];unfold iy.recv;simp only;rw[hA];congr 1;unfold iy.iE iy.pat iy.core jb.pt;simp only[List.append_nil];congr 1
  funext q
  by_cases e:q=p
  ·subst e;rw[ja,ij]
  ·rw[iU _ _ e,gW _ _ e]
 have hs:=(mJ.takes A.1 (y.R i).core p).frN λ_=>rfl;obtain⟨s,G⟩:=fP (((y.R i).core).takes p A.1);rw[G]at Y hs⊢;have V:∀j,(y.jw c d k).R j=if j=i then(y.R i).recv p (((y.C c).on d).take k)else y.R j:=λj=>by
  unfold iB.jw;rw[hi,X];rfl
 have U:∀x,((y.jw c d k).C x).e=(y.C x).e:=λx=>((uz y c d k).2.2.2 x).1;have H:∀x e,((y.jw c d k).C x).on e=if x=c/\e=d then((y.C c).on d).drop k else(y.C x).on e:=λx e=>by
  show((if x=c then {y.C c with on:=jy (y.C c).on d (((y.C c).on d).drop k)}else y.C x):pz).on e=_;by_cases ex:x=c
  ·rw[ag ex];show jy (y.C c).on d _ e=_;by_cases ed:e=d
   ·rw[ed,ij,ag ⟨ex,rfl⟩]
   ·rw[gW _ _ ed,ae (λh=>ed h.2),ex]
  ·rw[ae ex,ae (λh=>ex h.1)]
 refine AN.ext' rfl rfl (funext U) rfl (funext λx=>Ck y c d k x) (funext λj=> ?_) (funext λx=>funext λf=> ?_) (funext λj=> ?_)
 ·show((y.jw c d k).R j).core=jy _ i s.core j;rw[V];by_cases e:j=i
  ·subst e;rw[ag rfl,ij,Y,Ir]
  ·rw[ae e,gW _ _ e];rfl
 ·show(if x<y.nc/\f<2 then tu (y.jw c d k) x f else [])=if(x<y.nc/\f<2)/\((y.C x).e f).1=i then(if x=c/\f=d then _ else if x<y.nc/\f<2 then tu y x f else [])++je (s.P ((y.C x).e f).2)else if x=c/\f=d then _ else if x<y.nc/\f<2 then tu y x f else []
  by_cases hx:x<y.nc/\f<2
  ·rw[ag hx];have u:tu (y.jw c d k) x f=(if x=c/\f=d then(j2 A.2.2 (((y.C c).on d).drop k)).1 else(j2 (kf y x f) ((y.C x).on f)).1)++(if((y.C x).e f).1=i then je ((y.R ((y.C x).e f).1).P ((y.C x).e f).2)++je (s.P ((y.C x).e f).2)else je ((y.R ((y.C x).e f).1).P ((y.C x).e f).2)):=by
    unfold tu;congr 1
    ·unfold kf;rw[U,V,H];by_cases e:x=c/\f=d
     ·rw[ag e,ag e,e.1,e.2,hi,ag rfl,Y,X];have:((s.pat (jy (λq=>((y.R i).P q).rd) p A.2.2) (λq=>((y.R i).P q).out) (y.R i).jM).P p).rd=A.2.2:=by
       show jy (λq=>((y.R i).P q).rd) p A.2.2 p=_;rw[ij]
      rw[this]
     ·rw[ae e,ae e];by_cases Z:((y.C x).e (1-f)).1=i
      ·have Q:((y.C x).e (1-f)).2≠p:=λQ=>by
        have:=D.ds x (1-f) c (1-d) hx.1 dP hc dP (bn (Z.trans hi.symm) (Q.trans X.symm));exact e ⟨this.1,dP⟩
       rw[ag Z,Y,Z];have:((s.pat (jy (λq=>((y.R i).P q).rd) p A.2.2) (λq=>((y.R i).P q).out) (y.R i).jM).P ((y.C x).e (1-f)).2).rd=((y.R i).P ((y.C x).e (1-f)).2).rd:=by
        show jy (λq=>((y.R i).P q).rd) p A.2.2 ((y.C x).e (1-f)).2=_;rw[gW _ _ Q]
       rw[this]
      ·rw[ae Z]
    ·rw[U,V];by_cases Z:((y.C x).e f).1=i
     ·rw[ag Z,ag Z,Y,Z];obtain⟨ps,J⟩:=hF.o i ((y.C x).e f).2;show je ((s.P ((y.C x).e f).2).pt _ _)=_;rw[(xQ J (hs _) _).1,mO J]
     ·rw[ae Z,ae Z]
   rw[u];by_cases e:x=c/\f=d
   ·rw[ag e,ag e,<-e.1,<-e.2];by_cases Z:((y.C x).e f).1=i
    ·rw[ag Z,ag ⟨hx,Z⟩,az]
    ·rw[ae Z,ae (λh=>Z h.2)]
   ·rw[ae e,ae e,ag hx];unfold tu;by_cases Z:((y.C x).e f).1=i
    ·rw[ag Z,ag ⟨hx,Z⟩,az]
    ·rw[ae Z,ae (λh=>Z h.2)]
  ·rw[ae hx,ae (λh=>hx h.1),ae (λh=>hx ⟨by rw[h.1];exact hc,by rw[h.2];exact hd⟩),ae hx]
 ·show y.jM j++((y.jw c d k).R j).jM=jy _ i _ j;rw[V];by_cases e:j=i
  ·subst e;rw[ag rfl,ij,Y];show y.jM j++((y.R j).jM++s.jM)=(y.jM j++(y.R j).jM)++s.jM;rw[az]
  ·rw[ae e,gW _ _ e];rfl
theorem RY:((List.range 10).all λs=>(kF s 1).1.all λc=>c==115||c==100)=true:=by decide+kernel
theorem Iz(vX:kr):∀(l:List UInt8) (s:LS),l.all (λc=>c==115||c==100)=true->vY l s vX=[]
 |[],_,_=>rfl
 |c::r,s,h=>by
  rw[List.all_cons,Bool.and_eq_true]at h;show CV c s vX++vY r _ vX=[]
  rw[Iz vX r _ h.2,aL];have Z:c=115 \/c=100:=by simpa using h.1
  rcases Z with rfl|rfl<;>rfl
theorem IA {s:LS} (h:r7 s.st=true):(ko s 1).2.1=[] :=by
 obtain⟨k,V,Y⟩:=Ay h;have Z:=(ry h).1;have e:ko s 1=qU s 1 (0,0,[]):=rfl;rw[e]at Z⊢;have X:(iN s.st 1).2.2=0:=by
  by_cases g:(iN s.st 1).2.2=0
  ·exact g
  ·rw[tV _ g]at Z;exact absurd Z g
 rw[rF _ X];show vY (iN s.st 1).1 _ _=[]
 rw[V,show iN (k:Int) 1=kF k 1 from mC k 1 Y dS];exact Iz _ _ _ (a6.1 RY k (aY.2 Y))
theorem Ft(r:iy)(p:Nat)(up:Bool)(q:Nat)(Z:q≠p):((r.iw p up).1.P q).out=(r.P q).out:=by
 unfold iy.iw;simp only;split
 ·rfl
 ·rw[(lS _ p nobody).2.2.2];rw[iU _ _ Z];show(kA r.P p _ q).out=_;rw[iU _ _ Z]
theorem Cq {p:Nat} (h:r7 (r.P p).L.st=true):((r.iw p false).1.P p).out=(r.P p).out:=by
 unfold iy.iw jb.iw;simp only[Bool.false_eq_true,if_false];rw[IA h,(ry h).1];simp only[ne_eq,not_true_eq_false,if_false];rw[(lS _ p nobody).2.2.2,ja];show(kA r.P p _ p).out=_;rw[ja];rfl
theorem L9 {L:LS} (h:if(!up)=true then r7 L.st=true else L.st=1):(ko L (if up=true then 0 else 1)).2.2=0:=by
 cases up
 ·exact(ry (by simpa using h)).1
 ·exact(Bo (by simpa using h)).1
theorem mJ.Wo {i:Nat} (hs:∀p,(s.P p).out=[])(Y:(ko (s.P i).L (if up=true then 0 else 1)).2.2=0):∀p,∃ps,Frames ((s.iw i up).1.P p).out ps:=λp=>by
 have e:(s.P i).iw up=(({s.P i with L:=(ko (s.P i).L (if up=true then 0 else 1)).1,rd:=([],false,false)}:jb).say (ko (s.P i).L (if up=true then 0 else 1)).2.1,0):=by
  unfold jb.iw;simp only;rw[ae (by simp[Y])]
 unfold iy.iw;rw[e];simp only;rw[ae gN];obtain⟨x,hx⟩:=fP (({s.P i with L:=(ko (s.P i).L (if up=true then 0 else 1)).1,rd:=([],false,false)}:jb).say (ko (s.P i).L (if up=true then 0 else 1)).2.1);have V:qq {s.P i with L:=(ko (s.P i).L (if up=true then 0 else 1)).1,rd:=([],false,false)} x:=by rw[<-hx];exact qq.say _ _
 rw[hx,(lS _ i nobody).2.2.2];by_cases Z:p=i
 ·subst Z;rw[ja];show∃ps,Frames (kA s.P p x p).out ps;rw[ja];obtain⟨qs,X⟩:=V.out [] (by show Frames (s.P p).out [];rw[hs];exact Frames.nil);exact⟨_,X⟩
 ·rw[iU _ _ Z];show∃ps,Frames (kA s.P i x p).out ps;rw[iU _ _ Z,hs];exact⟨[],Frames.nil⟩
theorem Ox(hF:∀i p,∃ps,Frames ((y.R i).P p).out ps)(hG:GN y)(hE:Ends y)(c:Nat)(up:Bool)(hc:c<y.nc)(hu:(y.C c).jr= !up)(ho:∀d,d<2->((y.R ((y.C c).e d).1).P ((y.C c).e d).2).out=[]):jh (y.jC c up)=(jh y).iw c up/\(∀i p,(∀d,d<2->(y.C c).e d≠(i,p))->(((y.jC c up).R i).P p).out=((y.R i).P p).out)/\(up=false->∀d,d<2->(((y.jC c up).R ((y.C c).e d).1).P ((y.C c).e d).2).out=[]):=by
 have A:=hG.ends c 0 hc dS;have e1:=hG.ends c 1 hc dS;have o0:=ho 0 dS;have o1:=ho 1 dS;rw[hu]at A e1;have jq:(y.C c).e 0≠(y.C c).e 1:=λh=>by
  have:=(hE.ds c 0 c 1 hc dS hc dS h).2;omega
 obtain⟨z,G⟩:=fP (y.kG c {y.C c with jr:=up,on:=λ_=>[] });have X:∀x,z.C x=if x=c then {y.C c with jr:=up,on:=λ_=>[] }else y.C x:=λx=>by rw[<-G];rfl
 have U:∀x,(z.C x).e=(y.C x).e:=λx=>by rw[X];split<;>simp_all
 have Y:z.R=y.R:=by rw[<-G];rfl
 have UX:z.nc=y.nc:=by rw[<-G];rfl
 have D:∀d,(z.C c).on d=[] :=λd=>by rw[X,ag rfl]
 have nH:jh z=(({jh y with jr:=jy (jh y).jr c up}:AN).lM c 0 []).lM c 1 [] :=by
  refine AN.ext' (by rw[<-G];rfl) UX (funext U) (by rw[<-G];rfl) (funext λx=> ?_) (funext λj=> ?_) (funext λx=>funext λf=> ?_) (by rw[<-G];rfl)
  ·show(z.C x).jr=jy _ c up x;rw[X];by_cases e:x=c
   ·subst e;rw[ag rfl,ij]
   ·rw[ae e,gW _ _ e];rfl
  ·show(z.R j).core=(y.R j).core;rw[Y]
  ·show(if x<z.nc/\f<2 then tu z x f else [])=if x=c/\f=1 then []else if x=c/\f=0 then []else if x<y.nc/\f<2 then tu y x f else []
   rw[UX];by_cases V:x<y.nc/\f<2
   ·rw[ag V,ag V];by_cases e:x=c
    ·subst e;have:tu z x f=[] :=by
      unfold tu;rw[D,U,Y,jf (ho f V.2)];rfl
     rw[this];split
     ·rfl
     ·split
      ·rfl
      ·omega
    ·rw[ae (λh=>e h.1),ae (λh=>e h.1)];unfold tu kf;rw[X,ae e,Y]
   ·rw[ae V,ae (λh=>V ⟨by rw[h.1];exact hc,dP⟩),ae (λh=>V ⟨by rw[h.1];exact hc,dP⟩),ae V]
 obtain⟨i,hi⟩:=fP (((y.C c).e 0).1);obtain⟨p,J⟩:=fP (((y.C c).e 0).2);obtain⟨j,M⟩:=fP (((y.C c).e 1).1);obtain⟨q,H⟩:=fP (((y.C c).e 1).2);rw[hi,J]at A o0;rw[M,H]at e1 o1;have X3:i=j->p≠q:=λh1 h2=>jq (bn (by rw[hi,M,h1]) (by rw[J,H,h2]));have d0:=L9 A.st;have d1:=L9 e1.st;have k1:((z.R i).iw p up).1=(((z.R i).core.iw p up).1).pat (jy (λs=>((z.R i).P s).rd) p lh) (λs=>((z.R i).P s).out) (z.R i).jM:=by
  have:=Iv (λs=>((z.R i).P s).rd) (λs=>((z.R i).P s).out) (z.R i).jM (z.R i).core p up (by rw[Y];exact d0);rw[uF]at this;exact this
 have f1:∀s,∃ps,Frames (((z.R i).core.iw p up).1.P s).out ps:=mJ.Wo (s:=(z.R i).core) (λ_=>rfl) (by rw[Y];exact d0);have Wm:∀(w:iB),w.nc=y.nc->(∀x,(w.C x)=z.C x)->∀d0:Nat,d0<2->∀x f,x<w.nc->f<2->((w.C x).e (1-f)).1=((y.C c).e d0).1->jy (λs=>((w.R ((y.C c).e d0).1).P s).rd) ((y.C c).e d0).2 lh ((w.C x).e (1-f)).2=((w.R ((y.C c).e d0).1).P ((w.C x).e (1-f)).2).rd \/(w.C x).on f=[] :=λw hw t d0 hd0 x f hx hf Z1=>by
  by_cases e:((w.C x).e (1-f)).2=((y.C c).e d0).2
  ·refine .inr ?_;rw[t,U]at Z1 e;have:=hE.ds x (1-f) c d0 (by rw[<-hw];exact hx) dP hc hd0 (bn Z1 e);rw[t,this.1];exact D f
  ·rw[gW _ _ e];exact .inl rfl
 have a1:=Fm (y:=z) (by rw[Y];exact hF) i _ k1 (by have:=Wm z UX (λ_=>rfl) 0 dS;rw[hi,J]at this;exact this) f1;obtain⟨Z,E⟩:=fP (z.jg i ((z.R i).iw p up).1);have YI:∀x,Z.C x=z.C x:=λx=>by rw[<-E];rfl
 have YJ:∀k,Z.R k=if k=i then((z.R i).iw p up).1 else z.R k:=λk=>by rw[<-E];rfl
 have UY:∀k s,¬(k=i/\s=p)->((Z.R k).P s).L=((y.R k).P s).L/\((Z.R k).P s).out=((y.R k).P s).out:=λk s h=>by
  rw[YJ];by_cases e:k=i
  ·rw[ag e,e,Y];have hs:s≠p:=λh2=>h ⟨e,h2⟩;exact⟨((vf (up:=up) p (by simpa using A)).2.2 s hs).1,Ft _ _ _ _ hs⟩
  ·rw[ae e,Y];exact⟨rfl,rfl⟩
 have L1:=UY j q (λh=>X3 h.1.symm h.2.symm);have k2:((Z.R j).iw q up).1=(((Z.R j).core.iw q up).1).pat (jy (λs=>((Z.R j).P s).rd) q lh) (λs=>((Z.R j).P s).out) (Z.R j).jM:=by
  have:=Iv (λs=>((Z.R j).P s).rd) (λs=>((Z.R j).P s).out) (Z.R j).jM (Z.R j).core q up (by show(ko ((Z.R j).P q).L _).2.2=0;rw[L1.1];exact d1);rw[uF]at this;exact this
 have f2:∀s,∃ps,Frames (((Z.R j).core.iw q up).1.P s).out ps:=mJ.Wo (s:=(Z.R j).core) (λ_=>rfl) (by show(ko ((Z.R j).P q).L _).2.2=0;rw[L1.1];exact d1);have agI:∀k s,∃ps,Frames ((Z.R k).P s).out ps:=λk s=>by
  by_cases e:k=i/\s=p
  ·rw[YJ,ag e.1,k1,e.2];obtain⟨ps,uo⟩:=hF i p;have:=(xQ uo (f1 p) (jy (λs=>((z.R i).P s).rd) p lh p)).2;rw[<-Y]at this;exact this
  ·rw[(UY k s e).2];exact hF k s
 have a2:=Fm (y:=Z) agI j _ k2 (by have:=Wm Z (by rw[<-E];exact UX) YI 1 dS;rw[M,H]at this;exact this) f2;have rR:y.jC c up=Z.jg j ((Z.R j).iw q up).1:=by
  unfold iB.jC;rw[G];have t1:z.lQ c 0 up=Z:=by unfold iB.lQ;rw[U,hi,J,E]
  rw[t1];unfold iB.lQ;rw[YI,U,M,H]
 have Q:∀k,(y.jC c up).R k=if k=j then((Z.R j).iw q up).1 else Z.R k:=λk=>by rw[rR];rfl
 refine⟨?_,λk s u=> ?_,λhup d hd=> ?_⟩
 ·rw[rR,a2,<-E,a1];unfold AN.iw;rw[<-nH];have t1:(jh z).mI c 0 up=(jh z).op i ((z.R i).core.iw p up).1:=by
   have ez:(jh z).e c=(y.C c).e:=U c;unfold AN.mI;rw[ez,hi,J];rfl
  rw[t1,<-a1,E];have ez:(jh Z).e c=(y.C c).e:=by show(Z.C c).e=_;rw[YI,U]
  unfold AN.mI;rw[ez,M,H];rfl
 ·have h0:¬(k=i/\s=p):=λh=>u 0 dS (bn (hi.trans h.1.symm) (J.trans h.2.symm));have h1:¬(k=j/\s=q):=λh=>u 1 dS (bn (M.trans h.1.symm) (H.trans h.2.symm));rw[Q];by_cases e:k=j
  ·rw[ag e,Ft _ _ _ _ (λh=>h1 ⟨e,h⟩),<-e];exact(UY k s h0).2
  ·rw[ae e];exact(UY k s h0).2
 ·subst hup;have u0:r7 ((y.R i).P p).L.st=true:=by simpa using A.st
  have u1:r7 ((y.R j).P q).L.st=true:=by simpa using e1.st
  have YK:d=0 \/d=1:=dP;have hA:((Z.R i).P p).out=[] :=by
   rw[YJ,ag rfl,Cq (by rw[Y];exact u0),Y];exact o0
  rcases YK with rfl|rfl
  ·rw[hi,J,Q];by_cases e:i=j
   ·rw[ag e,Ft _ _ _ _ (X3 e),<-e];exact hA
   ·rw[ae e];exact hA
  ·rw[M,H,Q,ag rfl,Cq (by rw[L1.1];exact u1),L1.2];exact o1
