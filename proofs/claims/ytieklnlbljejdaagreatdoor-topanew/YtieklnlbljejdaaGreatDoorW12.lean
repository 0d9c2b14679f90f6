import Derived.Test.YtieklnlbljejdaaGreatDoorW11
open Option renaming none → ν, some → μ
open List renaming range → gg, mem_cons → il, not_mem_nil → iq, length_cons → eT, mem_singleton → iw, range_succ → iy, map_cons → eN, sum_cons → iz
namespace Go.Proofs.YtieklnlbljejdaaGreatDoor
open Go.RowKit St
namespace Rt
variable {B C D c d i k:Nat} {S:List (Int×List UInt8)} {T U:List (Nat×Nat)} {p:jy} {r s:iO} {up:Bool} {y:iP} {α:Type}
abbrev lv:=List UInt8
structure AN where
 n:Nat
 nc:Nat
 e:Nat->Nat->Nat×Nat
 ms:Nat->Nat->Int
 iT:Nat->Bool
 R:Nat->iO
 F:Nat->Nat->List lv
 ib:Nat->List zi
def ud(y:iP)(c d:Nat):List lv:=(kB (jY y c d) ((y.C c).on d)).1++jo ((y.R ((y.C c).e d).1).P ((y.C c).e d).2)
def iJ(y:iP):AN:=⟨y.n,y.nc,λc=>(y.C c).e,y.ms,λc=>(y.C c).iT,λi=>(y.R i).core,λc d=>if c<y.nc/\d<2 then ud y c d else [],λi=>y.kd i++(y.R i).kd⟩
def AN.op(a:AN)(i:Nat)(s:iO):AN:=
 {a with R:=jW a.R i s.core,F:=λc d=>if(c<a.nc/\d<2)/\(a.e c d).1=i then a.F c d++jo (s.P (a.e c d).2)else a.F c d,ib:=jW a.ib i (a.ib i++s.kd)}
def AN.lH(a:AN)(c d:Nat)(l:List lv):AN:={a with F:=λc' d'=>if c'=c/\d'=d then l else a.F c' d'}
def AN.pop(a:AN)(c d:Nat)(x:lv)(l:List lv):AN:=(a.lH c d l).op (a.e c (1-d)).1 (jP (a.R (a.e c (1-d)).1) (a.e c (1-d)).2 x)
def AN.nK(a:AN)(c d:Nat)(up:Bool):AN:=a.op (a.e c d).1 ((a.R (a.e c d).1).iL (a.e c d).2 up).1
def AN.iL(a:AN)(c:Nat)(up:Bool):AN:=((({a with iT:=jW a.iT c up}:AN).lH c 0 []).lH c 1 []).nK c 0 up|>.nK c 1 up
def wY(a b:AN):Prop:=b={a with F:=b.F} /\∀c d,∃m,b.F c d=(a.F c d).take m
theorem wY.refl(a:AN):wY a a:=⟨rfl,λc d=>⟨(a.F c d).length,gZ⟩⟩
theorem wY.trans {a b c:AN} (h:wY a b)(g:wY b c):wY a c:=by
 refine⟨?_,λx d=> ?_⟩
 ·rw[g.1,h.1]
 ·obtain⟨m,Y⟩:=h.2 x d;obtain⟨k,Z⟩:=g.2 x d;exact⟨min k m,by rw[Z,Y,List.take_take]⟩
inductive mW:AN->List (Nat×Nat)->List (Int×List UInt8)->AN->Prop
 |lost {a b:AN}:wY a b->mW a [] [] b
 |tick {a:AN} (i p:Nat):i<a.n->p<3->mW a [(i,p)] [] (a.op i ((a.R i).iY p))
 |pop {a:AN} (c d:Nat) (x:lv) (l:List lv):c<a.nc->d<2->a.F c d=x::l->mW a [] [] (a.pop c d x l)
 |send {a:AN} (i:Nat) (t:Int) (tx:List UInt8):i<a.n->1<=t->t<=6->tx.length<=20->mW a [] [(t,tx)] (a.op i ((a.R i).send (t,8,tx)))
 |iL {a:AN} (c:Nat):c<a.nc->a.iT c=false->a.F c 0=[]->a.F c 1=[]->mW a [a.e c 0,a.e c 1] [] (a.iL c true)
 |draw {a:AN} (c:Nat):c<a.nc->a.iT c=true->mW a [] [] (a.iL c false)
 |anew {a:AN} (i m:Nat):i<a.n->(∀c d,c<a.nc->d<2->(a.e c d).1=i->a.iT c=false/\a.F c 0=[] /\a.F c 1=[])->mW a [] [] {a with R:=jW a.R i (jO ((i:Int)+1) 3 (a.ms i)),ib:=jW a.ib i ((a.ib i).take m)}
inductive jV:AN->List (Nat×Nat)->List (Int×List UInt8)->AN->Prop
 |nil (a:AN):jV a [] [] a
 |snoc {a b c:AN} {T U:List (Nat×Nat)} {S V:List (Int×List UInt8)}:jV a T S b->mW b U V c->jV a (T++U) (S++V) c
theorem jV.one {a b:AN} (h:mW a T S b):jV a T S b:=jV.snoc (jV.nil a) h
theorem jV.trans {a b c:AN} {V:List (Int×List UInt8)} (h:jV a T S b)(g:jV b U V c):jV a (T++U) (S++V) c:=by
 induction g with
 |nil=>simpa using h
 |snoc _ s ih=>rw[<-aD,<-aD];exact ih.snoc s
theorem jV.lost {a b c:AN} {T:List (Nat×Nat)} {S:List (Int×List UInt8)} (h:jV a T S b)(g:wY b c):jV a T S c:=by
 have:=h.snoc (mW.lost g);simpa using this
theorem mW.same {a b:AN} (h:mW a T S b):b.n=a.n/\b.nc=a.nc/\b.e=a.e/\b.ms=a.ms:=by
 cases h with
 |lost h=>rw[h.1];exact⟨rfl,rfl,rfl,rfl⟩
 |_=>exact⟨rfl,rfl,rfl,rfl⟩
theorem jV.same {a b:AN} {T:List (Nat×Nat)} {S:List (Int×List UInt8)} (h:jV a T S b):b.n=a.n/\b.nc=a.nc/\b.e=a.e/\b.ms=a.ms:=by
 induction h with
 |nil=>exact⟨rfl,rfl,rfl,rfl⟩
 |snoc _ s ih=>
  obtain⟨Z,Y,X,V⟩:=s.same;exact⟨Z.trans ih.1,Y.trans ih.2.1,X.trans ih.2.2.1,V.trans ih.2.2.2⟩
theorem AN.ext' {a b:AN} (Z:a.n=b.n)(Y:a.nc=b.nc)(X:a.e=b.e)(V:a.ms=b.ms)(Q:a.iT=b.iT)(M:a.R=b.R)(J:a.F=b.F)(H:a.ib=b.ib):a=b:=by
 cases a;cases b;simp only at*;subst Z Y X V Q M J H;rfl
theorem Ac {o:List UInt8} {ps:List lv} (Y:Frames o ps)(X:∃qs,Frames p.out qs)(rd:kE):jo (p.pt rd o)=ps++jo p/\∃qs,Frames (p.pt rd o).out qs:=by
 obtain⟨qs,Z⟩:=X;have h:Frames (p.pt rd o).out (ps++qs):=by
  refine⟨?_,λx hx=> ?_⟩
  ·show o++p.out=_;rw[Y.1,Z.1,cr]
  ·rcases av.1 hx with e|e
   ·exact Y.2 x e
   ·exact Z.2 x e
 exact⟨by rw[nh h,nh Z],_,h⟩
theorem jC(h:p.out=[]):jo p=[] :=by unfold jo;rw[h];rfl
theorem JF(h:∃ps,Frames p.out ps):Frames p.out (jo p):=by
 obtain⟨ps,Z⟩:=h;rw[nh Z];exact Z
theorem JG(hF:∀i p,∃ps,Frames ((y.R i).P p).out ps)(i:Nat)(rd:Nat->kE)(X:r=s.pat rd (λp=>((y.R i).P p).out) (y.R i).kd)(V:∀c d,c<y.nc->d<2->((y.C c).e (1-d)).1=i->rd ((y.C c).e (1-d)).2=((y.R i).P ((y.C c).e (1-d)).2).rd \/(y.C c).on d=[])(hs:∀p,∃ps,Frames (s.P p).out ps):iJ (y.jA i r)=(iJ y).op i s:=by
 have Y:∀j,(y.jA i r).R j=if j=i then r else y.R j:=λj=>rfl
 refine AN.ext' rfl rfl rfl rfl rfl ?_ ?_ ?_
 ·funext j
  show((y.jA i r).R j).core=jW _ i s.core j;rw[Y];by_cases e:j=i
  ·subst e;rw[ai rfl,iF,X,L8]
  ·rw[af e,iE _ _ e];rfl
 ·funext c d
  show(if c<y.nc/\d<2 then ud (y.jA i r) c d else [])=if(c<y.nc/\d<2)/\((y.C c).e d).1=i then(if c<y.nc/\d<2 then ud y c d else [])++jo (s.P ((y.C c).e d).2)else if c<y.nc/\d<2 then ud y c d else []
  by_cases hc:c<y.nc/\d<2
  ·rw[ai hc,ai hc];have hf:(kB (jY (y.jA i r) c d) ((y.C c).on d)).1=(kB (jY y c d) ((y.C c).on d)).1:=by
    have Z:jY (y.jA i r) c d=jY y c d \/(y.C c).on d=[] :=by
     show(((y.jA i r).R ((y.C c).e (1-d)).1).P ((y.C c).e (1-d)).2).rd=_ \/_;rw[Y];by_cases e:((y.C c).e (1-d)).1=i
     ·rw[ai e,X];unfold jY;rw[e];exact V c d hc.1 hc.2 e
     ·rw[af e];exact .inl rfl
    rcases Z with Z|Z
    ·rw[Z]
    ·rw[Z];rfl
   unfold ud;show(kB (jY (y.jA i r) c d) ((y.C c).on d)).1++_=_;rw[hf];show(kB (jY y c d) ((y.C c).on d)).1++jo (((y.jA i r).R ((y.C c).e d).1).P ((y.C c).e d).2)=_;rw[Y];by_cases e:((y.C c).e d).1=i
   ·rw[ai e,ai ⟨hc,e⟩,X,e];obtain⟨ps,Q⟩:=hF i ((y.C c).e d).2;have M:=(Ac Q (hs ((y.C c).e d).2) (rd ((y.C c).e d).2)).1;show _++jo ((s.P ((y.C c).e d).2).pt _ _)=_;rw[M,nh Q,aD]
   ·rw[af e,af (λh=>e h.2)]
  ·rw[af hc,af (λh=>hc h.1),af hc]
 ·funext j
  show y.kd j++((y.jA i r).R j).kd=jW _ i _ j;rw[Y];by_cases e:j=i
  ·subst e;rw[ai rfl,iF,X];show y.kd j++((y.R j).kd++s.kd)=(y.kd j++(y.R j).kd)++s.kd;rw[aD]
  ·rw[af e,iE _ _ e];rfl
theorem Wv(hF:∀i p,∃ps,Frames ((y.R i).P p).out ps)(i:Nat)(Z:r=s.pat (λp=>((y.R i).P p).rd) (λp=>((y.R i).P p).out) (y.R i).kd)(hs:∀p,∃ps,Frames (s.P p).out ps):iJ (y.jA i r)=(iJ y).op i s:=JG hF i _ Z (λ_ _ _ _ _=>.inl rfl) hs
def Room(y:iP):Prop:=∀c d,c<y.nc->d<2->((y.R ((y.C c).e d).1).P ((y.C c).e d).2).out=[] \/((y.C c).iT=true/\((y.C c).on d).length+((y.R ((y.C c).e d).1).P ((y.C c).e d).2).out.length<=2000)
theorem DC(y:iP)(c d x f:Nat):((y.kU c d).C x).on f=(if x=c/\f=d/\(y.C c).iT=true/\((y.C c).on d).length+((y.R ((y.C c).e d).1).P ((y.C c).e d).2).out.length<=2000 then(y.C c).on d++((y.R ((y.C c).e d).1).P ((y.C c).e d).2).out else(y.C x).on f):=by
 show((if x=c then(y.C c).put d _ else y.C x):qF).on f=_;by_cases ex:x=c
 ·rw[ai ex];subst ex;unfold qF.put;split
  ·rename_i h
   show jW (y.C x).on d _ f=_;by_cases ed:f=d
   ·subst ed;rw[iF,ai ⟨rfl,rfl,h⟩]
   ·rw[iE _ _ ed,af (λq=>ed q.2.1)]
  ·rename_i h
   rw[af (λq=>h q.2.2)]
 ·rw[af ex,af (λq=>ex q.1)]
theorem Mb(hF:jE y)(u:Ends y)(c d:Nat)(hc:c<y.nc)(hd:d<2):wY (iJ y) (iJ (y.kU c d))/\(Room y->iJ (y.kU c d)=iJ y/\Room (y.kU c d)):=by
 have X:∀x,((y.kU c d).C x).e=(y.C x).e:=λx=>((m7 y c d).2.2.2.2 x).1;have hi:∀x,((y.kU c d).C x).iT=(y.C x).iT:=λx=>((m7 y c d).2.2.2.2 x).2;have hR:∀j,((y.kU c d).R j)=if j=((y.C c).e d).1 then(y.R j).out ((y.C c).e d).2 else y.R j:=λj=>by
  show jW y.R ((y.C c).e d).1 _ j=_;by_cases e:j=((y.C c).e d).1
  ·subst e;rw[iF,ai rfl]
  ·rw[iE _ _ e,af e]
 have Q:∀j,((y.kU c d).R j).core=(y.R j).core:=λj=>by
  rw[hR];split
  ·show iO.core (iO.iU _ _ _)=_;unfold iO.core iO.iU;congr 1
   funext p
   show({ll (y.R j).P ((y.C c).e d).2 {(y.R j).P ((y.C c).e d).2 with out:=[] } p with rd:=lL,out:=[] }:jy)=_;by_cases e:p=((y.C c).e d).2
   ·rw[e,jB]
   ·rw[ju _ _ e]
  ·rfl
 have M:∀j,((y.kU c d).R j).kd=(y.R j).kd:=λj=>by
  rw[hR];split<;>rfl
 have V:∀j p,((y.kU c d).R j).P p=if(y.C c).e d=(j,p)then {(y.R j).P p with out:=[] }else(y.R j).P p:=λj p=>Br y c d j p
 have uU:∀x f,jY (y.kU c d) x f=jY y x f:=λx f=>by
  unfold jY;rw[X,V];split<;>rfl
 have A:∀x f,x<y.nc->f<2->¬(x=c/\f=d)->ud (y.kU c d) x f=ud y x f:=λx f hx hf hn=>by
  unfold ud;rw[uU,X,DC,af (λq=>hn ⟨q.1,q.2.1⟩),V,af (λq=>hn (u.ds x f c d hx hf hc hd q.symm))]
 have hq:=(hF.q c d hc hd).1;obtain⟨ps,H⟩:=hF.o ((y.C c).e d).1 ((y.C c).e d).2;have h0:jo (((y.kU c d).R ((y.C c).e d).1).P ((y.C c).e d).2)=[] :=jC (by rw[V,ai rfl]);have Y:ud (y.kU c d) c d=(if(y.C c).iT=true/\((y.C c).on d).length+((y.R ((y.C c).e d).1).P ((y.C c).e d).2).out.length<=2000 then ud y c d else(kB (jY y c d) ((y.C c).on d)).1):=by
  unfold ud;rw[uU,X,h0,aB,DC];split
  ·rename_i h
   rw[ai h.2.2,rz,hq,nh H];rw[H.1,rF ps H.2]
  ·rename_i h
   rw[af (λq=>h ⟨rfl,rfl,q⟩)]
 have E:∀G:Nat->Nat->List lv,(∀x f,(if x<y.nc/\f<2 then ud (y.kU c d) x f else [])=G x f)->iJ (y.kU c d)={iJ y with F:=G}:=λG hG=>by
  refine AN.ext' rfl rfl (funext X) rfl (funext hi) (funext Q) ?_ (funext λj=> ?_)
  ·funext x f;exact hG x f
  ·show y.kd j++((y.kU c d).R j).kd=_;rw[M];rfl
 refine⟨⟨?_,λx f=> ?_⟩,λhr=>⟨?_,λx f hx hf=> ?_⟩⟩
 ·exact E _ λ_ _=>rfl
 ·show∃m,(if x<y.nc/\f<2 then ud (y.kU c d) x f else [])=(if x<y.nc/\f<2 then ud y x f else []).take m;split
  ·rename_i Z
   by_cases e:x=c/\f=d
   ·obtain⟨rfl,rfl⟩:=e;rw[Y];split
    ·exact⟨(ud y x f).length,gZ⟩
    ·exact⟨(kB (jY y x f) ((y.C x).on f)).1.length,by unfold ud;simp⟩
   ·rw[A x f Z.1 Z.2 e];exact⟨(ud y x f).length,gZ⟩
  ·exact⟨0,rfl⟩
 ·refine E (iJ y).F λx f=> ?_;show _=if x<y.nc/\f<2 then ud y x f else []
  split
  ·rename_i Z
   by_cases e:x=c/\f=d
   ·obtain⟨rfl,rfl⟩:=e;rw[Y];rcases hr x f hc hd with J|J
    ·split
     ·rfl
     ·unfold ud;rw[jC J,aB]
    ·rw[ai J]
   ·exact A x f Z.1 Z.2 e
  ·rfl
 ·rw[X,V,hi,DC];by_cases e:x=c/\f=d
  ·obtain⟨rfl,rfl⟩:=e;rw[ai rfl];exact .inl rfl
  ·rw[af (λq=>e (u.ds x f c d hx hf hc hd q.symm)),af (λq=>e ⟨q.1,q.2.1⟩)];exact hr x f hx hf
theorem Ends.same {y':iP} (h:Ends y)(X:y'.n=y.n)(Y:y'.nc=y.nc)(Z:∀c,(y'.C c).e=(y.C c).e)(V:∀i,(y'.R i).n=(y.R i).n):Ends y':=
 ⟨λc d c' d'=>by rw[Y,Z,Z];exact h.ds c d c' d',λc d=>by rw[Y,Z];exact h.p3 c d,λi=>by rw[V,X];exact h.rn i,λc d=>by rw[Y,Z,X];exact h.en c d⟩
theorem Ends.kU {y:iP} (h:Ends y)(c d:Nat):Ends (y.kU c d):=h.same (m7 y c d).1 (m7 y c d).2.1 (λx=>((m7 y c d).2.2.2.2 x).1) λj=>by
 show(jW y.R ((y.C c).e d).1 _ j).n=_;by_cases e:j=((y.C c).e d).1
 ·subst e;rw[iF];rfl
 ·rw[iE _ _ e]
theorem Mc {y:iP} (hF:jE y)(X:Ends y):∀k,k<=y.nc->(Ends (y.j2 k)/\wY (iJ y) (iJ (y.j2 k)))/\(Room y->iJ (y.j2 k)=iJ y/\Room (y.j2 k))
 |0,_=>⟨⟨X,wY.refl _⟩,λh=>⟨rfl,h⟩⟩
 |k+1,hk=>by
  obtain⟨⟨Z,l1⟩,r1⟩:=Mc hF X k eh;have f1:=jE.j2 hF k eh;have n1:(y.j2 k).nc=y.nc:=(j6 y k).2.1;obtain⟨l2,M⟩:=Mb f1 Z k 0 (by rw[n1];omega) eA;have Y:=Z.kU k 0;have f2:=f1.kU k 0 (by rw[n1];omega);obtain⟨V,J⟩:=Mb f2 Y k 1 (by show k<(y.j2 k).nc;rw[n1];omega) eA;refine⟨⟨Y.kU k 1,l1.trans (l2.trans V)⟩,λh=> ?_⟩;obtain⟨q1,s1⟩:=r1 h;obtain⟨q2,H⟩:=M s1;obtain⟨Q,G⟩:=J H;exact⟨Q.trans (q2.trans q1),G⟩
theorem Md(y:iP):∀k,iJ (y.lO k)=iJ y
 |0=>rfl
 |k+1=>by
  rw[<-Md y k];obtain⟨z,Y⟩:=gq (y.lO k);show iJ ((y.lO k).tM k)=iJ (y.lO k);rw[Y];have Z:∀j,((z.tM k).R j).P=(z.R j).P:=λj=>by
   show(jW z.R k {z.R k with kd:=[] } j).P=_;by_cases e:j=k
   ·subst e;rw[iF]
   ·rw[iE _ _ e]
  refine AN.ext' rfl rfl rfl rfl rfl (funext λj=> ?_) (funext λc=>funext λd=> ?_) (funext λj=> ?_)
  ·show(jW z.R k {z.R k with kd:=[] } j).core=_;by_cases e:j=k
   ·subst e;rw[iF];rfl
   ·rw[iE _ _ e];rfl
  ·show(if c<z.nc/\d<2 then(kB (((z.tM k).R _).P _).rd _).1++jo (((z.tM k).R _).P _)else [])=_;rw[Z,Z];rfl
  ·show jW z.kd k (z.kd k++(z.R k).kd) j++(jW z.R k {z.R k with kd:=[] } j).kd=z.kd j++(z.R j).kd;by_cases e:j=k
   ·subst e;rw[iF,iF];simp
   ·rw[iE _ _ e,iE _ _ e]
theorem pM(hF:jE y)(Z:Ends y):wY (iJ y) (iJ y.gather)/\(Room y->iJ y.gather=iJ y):=by
 obtain⟨⟨_,l⟩,r⟩:=Mc hF Z y.nc (Nat.le_refl _);unfold iP.gather;rw[Md];exact⟨l,λh=>(r h).1⟩
theorem vN(a:AN)(i:Nat)(s:iO)(c d:Nat):(a.op i s).F c d=if(c<a.nc/\d<2)/\(a.e c d).1=i then a.F c d++jo (s.P (a.e c d).2)else a.F c d:=rfl
theorem SH(a:AN)(i:Nat)(s:iO):(a.op i s).e=a.e:=rfl
theorem ahd(a:AN)(i:Nat)(s:iO):(a.op i s).nc=a.nc:=rfl
theorem sY(a:AN)(c d:Nat)(l:List lv)(x f:Nat):(a.lH c d l).F x f=if x=c/\f=d then l else a.F x f:=rfl
theorem yY(a:AN)(c d:Nat)(l:List lv):(a.lH c d l).e=a.e:=rfl
theorem DE(a:AN)(c d:Nat)(l:List lv):(a.lH c d l).nc=a.nc:=rfl
def Norm(a:AN):Prop:=∀i,(a.R i).core=a.R i
theorem wZ(y:iP):Norm (iJ y):=λ_=>rfl
theorem rb {a:AN} (h:Norm a)(i:Nat)(s:iO):Norm (a.op i s):=λj=>by
 show(jW a.R i s.core j).core=jW a.R i s.core j;by_cases e:j=i
 ·subst e;rw[iF];rfl
 ·rw[iE _ _ e];exact h j
theorem Norm.out {a:AN} (h:Norm a)(i p:Nat):((a.R i).P p).out=[] :=by rw[<-h i];rfl
theorem Norm.kd {a:AN} (h:Norm a)(i:Nat):(a.R i).kd=[] :=by rw[<-h i];rfl
theorem nC.frN(h:nC r s)(Y:∀p,(r.P p).out=[]):∀p,∃ps,Frames (s.P p).out ps:=λp=>by
 obtain⟨qs,Z⟩:=h.out p [] (by rw[Y p];exact Frames.nil);exact⟨_,Z⟩
theorem nC.jP(r:iO)(i:Nat)(x:lv):nC r (jP r i x):=by
 cases x with
 |nil=>exact nC.refl r
 |cons c s=>exact nC.take r i c s
theorem ahf(a:AN)(i:Nat)(s t:iO)(rd:Nat->kE)(hs:∀p,∃ps,Frames (s.P p).out ps)(Z:∀p,∃ps,Frames (t.P p).out ps):(a.op i s).op i t=a.op i (t.pat rd (λp=>(s.P p).out) s.kd):=by
 refine AN.ext' rfl rfl rfl rfl rfl (funext λj=> ?_) (funext λc=>funext λd=> ?_) (funext λj=> ?_)
 ·show jW (jW a.R i s.core) i t.core j=jW a.R i t.core j;by_cases e:j=i
  ·subst e;rw[iF,iF]
  ·rw[iE _ _ e,iE _ _ e,iE _ _ e]
 ·rw[vN,vN,vN,SH,ahd];by_cases e:(c<a.nc/\d<2)/\(a.e c d).1=i
  ·rw[ai e,ai e,ai e,aD];congr 1;exact(Ac (JF (hs _)) (Z _) _).1.symm
  ·rw[af e,af e,af e]
 ·show jW (jW a.ib i (a.ib i++s.kd)) i (jW a.ib i (a.ib i++s.kd) i++t.kd) j=jW a.ib i (a.ib i++(s.kd++t.kd)) j;by_cases e:j=i
  ·subst e;rw[iF,iF,iF,aD]
  ·rw[iE _ _ e,iE _ _ e,iE _ _ e]
inductive yZ(c d:Nat):List lv->AN->AN->Prop
 |nil (a:AN):yZ c d [] a a
 |cons {a b:AN} {x:lv} {l r:List lv}:c<a.nc->d<2->a.F c d=x::r->yZ c d l (a.pop c d x r) b->yZ c d (x::l) a b
theorem yZ.path {l:List lv} {a b:AN} (h:yZ c d l a b):jV a [] [] b:=by
 induction h with
 |nil a=>exact jV.nil a
 |cons Z Y X _ ih=>exact(jV.one (mW.pop _ _ _ _ Z Y X)).trans ih
theorem adC:∀(l rest:List lv) (a:AN) (c d:Nat),Norm a->c<a.nc->d<2->a.F c d=l++rest->yZ c d l a ((a.lH c d rest).op (a.e c (1-d)).1 ((a.R (a.e c (1-d)).1).takes (a.e c (1-d)).2 l))
 |[],rest,a,c,d,hN,hc,hd,hF=>by
  have H:(a.lH c d rest).op (a.e c (1-d)).1 ((a.R (a.e c (1-d)).1).takes (a.e c (1-d)).2 [])=a:=by
   refine AN.ext' rfl rfl rfl rfl rfl ?_ (funext λx=>funext λf=> ?_) ?_
   ·show jW a.R _ (a.R _).core=_;rw[hN];exact wG _ _
   ·show(if _/\_ then(if x=c/\f=d then rest else a.F x f)++jo _ else if x=c/\f=d then rest else a.F x f)=_;have G:(if x=c/\f=d then rest else a.F x f)=a.F x f:=by
     split
     ·rename_i h;rw[h.1,h.2,hF];rfl
     ·rfl
    rw[G];split
    ·show _++jo ((a.R _).P _)=_;rw[jC (hN.out _ _),aB]
    ·rfl
   ·show jW a.ib _ (a.ib _++(a.R _).kd)=_;rw[hN.kd,aB];exact wG _ _
  rw[H];exact yZ.nil a
 |x::l,rest,a,c,d,hN,hc,hd,hF=>by
  obtain⟨i,hi⟩:=gq ((a.e c (1-d)).1);obtain⟨p,Q⟩:=gq ((a.e c (1-d)).2);have hs:=(nC.jP (a.R i) p x).frN (hN.out i);obtain⟨s,Z⟩:=gq (jP (a.R i) p x);have u:a.pop c d x (l++rest)=(a.lH c d (l++rest)).op i s:=by unfold AN.pop;rw[hi,Q,Z]
  rw[Z]at hs;have M:Norm ((a.lH c d (l++rest)).op i s):=rb (a:=a.lH c d (l++rest)) hN i s;have V:(if c=c/\d=d then l++rest else a.F c d)=l++rest:=ai ⟨rfl,rfl⟩;have J:((a.lH c d (l++rest)).op i s).F c d=l++(if(c<a.nc/\d<2)/\(a.e c d).1=i then rest++jo (s.P (a.e c d).2)else rest):=by
   show(if(c<a.nc/\d<2)/\(a.e c d).1=i then(if c=c/\d=d then l++rest else a.F c d)++jo (s.P (a.e c d).2)else(if c=c/\d=d then l++rest else a.F c d))=_;rw[V];split<;>simp
  have ih:=adC l _ _ c d M hc hd J;have X:((a.lH c d (l++rest)).op i s).R i=s.core:=iF _ _ _;have Y:=ih;have A:((a.lH c d (l++rest)).op i s).e=a.e:=rfl;rw[A,hi,Q,X]at Y;have E:(((a.lH c d (l++rest)).op i s).lH c d (if(c<a.nc/\d<2)/\(a.e c d).1=i then rest++jo (s.P (a.e c d).2)else rest))=(a.lH c d rest).op i s:=by
   refine AN.ext' rfl rfl rfl rfl rfl rfl (funext λy=>funext λf=> ?_) rfl;rw[sY,vN,vN,sY,sY,yY,yY,DE,DE];by_cases e:y=c/\f=d
   ·rw[ai e,ai e,e.1,e.2]
   ·rw[af e,af e,af e]
  rw[E,ahf _ _ _ _ (λq=>(s.P q).rd) hs ((nC.takes l s.core p).frN λ_=>rfl),<-BD,wW]at Y;rw[hi,Q];show yZ c d (x::l) a ((a.lH c d rest).op i ((jP (a.R i) p x).takes p l));rw[Z];exact yZ.cons (r:=l++rest) hc hd hF (by rw[u];exact Y)
theorem Ft(hF:jE y)(hE:Ends y)(c d k:Nat)(hc:c<y.nc)(hd:d<2):∃l rest,ud y c d=l++rest/\l=(kB (jY y c d) (((y.C c).on d).take k)).1/\iJ (y.jt c d k)=((iJ y).lH c d rest).op ((y.C c).e (1-d)).1 (((y.R ((y.C c).e (1-d)).1).core).takes ((y.C c).e (1-d)).2 l):=by
 obtain⟨i,hi⟩:=gq (((y.C c).e (1-d)).1);obtain⟨p,V⟩:=gq (((y.C c).e (1-d)).2);obtain⟨A,hA⟩:=gq (kB ((y.R i).P p).rd (((y.C c).on d).take k));have H:jY y c d=((y.R i).P p).rd:=by unfold jY;rw[hi,V]
 have M:(kB (jY y c d) ((y.C c).on d)).1=A.1++(kB A.2.2 (((y.C c).on d).drop k)).1:=by
  have:=rz (jY y c d) (((y.C c).on d).take k) (((y.C c).on d).drop k);rw[cF,H,hA]at this;rw[H,this]
 refine⟨A.1,(kB A.2.2 (((y.C c).on d).drop k)).1++jo ((y.R ((y.C c).e d).1).P ((y.C c).e d).2),?_,by rw[H,hA],?_⟩
 ·unfold ud;rw[M,aD]
 rw[hi,V];have X:(y.R i).recv p (((y.C c).on d).take k)=(((y.R i).core).takes p A.1).pat (jW (λq=>((y.R i).P q).rd) p A.2.2) (λq=>((y.R i).P q).out) (y.R i).kd:=by
  rw[<-BD];unfold iO.recv;simp only;rw[hA];congr 1;unfold iO.iU iO.pat iO.core jy.pt;simp only[List.append_nil];congr 1
  funext q
  by_cases e:q=p
  ·subst e;rw[jB,iF]
  ·rw[ju _ _ e,iE _ _ e]
 have hs:=(nC.takes A.1 (y.R i).core p).frN λ_=>rfl;obtain⟨s,u⟩:=gq (((y.R i).core).takes p A.1);rw[u]at X hs⊢;have Q:∀j,(y.jt c d k).R j=if j=i then(y.R i).recv p (((y.C c).on d).take k)else y.R j:=λj=>by
  unfold iP.jt;rw[hi,V];rfl
 have Y:∀x,((y.jt c d k).C x).e=(y.C x).e:=λx=>((rD y c d k).2.2.2 x).1;have E:∀x e,((y.jt c d k).C x).on e=if x=c/\e=d then((y.C c).on d).drop k else(y.C x).on e:=λx e=>by
  show((if x=c then {y.C c with on:=jW (y.C c).on d (((y.C c).on d).drop k)}else y.C x):qF).on e=_;by_cases ex:x=c
  ·rw[ai ex];show jW (y.C c).on d _ e=_;by_cases ed:e=d
   ·rw[ed,iF,ai ⟨ex,rfl⟩]
   ·rw[iE _ _ ed,af (λh=>ed h.2),ex]
  ·rw[af ex,af (λh=>ex h.1)]
 refine AN.ext' rfl rfl (funext Y) rfl (funext λx=>Fj y c d k x) (funext λj=> ?_) (funext λx=>funext λf=> ?_) (funext λj=> ?_)
 ·show((y.jt c d k).R j).core=jW _ i s.core j;rw[Q];by_cases e:j=i
  ·subst e;rw[ai rfl,iF,X,L8]
  ·rw[af e,iE _ _ e];rfl
 ·show(if x<y.nc/\f<2 then ud (y.jt c d k) x f else [])=if(x<y.nc/\f<2)/\((y.C x).e f).1=i then(if x=c/\f=d then _ else if x<y.nc/\f<2 then ud y x f else [])++jo (s.P ((y.C x).e f).2)else if x=c/\f=d then _ else if x<y.nc/\f<2 then ud y x f else []
  by_cases hx:x<y.nc/\f<2
  ·rw[ai hx];have hq:ud (y.jt c d k) x f=(if x=c/\f=d then(kB A.2.2 (((y.C c).on d).drop k)).1 else(kB (jY y x f) ((y.C x).on f)).1)++(if((y.C x).e f).1=i then jo ((y.R ((y.C x).e f).1).P ((y.C x).e f).2)++jo (s.P ((y.C x).e f).2)else jo ((y.R ((y.C x).e f).1).P ((y.C x).e f).2)):=by
    unfold ud;congr 1
    ·unfold jY;rw[Y,Q,E];by_cases e:x=c/\f=d
     ·rw[ai e,ai e,e.1,e.2,hi,ai rfl,X,V];have:((s.pat (jW (λq=>((y.R i).P q).rd) p A.2.2) (λq=>((y.R i).P q).out) (y.R i).kd).P p).rd=A.2.2:=by
       show jW (λq=>((y.R i).P q).rd) p A.2.2 p=_;rw[iF]
      rw[this]
     ·rw[af e,af e];by_cases Z:((y.C x).e (1-f)).1=i
      ·have J:((y.C x).e (1-f)).2≠p:=λJ=>by
        have:=hE.ds x (1-f) c (1-d) hx.1 eh hc eh (aV (Z.trans hi.symm) (J.trans V.symm));exact e ⟨this.1,eh⟩
       rw[ai Z,X,Z];have:((s.pat (jW (λq=>((y.R i).P q).rd) p A.2.2) (λq=>((y.R i).P q).out) (y.R i).kd).P ((y.C x).e (1-f)).2).rd=((y.R i).P ((y.C x).e (1-f)).2).rd:=by
        show jW (λq=>((y.R i).P q).rd) p A.2.2 ((y.C x).e (1-f)).2=_;rw[iE _ _ J]
       rw[this]
      ·rw[af Z]
    ·rw[Y,Q];by_cases Z:((y.C x).e f).1=i
     ·rw[ai Z,ai Z,X,Z];obtain⟨ps,G⟩:=hF.o i ((y.C x).e f).2;show jo ((s.P ((y.C x).e f).2).pt _ _)=_;rw[(Ac G (hs _) _).1,nh G]
     ·rw[af Z,af Z]
   rw[hq];by_cases e:x=c/\f=d
   ·rw[ai e,ai e,<-e.1,<-e.2];by_cases Z:((y.C x).e f).1=i
    ·rw[ai Z,ai ⟨hx,Z⟩,aD]
    ·rw[af Z,af (λh=>Z h.2)]
   ·rw[af e,af e,ai hx];unfold ud;by_cases Z:((y.C x).e f).1=i
    ·rw[ai Z,ai ⟨hx,Z⟩,aD]
    ·rw[af Z,af (λh=>Z h.2)]
  ·rw[af hx,af (λh=>hx h.1),af (λh=>hx ⟨by rw[h.1];exact hc,by rw[h.2];exact hd⟩),af hx]
 ·show y.kd j++((y.jt c d k).R j).kd=jW _ i _ j;rw[Q];by_cases e:j=i
  ·subst e;rw[ai rfl,iF,X];show y.kd j++((y.R j).kd++s.kd)=(y.kd j++(y.R j).kd)++s.kd;rw[aD]
  ·rw[af e,iE _ _ e];rfl
theorem Wx:((gg 10).all λs=>(lE s 1).1.all λc=>c==115||c==100)=true:=by decide+kernel
theorem Me(zp:kP):∀(l:List UInt8) (s:LS),l.all (λc=>c==115||c==100)=true->yq l s zp=[]
 |[],_,_=>rfl
 |c::r,s,h=>by
  rw[List.all_cons,Bool.and_eq_true]at h;show Gl c s zp++yq r _ zp=[]
  rw[Me zp r _ h.2,aB];have Z:c=115 \/c=100:=by simpa using h.1
  rcases Z with rfl|rfl<;>rfl
theorem Mf {s:LS} (h:uG s.st=true):(k8 s 1).2.1=[] :=by
 obtain⟨k,V,Y⟩:=DB h;have Z:=(tO h).1;have e:k8 s 1=tr s 1 (0,0,[]):=rfl;rw[e]at Z⊢;have X:(jj s.st 1).2.2=0:=by
  by_cases g:(jj s.st 1).2.2=0
  ·exact g
  ·rw[wC _ g]at Z;exact absurd Z g
 rw[tW _ X];show yq (jj s.st 1).1 _ _=[]
 rw[V,show jj (k:Int) 1=lE k 1 from nE k 1 Y eA];exact Me _ _ _ (aZ.1 Wx k (aP.2 Y))
theorem JH(r:iO)(p:Nat)(up:Bool)(q:Nat)(Z:q≠p):((r.iL p up).1.P q).out=(r.P q).out:=by
 unfold iO.iL;simp only;split
 ·rfl
 ·rw[(mZ _ p nobody).2.2.2];rw[ju _ _ Z];show(ll r.P p _ q).out=_;rw[ju _ _ Z]
theorem Fu {p:Nat} (h:uG (r.P p).L.st=true):((r.iL p false).1.P p).out=(r.P p).out:=by
 unfold iO.iL jy.iL;simp only[Bool.false_eq_true,if_false];rw[Mf h,(tO h).1];simp only[ne_eq,not_true_eq_false,if_false];rw[(mZ _ p nobody).2.2.2,jB];show(ll r.P p _ p).out=_;rw[jB];rfl
theorem P9 {L:LS} (h:if(!up)=true then uG L.st=true else L.st=1):(k8 L (if up=true then 0 else 1)).2.2=0:=by
 cases up
 ·exact(tO (by simpa using h)).1
 ·exact(Eu (by simpa using h)).1
theorem nC.abb(hs:∀p,(s.P p).out=[])(X:(k8 (s.P i).L (if up=true then 0 else 1)).2.2=0):∀p,∃ps,Frames ((s.iL i up).1.P p).out ps:=λp=>by
 have e:(s.P i).iL up=(({s.P i with L:=(k8 (s.P i).L (if up=true then 0 else 1)).1,rd:=([],false,false)}:jy).say (k8 (s.P i).L (if up=true then 0 else 1)).2.1,0):=by
  unfold jy.iL;simp only;rw[af (by simp[X])]
 unfold iO.iL;rw[e];simp only;rw[af gZ];obtain⟨x,hx⟩:=gq (({s.P i with L:=(k8 (s.P i).L (if up=true then 0 else 1)).1,rd:=([],false,false)}:jy).say (k8 (s.P i).L (if up=true then 0 else 1)).2.1);have Y:su {s.P i with L:=(k8 (s.P i).L (if up=true then 0 else 1)).1,rd:=([],false,false)} x:=by rw[<-hx];exact su.say _ _
 rw[hx,(mZ _ i nobody).2.2.2];by_cases Z:p=i
 ·subst Z;rw[jB];show∃ps,Frames (ll s.P p x p).out ps;rw[jB];obtain⟨qs,V⟩:=Y.out [] (by show Frames (s.P p).out [];rw[hs];exact Frames.nil);exact⟨_,V⟩
 ·rw[ju _ _ Z];show∃ps,Frames (ll s.P i x p).out ps;rw[ju _ _ Z,hs];exact⟨[],Frames.nil⟩
theorem SK(hF:∀i p,∃ps,Frames ((y.R i).P p).out ps)(hG:GN y)(hE:Ends y)(c:Nat)(up:Bool)(hc:c<y.nc)(hu:(y.C c).iT= !up)(ho:∀d,d<2->((y.R ((y.C c).e d).1).P ((y.C c).e d).2).out=[]):iJ (y.jZ c up)=(iJ y).iL c up/\(∀i p,(∀d,d<2->(y.C c).e d≠(i,p))->(((y.jZ c up).R i).P p).out=((y.R i).P p).out)/\(up=false->∀d,d<2->(((y.jZ c up).R ((y.C c).e d).1).P ((y.C c).e d).2).out=[]):=by
 have e0:=hG.ends c 0 hc eA;have e1:=hG.ends c 1 hc eA;have o0:=ho 0 eA;have o1:=ho 1 eA;rw[hu]at e0 e1;have jx:(y.C c).e 0≠(y.C c).e 1:=λh=>by
  have:=(hE.ds c 0 c 1 hc eA hc eA h).2;omega
 obtain⟨z,u⟩:=gq (y.lz c {y.C c with iT:=up,on:=λ_=>[] });have X:∀x,z.C x=if x=c then {y.C c with iT:=up,on:=λ_=>[] }else y.C x:=λx=>by rw[<-u];rfl
 have Q:∀x,(z.C x).e=(y.C x).e:=λx=>by rw[X];split<;>simp_all
 have Y:z.R=y.R:=by rw[<-u];rfl
 have Zx:z.nc=y.nc:=by rw[<-u];rfl
 have ahg:∀d,(z.C c).on d=[] :=λd=>by rw[X,ai rfl]
 have oB:iJ z=(({iJ y with iT:=jW (iJ y).iT c up}:AN).lH c 0 []).lH c 1 [] :=by
  refine AN.ext' (by rw[<-u];rfl) Zx (funext Q) (by rw[<-u];rfl) (funext λx=> ?_) (funext λj=> ?_) (funext λx=>funext λf=> ?_) (by rw[<-u];rfl)
  ·show(z.C x).iT=jW _ c up x;rw[X];by_cases e:x=c
   ·subst e;rw[ai rfl,iF]
   ·rw[af e,iE _ _ e];rfl
  ·show(z.R j).core=(y.R j).core;rw[Y]
  ·show(if x<z.nc/\f<2 then ud z x f else [])=if x=c/\f=1 then []else if x=c/\f=0 then []else if x<y.nc/\f<2 then ud y x f else []
   rw[Zx];by_cases V:x<y.nc/\f<2
   ·rw[ai V,ai V];by_cases e:x=c
    ·subst e;have:ud z x f=[] :=by
      unfold ud;rw[ahg,Q,Y,jC (ho f V.2)];rfl
     rw[this];split
     ·rfl
     ·split
      ·rfl
      ·omega
    ·rw[af (λh=>e h.1),af (λh=>e h.1)];unfold ud jY;rw[X,af e,Y]
   ·rw[af V,af (λh=>V ⟨by rw[h.1];exact hc,eh⟩),af (λh=>V ⟨by rw[h.1];exact hc,eh⟩),af V]
 obtain⟨i,hi⟩:=gq (((y.C c).e 0).1);obtain⟨p,E⟩:=gq (((y.C c).e 0).2);obtain⟨j,G⟩:=gq (((y.C c).e 1).1);obtain⟨q,A⟩:=gq (((y.C c).e 1).2);rw[hi,E]at e0 o0;rw[G,A]at e1 o1;have hpq:i=j->p≠q:=λh1 h2=>jx (aV (by rw[hi,G,h1]) (by rw[E,A,h2]));have d0:=P9 e0.st;have d1:=P9 e1.st;have k1:((z.R i).iL p up).1=(((z.R i).core.iL p up).1).pat (jW (λs=>((z.R i).P s).rd) p lL) (λs=>((z.R i).P s).out) (z.R i).kd:=by
  have:=Ma (λs=>((z.R i).P s).rd) (λs=>((z.R i).P s).out) (z.R i).kd (z.R i).core p up (by rw[Y];exact d0);rw[wW]at this;exact this
 have f1:∀s,∃ps,Frames (((z.R i).core.iL p up).1.P s).out ps:=nC.abb (s:=(z.R i).core) (λ_=>rfl) (by rw[Y];exact d0);have hrd:∀(w:iP),w.nc=y.nc->(∀x,(w.C x)=z.C x)->∀d0:Nat,d0<2->∀x f,x<w.nc->f<2->((w.C x).e (1-f)).1=((y.C c).e d0).1->jW (λs=>((w.R ((y.C c).e d0).1).P s).rd) ((y.C c).e d0).2 lL ((w.C x).e (1-f)).2=((w.R ((y.C c).e d0).1).P ((w.C x).e (1-f)).2).rd \/(w.C x).on f=[] :=λw hw hwC d0 hd0 x f hx hf Wt=>by
  by_cases e:((w.C x).e (1-f)).2=((y.C c).e d0).2
  ·refine .inr ?_;rw[hwC,Q]at Wt e;have:=hE.ds x (1-f) c d0 (by rw[<-hw];exact hx) eh hc hd0 (aV Wt e);rw[hwC,this.1];exact ahg f
  ·rw[iE _ _ e];exact .inl rfl
 have a1:=JG (y:=z) (by rw[Y];exact hF) i _ k1 (by have:=hrd z Zx (λ_=>rfl) 0 eA;rw[hi,E]at this;exact this) f1;obtain⟨Z,np⟩:=gq (z.jA i ((z.R i).iL p up).1);have M:∀x,Z.C x=z.C x:=λx=>by rw[<-np];rfl
 have J:∀k,Z.R k=if k=i then((z.R i).iL p up).1 else z.R k:=λk=>by rw[<-np];rfl
 have Zy:∀k s,¬(k=i/\s=p)->((Z.R k).P s).L=((y.R k).P s).L/\((Z.R k).P s).out=((y.R k).P s).out:=λk s h=>by
  rw[J];by_cases e:k=i
  ·rw[ai e,e,Y];have hs:s≠p:=λh2=>h ⟨e,h2⟩;exact⟨((xH (up:=up) p (by simpa using e0)).2.2 s hs).1,JH _ _ _ _ hs⟩
  ·rw[af e,Y];exact⟨rfl,rfl⟩
 have L1:=Zy j q (λh=>hpq h.1.symm h.2.symm);have k2:((Z.R j).iL q up).1=(((Z.R j).core.iL q up).1).pat (jW (λs=>((Z.R j).P s).rd) q lL) (λs=>((Z.R j).P s).out) (Z.R j).kd:=by
  have:=Ma (λs=>((Z.R j).P s).rd) (λs=>((Z.R j).P s).out) (Z.R j).kd (Z.R j).core q up (by show(k8 ((Z.R j).P q).L _).2.2=0;rw[L1.1];exact d1);rw[wW]at this;exact this
 have f2:∀s,∃ps,Frames (((Z.R j).core.iL q up).1.P s).out ps:=nC.abb (s:=(Z.R j).core) (λ_=>rfl) (by show(k8 ((Z.R j).P q).L _).2.2=0;rw[L1.1];exact d1);have al9:∀k s,∃ps,Frames ((Z.R k).P s).out ps:=λk s=>by
  by_cases e:k=i/\s=p
  ·rw[J,ai e.1,k1,e.2];obtain⟨ps,uO⟩:=hF i p;have:=(Ac uO (f1 p) (jW (λs=>((z.R i).P s).rd) p lL p)).2;rw[<-Y]at this;exact this
  ·rw[(Zy k s e).2];exact hF k s
 have a2:=JG (y:=Z) al9 j _ k2 (by have:=hrd Z (by rw[<-np];exact Zx) M 1 eA;rw[G,A]at this;exact this) f2;have uy:y.jZ c up=Z.jA j ((Z.R j).iL q up).1:=by
  unfold iP.jZ;rw[u];have t1:z.lI c 0 up=Z:=by unfold iP.lI;rw[Q,hi,E,np]
  rw[t1];unfold iP.lI;rw[M,Q,G,A]
 have H:∀k,(y.jZ c up).R k=if k=j then((Z.R j).iL q up).1 else Z.R k:=λk=>by rw[uy];rfl
 refine⟨?_,λk s hks=> ?_,λhup d hd=> ?_⟩
 ·rw[uy,a2,<-np,a1];unfold AN.iL;rw[<-oB];have t1:(iJ z).nK c 0 up=(iJ z).op i ((z.R i).core.iL p up).1:=by
   have ez:(iJ z).e c=(y.C c).e:=Q c;unfold AN.nK;rw[ez,hi,E];rfl
  rw[t1,<-a1,np];have ez:(iJ Z).e c=(y.C c).e:=by show(Z.C c).e=_;rw[M,Q]
  unfold AN.nK;rw[ez,G,A];rfl
 ·have h0:¬(k=i/\s=p):=λh=>hks 0 eA (aV (hi.trans h.1.symm) (E.trans h.2.symm));have h1:¬(k=j/\s=q):=λh=>hks 1 eA (aV (G.trans h.1.symm) (A.trans h.2.symm));rw[H];by_cases e:k=j
  ·rw[ai e,JH _ _ _ _ (λh=>h1 ⟨e,h⟩),<-e];exact(Zy k s h0).2
  ·rw[af e];exact(Zy k s h0).2
 ·subst hup;have u0:uG ((y.R i).P p).L.st=true:=by simpa using e0.st
  have u1:uG ((y.R j).P q).L.st=true:=by simpa using e1.st
  have GR:d=0 \/d=1:=eh;have hA:((Z.R i).P p).out=[] :=by
   rw[J,ai rfl,Fu (by rw[Y];exact u0),Y];exact o0
  rcases GR with rfl|rfl
  ·rw[hi,E,H];by_cases e:i=j
   ·rw[ai e,JH _ _ _ _ (hpq e),<-e];exact hA
   ·rw[af e];exact hA
  ·rw[G,A,H,ai rfl,Fu (by rw[L1.1];exact u1),L1.2];exact o1
theorem j5.Zz(h:j5 y D 0):∀c d,c<y.nc->d<2->((y.R ((y.C c).e d).1).P ((y.C c).e d).2).out=[] :=λc d hc hd=>by
 obtain⟨Z,Y⟩:=h.en c d hc hd;exact aH (by have:=(h.fit _ Z).2 _ Y;omega)
theorem DF(Z:GN y)(hc:c<y.nc)(hi:(y.C c).iT=false)(Y:∀d,d<2->((y.R ((y.C c).e d).1).P ((y.C c).e d).2).out=[])(hd:d<2):(iJ y).F c d=[] :=by
 show(if c<y.nc/\d<2 then ud y c d else [])=[]
 rw[ai ⟨hc,hd⟩];unfold ud;rw[Z.off c d hc hd hi,jC (Y d hd)];rfl
def nD(y:iP)(l:List Nat):List (Nat×Nat):=l.flatMap λc=>[(y.C c).e 0,(y.C c).e 1]
theorem vj(up:Bool):∀(l:List Nat) {y:iP},jE y->GN y->Ends y->l.Nodup->(∀c∈l,c<y.nc/\(y.C c).iT= !up)->(∀c∈l,∀d,d<2->((y.R ((y.C c).e d).1).P ((y.C c).e d).2).out=[])->
 jV (iJ y) (if up=true then nD y l else []) [] (iJ (y.jD up l))/\(up=false->(∀c d,c<y.nc->d<2->((y.R ((y.C c).e d).1).P ((y.C c).e d).2).out=[])->∀c d,c<y.nc->d<2->(((y.jD up l).R ((y.C c).e d).1).P ((y.C c).e d).2).out=[])
 |[],y,_,_,_,_,_,_=>⟨by cases up<;>exact jV.nil _,λ_ h=>h⟩
 |c::l,y,hF,hG,hE,xI,hm,ho=>by
  obtain⟨hc,hi⟩:=hm c gZ;have Z:=ho c gZ;obtain⟨a1,G,u⟩:=SK hF.o hG hE c up hc hi Z;obtain⟨s1,J,_,_,Y⟩:=pK y c up;have A:=hF.jZ hG hE c up hc hi;have Q:=hG.jZ hE c up hc hi;have V:=hE.jZ c up;have X:=bq.1 xI;have j:∀x∈l,x≠c:=λx hx e=>X.1 (e▸hx);have vz:jV (iJ y) (if up=true then [(y.C c).e 0,(y.C c).e 1]else []) [] (iJ (y.jZ c up)):=by
   rw[a1];cases up
   ·exact jV.one (mW.draw c hc (show(y.C c).iT=true by simpa using hi))
   ·exact jV.one (mW.iL c hc (show(y.C c).iT=false by simpa using hi) (DF hG hc (by simpa using hi) Z eA) (DF hG hc (by simpa using hi) Z eA))
  obtain⟨y1,H⟩:=gq (y.jZ c up);rw[H]at G u J Y A Q V vz;obtain⟨p1,p2⟩:=vj up l (y:=y1) A Q V X.2 (λx hx=>⟨by rw[J];exact(hm x (by simp[hx])).1,by rw[(Y x).2,af (j x hx)];exact(hm x (by simp[hx])).2⟩) (λx hx d hd=>by
   rw[(Y x).1];rw[G _ _ (λd' E h=>(j x hx) (hE.ds x d c d' (hm x (by simp[hx])).1 hd hc E h.symm).1)];exact ho x (by simp[hx]) d hd)
  have hP:nD y1 l=nD y l:=by unfold nD;congr 1;funext x;rw[(Y x).1]
  refine⟨?_,λM nO x d hx hd=> ?_⟩
  ·have:=vz.trans p1;rw[hP]at this;show jV _ _ _ (iJ ((y.jZ c up).jD up l));rw[H];cases up
   ·simpa using this
   ·simpa[nD]using this
  ·show(((y.jZ c up).jD up l).R _|>.P _).out=[]
   rw[H];have:=p2 M (λx d hx hd=>by
    rw[(Y x).1];have vM:x<y.nc:=by rw[<-J];exact hx
    by_cases e:x=c
    ·subst e;exact u M d hd
    ·rw[G _ _ (λd' E h=>e (hE.ds x d c d' vM hd hc E h.symm).1)];exact nO x d vM hd) x d (by rw[J];exact hx) hd
   rw[(Y x).1]at this;exact this
structure SL(T:List (Nat×Nat)):Prop where
 nd:T.Nodup
 len:T.length<=18
theorem SL.nil:SL [] :=⟨cW,gZ⟩
theorem xb {y:iP} (Y:Ends y):∀l:List Nat,l.Nodup->(∀c∈l,c<y.nc)->(nD y l).Nodup/\(nD y l).length=2*l.length
 |[],_,_=>⟨by simp[nD],rfl⟩
 |c::l,xI,hm=>by
  have V:=bq.1 xI;obtain⟨a,b⟩:=xb Y l V.2 λx hx=>hm x (by simp[hx]);have hc:=hm c gZ;have e:nD y (c::l)=(y.C c).e 0::(y.C c).e 1::nD y l:=by simp[nD]
  have Q:∀d,d<2->(y.C c).e d∉nD y l:=λd hd hx=>by
   obtain⟨x,Z,X⟩:=aT.1 hx;have M:=hm x (by simp[Z]);have:(∃f,f<2/\(y.C c).e d=(y.C x).e f):=by
    simp only[il,iq,or_false]at X;rcases X with h|h
    ·exact⟨0,eA,h⟩
    ·exact⟨1,eA,h⟩
   obtain⟨f,hf,h⟩:=this;exact V.1 ((Y.ds c d x f hc hd M hf h).1▸Z)
  refine⟨?_,by rw[e];simp only[eT,b];omega⟩;rw[e,bq,bq];refine⟨λhx=> ?_,Q 1 eA,a⟩;rcases aO.1 hx with h|h
  ·have:=(Y.ds c 0 c 1 hc eA hc eA h).2;omega
  ·exact Q 0 eA h
inductive xW:List (Nat×Nat)->AN->AN->Prop
 |nil (a:AN):xW [] a a
 |snoc {T:List (Nat×Nat)} {a b:AN} (i p:Nat):xW T a b->i<b.n->p<3->xW (T++ [(i,p)]) a (b.op i ((b.R i).iY p))
theorem xW.path {a b:AN} (h:xW T a b):jV a T [] b:=by
 induction h with
 |nil a=>exact jV.nil a
 |snoc i p _ hi Z ih=>have:=ih.snoc (mW.tick i p hi Z);simpa using this
theorem xW.trans {a b c:AN} (h:xW T a b)(g:xW U b c):xW (T++U) a c:=by
 induction g with
 |nil=>simpa using h
 |snoc i p _ hi Z ih=>rw[<-aD];exact(ih h).snoc i p hi Z
theorem Cx {y:iP} (hF:jE y)(k:Nat)(Q:k<y.n):∀j,j<=3->xW ((gg j).map λp=>(k,p)) (iJ y) (iJ (y.jA k ((y.R k).jc j)))
 |0,_=>by
  have e:y.jA k ((y.R k).jc 0)=y:=by
   show y.jA k (y.R k)=y;unfold iP.jA;rw[wG]
  rw[e];exact xW.nil _
 |j+1,hj=>by
  have X:=Cx hF k Q j eh;have V:=hF.jA k (nC.jc (y.R k) j);obtain⟨z,Z⟩:=gq (y.jA k ((y.R k).jc j));rw[Z]at X V;have Y:z.R k=(y.R k).jc j:=by rw[<-Z];exact iF _ _ _
  have e:y.jA k ((y.R k).jc (j+1))=z.jA k ((z.R k).iY j):=by
   rw[Y,<-Z];show({y with R:=_}:iP)={y with R:=jW (jW y.R k _) k _}
   congr 1
   funext x
   by_cases ex:x=k
   ·subst ex;rw[iF,iF];rfl
   ·rw[iE _ _ ex,iE _ _ ex,iE _ _ ex]
  have M:(z.R k).iY j=((z.R k).core.iY j).pat (λp=>((z.R k).P p).rd) (λp=>((z.R k).P p).out) (z.R k).kd:=by
   rw[<-SG,wW]
  rw[e,Wv V.o k M ((nC.iY (z.R k).core j).frN λ_=>rfl),bX,cS];have Sk:z.n=y.n:=by rw[<-Z];rfl
  exact X.snoc k j (by show k<z.n;omega) eh
def SM(k:Nat):List (Nat×Nat):=[(k,0),(k,1),(k,2)]
theorem Fv(hF:jE y)(Y:j5 y D 0)(hD:D<=900000000)(k:Nat)(Z:k<y.n):xW (SM k) (iJ y) (iJ (y.jA k (y.R k).tick))/\Ends (y.jA k (y.R k).tick)/\jE (y.jA k (y.R k).tick):=by
 have h:=Cx hF k Z 3 (Nat.le_refl _);have e:(y.R k).tick=(y.R k).jc 3:=by unfold iO.tick;rw[(Y.rn k Z).1]
 rw[<-e]at h;exact⟨h,(Y.jd eh Z).oM,hF.jA k (nC.jc _ _)⟩
theorem Iw(hF:jE y)(V:j5 y D 0)(Y:D<=900000000)(k:Nat)(X:k<y.n):jV (iJ y) (SM k) [] (iJ (y.tick ((k:Int)+1)).1):=by
 obtain⟨h,Z,f1⟩:=Fv hF V Y k X;unfold iP.tick;rw[af eh];rw[show((k:Int)+1-1).toNat=k by omega];exact h.path.lost (pM f1 Z).1
theorem vm(hF:jE y)(X:j5 y D 0)(hD:D<=900000000)(i d m:Int):jV (iJ y) [] [] (iJ (y.deliver i d m).1):=by
 unfold iP.deliver;split
 ·exact jV.nil _
 ·rename_i h
  have hc:i.toNat<y.nc:=eh;have hd:d.toNat<2:=eh;obtain⟨k,M⟩:=gq (min m.toNat ((y.C i.toNat).on d.toNat).length);rw[M];have Y:=X.oM;obtain⟨l,rest,V,_,Q⟩:=Ft hF Y i.toNat d.toNat k hc hd;have Z:(iJ y).F i.toNat d.toNat=l++rest:=by
   show(if i.toNat<y.nc/\d.toNat<2 then ud y i.toNat d.toNat else [])=_;rw[ai ⟨hc,hd⟩,V]
  have J:=(adC l rest (iJ y) i.toNat d.toNat (wZ y) hc hd Z).path;have:jV (iJ y) [] [] (iJ (y.jt i.toNat d.toNat k)):=by rw[Q];exact J
  exact this.lost (pM (hF.jt Y _ _ _ hc hd) (X.jt eh hc hd).oM).1
theorem SN(hF:jE y)(X:GN y)(Q:j5 y D 0)(i:Int)(up:Bool):∃T,SL T/\jV (iJ y) T [] (iJ (y.iL i up).1):=by
 unfold iP.iL;split
 ·exact⟨[],SL.nil,jV.nil _⟩
 ·split
  ·exact⟨[],SL.nil,jV.nil _⟩
  ·rename_i h kR
   have hc:i.toNat<y.nc:=eh;have hi:(y.C i.toNat).iT= !up:=by cases hv:(y.C i.toNat).iT<;>cases up<;>simp_all
   have Y:=Q.oM;have M:=(vj up [i.toNat] hF X Y gZ (λc Z=>by simp only[iw]at Z;subst Z;exact⟨hc,hi⟩) (λc Z d hd=>by simp only[iw]at Z;subst Z;exact Q.Zz _ d hc hd)).1;have V:=xb Y [i.toNat] gZ (λc Z=>by simp only[iw]at Z;subst Z;exact hc);refine⟨_,?_,M.lost (pM (hF.jZ X Y _ _ hc hi) (Y.jZ _ _)).1⟩;split
   ·exact⟨V.1,by rw[V.2];simp⟩
   ·exact SL.nil
theorem JI(hF:jE y)(hG:GN y)(iQ:j5 y D 0)(i:Int):∃T,SL T/\jV (iJ y) T [] (iJ (y.restart i).1):=by
 unfold iP.restart;split
 ·exact⟨[],SL.nil,jV.nil _⟩
 ·rename_i hi
  obtain⟨k,hk⟩:=gq ((i-1).toNat);have hik:i=(k:Int)+1:=eh;have AY:k<y.n:=eh;simp only;rw[hk];obtain⟨l,hl⟩:=gq (y.lA k);rw[hl];have u:∀c,c∈l↔c<y.nc/\(y.C c).iT=true/\(((y.C c).e 0).1=k \/((y.C c).e 1).1=k):=λc=>by
   rw[<-hl];unfold iP.lA;simp[List.mem_filter]
  have hll:l.length<=9:=by rw[<-hl];exact Nat.le_trans (yW y k) iQ.c9
  have J:l.Nodup:=by
   rw[<-hl];exact du dj bV
  have vY:∀c∈l,c<y.nc/\(y.C c).iT= !false:=λc hc=>⟨((u c).1 hc).1,((u c).1 hc).2.1⟩
  have hE:=iQ.oM;obtain⟨a,b,d⟩:=GN.jD false l hG hE J vY;have f1:=jE.jD false l hF hG hE J vY;obtain⟨p1,o1⟩:=vj false l hF hG hE J vY (λc hc d hd=>iQ.Zz c d (vY c hc).1 hd);have o1:=o1 rfl iQ.Zz;obtain⟨s1,s2,s3,s4,s5⟩:=nt false l y;have hpo:∀z:iP,(∀x,(z.C x).e=(y.C x).e)->nD z l=nD y l:=λz hz=>by unfold nD;congr 1;funext x;rw[hz]
  obtain⟨Z,Cn⟩:=gq (y.jD false l);rw[Cn]at a b d s1 s2 s3 s4 s5 f1 p1 o1⊢;have Oz:∀c e,c<Z.nc->e<2->((Z.C c).e e).1=k->(Z.C c).iT=false:=λc e hc M heq=>by
   have j0:c<y.nc:=by rw[s2]at hc;exact hc
   rw[d c];by_cases hm:c∈l
   ·rw[ai hm]
   ·rw[af hm];by_cases kR:(y.C c).iT=true
    ·exfalso;rw[s5 c]at heq;refine hm ((u c).2 ⟨j0,kR,?_⟩);have:e=0 \/e=1:=eh;rcases this with rfl|rfl
     ·exact .inl heq
     ·exact .inr heq
    ·simpa using kR
  have V:∀c d,c<Z.nc->d<2->((Z.R ((Z.C c).e d).1).P ((Z.C c).e d).2).out=[] :=λc d hc hd=>by
   rw[s5 c];exact o1 c d (by rw[<-s2];exact hc) hd
  have f2:=f1.anew a k i (y.ms k) Oz;have a2:GN (Z.jA k (jO i 3 (y.ms k))):=by
   refine a.jA k _ (λc e hc M heq _=> ?_);rw[Oz c e hc M heq];have hI:=qQ i (y.ms k) ((Z.C c).e e).2;exact⟨by simpa using hI.st,λe=>absurd (by rw[hI.pe];rfl) e⟩
  have b2:Ends (Z.jA k (jO i 3 (y.ms k))):=⟨b.ds,b.p3,λj=>by
   show(jW Z.R k _ j).n=3 \/Z.n<=j;by_cases e:j=k
   ·rw[e,iF];exact .inl rfl
   ·rw[iE _ _ e];exact b.rn j,b.en⟩
  have Dr:jV (iJ Z) [] [] (iJ (Z.jA k (jO i 3 (y.ms k)))):=by
   have kj:=mW.anew (a:=iJ Z) k (Z.kd k).length (by show k<Z.n;omega) (λc e hc M heq=>by
    have A:=Oz c e hc M heq;exact⟨A,DF a hc A (λd hd=>V c d hc hd) eA,DF a hc A (λd hd=>V c d hc hd) eA⟩)
   have heq:iJ (Z.jA k (jO i 3 (y.ms k)))={iJ Z with R:=jW (iJ Z).R k (jO ((k:Int)+1) 3 ((iJ Z).ms k)),ib:=jW (iJ Z).ib k (((iJ Z).ib k).take (Z.kd k).length)}:=by
    refine AN.ext' rfl rfl rfl rfl rfl (funext λj=> ?_) (funext λc=>funext λe=> ?_) (funext λj=> ?_)
    ·show(jW Z.R k _ j).core=jW _ k (jO ((k:Int)+1) 3 (Z.ms k)) j;by_cases Y:j=k
     ·rw[Y,iF,iF,hik,s3];rfl
     ·rw[iE _ _ Y,iE _ _ Y];rfl
    ·show(if c<Z.nc/\e<2 then ud (Z.jA k (jO i 3 (y.ms k))) c e else [])=if c<Z.nc/\e<2 then ud Z c e else []
     split
     ·rename_i Dh
      obtain⟨hc,M⟩:=Dh;have hP:∀p,(((Z.jA k (jO i 3 (y.ms k))).R k).P p).out=[] :=λp=>by
       show((jW Z.R k _ k).P p).out=[]
       rw[iF];rfl
      have hO:jo (((Z.jA k (jO i 3 (y.ms k))).R ((Z.C c).e e).1).P ((Z.C c).e e).2)=jo ((Z.R ((Z.C c).e e).1).P ((Z.C c).e e).2):=by
       by_cases E:((Z.C c).e e).1=k
       ·rw[jC (V c e hc M),E,jC (hP _)]
       ·show jo ((jW Z.R k _ _).P _)=_;rw[iE _ _ E]
      show(kB (jY (Z.jA k (jO i 3 (y.ms k))) c e) ((Z.C c).on e)).1++jo (((Z.jA k (jO i 3 (y.ms k))).R ((Z.C c).e e).1).P ((Z.C c).e e).2)=_;rw[hO];congr 1;by_cases E:((Z.C c).e (1-e)).1=k
      ·have A:=Oz c (1-e) hc eh E;rw[a.off c e hc M A];rfl
      ·have hR:jY (Z.jA k (jO i 3 (y.ms k))) c e=jY Z c e:=by
        show((jW Z.R k _ ((Z.C c).e (1-e)).1).P ((Z.C c).e (1-e)).2).rd=_;rw[iE _ _ E];rfl
       rw[hR]
     ·rfl
    ·show Z.kd j++(jW Z.R k (jO i 3 (y.ms k)) j).kd=jW _ k ((Z.kd k++(Z.R k).kd).take (Z.kd k).length) j;by_cases Y:j=k
     ·rw[Y,iF,iF,List.take_left];show Z.kd k++ [] =_;rw[aB]
     ·rw[iE _ _ Y,iE _ _ Y];rfl
   rw[heq];exact jV.one kj
  obtain⟨H,X⟩:=gq (Z.jA k (jO i 3 (y.ms k)));have Q:H.C=Z.C:=by rw[<-X];rfl
  have G:H.nc=Z.nc:=by rw[<-X];rfl
  rw[X]at f2 a2 b2 Dr⊢;have I2:∀c∈l,c<H.nc/\(H.C c).iT= !true:=λc hc=>⟨by rw[G,s2];exact((u c).1 hc).1,by rw[Q,d c,ai hc];rfl⟩
  have jn:∀j p,((H.R j).P p).out=[] \/((H.R j).P p).out=((Z.R j).P p).out:=λj p=>by
   rw[<-X];show((jW Z.R k _ j).P p).out=[] \/((jW Z.R k _ j).P p).out=_;by_cases Y:j=k
   ·rw[Y,iF];exact .inl rfl
   ·rw[iE _ _ Y];exact .inr rfl
  have p2:=(vj true l f2 a2 b2 J I2 (λc hc d hd=>by
   rw[Q];rcases jn ((Z.C c).e d).1 ((Z.C c).e d).2 with h|h
   ·exact h
   ·rw[h];exact V c d (by rw[<-G];exact(I2 c hc).1) hd)).1
  have g2:=GN.jD true l a2 b2 J I2;have f3:=jE.jD true l f2 a2 b2 J I2;have nO:=((p1.trans Dr).trans p2).lost (pM f3 g2.2.1).1;rw[hpo H (λx=>by rw[Q,s5 x])]at nO;have hn:=xb hE l J (λc hc=>((u c).1 hc).1);exact⟨nD y l,⟨hn.1,by rw[hn.2];omega⟩,by simpa using nO⟩
def Ad(n:Nat)(f t:Int)(tx:List UInt8):List (Int×List UInt8):=if(1<=f/\f<=(n:Int))/\(1<=t/\t<=6)/\tx.length<=20 then [(t,tx)]else []
theorem SP(hF:jE y)(J:j5 y D 0)(hD:D<=900000000)(f t:Int)(tx:List UInt8):jV (iJ y) [] (Ad y.n f t tx) (iJ (y.send f t tx).1):=by
 unfold iP.send;split
 ·unfold Ad;rw[af eh];exact jV.nil _
 ·rename_i h
  obtain⟨k,Q⟩:=gq ((f-1).toNat);have Z:k<y.n:=eh;rw[Q];by_cases hv:t<1 \/6<t \/20<tx.length
  ·have e:kg (y.R k) t tx=(y.R k,1):=by unfold kg;rw[ai hv]
   rw[e,ai gZ];unfold Ad;rw[af eh];exact jV.nil _
  ·have e:kg (y.R k) t tx=((y.R k).send (t,8,tx),0):=by unfold kg;rw[af hv]
   have Y:=(J.VZ eh Z t tx).oM;rw[e]at Y;rw[e,af gZ];unfold Ad;rw[ai eh];have H:=nC.send (y.R k).core (t,8,tx);have M:(y.R k).send (t,8,tx)=((y.R k).core.send (t,8,tx)).pat (λp=>((y.R k).P p).rd) (λp=>((y.R k).P p).out) (y.R k).kd:=by rw[<-L9,wW]
   have X:=Wv hF.o k M (H.frN λ_=>rfl);have V:jV (iJ y) [] [(t,tx)] (iJ (y.jA k ((y.R k).send (t,8,tx)))):=by
    rw[X];exact jV.one (mW.send k t tx Z eh eh eh)
   exact V.lost (pM (hF.jA k (nC.send (y.R k) (t,8,tx))) Y).1
def mV(k:Nat):List (Nat×Nat):=(gg k).flatMap SM
theorem BF(k:Nat):mV (k+1)=mV k++SM k:=by simp[mV,iy]
theorem pH:∀k,(mV k).Nodup/\(mV k).length=3*k/\∀x∈mV k,x.1<k
 |0=>⟨cW,rfl,λ_ h=>by simp[mV]at h⟩
 |k+1=>by
  obtain⟨a,b,c⟩:=pH k;rw[BF];refine⟨bD.2 ⟨a,by simp[SM],λx hx z Z e=> ?_⟩,by simp[b,SM];omega,λx hx=> ?_⟩
  ·have Y:=c x hx;subst e;simp only[SM,il,iq,or_false]at Z;rcases Z with rfl|rfl|rfl<;>simp at Y
  ·rcases av.1 hx with h|h
   ·have:=c x h;omega
   ·simp only[SM,il,iq,or_false]at h;rcases h with rfl|rfl|rfl<;>simp
theorem y8 {y:iP} {D:Nat} (hF:jE y)(Z:j5 y D 0)(Y:D<=800000000):∀q,q<=y.n->jV (iJ y) (mV q) [] (iJ (y.jc q))
 |0,_=>jV.nil _
 |q+1,hq=>by
  have n6:=Z.n6;have X:=y8 hF Z Y q eh;have V:=Iw (jE.jc hF q) (Z.jc Y q eh) eh q (by rw[(oL y q).1];omega);rw[BF];exact X.trans V
theorem Cy {y:iP} {D:Nat} (hF:jE y)(Y:j5 y D 0)(Z:D<=890000000):∀q,q<=9->jV (iJ y) [] [] (iJ (y.jQ q))
 |0,_=>jV.nil _
 |q+1,hq=>by
  have X:=Cy hF Y Z q eh;have f1:=jE.jQ hF Y Z q eh;have k1:=Y.jQ Z q eh;have V:=vm f1 k1 eh (q:Int) 0 2000;have Q:=vm (f1.deliver k1 (q:Int) 0 2000) (k1.deliver eh (q:Int) 0 2000) eh (q:Int) 1 2000;exact(X.trans V).trans Q
theorem Fw {y:iP} {D:Nat} (hF:jE y)(Z:j5 y D 0)(Y:D<=810000000):∀t,t<=12->jV (iJ y) [] [] (iJ (y.turns t))
 |0,_=>jV.nil _
 |t+1,ht=>(Fw hF Z Y t eh).trans (Cy (jE.turns hF Z Y t eh) (Z.turns Y t eh) eh y.nc Z.c9)
theorem za(hF:jE y)(Z:j5 y D 0)(Y:D<=800000000):jV (iJ y) (mV y.n) [] (iJ y.round):=by
 have n6:=Z.n6;have h:=(y8 hF Z Y y.n (Nat.le_refl _)).trans (Fw (hF.jc y.n) (Z.jc Y y.n n6) eh 12 (Nat.le_refl _));rw[aB]at h;exact h
def JJ(v:AV):Bool:=v.kind.toList==[115,101,110,100]
def sOf(n:Nat)(v:AV):List (Int×List UInt8):=if JJ v=true then Ad n v.a v.b v.s.data.toList else []
theorem JK {v:AV} (n:Nat) {l:List UInt8} (h:(v.kind.toList==l)=true)(hl:(l==[115,101,110,100])=false):sOf n v=[] :=by
 unfold sOf JJ;rw[dU]at h;rw[h,hl];rfl
theorem Mg(hF:jE y)(Y:GN y)(Z:j5 y D 0)(X:D<=800000000)(v:AV):∃T,SL T/\jV (iJ y) T (sOf y.n v) (iJ (sj y v)):=by
 unfold sj;split
 ·rename_i h
  rw[JK y.n h eA];exact SN hF Y Z _ _
 ·split
  ·rename_i h
   rw[JK y.n h eA];by_cases hi:v.a<1 \/(y.n:Int)<v.a
   ·refine⟨[],SL.nil,?_⟩;unfold iP.tick;rw[ai hi];exact jV.nil _
   ·have:=Iw hF Z eh (v.a-1).toNat eh;rw[show(((v.a-1).toNat:Nat):Int)+1=v.a by omega]at this;exact⟨_,⟨by simp[SM],by simp[SM]⟩,this⟩
  ·split
   ·rename_i h
    rw[JK y.n h eA];exact⟨[],SL.nil,vm hF Z eh _ _ _⟩
   ·split
    ·rename_i h
     rw[JK y.n h eA];exact JI hF Y Z _
    ·split
     ·rename_i h
      unfold sOf;rw[ai (show JJ v=true from h)];exact⟨[],SL.nil,SP hF Z eh _ _ _⟩
     ·rename_i h
      unfold sOf;rw[af (show¬JJ v=true from h)];split
      ·obtain⟨a,b,_⟩:=pH y.n;have:=Z.n6;exact⟨_,⟨a,by rw[b];omega⟩,za hF Z X⟩
      ·exact⟨[],SL.nil,jV.nil _⟩
def SQ(m:Nat):List (Nat×Nat):=(gg m).flatMap λc=>[(c,0),(c,1)]
theorem qt {m:Nat} {x:Nat×Nat}:x∈SQ m↔x.1<m/\x.2<2:=by
 obtain⟨c,d⟩:=x;unfold SQ;simp only[List.mem_flatMap,List.mem_range,il,Prod.mk.injEq,iq,or_false];constructor
 ·rintro⟨b,Z,Y|Y⟩<;>omega
 ·rintro⟨Z,Y⟩;exact⟨c,Z,eh⟩
theorem xJ:∀m,(SQ m).Nodup
 |0=>cW
 |m+1=>by
  have e:SQ (m+1)=SQ m++ [(m,0),(m,1)] :=by simp[SQ,iy]
  rw[e];refine bD.2 ⟨xJ m,gZ,λx hx z Z h=> ?_⟩;have Y:=(qt.1 hx).1;subst h;simp only[il,iq,or_false]at Z;rcases Z with rfl|rfl<;>simp at Y
def sm {α:Type} (f:α->Nat)(l:List α):Nat:=(l.map f).sum
theorem vH {α:Type} {f g:α->Nat}:∀ {l:List α},(∀x∈l,f x<=g x)->sm f l<=sm g l
 |[],_=>Nat.le_refl _
 |x::l,h=>by
  have:=vH (l:=l) λy hy=>h y (by simp[hy]);have h1:=h x gZ;simp only[sm,eN,iz]at*;omega
theorem Fx {α:Type} (f g:α->Nat):∀l:List α,sm (λx=>f x+g x) l=sm f l+sm g l
 |[] =>rfl
 |x::l=>by
  have:=Fx f g l;simp only[sm,eN,iz]at*;omega
theorem pW(f:α->Nat)(l m:List α):sm f (l++m)=sm f l+sm f m:=by simp[sm]
theorem JL {α:Type} [DecidableEq α] (y:α)(k:Nat):∀ {l:List α},l.Nodup->sm (λx=>if x=y then k else 0) l=if y∈l then k else 0
 |[],_=>rfl
 |x::l,h=>by
  have Z:=bq.1 h;have:=JL y k Z.2;have e:sm (λx=>if x=y then k else 0) (x::l)=(if x=y then k else 0)+sm (λx=>if x=y then k else 0) l:=rfl;rw[e,this];by_cases hx:x=y
  ·subst hx;rw[ai rfl,af Z.1,ai gZ];rfl
  ·rw[af hx];by_cases hy:y∈l
   ·rw[ai hy,ai (by simp[hy])];omega
   ·rw[af hy,af (by simp[hy,Ne.symm hx])]
theorem Ae [DecidableEq α] {f g:α->Nat} {y:α} {l:List α} (Y:l.Nodup)(hy:y∈l)(h:∀x∈l,f x+(if x=y then k else 0)<=g x):sm f l+k<=sm g l:=by
 have Z:=vH h;rw[Fx,JL y k Y,ai hy]at Z;exact Z
structure tP(a:AN):Prop where
 n6:a.n<=6
 c9:a.nc<=9
 ds:∀c d c' d',c<a.nc->d<2->c'<a.nc->d'<2->a.e c d=a.e c' d'->c=c'/\d=d'
 en:∀c d,c<a.nc->d<2->(a.e c d).1<a.n/\(a.e c d).2<3
theorem tP.same {a b:AN} (h:tP a)(Y:b.n=a.n)(Z:b.nc=a.nc)(X:b.e=a.e):tP b:=
 ⟨by rw[Y];exact h.n6,by rw[Z];exact h.c9,by rw[Z,X];exact h.ds,by rw[Y,Z,X];exact h.en⟩
theorem j5.qU(h:j5 y D k):tP (iJ y):=⟨h.n6,h.c9,h.ds,h.en⟩
theorem Ix(e:Nat×Nat->Nat×Nat)(i:Nat)(h:Nat->Nat):∀l:List (Nat×Nat),l.Nodup->(∀x∈l,(e x).2<3)->(∀x∈l,∀y∈l,e x=e y->x=y)->sm (λx=>if(e x).1=i then h (e x).2 else 0) l<=sm (λp=>if(i,p)∈l.map e then h p else 0) [0,1,2]
 |[],_,_,_=>Nat.zero_le _
 |x::l,hn,hp,hi=>by
  have X:=bq.1 hn;have ih:=Ix e i h l X.2 (λy hy=>hp y (by simp[hy])) (λy hy z M=>hi y (by simp[hy]) z (by simp[M]));have Q:sm (λx=>if(e x).1=i then h (e x).2 else 0) (x::l)=(if(e x).1=i then h (e x).2 else 0)+sm (λx=>if(e x).1=i then h (e x).2 else 0) l:=rfl;rw[Q];by_cases hx:(e x).1=i
  ·rw[ai hx];have J:(i,(e x).2)∉l.map e:=λZ=>by
    obtain⟨y,hy,Y⟩:=bH.1 Z;have:=hi x gZ y (by simp[hy]) (by rw[Y,<-hx]);exact X.1 (this▸hy)
   have h3:sm (λp=>if(i,p)∈l.map e then h p else 0) [0,1,2] +h (e x).2<=sm (λp=>if(i,p)∈(x::l).map e then h p else 0) [0,1,2] :=by
    refine Ae (y:=(e x).2) eA ?_ λp _=> ?_
    ·have:=hp x gZ;simp only[il,iq,or_false];omega
    ·by_cases V:p=(e x).2
     ·subst V;rw[af J,ai rfl,ai (by simp[<-hx])];omega
     ·rw[af V];by_cases Z:(i,p)∈l.map e
      ·rw[ai Z,ai (by simp only[eN,il];exact .inr Z)];omega
      ·rw[af Z];omega
   omega
  ·rw[af hx,Nat.zero_add];refine Nat.le_trans ih (vH λp _=> ?_);by_cases Z:(i,p)∈l.map e
   ·rw[ai Z,ai (by simp only[eN,il];exact .inr Z)];exact Nat.le_refl _
   ·rw[af Z];exact Nat.zero_le _
def AN.W(a:AN)(w:lv->Nat):Nat:=sm (λx:Nat×Nat=>sm w (a.F x.1 x.2)) (SQ a.nc)
theorem adI {a b:AN} (h:wY a b)(w:lv->Nat):b.W w<=a.W w:=by
 have e:b.nc=a.nc:=by rw[h.1]
 unfold AN.W;rw[e];refine vH λx _=> ?_;obtain⟨m,Z⟩:=h.2 x.1 x.2;show sm w (b.F x.1 x.2)<=sm w (a.F x.1 x.2);rw[Z];have:=pW w ((a.F x.1 x.2).take m) ((a.F x.1 x.2).drop m);rw[cF]at this;omega
theorem adJ {a:AN} (Z:tP a)(i:Nat)(s:iO)(w:lv->Nat):(a.op i s).W w<=a.W w+(sm w (jo (s.P 0))+sm w (jo (s.P 1))+sm w (jo (s.P 2))):=by
 have X:∀x∈SQ a.nc,sm w ((a.op i s).F x.1 x.2)=sm w (a.F x.1 x.2)+(if(a.e x.1 x.2).1=i then sm w (jo (s.P (a.e x.1 x.2).2))else 0):=λx hx=>by
  have V:=qt.1 hx;rw[vN];by_cases e:(a.e x.1 x.2).1=i
  ·rw[ai ⟨V,e⟩,ai e,pW]
  ·rw[af (λh=>e h.2),af e];rfl
 unfold AN.W;refine Nat.le_trans (vH (g:=λx:Nat×Nat=>sm w (a.F x.1 x.2)+(if(a.e x.1 x.2).1=i then sm w (jo (s.P (a.e x.1 x.2).2))else 0)) λx hx=>Nat.le_of_eq (X x hx)) ?_;rw[Fx];refine Nat.add_le_add_left ?_ _;refine Nat.le_trans (Ix (λx=>a.e x.1 x.2) i (λp=>sm w (jo (s.P p))) (SQ a.nc) (xJ _) (λx hx=>(Z.en _ _ (qt.1 hx).1 (qt.1 hx).2).2) (λx hx z Y h=> ?_)) ?_
 ·have:=Z.ds _ _ _ _ (qt.1 hx).1 (qt.1 hx).2 (qt.1 Y).1 (qt.1 Y).2 h;exact aV this.1 this.2
 ·refine Nat.le_trans (vH (g:=λp=>sm w (jo (s.P p))) λp _=> ?_) ?_
  ·show(if _ then _ else 0)<=_;split
   ·exact Nat.le_refl _
   ·exact Nat.zero_le _
  ·show sm w (jo (s.P 0))+(sm w (jo (s.P 1))+(sm w (jo (s.P 2))+0))<=_;omega
theorem abe {a:AN} (w:lv->Nat) {x:lv} {l:List lv} (hc:c<a.nc)(hd:d<2)(h:a.F c d=x::l):(a.lH c d l).W w+w x<=a.W w:=by
 unfold AN.W;refine Ae (y:=(c,d)) (xJ _) (qt.2 ⟨hc,hd⟩) λy _=> ?_;show sm w (if y.1=c/\y.2=d then l else a.F y.1 y.2)+(if y=(c,d)then w x else 0)<=sm w (a.F y.1 y.2);by_cases e:y.1=c/\y.2=d
 ·rw[ai e,ai (aV e.1 e.2),e.1,e.2,h];show sm w l+w x<=w x+sm w l;omega
 ·rw[af e,af (λh=>e (by rw[h];exact⟨rfl,rfl⟩))];exact Nat.le_refl _
theorem DG(a:AN)(w:lv->Nat)(c d:Nat):(a.lH c d []).W w<=a.W w:=by
 unfold AN.W;refine vH λy _=> ?_;show sm w (if y.1=c/\y.2=d then []else a.F y.1 y.2)<=sm w (a.F y.1 y.2);split
 ·exact Nat.zero_le _
 ·exact Nat.le_refl _
theorem Iy {a:AN} (h:Norm a)(c:Nat)(up:Bool):Norm (a.iL c up):=by
 unfold AN.iL AN.nK;exact rb (rb (a:=(({a with iT:=jW a.iT c up}:AN).lH c 0 []).lH c 1 []) h _ _) _ _
theorem mW.norm {a b:AN} (h:mW a T S b)(Z:Norm a):Norm b:=by
 cases h with
 |lost h=>rw[h.1];exact Z
 |tick i p _ _=>exact rb Z _ _
 |pop c d x l _ _ _=>exact rb (a:=a.lH c d l) Z _ _
 |send i t tx _ _ _ _=>exact rb Z _ _
 |iL c _ _ _ _=>exact Iy Z c true
 |draw c _ _=>exact Iy Z c false
 |anew i m _ _=>
  intro j;show(jW a.R i _ j).core=jW a.R i _ j;by_cases e:j=i
  ·subst e;rw[iF];rfl
  ·rw[iE _ _ e];exact Z j
theorem jV.qU {a b:AN} (h:jV a T S b)(Z:tP a):tP b:=Z.same h.same.1 h.same.2.1 h.same.2.2.1
theorem jV.norm {a b:AN} {T:List (Nat×Nat)} {S:List (Int×List UInt8)} (h:jV a T S b)(Z:Norm a):Norm b:=by
 induction h with
 |nil=>exact Z
 |snoc _ s ih=>exact s.norm ih
def Kh(r:iO):Prop:=∀p,(r.P p).out=[]
theorem Norm.emp {a:AN} (h:Norm a)(i:Nat):Kh (a.R i):=h.out i
def Fr(p:jy):Prop:=∃ps,Frames p.out ps
theorem Kh.fr(h:Kh r)(p:Nat):Fr (r.P p):=⟨[],by rw[h];exact Frames.nil⟩
theorem Fr.put {p:jy} (h:Fr p)(c:UInt8)(s:List UInt8):Fr (p.put c s):=(su.put p c s).fr h
theorem nL {q:jy} (h:q.out=p.out):jo q=jo p:=by unfold jo;rw[h]
theorem uI(h:Fr p)(c:UInt8)(s:List UInt8):jo (p.put c s)=jo p++(if(c≠76/\p.L.st≠9) \/60<s.length+1 then []else [c::s]):=by
 obtain⟨ps,Z⟩:=h;unfold jy.put;split
 ·rename_i g;rw[ai (.inl g)];simp
 ·rename_i g
  split
  ·rename_i hl
   rw[af (λz=>z.elim g eh)];have Y:Frames ({p with out:=p.out++Plain.lS (c::s)}:jy).out (ps++ [c::s]):=Z.snoc ⟨gZ,by simpa using hl⟩;rw[nh Y,nh Z]
  ·rw[ai (.inr eh)];simp
def ox(q:kP):List lv:=if jU q.1 q.2.1 q.2.2=0/\(mL q.1 q.2.1 q.2.2).length+1<=60 then [76::mL q.1 q.2.1 q.2.2]else []
theorem xd:∀(l:List kP) {p:jy},Fr p->jo (p.say l)=jo p++l.flatMap ox/\Fr (p.say l)
 |[],p,h=>⟨by simp[jy.say],h⟩
 |q::r,p,h=>by
  show jo ((if jU q.1 q.2.1 q.2.2=0 then p.put 76 (mL q.1 q.2.1 q.2.2)else p).say r)=_/\Fr ((if jU q.1 q.2.1 q.2.2=0 then p.put 76 (mL q.1 q.2.1 q.2.2)else p).say r);rw[bY];unfold ox;split
  ·rename_i g
   obtain⟨a,b⟩:=xd r (h.put 76 (mL q.1 q.2.1 q.2.2));refine⟨?_,b⟩;rw[a,uI h,aD];congr 2;by_cases hl:(mL q.1 q.2.1 q.2.2).length+1<=60
   ·rw[af (by simp;omega),ai ⟨g,hl⟩]
   ·rw[ai (.inr eh),af (λz=>hl z.2)]
  ·rename_i g
   obtain⟨a,b⟩:=xd r h;exact⟨by rw[a,af (λz=>g z.1)];rfl,b⟩
def DH(q:Int×PS):List lv:=if(ru q.1 q.2.1 q.2.2).length+1<=60 then [83::ru q.1 q.2.1 q.2.2]else []
theorem Cz:∀(l:List (Int×PS)) {p:jy},Fr p->p.L.st=9->jo (p.kJ l)=jo p++l.flatMap DH
 |[],p,h,_=>by simp[jy.kJ]
 |q::r,p,h,h9=>by
  show jo ((p.put 83 (ru q.1 q.2.1 q.2.2)).kJ r)=_;rw[Cz r (h.put 83 _) (by rw[wU];exact h9),uI h,bY,aD];congr 2;unfold DH;by_cases hl:(ru q.1 q.2.1 q.2.2).length+1<=60
  ·rw[af eh,ai hl]
  ·rw[ai (.inr eh),af hl]
theorem j9(r:iO)(i:Nat)(q:lr)(p:Nat):((r.meet i q).P p).out=(r.P p).out/\((r.meet i q).P p).L=(r.P p).L/\((r.meet i q).P p).m=(r.P p).m/\((r.meet i q).P p).pe=if p=i then q else(r.P p).pe:=by
 rw[(mZ r i q).2.2.2];by_cases e:p=i
 ·subst e;rw[jB,ai rfl];exact⟨rfl,rfl,rfl,rfl⟩
 ·rw[ju _ _ e,af e];exact⟨rfl,rfl,rfl,rfl⟩
theorem kK(r:iO)(i:Nat)(q:jy)(p:Nat):(r.iU i q).P p=if p=i then q else r.P p:=rfl
theorem Af(h:Kh r)(i:Nat)(c:UInt8)(s:List UInt8):(∀p,jo ((j4 r i c s).P p)=if p=i/\c=76/\(ja s).2.2.2=0 then(jN (r.P i).L ((ja s).1,(ja s).2.1,(ja s).2.2.1)).2.1.flatMap ox else [])/\(∀p,Fr ((j4 r i c s).P p))/\(∀p,((j4 r i c s).P p).pe=(r.P p).pe/\((j4 r i c s).P p).m=(r.P p).m/\((j4 r i c s).P p).L=if p=i/\c=76/\(ja s).2.2.2=0 then(jN (r.P i).L ((ja s).1,(ja s).2.1,(ja s).2.2.1)).1 else(r.P p).L)/\(j4 r i c s).K=r.K/\(j4 r i c s).O=r.O/\(j4 r i c s).kd=r.kd/\(j4 r i c s).id=r.id/\(j4 r i c s).n=r.n:=by
 unfold j4;by_cases hc:c=76
 ·rw[ai hc];obtain⟨E,Y⟩:=gq (jN (r.P i).L ((ja s).1,(ja s).2.1,(ja s).2.2.1));rw[Y];have Z:(r.P i).packet s=if(ja s).2.2.2=0 then({r.P i with L:=E.1}:jy).say E.2.1 else r.P i:=by
   unfold jy.packet;simp only;rw[Y]
  have hs:=xd E.2.1 (p:={r.P i with L:=E.1}) (show Fr _ from h.fr i);have V:jo ({r.P i with L:=E.1}:jy)=[] :=jC (h i);have X:=vF E.2.1 ({r.P i with L:=E.1}:jy);have Q:=Ff E.2.1 ({r.P i with L:=E.1}:jy);refine⟨λp=> ?_,λp=> ?_,λp=> ?_,rfl,rfl,rfl,rfl,rfl⟩
  ·rw[kK];by_cases e:p=i
   ·rw[ai e,Z];by_cases f:(ja s).2.2.2=0
    ·rw[ai f,ai ⟨e,hc,f⟩,hs.1,V];rfl
    ·rw[af f,af (λz=>f z.2.2),jC (h i)]
   ·rw[af e,af (λz=>e z.1),jC (h p)]
  ·rw[kK,Z];split
   ·split
    ·exact hs.2
    ·exact h.fr i
   ·exact h.fr p
  ·rw[kK,Z];by_cases e:p=i
   ·subst e;rw[ai rfl];by_cases f:(ja s).2.2.2=0
    ·rw[ai f,ai ⟨rfl,hc,f⟩,X.1,X.2,Q];exact⟨rfl,rfl,rfl⟩
    ·rw[af f,af (λz=>f z.2.2)];exact⟨rfl,rfl,rfl⟩
   ·rw[af e,af (λz=>e z.1)];exact⟨rfl,rfl,rfl⟩
 ·rw[af hc];refine⟨λp=> ?_,λp=>h.fr p,λp=> ?_,rfl,rfl,rfl,rfl,rfl⟩
  ·rw[af (λz=>hc z.2.1),jC (h p)]
  ·rw[af (λz=>hc z.2.1)];exact⟨rfl,rfl,rfl⟩
theorem uJ(i:Nat) {c:UInt8} (s:List UInt8)(hc:c≠76):j4 r i c s=r:=by unfold j4;rw[af hc]
theorem Wz(h:Kh r)(i:Nat)(s:List UInt8)(p:Nat):jo ((jm r i s).P p)=[] \/(p=i/\(iu s).2.2.2=0/\(r.P i).pe.both=true/\¬((iu s).1=r.id/\0<newF r.K (iu s).1 (iu s).2.1 (iu s).2.2.1)/\0<=newF r.K (iu s).1 (iu s).2.1 (iu s).2.2.1/\jo ((jm r i s).P p)=[65::ru (iu s).1 (iu s).2.1 (iu s).2.2.1]):=by
 unfold jm;simp only;split
 ·exact .inl (jC (h p))
 ·rename_i Z
  split
  ·left;rw[(oJ r _).2.2.2];exact jC (h p)
  ·rename_i Y
   split
   ·rename_i X
    rw[kK];by_cases e:p=i
    ·rw[ai e,uI (h.fr i),jC (h i)];split
     ·exact .inl rfl
     ·refine .inr ⟨e,eh,?_,Y,X,rfl⟩;cases hb:(r.P i).pe.both
      ·exact absurd (.inr hb) Z
      ·rfl
    ·rw[af e];exact .inl (jC (h p))
   ·exact .inl (jC (h p))
theorem DI(h:Kh r)(t:zi):∃j,(∀p,p≠j->jo ((r.send t).P p)=[])/\(jo ((r.send t).P j)=[] \/(((r.P j).L.st=9/\1<=t.2.1)/\jo ((r.send t).P j)=[77::j1 t.1::j1 (t.2.1-1)::t.2.2])):=by
 unfold iO.send;split
 ·exact⟨0,λp _=>jC (h p),.inl (jC (h 0))⟩
 ·cases hv:(if 1<=t.2.1 then(A3 (la r) t.1).bind λh=>jR r.P h.rM r.n else ν)with
  |none=>exact⟨0,λp _=>jC (h p),.inl (jC (h 0))⟩
  |some i=>
   have Y:1<=t.2.1:=by
    by_cases g:1<=t.2.1
    ·exact g
    ·rw[af g]at hv;simp at hv
   refine⟨i,λp X=> ?_,?_⟩
   ·show jo ((r.iU i _).P p)=[]
    rw[kK,af X];exact jC (h p)
   ·show jo ((r.iU i _).P i)=[] \/(((r.P i).L.st=9/\1<=t.2.1)/\jo ((r.iU i _).P i)=_);rw[kK,ai rfl,uI (h.fr i),jC (h i)];split
    ·exact .inl rfl
    ·rename_i g
     refine .inr ⟨⟨?_,Y⟩,rfl⟩;by_cases Z:(r.P i).L.st=9
     ·exact Z
     ·exact absurd (.inl ⟨eA,Z⟩) g
inductive Fy(r:iO)(i:Nat)(x:lv)(p:Nat)(l:List lv):Prop
 |none:l=[]->Fy r i x p l
 |link (s:List UInt8):x=76::s->p=i->(ja s).2.2.2=0->l=(jN (r.P i).L ((ja s).1,(ja s).2.1,(ja s).2.2.1)).2.1.flatMap ox->Fy r i x p l
 |heard (s:List UInt8):x=83::s->p=i->(r.P i).L.st=9->(iu s).2.2.2=0->(r.P i).pe.both=true->¬((iu s).1=r.id/\0<newF r.K (iu s).1 (iu s).2.1 (iu s).2.2.1)->0<=newF r.K (iu s).1 (iu s).2.1 (iu s).2.2.1->l=[65::ru (iu s).1 (iu s).2.1 (iu s).2.2.1]->Fy r i x p l
 |JM (a b:UInt8) (s:List UInt8):x=77::a::b::s->(r.P p).L.st=9->1<=b.toNat->s.length<=20->l=[77::a::j1 ((b.toNat:Int)-1)::s]->Fy r i x p l
theorem qu(h:Kh r)(i:Nat)(x:lv):(∀p,Fy r i x p (jo ((jP r i x).P p)))/\∀p q,jo ((jP r i x).P p)≠ []->jo ((jP r i x).P q)≠ []->p=q:=by
 have X:∀r':iO,(∀p,jo (r'.P p)=[])->(∀p,Fy r i x p (jo (r'.P p)))/\∀p q,jo (r'.P p)≠ []->jo (r'.P q)≠ []->p=q:=λr' J=>⟨λp=>.none (J p),λp q Z=>absurd (J p) Z⟩
 cases x with
 |nil=>exact X r λp=>jC (h p)
 |cons c s=>
  show(∀p,Fy r i (c::s) p (jo ((r.take i c s).P p)))/\_;have G:jP r i (c::s)=r.take i c s:=rfl;rw[G];by_cases hc:c=76
  ·obtain⟨M,a2,a3,_⟩:=Af h i c s;have H:∀p,jo ((r.take i c s).P p)=jo ((j4 r i c s).P p):=λp=>by
    rw[lP];split
    ·exact nL (j9 _ _ _ _).1
    ·unfold mF;rw[af (by rw[hc];decide),af (by rw[hc];decide),af (by rw[hc];decide),af (by rw[hc];decide)]
   refine⟨λp=> ?_,λp q Z Y=> ?_⟩
   ·rw[H,M];split
    ·rename_i g
     exact .link s (by rw[hc]) g.1 g.2.2 rfl
    ·exact .none rfl
   ·rw[H,M]at Z Y;split at Z
    ·rename_i g
     split at Y
     ·rename_i V;exact g.1.trans V.1.symm
     ·exact absurd rfl Y
    ·exact absurd rfl Z
  ·rw[lP,uJ i s hc];by_cases Q:(r.P i).L.st=9
   ·rw[af (by rw[Q];simp)];unfold mF;split
    ·split
     ·exact X _ λp=>by rw[nL (j9 _ _ _ _).1];exact jC (h p)
     ·exact X _ λp=>jC (h p)
    ·split
     ·rename_i hS
      have hs:=Wz h i s;refine⟨λp=> ?_,λp q Z Y=> ?_⟩
      ·rcases hs p with g|⟨g1,V,g3,g4,g5,g6⟩
       ·exact .none g
       ·exact .heard s (by rw[hS]) g1 Q V g3 g4 g5 g6
      ·rcases hs p with g|g
       ·exact absurd g Z
       ·rcases hs q with f|f
        ·exact absurd f Y
        ·exact g.1.trans f.1.symm
     ·split
      ·refine X _ λp=> ?_;unfold kF;simp only;split<;>exact jC (h p)
      ·split
       ·rename_i hM
        unfold rC;split
        ·rename_i hl
         match s,hl with
         |a::b::u,hl=>
          obtain⟨j,g1,V⟩:=DI h (((((a::b::u).getD 0 0).toNat:Nat):Int),((((a::b::u).getD 1 0).toNat:Nat):Int),(a::b::u).drop 2);have E:((a::b::u).getD 0 0)=a:=rfl;have A:((a::b::u).getD 1 0)=b:=rfl;have e3:(a::b::u).drop 2=u:=rfl;rw[E,A,e3]at g1 V⊢;refine⟨λp=> ?_,λp q Z Y=> ?_⟩
          ·by_cases e:p=j
           ·subst e;rcases V with g|⟨g,f⟩
            ·exact .none g
            ·obtain⟨g9,g⟩:=g;have ea:j1 ((a.toNat:Nat):Int)=a:=by unfold j1;simp
             refine .JM a b u (by rw[hM]) g9 (by simp only at g;omega) ?_ ?_
             ·simp only[eT]at hl;omega
             ·rw[f];show [77::j1 ((a.toNat:Nat):Int)::_::u] =_;rw[ea]
           ·exact .none (g1 p e)
          ·by_cases e:p=j
           ·by_cases f:q=j
            ·rw[e,f]
            ·exact absurd (g1 q f) Y
           ·exact absurd (g1 p e) Z
        ·exact X _ λp=>jC (h p)
       ·exact X _ λp=>jC (h p)
   ·rw[ai Q];exact X _ λp=>by rw[nL (j9 _ _ _ _).1];exact jC (h p)
theorem xK(h:Kh r)(i:Nat):(∀p,p≠i->jo ((r.iY i).P p)=[])/\jo ((r.iY i).P i)=(je (r.P i).L).2.flatMap ox++(if(je (r.P i).L).1.st=9 then(72::[j1 r.id,j1 (iK (r.P i).pe).who])::(if(iK (r.P i).pe).both=true then(lJ (((jd r i).meet i (iK (r.P i).pe)).O i)).flatMap DH else [])else []):=by
 have hs:=xd (je (r.P i).L).2 (p:={r.P i with L:=(je (r.P i).L).1}) (show Fr _ from h.fr i);have u:jo ({r.P i with L:=(je (r.P i).L).1}:jy)=[] :=jC (h i);have hm:=(vF (je (r.P i).L).2 ({r.P i with L:=(je (r.P i).L).1}:jy)).2;have j:=Ff (je (r.P i).L).2 ({r.P i with L:=(je (r.P i).L).1}:jy);have Y:∀p,(jd r i).P p=if p=i then({r.P i with L:=(je (r.P i).L).1}:jy).say (je (r.P i).L).2 else r.P p:=λp=>by
  unfold jd;rw[kK];rfl
 have oP:((jd r i).P i).pe=(r.P i).pe:=by rw[Y,ai rfl,hm]
 have A:((jd r i).P i).L.st=(je (r.P i).L).1.st:=by rw[Y,ai rfl,j]
 have pZ:(jd r i).id=r.id:=rfl;have M:jo ((jd r i).P i)=(je (r.P i).L).2.flatMap ox/\Fr ((jd r i).P i):=by
  rw[Y,ai rfl,hs.1,u];exact⟨rfl,hs.2⟩
 rw[ld,A,oP];by_cases Z:(je (r.P i).L).1.st=9
 ·rw[af (by rw[Z];simp),ai Z];obtain⟨x,hx⟩:=gq ((jd r i).meet i (iK (r.P i).pe));obtain⟨m1,m2,_,H⟩:=j9 (jd r i) i (iK (r.P i).pe) i;have Q:x.id=r.id:=by rw[<-hx];exact(jK.meet (jd r i) i _).id
  rw[hx]at m1 m2 H;rw[ai rfl]at H;have J:jo (x.P i)=(je (r.P i).L).2.flatMap ox:=by rw[nL m1];exact M.1
  have E:Fr (x.P i):=by obtain⟨ps,uO⟩:=M.2;exact⟨ps,by rw[m1];exact uO⟩
  have X:(x.P i).L.st=9:=by rw[m2,A];exact Z
  rw[hx];unfold mP;simp only;refine⟨λp V=> ?_,?_⟩
  ·rw[kK,af V,<-hx,nL (j9 _ _ _ _).1,Y,af V];exact jC (h p)
  ·rw[kK,ai rfl,H,Q];have G:=uI E 72 [j1 r.id,j1 (iK (r.P i).pe).who];rw[af (by rw[X];simp),J]at G;split
   ·rw[Cz _ (E.put 72 _) (by rw[wU];exact X),G,aD];rfl
   ·rw[G]
 ·rw[ai Z,af Z];refine⟨λp V=> ?_,?_⟩
  ·rw[nL (j9 _ _ _ _).1,Y,af V];exact jC (h p)
  ·rw[nL (j9 _ _ _ _).1,M.1,aB]
theorem JN(h:Kh r)(i:Nat)(up:Bool)(Y:(k8 (r.P i).L (if up=true then 0 else 1)).2.2=0):(∀p,p≠i->jo ((r.iL i up).1.P p)=[])/\jo ((r.iL i up).1.P i)=(k8 (r.P i).L (if up=true then 0 else 1)).2.1.flatMap ox/\(r.iL i up).1=((r.iU i (({r.P i with L:=(k8 (r.P i).L (if up=true then 0 else 1)).1,rd:=lL}:jy).say (k8 (r.P i).L (if up=true then 0 else 1)).2.1)).meet i nobody):=by
 obtain⟨E,X⟩:=gq (k8 (r.P i).L (if up=true then 0 else 1));rw[X]at Y⊢;have hs:=xd E.2.1 (p:={r.P i with L:=E.1,rd:=lL}) (show Fr _ from h.fr i);have V:jo ({r.P i with L:=E.1,rd:=lL}:jy)=[] :=jC (h i);have e:(r.P i).iL up=(({r.P i with L:=E.1,rd:=lL}:jy).say E.2.1,0):=by
  unfold jy.iL;rw[X];simp only;rw[af (by simp[Y])];rfl
 have Z:(r.iL i up).1=(r.iU i (({r.P i with L:=E.1,rd:=lL}:jy).say E.2.1)).meet i nobody:=by
  unfold iO.iL;rw[e];simp only;rw[af gZ]
 refine⟨λp Q=> ?_,?_,Z⟩
 ·rw[Z,nL (j9 _ _ _ _).1,kK,af Q];exact jC (h p)
 ·rw[Z,nL (j9 _ _ _ _).1,kK,ai rfl,hs.1,V];rfl
structure Own(r:iO):Prop where
 tie:∀p x q,r.O p x=μ q->r.K x=μ q
 val:∀x q,r.K x=μ q->oD x q.1 q.2=0
 own:C5 r.K r.id=jz r
def mA(B:Nat)(r:iO):Prop:=∀x q,r.K x=μ q->q.1<=(B:Int)
theorem mA.mono(h:mA B r)(hc:B<=C):mA C r:=λx q Z=>by have:=h x q Z;omega
theorem CA {P Q:Nat->jy} (n:Int)(h:∀p,(Q p).m=(P p).m/\(Q p).pe.who=(P p).pe.who/\(Q p).pe.both=(P p).pe.both):∀k,jR Q n k=jR P n k
 |0=>rfl
 |k+1=>by
  have ih:=CA n h k;unfold jR;rw[ih,(h k).1,(h k).2.1,(h k).2.2];cases jR P n k with
  |none=>rfl
  |some b=>simp only[(h b).1]
theorem oU(Z:s.n=r.n)(h:∀p,(s.P p).m=(r.P p).m/\(s.P p).pe.who=(r.P p).pe.who/\(s.P p).pe.both=(r.P p).pe.both):jz s=jz r:=by
 unfold jz;congr 1
 funext j
 rw[Z,CA _ h];cases jR r.P ((j:Int)+1) r.n with
 |none=>rfl
 |some b=>simp only[Option.map_some,(h b).1]
theorem Own.alike(h:Own r)(Z:s.K=r.K)(Y:s.O=r.O)(hi:s.id=r.id)(X:s.n=r.n)(V:∀p,(s.P p).m=(r.P p).m/\(s.P p).pe.who=(r.P p).pe.who/\(s.P p).pe.both=(r.P p).pe.both):Own s:=
 ⟨by rw[Z,Y];exact h.tie,by rw[Z];exact h.val,by rw[Z,hi,oU X V];exact h.own⟩
theorem mA.alike(h:mA B r)(Z:s.K=r.K):mA B s:=by unfold mA;rw[Z];exact h
structure adK(r:iO):Prop where
 tie:∀p x q,r.O p x=μ q->r.K x=μ q
 val:∀x q,r.K x=μ q->oD x q.1 q.2=0
theorem Fz(h:adK r)(X:lD r)(hs:mA B r) {q:Int} (h0:0<=q)(hq:q<=B)(hB:B<1000000):Own (r.behind q)/\mA (B+1) (r.behind q):=by
 unfold iO.behind;rw[ai eh];have hv:=zN X (seq:=q+1) eh;refine⟨⟨λp x u Z=> ?_,λx u Z=> ?_,?_⟩,λx u Z=> ?_⟩
 ·have e:(if x=r.id then μ (q+1,jz r)else r.O p x)=μ u:=Z;show(if x=r.id then μ (q+1,jz r)else r.K x)=μ u;split
  ·rename_i g;rw[ai g]at e;exact e
  ·rename_i g;rw[af g]at e;exact h.tie p x u e
 ·have e:(if x=r.id then μ (q+1,jz r)else r.K x)=μ u:=Z;by_cases g:x=r.id
  ·rw[ai g]at e;injection e with e;rw[<-e,g];exact hv
  ·rw[af g]at e;exact h.val x u e
 ·have Y:jz (r.EA (q+1) (jz r))=jz r:=oU rfl λ_=>⟨rfl,rfl,rfl⟩
  rw[Y];show C5 (wD r.K r.id (q+1,jz r)) r.id=_;unfold C5 wD;rw[ai rfl]
 ·have e:(if x=r.id then μ (q+1,jz r)else r.K x)=μ u:=Z;by_cases g:x=r.id
  ·rw[ai g]at e;injection e with e;rw[<-e];push_cast;show q+1<=_;omega
  ·rw[af g]at e;have:=hs x u e;push_cast;omega
theorem Qa(h:mA B r)(Y:lD r):Bc r.K r.id<=B/\0<=Bc r.K r.id:=by
 obtain⟨q,Z,_⟩:=Y.own;have h2:=Y.seq;refine⟨?_,eh⟩;unfold Bc;rw[Z];exact h _ _ Z
theorem OC(h:adK r)(Z:lD r)(hs:mA B r)(Y:B<1000000):Own r.change/\mA (B+1) r.change:=by
 unfold iO.change;split
 ·rename_i g;exact⟨⟨h.tie,h.val,g⟩,hs.mono eh⟩
 ·exact Fz h Z hs (Qa hs Z).2 (Qa hs Z).1 Y
def dif(a b:lr):Nat:=if a.who=b.who/\a.both=b.both then 0 else 1
theorem FA(h:Own r)(M:lD r)(hs:mA B r)(V:B<1000000)(i:Nat) {q:lr} (Q:ot r.id q):Own (r.meet i q)/\mA (B+dif q (r.P i).pe) (r.meet i q):=by
 unfold iO.meet dif;simp only;split
 ·rename_i g
  refine⟨h.alike rfl rfl rfl rfl λp=> ?_,hs.alike rfl⟩;rw[kK];split
  ·rename_i e;rw[e];exact⟨rfl,g.1,g.2⟩
  ·exact⟨rfl,rfl,rfl⟩
 ·have X:lD (r.iU i {r.P i with pe:=q}):=M.iU i _ rfl λ_=>Q;obtain⟨x,hx⟩:∃x:iO,({r.iU i {r.P i with pe:=q}with O:=λx=>if x=i then λ_=>ν else(r.iU i {r.P i with pe:=q}).O x}:iO)=x:=⟨_,rfl⟩
  have Y:lD x:=by rw[<-hx];exact X.yL _
  have o2:adK x:=by
   refine⟨λp y u Z=> ?_,λy u Z=> ?_⟩
   ·rw[<-hx]at Z⊢;have e:(if p=i then λ_=>ν else r.O p) y=μ u:=Z;split at e
    ·exact absurd e gZ
    ·exact h.tie p y u e
   ·rw[<-hx]at Z;exact h.val y u Z
  have J:mA B x:=by rw[<-hx];exact hs.alike rfl
  obtain⟨c1,c2⟩:=OC o2 Y J V;rw[hx];split
  ·refine⟨⟨λp y u Z=> ?_,c1.val,?_⟩,c2⟩
   ·have e:(if p=i then qC (x.change.O i) x.change.K else x.change.O p) y=μ u:=Z;show x.change.K y=μ u;split at e
    ·unfold qC at e;split at e
     ·exact e
     ·exact c1.tie i y u e
    ·exact c1.tie p y u e
   ·exact(c1.own).trans (oU rfl λ_=>⟨rfl,rfl,rfl⟩).symm
  ·exact⟨c1,c2⟩
theorem SS(h:Own r)(iQ:lD r)(hs:mA B r)(hB:B<1000000)(i:Nat)(l:List UInt8)(hl:(iu l).2.2.2=0->(iu l).2.1<=B):Own (jm r i l)/\mA (B+1) (jm r i l):=by
 unfold jm;simp only;split
 ·exact⟨h,hs.mono eh⟩
 ·rename_i h1
  have G:(iu l).2.2.2=0:=eh;have hv:oD (iu l).1 (iu l).2.1 (iu l).2.2.1=0:=pV (by rw[<-G]);have Q:=hl G;have qw:=(jw hv).2.1;split
  ·exact Fz ⟨h.tie,h.val⟩ iQ hs eh Q hB
  ·rename_i j
   generalize (iu l).1=own,(iu l).2.1=seq,(iu l).2.2.1=es at*;have H:∀x u,lF r.K own seq es x=μ u->r.K x=μ u \/(x=own/\u=(seq,es)/\0<newF r.K own seq es):=λx u X=>by
    unfold lF at X;split at X
    ·rename_i g
     have e:(if x=own then μ (seq,es)else r.K x)=μ u:=X;split at e
     ·rename_i Z;injection e with e;exact .inr ⟨Z,e.symm,g⟩
     ·exact .inl e
    ·exact .inl X
   have M:Own {r with K:=lF r.K own seq es,O:=oX r.K r.O i own seq es} /\mA B {r with K:=lF r.K own seq es,O:=oX r.K r.O i own seq es}:=by
    refine⟨⟨λp x u X=> ?_,λx u X=> ?_,?_⟩,λx u X=> ?_⟩
    ·have Y:oX r.K r.O i own seq es p x=μ u:=X;show lF r.K own seq es x=μ u;unfold oX at Y;unfold lF;by_cases g:0<newF r.K own seq es
     ·rw[ai g]at Y⊢;show(if x=own then μ (seq,es)else r.K x)=μ u;split at Y
      ·have e:(if x=own then ν else if x=own then μ (seq,es)else r.O i x)=μ u:=Y;by_cases Z:x=own
       ·rw[ai Z]at e;exact absurd e gZ
       ·rw[af Z,af Z]at e;rw[af Z];exact h.tie i x u e
      ·have e:(if x=own then μ (seq,es)else r.O p x)=μ u:=Y;by_cases Z:x=own
       ·rw[ai Z]at e⊢;exact e
       ·rw[af Z]at e⊢;exact h.tie p x u e
     ·rw[af g]at Y⊢;by_cases V:newF r.K own seq es<0
      ·rw[ai V]at Y;split at Y
       ·cases J:r.K own with
        |none=>rw[J]at Y;exact h.tie i x u Y
        |some q=>
         rw[J]at Y;have e:(if x=own then μ q else r.O i x)=μ u:=Y;by_cases Z:x=own
         ·rw[ai Z]at e;rw[Z,J];exact e
         ·rw[af Z]at e;exact h.tie i x u e
       ·exact h.tie p x u Y
      ·rw[af V]at Y;split at Y
       ·have e:(if x=own then ν else r.O i x)=μ u:=Y;by_cases Z:x=own
        ·rw[ai Z]at e;exact absurd e gZ
        ·rw[af Z]at e;exact h.tie i x u e
       ·exact h.tie p x u Y
    ·rcases H x u X with g|⟨g1,V,_⟩
     ·exact h.val x u g
     ·rw[g1,V];exact hv
    ·have A:jz {r with K:=lF r.K own seq es,O:=oX r.K r.O i own seq es}=jz r:=oU rfl λ_=>⟨rfl,rfl,rfl⟩
     rw[A,<-h.own];show C5 (lF r.K own seq es) r.id=_;have:lF r.K own seq es r.id=r.K r.id:=by
      unfold lF;split
      ·rename_i g
       have Z:r.id≠own:=λe=>j ⟨e.symm,g⟩;show(if r.id=own then _ else _)=_;rw[af Z]
      ·rfl
     unfold C5;rw[this]
    ·rcases H x u X with g|⟨_,V,_⟩
     ·exact hs x u g
     ·rw[V];exact Q
   split
   ·refine⟨M.1.alike rfl rfl rfl rfl λp=> ?_,(M.2.alike (s:=iO.iU _ i _) rfl).mono eh⟩;rw[kK];split
    ·rename_i e
     rw[e];have E:∀(p:jy) c s,(p.put c s).m=p.m/\(p.put c s).pe=p.pe:=λp c s=>by unfold jy.put;split<;>(try split)<;>exact⟨rfl,rfl⟩
     rw[(E _ _ _).1,(E _ _ _).2];exact⟨rfl,rfl,rfl⟩
    ·exact⟨rfl,rfl,rfl⟩
   ·exact⟨M.1,M.2.mono eh⟩
theorem SU(h:Own r)(i:Nat)(l:List UInt8):Own (kF r i l)/\(kF r i l).K=r.K:=by
 unfold kF;simp only;split
 ·refine⟨⟨λp x u Y=> ?_,h.val,h.own.trans (oU rfl λ_=>⟨rfl,rfl,rfl⟩).symm⟩,rfl⟩;have e:(if p=i/\0<=newF r.K (iu l).1 (iu l).2.1 (iu l).2.2.1 then yI (r.O i) (iu l).1 else r.O p) x=μ u:=Y;show r.K x=μ u;split at e
  ·have Z:(if x=(iu l).1 then ν else r.O i x)=μ u:=e;split at Z
   ·exact absurd Z gZ
   ·exact h.tie i x u Z
  ·exact h.tie p x u e
 ·exact⟨h,rfl⟩
theorem sv(p:jy)(c:UInt8)(s:List UInt8):(p.put c s).m=p.m/\(p.put c s).pe=p.pe:=by unfold jy.put;split<;>(try split)<;>exact⟨rfl,rfl⟩
theorem nu(r:iO)(t:zi):(r.send t).K=r.K/\(r.send t).O=r.O/\(r.send t).id=r.id/\(r.send t).n=r.n/\∀p,((r.send t).P p).m=(r.P p).m/\((r.send t).P p).pe=(r.P p).pe/\((r.send t).P p).L=(r.P p).L:=by
 unfold iO.send;split
 ·exact⟨rfl,rfl,rfl,rfl,λ_=>⟨rfl,rfl,rfl⟩⟩
 ·split
  ·exact⟨rfl,rfl,rfl,rfl,λ_=>⟨rfl,rfl,rfl⟩⟩
  ·refine⟨rfl,rfl,rfl,rfl,λp=> ?_⟩;rw[kK];split
   ·rename_i e;rw[e,(sv _ _ _).1,(sv _ _ _).2,wU];exact⟨rfl,rfl,rfl⟩
   ·exact⟨rfl,rfl,rfl⟩
theorem Mh(h:Own r)(t:zi):Own (r.send t):=by
 obtain⟨a,b,c,d,e⟩:=nu r t;exact h.alike a b c d λp=>by rw[(e p).1,(e p).2.1];exact⟨rfl,rfl,rfl⟩
def SW(q:lr):Nat:=if q.who=0/\q.both=false then 0 else 1
def rh(r:iO):Nat:=SW (r.P 0).pe+SW (r.P 1).pe+SW (r.P 2).pe
theorem pX(h:∀p,(s.P p).pe=(r.P p).pe):rh s=rh r:=by unfold rh;rw[h,h,h]
theorem FC(hi:i<3)(q:lr):rh (r.meet i q)+SW (r.P i).pe=rh r+SW q:=by
 have h:=λp=>(j9 r i q p).2.2.2;unfold rh;rw[h,h,h];have:i=0 \/i=1 \/i=2:=eh;rcases this with rfl|rfl|rfl
 ·rw[ai rfl,af eA,af eA];omega
 ·rw[af eA,ai rfl,af eA];omega
 ·rw[af eA,af eA,ai rfl];omega
theorem adL(a b:lr):dif a b<=1:=by unfold dif;split<;>decide
theorem adM(a:lr):SW a<=1:=by unfold SW;split<;>decide
theorem FD(q:lr):dif nobody q+SW nobody<=SW q:=by
 unfold dif SW;show(if(0:Int)=q.who/\false=q.both then 0 else 1)+(if(0:Int)=0/\false=false then 0 else 1)<=_;rw[ai (⟨rfl,rfl⟩:(0:Int)=0/\false=false)];by_cases e:q.who=0/\q.both=false
 ·rw[ai ⟨e.1.symm,e.2.symm⟩];omega
 ·rw[af (λh=>e ⟨h.1.symm,h.2.symm⟩),af e];exact Nat.le_refl _
theorem WA(q:lr):dif (iK q) q+SW (iK q)<=SW q:=by
 unfold iK;split
 ·exact FD q
 ·unfold dif SW;rw[ai ⟨rfl,rfl⟩];simp
def sw:lv->Nat
 |72::_=>2
 |83::_=>1
 |_=>0
def Ag(B:Nat)(x:lv):Prop:=∀s,x=83::s->(iu s).2.2.2=0->(iu s).2.1<=(B:Int)
theorem Ag.mono {x:lv} (h:Ag B x)(hc:B<=C):Ag C x:=λs e Z=>by have:=h s e Z;omega
theorem BG(h:Own r)(Z:lD r)(hs:mA B r)(Y:B<1000000)(hi:i<3):∃C,Own (r.meet i nobody)/\mA C (r.meet i nobody)/\B<=C/\C+rh (r.meet i nobody)<=B+rh r:=by
 obtain⟨a,b⟩:=FA h Z hs Y i (ot.nobody Z.id.1);have h1:=FC (r:=r) hi nobody;have h2:=FD (r.P i).pe;exact⟨_,a,b,eh,eh⟩
theorem SX(h:Own r)(M:lD r)(hs:mA B r)(X:B<1000000)(hi:i<3)(x:lv)(hx:Ag B x):∃C,Own (jP r i x)/\mA C (jP r i x)/\B<=C/\C+rh (jP r i x)<=B+rh r+sw x:=by
 cases x with
 |nil=>exact⟨B,h,hs,Nat.le_refl _,by show B+rh r<=_;omega⟩
 |cons c s=>
  show∃C,Own (r.take i c s)/\mA C (r.take i c s)/\B<=C/\C+rh (r.take i c s)<=B+rh r+sw (c::s);have hl:Own (j4 r i c s)/\mA B (j4 r i c s)/\rh (j4 r i c s)=rh r:=by
   unfold j4;split
   ·have e:∀p,((r.iU i ((r.P i).packet s)).P p).m=(r.P p).m/\((r.iU i ((r.P i).packet s)).P p).pe=(r.P p).pe:=λp=>by
     rw[kK];split
     ·rename_i e;rw[e,(uE _ _).1,(uE _ _).2];exact⟨rfl,rfl⟩
     ·exact⟨rfl,rfl⟩
    exact⟨h.alike rfl rfl rfl rfl λp=>by rw[(e p).1,(e p).2];exact⟨rfl,rfl,rfl⟩,hs.alike rfl,pX λp=>(e p).2⟩
   ·exact⟨h,hs,rfl⟩
  have Y:=M.link i c s;rw[lP];obtain⟨r1,Q⟩:=gq (j4 r i c s);have pZ:r1.id=r.id:=by rw[<-Q];exact(jK.link r i c s).id
  rw[Q]at hl Y⊢;obtain⟨l1,l2,l3⟩:=hl;split
  ·obtain⟨C,a,b,c1,c2⟩:=BG l1 Y l2 X hi;exact⟨C,a,b,c1,eh⟩
  ·unfold mF;split
   ·rename_i hc
    split
    ·rename_i V
     obtain⟨a,b⟩:=FA l1 Y l2 X i (ot.YQ (s:=(kI s).2.1) Y.id.1 (EW V));have h1:=FC (r:=r1) hi (ji r1.id (kI s).1 (kI s).2.1);have h2:=adL (ji r1.id (kI s).1 (kI s).2.1) (r1.P i).pe;have h3:=adM (ji r1.id (kI s).1 (kI s).2.1);exact⟨_,a,b,eh,by rw[hc];show _<=B+rh r+2;omega⟩
    ·exact⟨B,l1,l2,Nat.le_refl _,eh⟩
   ·split
    ·rename_i hc
     obtain⟨a,b⟩:=SS l1 Y l2 X i s λV=>hx s (by rw[hc]) V;have e:rh (jm r1 i s)=rh r1:=pX λp=>(ki.state r1 i s p).2;exact⟨_,a,b,eh,by rw[hc,e];show _<=B+rh r+1;omega⟩
    ·split
     ·obtain⟨a,b⟩:=SU l1 i s;have e:rh (kF r1 i s)=rh r1:=pX λp=>by unfold kF;simp only;split<;>rfl
      exact⟨B,a,l2.alike b,Nat.le_refl _,by rw[e];omega⟩
     ·split
      ·unfold rC;split
       ·have Z:=nu r1 (((s.getD 0 0).toNat:Int),((s.getD 1 0).toNat:Int),s.drop 2);exact⟨B,Mh l1 _,l2.alike Z.1,Nat.le_refl _,by rw[pX λp=>(Z.2.2.2.2 p).2.1];omega⟩
       ·exact⟨B,l1,l2,Nat.le_refl _,eh⟩
      ·exact⟨B,l1,l2,Nat.le_refl _,eh⟩
theorem lZ(r:iO)(i p:Nat):((jd r i).P p).m=(r.P p).m/\((jd r i).P p).pe=(r.P p).pe:=by
 unfold jd;rw[kK];split
 ·rename_i e;rw[e,(sU _).1,(sU _).2.1];exact⟨rfl,rfl⟩
 ·exact⟨rfl,rfl⟩
theorem pN(r:iO)(i:Nat):(mP r i).K=r.K/\(mP r i).O=r.O/\(mP r i).id=r.id/\(mP r i).n=r.n/\∀p,((mP r i).P p).m=(r.P p).m/\((mP r i).P p).pe=(r.P p).pe/\((mP r i).P p).L=(r.P p).L:=by
 have hA:∀(l:List (Int×PS)) (p:jy),(p.kJ l).m=p.m:=λl=>by
  induction l with
  |nil=>intro p;rfl
  |cons q r ih=>intro p;show((p.put 83 _).kJ r).m=_;rw[ih,(sv _ _ _).1]
 refine⟨rfl,rfl,rfl,rfl,λp=> ?_⟩;unfold mP;simp only;rw[kK];split
 ·rename_i e
  rw[e];split
  ·rw[hA,(wV _ _).1,(wV _ _).2,(sv _ _ _).1,(sv _ _ _).2,wU];exact⟨rfl,rfl,rfl⟩
  ·rw[(sv _ _ _).1,(sv _ _ _).2,wU];exact⟨rfl,rfl,rfl⟩
 ·exact⟨rfl,rfl,rfl⟩
theorem BH(h:Own r)(Q:lD r)(hs:mA B r)(X:B<1000000)(hi:i<3)(hn:r.n=3):∃C,Own (r.iY i)/\mA C (r.iY i)/\B<=C/\C+rh (r.iY i)<=B+rh r/\lD (r.iY i):=by
 rw[ld];have Z:Own (jd r i):=h.alike rfl rfl rfl rfl λp=>by rw[(lZ r i p).1,(lZ r i p).2];exact⟨rfl,rfl,rfl⟩
 have s1:mA B (jd r i):=hs.alike rfl;have k1:=Q.jd i;have c1:rh (jd r i)=rh r:=pX λp=>(lZ r i p).2;have n1:(jd r i).n=r.n:=rfl;obtain⟨r1,M⟩:=gq (jd r i);rw[M]at Z s1 k1 c1 n1⊢;split
 ·obtain⟨C,a,b,c,d⟩:=BG Z k1 s1 X hi;exact⟨C,a,b,c,eh,k1.meet i (ot.nobody k1.id.1)⟩
 ·have V:=ot.tick k1.id.1 (k1.pe i eh);obtain⟨a,b⟩:=FA Z k1 s1 X i V;have h2:=FC (r:=r1) hi (iK (r1.P i).pe);have h3:=WA (r1.P i).pe;obtain⟨t1,t2,J,H,Y⟩:=pN (r1.meet i (iK (r1.P i).pe)) i;refine⟨_,a.alike t1 t2 J H λp=> ?_,b.alike t1,eh,?_,(k1.meet i V).tell i⟩
  ·rw[(Y p).1,(Y p).2.1];exact⟨rfl,rfl,rfl⟩
  ·rw[pX λp=>(Y p).2.1];omega
theorem WB(h:Own r)(Y:lD r)(hs:mA B r)(V:B<1000000)(hi:i<3)(up:Bool):∃C,Own (r.iL i up).1/\mA C (r.iL i up).1/\B<=C/\C+rh (r.iL i up).1<=B+rh r/\lD (r.iL i up).1:=by
 unfold iO.iL;simp only;split
 ·exact⟨B,h,hs,Nat.le_refl _,Nat.le_refl _,Y⟩
 ·have e:((r.P i).iL up).1.m=(r.P i).m/\((r.P i).iL up).1.pe=(r.P i).pe:=by
   unfold jy.iL;generalize k8 (r.P i).L (if up=true then 0 else 1)=E;simp only;split
   ·exact⟨rfl,rfl⟩
   ·rw[(vF _ _).1,(vF _ _).2];exact⟨rfl,rfl⟩
  have Z:∀p,((r.iU i ((r.P i).iL up).1).P p).m=(r.P p).m/\((r.iU i ((r.P i).iL up).1).P p).pe=(r.P p).pe:=λp=>by
   rw[kK];split
   ·rename_i g;rw[g];exact e
   ·exact⟨rfl,rfl⟩
  have X:Own (r.iU i ((r.P i).iL up).1):=h.alike rfl rfl rfl rfl λp=>by rw[(Z p).1,(Z p).2];exact⟨rfl,rfl,rfl⟩
  have k1:lD (r.iU i ((r.P i).iL up).1):=Y.iU i _ e.1 λhi=>by rw[e.2];exact Y.pe i hi
  obtain⟨C,a,b,c,d⟩:=BG X k1 (hs.alike (s:=r.iU i _) rfl) V hi;exact⟨C,a,b,c,by rw[pX λp=>(Z p).2]at d;exact d,k1.meet i (ot.nobody k1.id.1)⟩
