import Derived.Test.YtieklnlbljejdaaGreatDoorG31
namespace Go.Proofs.YtieklnlbljejdaaGreatDoor
open Go.RowKit St
namespace Rt
variable {S:List (Int×List UInt8)} {T:List (Nat×Nat)} {p:jF} {r s:iY} {up:Bool} {y:jc}
abbrev mQ:=List UInt8
structure AN where
 n:Nat
 nc:Nat
 e:Nat->Nat->Nat×Nat
 ms:Nat->Nat->Int
 jG:Nat->Bool
 R:Nat->iY
 F:Nat->Nat->List mQ
 ib:Nat->List tV
def tK(y:jc)(c d:Nat):List mQ:=(kx (kQ y c d) ((y.C c).on d)).1++jH ((y.R ((y.C c).e d).1).P ((y.C c).e d).2)
def jl(y:jc):AN:=⟨y.n,y.nc,λc=>(y.C c).e,y.ms,λc=>(y.C c).jG,λi=>(y.R i).core,λc d=>if c<y.nc/\d<2 then tK y c d else [],λi=>y.jA i++(y.R i).jA⟩
def AN.op(a:AN)(i:Nat)(s:iY):AN:=
 {a with R:=jI a.R i s.core,F:=λc d=>if(c<a.nc/\d<2)/\(a.e c d).1=i then a.F c d++jH (s.P (a.e c d).2)else a.F c d,ib:=jI a.ib i (a.ib i++s.jA)}
def AN.lg(a:AN)(c d:Nat)(l:List mQ):AN:={a with F:=λc' d'=>if c'=c/\d'=d then l else a.F c' d'}
def AN.pop(a:AN)(c d:Nat)(x:mQ)(l:List mQ):AN:=(a.lg c d l).op (a.e c (1-d)).1 (j7 (a.R (a.e c (1-d)).1) (a.e c (1-d)).2 x)
def AN.lH(a:AN)(c d:Nat)(up:Bool):AN:=a.op (a.e c d).1 ((a.R (a.e c d).1).iW (a.e c d).2 up).1
def AN.iW(a:AN)(c:Nat)(up:Bool):AN:=((({a with jG:=jI a.jG c up}:AN).lg c 0 []).lg c 1 []).lH c 0 up|>.lH c 1 up
def xA(a b:AN):Prop:=b={a with F:=b.F} /\∀c d,∃m,b.F c d=(a.F c d).take m
theorem xA.refl(a:AN):xA a a:=⟨rfl,λc d=>⟨(a.F c d).length,iC⟩⟩
theorem xA.trans {a b c:AN} (h:xA a b)(g:xA b c):xA a c:=by
 refine⟨?_,λx d=> ?_⟩
 ·rw[g.1,h.1]
 ·obtain⟨m,hm⟩:=h.2 x d;obtain⟨k,hk⟩:=g.2 x d;exact⟨min k m,by rw[hk,hm,List.take_take]⟩
inductive mE:AN->List (Nat×Nat)->List (Int×List UInt8)->AN->Prop
 |lost {a b:AN}:xA a b->mE a [] [] b
 |tick {a:AN} (i p:Nat):i<a.n->p<3->mE a [(i,p)] [] (a.op i ((a.R i).jx p))
 |pop {a:AN} (c d:Nat) (x:mQ) (l:List mQ):c<a.nc->d<2->a.F c d=x::l->mE a [] [] (a.pop c d x l)
 |send {a:AN} (i:Nat) (t:Int) (tx:List UInt8):i<a.n->1<=t->t<=6->tx.length<=20->mE a [] [(t,tx)] (a.op i ((a.R i).send (t,8,tx)))
 |iW {a:AN} (c:Nat):c<a.nc->a.jG c=false->a.F c 0=[]->a.F c 1=[]->mE a [a.e c 0,a.e c 1] [] (a.iW c true)
 |draw {a:AN} (c:Nat):c<a.nc->a.jG c=true->mE a [] [] (a.iW c false)
 |anew {a:AN} (i m:Nat):i<a.n->(∀c d,c<a.nc->d<2->(a.e c d).1=i->a.jG c=false/\a.F c 0=[] /\a.F c 1=[])->mE a [] [] {a with R:=jI a.R i (jX ((i:Int)+1) 3 (a.ms i)),ib:=jI a.ib i ((a.ib i).take m)}
inductive jU:AN->List (Nat×Nat)->List (Int×List UInt8)->AN->Prop
 |nil (a:AN):jU a [] [] a
 |snoc {a b c:AN} {T U:List (Nat×Nat)} {S V:List (Int×List UInt8)}:jU a T S b->mE b U V c->jU a (T++U) (S++V) c
theorem jU.one {a b:AN} (h:mE a T S b):jU a T S b:=jU.snoc (jU.nil a) h
theorem jU.trans {a b c:AN} {U:List (Nat×Nat)} {V:List (Int×List UInt8)} (h:jU a T S b)(g:jU b U V c):jU a (T++U) (S++V) c:=by
 induction g with
 |nil=>simpa using h
 |snoc _ s ih=>rw[<-aC,<-aC];exact ih.snoc s
theorem jU.lost {a b c:AN} {T:List (Nat×Nat)} {S:List (Int×List UInt8)} (h:jU a T S b)(g:xA b c):jU a T S c:=by
 have:=h.snoc (mE.lost g);simpa using this
theorem mE.same {a b:AN} (h:mE a T S b):b.n=a.n/\b.nc=a.nc/\b.e=a.e/\b.ms=a.ms:=by
 cases h with
 |lost h=>rw[h.1];exact⟨rfl,rfl,rfl,rfl⟩
 |_=>exact⟨rfl,rfl,rfl,rfl⟩
theorem jU.same {a b:AN} {T:List (Nat×Nat)} {S:List (Int×List UInt8)} (h:jU a T S b):b.n=a.n/\b.nc=a.nc/\b.e=a.e/\b.ms=a.ms:=by
 induction h with
 |nil=>exact⟨rfl,rfl,rfl,rfl⟩
 |snoc _ s ih=>
  obtain⟨h1,h2,h3,h4⟩:=s.same;exact⟨h1.trans ih.1,h2.trans ih.2.1,h3.trans ih.2.2.1,h4.trans ih.2.2.2⟩
theorem AN.ext' {a b:AN} (h1:a.n=b.n)(h2:a.nc=b.nc)(h3:a.e=b.e)(h4:a.ms=b.ms)(h5:a.jG=b.jG)(h6:a.R=b.R)(h7:a.F=b.F)(h8:a.ib=b.ib):a=b:=by
 cases a;cases b;simp only at*;subst h1 h2 h3 h4 h5 h6 h7 h8;rfl
theorem yo {o:List UInt8} {ps:List mQ} (ho:Frames o ps)(hp:∃qs,Frames p.out qs)(rd:ku):jH (p.pt rd o)=ps++jH p/\∃qs,Frames (p.pt rd o).out qs:=by
 obtain⟨qs,hq⟩:=hp;have h:Frames (p.pt rd o).out (ps++qs):=by
  refine⟨?_,λx hx=> ?_⟩
  ·show o++p.out=_;rw[ho.1,hq.1,dq]
  ·rcases aD.1 hx with e|e
   ·exact ho.2 x e
   ·exact hq.2 x e
 exact⟨by rw[lZ h,lZ hq],_,h⟩
theorem jM(h:p.out=[]):jH p=[] :=by unfold jH;rw[h];rfl
theorem Gs(h:∃ps,Frames p.out ps):Frames p.out (jH p):=by
 obtain⟨ps,tJ⟩:=h;rw[lZ tJ];exact tJ
theorem Gt(hF:∀i p,∃ps,Frames ((y.R i).P p).out ps)(i:Nat)(rd:Nat->ku)(hr:r=s.pat rd (λp=>((y.R i).P p).out) (y.R i).jA)(XA:∀c d,c<y.nc->d<2->((y.C c).e (1-d)).1=i->rd ((y.C c).e (1-d)).2=((y.R i).P ((y.C c).e (1-d)).2).rd \/(y.C c).on d=[])(hs:∀p,∃ps,Frames (s.P p).out ps):jl (y.jQ i r)=(jl y).op i s:=by
 have hR:∀j,(y.jQ i r).R j=if j=i then r else y.R j:=λj=>rfl
 refine AN.ext' rfl rfl rfl rfl rfl ?_ ?_ ?_
 ·funext j
  show((y.jQ i r).R j).core=jI _ i s.core j;rw[hR];by_cases e:j=i
  ·subst e;rw[ag rfl,iP,hr,Jo]
  ·rw[ae e,iL _ _ e];rfl
 ·funext c d
  show(if c<y.nc/\d<2 then tK (y.jQ i r) c d else [])=if(c<y.nc/\d<2)/\((y.C c).e d).1=i then(if c<y.nc/\d<2 then tK y c d else [])++jH (s.P ((y.C c).e d).2)else if c<y.nc/\d<2 then tK y c d else []
  by_cases hc:c<y.nc/\d<2
  ·rw[ag hc,ag hc];have hf:(kx (kQ (y.jQ i r) c d) ((y.C c).on d)).1=(kx (kQ y c d) ((y.C c).on d)).1:=by
    have e1:kQ (y.jQ i r) c d=kQ y c d \/(y.C c).on d=[] :=by
     show(((y.jQ i r).R ((y.C c).e (1-d)).1).P ((y.C c).e (1-d)).2).rd=_ \/_;rw[hR];by_cases e:((y.C c).e (1-d)).1=i
     ·rw[ag e,hr];unfold kQ;rw[e];exact XA c d hc.1 hc.2 e
     ·rw[ae e];exact .inl rfl
    rcases e1 with e1|e1
    ·rw[e1]
    ·rw[e1];rfl
   unfold tK;show(kx (kQ (y.jQ i r) c d) ((y.C c).on d)).1++_=_;rw[hf];show(kx (kQ y c d) ((y.C c).on d)).1++jH (((y.jQ i r).R ((y.C c).e d).1).P ((y.C c).e d).2)=_;rw[hR];by_cases e:((y.C c).e d).1=i
   ·rw[ag e,ag ⟨hc,e⟩,hr,e];obtain⟨ps,tJ⟩:=hF i ((y.C c).e d).2;have h1:=(yo tJ (hs ((y.C c).e d).2) (rd ((y.C c).e d).2)).1;show _++jH ((s.P ((y.C c).e d).2).pt _ _)=_;rw[h1,lZ tJ,aC]
   ·rw[ae e,ae (λh=>e h.2)]
  ·rw[ae hc,ae (λh=>hc h.1),ae hc]
 ·funext j
  show y.jA j++((y.jQ i r).R j).jA=jI _ i _ j;rw[hR];by_cases e:j=i
  ·subst e;rw[ag rfl,iP,hr];show y.jA j++((y.R j).jA++s.jA)=(y.jA j++(y.R j).jA)++s.jA;rw[aC]
  ·rw[ae e,iL _ _ e];rfl
theorem Tj(hF:∀i p,∃ps,Frames ((y.R i).P p).out ps)(i:Nat)(hr:r=s.pat (λp=>((y.R i).P p).rd) (λp=>((y.R i).P p).out) (y.R i).jA)(hs:∀p,∃ps,Frames (s.P p).out ps):jl (y.jQ i r)=(jl y).op i s:=Gt hF i _ hr (λ_ _ _ _ _=>.inl rfl) hs
def Room(y:jc):Prop:=∀c d,c<y.nc->d<2->((y.R ((y.C c).e d).1).P ((y.C c).e d).2).out=[] \/((y.C c).jG=true/\((y.C c).on d).length+((y.R ((y.C c).e d).1).P ((y.C c).e d).2).out.length<=2000)
theorem Gu(y:jc)(c d x f:Nat):((y.lA c d).C x).on f=(if x=c/\f=d/\(y.C c).jG=true/\((y.C c).on d).length+((y.R ((y.C c).e d).1).P ((y.C c).e d).2).out.length<=2000 then(y.C c).on d++((y.R ((y.C c).e d).1).P ((y.C c).e d).2).out else(y.C x).on f):=by
 show((if x=c then(y.C c).put d _ else y.C x):pX).on f=_;by_cases ex:x=c
 ·rw[ag ex];subst ex;unfold pX.put;split
  ·rename_i h
   show jI (y.C x).on d _ f=_;by_cases ed:f=d
   ·subst ed;rw[iP,ag ⟨rfl,rfl,h⟩]
   ·rw[iL _ _ ed,ae (λq=>ed q.2.1)]
  ·rename_i h
   rw[ae (λq=>h q.2.2)]
 ·rw[ae ex,ae (λq=>ex q.1)]
theorem Jr(hF:j1 y)(hE:Ends y)(c d:Nat)(hc:c<y.nc)(hd:d<2):xA (jl y) (jl (y.lA c d))/\(Room y->jl (y.lA c d)=jl y/\Room (y.lA c d)):=by
 have he:∀x,((y.lA c d).C x).e=(y.C x).e:=λx=>((ni y c d).2.2.2.2 x).1;have hi:∀x,((y.lA c d).C x).jG=(y.C x).jG:=λx=>((ni y c d).2.2.2.2 x).2;have hR:∀j,((y.lA c d).R j)=if j=((y.C c).e d).1 then(y.R j).out ((y.C c).e d).2 else y.R j:=λj=>by
  show jI y.R ((y.C c).e d).1 _ j=_;by_cases e:j=((y.C c).e d).1
  ·subst e;rw[iP,ag rfl]
  ·rw[iL _ _ e,ae e]
 have adk:∀j,((y.lA c d).R j).core=(y.R j).core:=λj=>by
  rw[hR];split
  ·show iY.core (iY.jd _ _ _)=_;unfold iY.core iY.jd;congr 1
   funext p
   show({k8 (y.R j).P ((y.C c).e d).2 {(y.R j).P ((y.C c).e d).2 with out:=[] } p with rd:=lS,out:=[] }:jF)=_;by_cases e:p=((y.C c).e d).2
   ·rw[e,jz]
   ·rw[ju _ _ e]
  ·rfl
 have aho:∀j,((y.lA c d).R j).jA=(y.R j).jA:=λj=>by
  rw[hR];split<;>rfl
 have hP:∀j p,((y.lA c d).R j).P p=if(y.C c).e d=(j,p)then {(y.R j).P p with out:=[] }else(y.R j).P p:=λj p=>CO y c d j p
 have tQ:∀x f,kQ (y.lA c d) x f=kQ y x f:=λx f=>by
  unfold kQ;rw[he,hP];split<;>rfl
 have adl:∀x f,x<y.nc->f<2->¬(x=c/\f=d)->tK (y.lA c d) x f=tK y x f:=λx f hx hf hn=>by
  unfold tK;rw[tQ,he,Gu,ae (λq=>hn ⟨q.1,q.2.1⟩),hP,ae (λq=>hn (hE.ds x f c d hx hf hc hd q.symm))]
 have hq:=(hF.q c d hc hd).1;obtain⟨ps,tJ⟩:=hF.o ((y.C c).e d).1 ((y.C c).e d).2;have h0:jH (((y.lA c d).R ((y.C c).e d).1).P ((y.C c).e d).2)=[] :=jM (by rw[hP,ag rfl]);have XB:tK (y.lA c d) c d=(if(y.C c).jG=true/\((y.C c).on d).length+((y.R ((y.C c).e d).1).P ((y.C c).e d).2).out.length<=2000 then tK y c d else(kx (kQ y c d) ((y.C c).on d)).1):=by
  unfold tK;rw[tQ,he,h0,aM,Gu];split
  ·rename_i h
   rw[ag h.2.2,qu,hq,lZ tJ];show _++(kx lS _).1=_;rw[tJ.1,r6 ps tJ.2]
  ·rename_i h
   rw[ae (λq=>h ⟨rfl,rfl,q⟩)]
 have DE:∀G:Nat->Nat->List mQ,(∀x f,(if x<y.nc/\f<2 then tK (y.lA c d) x f else [])=G x f)->jl (y.lA c d)={jl y with F:=G}:=λG hG=>by
  refine AN.ext' rfl rfl (funext he) rfl (funext hi) (funext adk) ?_ (funext λj=> ?_)
  ·funext x f;exact hG x f
  ·show y.jA j++((y.lA c d).R j).jA=_;rw[aho];rfl
 refine⟨⟨?_,λx f=> ?_⟩,λhr=>⟨?_,λx f hx hf=> ?_⟩⟩
 ·exact DE _ λ_ _=>rfl
 ·show∃m,(if x<y.nc/\f<2 then tK (y.lA c d) x f else [])=(if x<y.nc/\f<2 then tK y x f else []).take m;split
  ·rename_i J1
   by_cases e:x=c/\f=d
   ·obtain⟨rfl,rfl⟩:=e;rw[XB];split
    ·exact⟨(tK y x f).length,iC⟩
    ·exact⟨(kx (kQ y x f) ((y.C x).on f)).1.length,by unfold tK;simp⟩
   ·rw[adl x f J1.1 J1.2 e];exact⟨(tK y x f).length,iC⟩
  ·exact⟨0,rfl⟩
 ·refine DE (jl y).F λx f=> ?_;show _=if x<y.nc/\f<2 then tK y x f else []
  split
  ·rename_i J1
   by_cases e:x=c/\f=d
   ·obtain⟨rfl,rfl⟩:=e;rw[XB];rcases hr x f hc hd with h1|h1
    ·split
     ·rfl
     ·unfold tK;rw[jM h1,aM]
    ·rw[ag h1]
   ·exact adl x f J1.1 J1.2 e
  ·rfl
 ·rw[he,hP,hi,Gu];by_cases e:x=c/\f=d
  ·obtain⟨rfl,rfl⟩:=e;rw[ag rfl];exact .inl rfl
  ·rw[ae (λq=>e (hE.ds x f c d hx hf hc hd q.symm)),ae (λq=>e ⟨q.1,q.2.1⟩)];exact hr x f hx hf
theorem Ends.same {y':jc} (h:Ends y)(hn:y'.n=y.n)(sH:y'.nc=y.nc)(he:∀c,(y'.C c).e=(y.C c).e)(hr:∀i,(y'.R i).n=(y.R i).n):Ends y':=
 ⟨λc d c' d'=>by rw[sH,he,he];exact h.ds c d c' d',λc d=>by rw[sH,he];exact h.p3 c d,λi=>by rw[hr,hn];exact h.rn i,λc d=>by rw[sH,he,hn];exact h.en c d⟩
theorem Ends.lA {y:jc} (h:Ends y)(c d:Nat):Ends (y.lA c d):=h.same (ni y c d).1 (ni y c d).2.1 (λx=>((ni y c d).2.2.2.2 x).1) λj=>by
 show(jI y.R ((y.C c).e d).1 _ j).n=_;by_cases e:j=((y.C c).e d).1
 ·subst e;rw[iP];rfl
 ·rw[iL _ _ e]
theorem Js {y:jc} (hF:j1 y)(hE:Ends y):∀k,k<=y.nc->(Ends (y.kr k)/\xA (jl y) (jl (y.kr k)))/\(Room y->jl (y.kr k)=jl y/\Room (y.kr k))
 |0,_=>⟨⟨hE,xA.refl _⟩,λh=>⟨rfl,h⟩⟩
 |k+1,hk=>by
  obtain⟨⟨e1,l1⟩,r1⟩:=Js hF hE k eE;have f1:=j1.kr hF k eE;have n1:(y.kr k).nc=y.nc:=(ka y k).2.1;obtain⟨l2,r2⟩:=Jr f1 e1 k 0 (by rw[n1];omega) eH;have e2:=e1.lA k 0;have f2:=f1.lA k 0 (by rw[n1];omega);obtain⟨l3,r3⟩:=Jr f2 e2 k 1 (by show k<(y.kr k).nc;rw[n1];omega) eH;refine⟨⟨e2.lA k 1,l1.trans (l2.trans l3)⟩,λh=> ?_⟩;obtain⟨q1,s1⟩:=r1 h;obtain⟨q2,s2⟩:=r2 s1;obtain⟨q3,s3⟩:=r3 s2;exact⟨q3.trans (q2.trans q1),s3⟩
theorem Jt(y:jc):∀k,jl (y.mX k)=jl y
 |0=>rfl
 |k+1=>by
  rw[<-Jt y k];obtain⟨z,hz⟩:=gH (y.mX k);show jl ((y.mX k).wG k)=jl (y.mX k);rw[hz];have hP:∀j,((z.wG k).R j).P=(z.R j).P:=λj=>by
   show(jI z.R k {z.R k with jA:=[] } j).P=_;by_cases e:j=k
   ·subst e;rw[iP]
   ·rw[iL _ _ e]
  refine AN.ext' rfl rfl rfl rfl rfl (funext λj=> ?_) (funext λc=>funext λd=> ?_) (funext λj=> ?_)
  ·show(jI z.R k {z.R k with jA:=[] } j).core=_;by_cases e:j=k
   ·subst e;rw[iP];rfl
   ·rw[iL _ _ e];rfl
  ·show(if c<z.nc/\d<2 then(kx (((z.wG k).R _).P _).rd _).1++jH (((z.wG k).R _).P _)else [])=_;rw[hP,hP];rfl
  ·show jI z.jA k (z.jA k++(z.R k).jA) j++(jI z.R k {z.R k with jA:=[] } j).jA=z.jA j++(z.R j).jA;by_cases e:j=k
   ·subst e;rw[iP,iP];simp
   ·rw[iL _ _ e,iL _ _ e]
theorem qg(hF:j1 y)(hE:Ends y):xA (jl y) (jl y.gather)/\(Room y->jl y.gather=jl y):=by
 obtain⟨⟨_,l⟩,r⟩:=Js hF hE y.nc (Nat.le_refl _);unfold jc.gather;rw[Jt];exact⟨l,λh=>(r h).1⟩
theorem zy(a:AN)(i:Nat)(s:iY)(c d:Nat):(a.op i s).F c d=if(c<a.nc/\d<2)/\(a.e c d).1=i then a.F c d++jH (s.P (a.e c d).2)else a.F c d:=rfl
theorem Pw(a:AN)(i:Nat)(s:iY):(a.op i s).e=a.e:=rfl
theorem adn(a:AN)(i:Nat)(s:iY):(a.op i s).nc=a.nc:=rfl
theorem xB(a:AN)(c d:Nat)(l:List mQ)(x f:Nat):(a.lg c d l).F x f=if x=c/\f=d then l else a.F x f:=rfl
theorem LB(a:AN)(c d:Nat)(l:List mQ):(a.lg c d l).e=a.e:=rfl
theorem Gv(a:AN)(c d:Nat)(l:List mQ):(a.lg c d l).nc=a.nc:=rfl
def Norm(a:AN):Prop:=∀i,(a.R i).core=a.R i
theorem yq(y:jc):Norm (jl y):=λ_=>rfl
theorem pI {a:AN} (h:Norm a)(i:Nat)(s:iY):Norm (a.op i s):=λj=>by
 show(jI a.R i s.core j).core=jI a.R i s.core j;by_cases e:j=i
 ·subst e;rw[iP];rfl
 ·rw[iL _ _ e];exact h j
theorem Norm.out {a:AN} (h:Norm a)(i p:Nat):((a.R i).P p).out=[] :=by rw[<-h i];rfl
theorem Norm.jA {a:AN} (h:Norm a)(i:Nat):(a.R i).jA=[] :=by rw[<-h i];rfl
theorem mH.frN(h:mH r s)(hr:∀p,(r.P p).out=[]):∀p,∃ps,Frames (s.P p).out ps:=λp=>by
 obtain⟨qs,hq⟩:=h.out p [] (by rw[hr p];exact Frames.nil);exact⟨_,hq⟩
theorem mH.j7(r:iY)(i:Nat)(x:mQ):mH r (j7 r i x):=by
 cases x with
 |nil=>exact mH.refl r
 |cons c s=>exact mH.take r i c s
theorem adp(a:AN)(i:Nat)(s t:iY)(rd:Nat->ku)(hs:∀p,∃ps,Frames (s.P p).out ps)(ht:∀p,∃ps,Frames (t.P p).out ps):(a.op i s).op i t=a.op i (t.pat rd (λp=>(s.P p).out) s.jA):=by
 refine AN.ext' rfl rfl rfl rfl rfl (funext λj=> ?_) (funext λc=>funext λd=> ?_) (funext λj=> ?_)
 ·show jI (jI a.R i s.core) i t.core j=jI a.R i t.core j;by_cases e:j=i
  ·subst e;rw[iP,iP]
  ·rw[iL _ _ e,iL _ _ e,iL _ _ e]
 ·rw[zy,zy,zy,Pw,adn];by_cases e:(c<a.nc/\d<2)/\(a.e c d).1=i
  ·rw[ag e,ag e,ag e,aC];congr 1;exact(yo (Gs (hs _)) (ht _) _).1.symm
  ·rw[ae e,ae e,ae e]
 ·show jI (jI a.ib i (a.ib i++s.jA)) i (jI a.ib i (a.ib i++s.jA) i++t.jA) j=jI a.ib i (a.ib i++(s.jA++t.jA)) j;by_cases e:j=i
  ·subst e;rw[iP,iP,iP,aC]
  ·rw[iL _ _ e,iL _ _ e,iL _ _ e]
inductive Gw(c d:Nat):List mQ->AN->AN->Prop
 |nil (a:AN):Gw c d [] a a
 |cons {a b:AN} {x:mQ} {l r:List mQ}:c<a.nc->d<2->a.F c d=x::r->Gw c d l (a.pop c d x r) b->Gw c d (x::l) a b
theorem Gw.path {c d:Nat} {l:List mQ} {a b:AN} (h:Gw c d l a b):jU a [] [] b:=by
 induction h with
 |nil a=>exact jU.nil a
 |cons h1 h2 h3 _ ih=>exact(jU.one (mE.pop _ _ _ _ h1 h2 h3)).trans ih
theorem adq:∀(l rest:List mQ) (a:AN) (c d:Nat),Norm a->c<a.nc->d<2->a.F c d=l++rest->Gw c d l a ((a.lg c d rest).op (a.e c (1-d)).1 ((a.R (a.e c (1-d)).1).takes (a.e c (1-d)).2 l))
 |[],rest,a,c,d,hN,hc,hd,hF=>by
  have e1:(a.lg c d rest).op (a.e c (1-d)).1 ((a.R (a.e c (1-d)).1).takes (a.e c (1-d)).2 [])=a:=by
   refine AN.ext' rfl rfl rfl rfl rfl ?_ (funext λx=>funext λf=> ?_) ?_
   ·show jI a.R _ (a.R _).core=_;rw[hN];exact uS _ _
   ·show(if _/\_ then(if x=c/\f=d then rest else a.F x f)++jH _ else if x=c/\f=d then rest else a.F x f)=_;have e2:(if x=c/\f=d then rest else a.F x f)=a.F x f:=by
     split
     ·rename_i h;rw[h.1,h.2,hF];rfl
     ·rfl
    rw[e2];split
    ·show _++jH ((a.R _).P _)=_;rw[jM (hN.out _ _),aM]
    ·rfl
   ·show jI a.ib _ (a.ib _++(a.R _).jA)=_;rw[hN.jA,aM];exact uS _ _
  rw[e1];exact Gw.nil a
 |x::l,rest,a,c,d,hN,hc,hd,hF=>by
  obtain⟨i,hi⟩:=gH ((a.e c (1-d)).1);obtain⟨p,hp⟩:=gH ((a.e c (1-d)).2);have hs:=(mH.j7 (a.R i) p x).frN (hN.out i);obtain⟨s,Xm⟩:=gH (j7 (a.R i) p x);have vK:a.pop c d x (l++rest)=(a.lg c d (l++rest)).op i s:=by unfold AN.pop;rw[hi,hp,Xm]
  rw[Xm]at hs;have hN1:Norm ((a.lg c d (l++rest)).op i s):=pI (a:=a.lg c d (l++rest)) hN i s;have XB:(if c=c/\d=d then l++rest else a.F c d)=l++rest:=ag ⟨rfl,rfl⟩;have XC:((a.lg c d (l++rest)).op i s).F c d=l++(if(c<a.nc/\d<2)/\(a.e c d).1=i then rest++jH (s.P (a.e c d).2)else rest):=by
   show(if(c<a.nc/\d<2)/\(a.e c d).1=i then(if c=c/\d=d then l++rest else a.F c d)++jH (s.P (a.e c d).2)else(if c=c/\d=d then l++rest else a.F c d))=_;rw[XB];split<;>simp
  have ih:=adq l _ _ c d hN1 hc hd XC;have hRi:((a.lg c d (l++rest)).op i s).R i=s.core:=iP _ _ _;have h2:=ih;have he:((a.lg c d (l++rest)).op i s).e=a.e:=rfl;rw[he,hi,hp,hRi]at h2;have h3:(((a.lg c d (l++rest)).op i s).lg c d (if(c<a.nc/\d<2)/\(a.e c d).1=i then rest++jH (s.P (a.e c d).2)else rest))=(a.lg c d rest).op i s:=by
   refine AN.ext' rfl rfl rfl rfl rfl rfl (funext λy=>funext λf=> ?_) rfl;rw[xB,zy,zy,xB,xB,LB,LB,Gv,Gv];by_cases e:y=c/\f=d
   ·rw[ag e,ag e,e.1,e.2]
   ·rw[ae e,ae e,ae e]
  rw[h3,adp _ _ _ _ (λq=>(s.P q).rd) hs ((mH.takes l s.core p).frN λ_=>rfl),<-zw,vy]at h2;rw[hi,hp];show Gw c d (x::l) a ((a.lg c d rest).op i ((j7 (a.R i) p x).takes p l));rw[Xm];exact Gw.cons (r:=l++rest) hc hd hF (by rw[vK];exact h2)
theorem LC(hF:j1 y)(hE:Ends y)(c d k:Nat)(hc:c<y.nc)(hd:d<2):∃l rest,tK y c d=l++rest/\l=(kx (kQ y c d) (((y.C c).on d).take k)).1/\jl (y.j0 c d k)=((jl y).lg c d rest).op ((y.C c).e (1-d)).1 (((y.R ((y.C c).e (1-d)).1).core).takes ((y.C c).e (1-d)).2 l):=by
 obtain⟨i,hi⟩:=gH (((y.C c).e (1-d)).1);obtain⟨p,hp⟩:=gH (((y.C c).e (1-d)).2);obtain⟨A,hA⟩:=gH (kx ((y.R i).P p).rd (((y.C c).on d).take k));have tQ:kQ y c d=((y.R i).P p).rd:=by unfold kQ;rw[hi,hp]
 have ZU:(kx (kQ y c d) ((y.C c).on d)).1=A.1++(kx A.2.2 (((y.C c).on d).drop k)).1:=by
  have:=qu (kQ y c d) (((y.C c).on d).take k) (((y.C c).on d).drop k);rw[bX,tQ,hA]at this;rw[tQ,this]
 refine⟨A.1,(kx A.2.2 (((y.C c).on d).drop k)).1++jH ((y.R ((y.C c).e d).1).P ((y.C c).e d).2),?_,by rw[tQ,hA],?_⟩
 ·unfold tK;rw[ZU,aC]
 rw[hi,hp];have Px:(y.R i).recv p (((y.C c).on d).take k)=(((y.R i).core).takes p A.1).pat (jI (λq=>((y.R i).P q).rd) p A.2.2) (λq=>((y.R i).P q).out) (y.R i).jA:=by
  rw[<-zw];unfold iY.recv;simp only;rw[hA];congr 1;unfold iY.jd iY.pat iY.core jF.pt;simp only[List.append_nil];congr 1
  funext q
  by_cases e:q=p
  ·subst e;rw[jz,iP]
  ·rw[ju _ _ e,iL _ _ e]
 have hs:=(mH.takes A.1 (y.R i).core p).frN λ_=>rfl;obtain⟨s,Xm⟩:=gH (((y.R i).core).takes p A.1);rw[Xm]at Px hs⊢;have hR:∀j,(y.j0 c d k).R j=if j=i then(y.R i).recv p (((y.C c).on d).take k)else y.R j:=λj=>by
  unfold jc.j0;rw[hi,hp];rfl
 have heC:∀x,((y.j0 c d k).C x).e=(y.C x).e:=λx=>((vp y c d k).2.2.2 x).1;have AR:∀x e,((y.j0 c d k).C x).on e=if x=c/\e=d then((y.C c).on d).drop k else(y.C x).on e:=λx e=>by
  show((if x=c then {y.C c with on:=jI (y.C c).on d (((y.C c).on d).drop k)}else y.C x):pX).on e=_;by_cases ex:x=c
  ·rw[ag ex];show jI (y.C c).on d _ e=_;by_cases ed:e=d
   ·rw[ed,iP,ag ⟨ex,rfl⟩]
   ·rw[iL _ _ ed,ae (λh=>ed h.2),ex]
  ·rw[ae ex,ae (λh=>ex h.1)]
 refine AN.ext' rfl rfl (funext heC) rfl (funext λx=>C5 y c d k x) (funext λj=> ?_) (funext λx=>funext λf=> ?_) (funext λj=> ?_)
 ·show((y.j0 c d k).R j).core=jI _ i s.core j;rw[hR];by_cases e:j=i
  ·subst e;rw[ag rfl,iP,Px,Jo]
  ·rw[ae e,iL _ _ e];rfl
 ·show(if x<y.nc/\f<2 then tK (y.j0 c d k) x f else [])=if(x<y.nc/\f<2)/\((y.C x).e f).1=i then(if x=c/\f=d then _ else if x<y.nc/\f<2 then tK y x f else [])++jH (s.P ((y.C x).e f).2)else if x=c/\f=d then _ else if x<y.nc/\f<2 then tK y x f else []
  by_cases hx:x<y.nc/\f<2
  ·rw[ag hx];have hq:tK (y.j0 c d k) x f=(if x=c/\f=d then(kx A.2.2 (((y.C c).on d).drop k)).1 else(kx (kQ y x f) ((y.C x).on f)).1)++(if((y.C x).e f).1=i then jH ((y.R ((y.C x).e f).1).P ((y.C x).e f).2)++jH (s.P ((y.C x).e f).2)else jH ((y.R ((y.C x).e f).1).P ((y.C x).e f).2)):=by
    unfold tK;congr 1
    ·unfold kQ;rw[heC,hR,AR];by_cases e:x=c/\f=d
     ·rw[ag e,ag e,e.1,e.2,hi,ag rfl,Px,hp];have:((s.pat (jI (λq=>((y.R i).P q).rd) p A.2.2) (λq=>((y.R i).P q).out) (y.R i).jA).P p).rd=A.2.2:=by
       show jI (λq=>((y.R i).P q).rd) p A.2.2 p=_;rw[iP]
      rw[this]
     ·rw[ae e,ae e];by_cases e2:((y.C x).e (1-f)).1=i
      ·have e3:((y.C x).e (1-f)).2≠p:=λe3=>by
        have:=hE.ds x (1-f) c (1-d) hx.1 eE hc eE (bu (e2.trans hi.symm) (e3.trans hp.symm));exact e ⟨this.1,eE⟩
       rw[ag e2,Px,e2];have:((s.pat (jI (λq=>((y.R i).P q).rd) p A.2.2) (λq=>((y.R i).P q).out) (y.R i).jA).P ((y.C x).e (1-f)).2).rd=((y.R i).P ((y.C x).e (1-f)).2).rd:=by
        show jI (λq=>((y.R i).P q).rd) p A.2.2 ((y.C x).e (1-f)).2=_;rw[iL _ _ e3]
       rw[this]
      ·rw[ae e2]
    ·rw[heC,hR];by_cases e2:((y.C x).e f).1=i
     ·rw[ag e2,ag e2,Px,e2];obtain⟨ps,tJ⟩:=hF.o i ((y.C x).e f).2;show jH ((s.P ((y.C x).e f).2).pt _ _)=_;rw[(yo tJ (hs _) _).1,lZ tJ]
     ·rw[ae e2,ae e2]
   rw[hq];by_cases e:x=c/\f=d
   ·rw[ag e,ag e,<-e.1,<-e.2];by_cases e2:((y.C x).e f).1=i
    ·rw[ag e2,ag ⟨hx,e2⟩,aC]
    ·rw[ae e2,ae (λh=>e2 h.2)]
   ·rw[ae e,ae e,ag hx];unfold tK;by_cases e2:((y.C x).e f).1=i
    ·rw[ag e2,ag ⟨hx,e2⟩,aC]
    ·rw[ae e2,ae (λh=>e2 h.2)]
  ·rw[ae hx,ae (λh=>hx h.1),ae (λh=>hx ⟨by rw[h.1];exact hc,by rw[h.2];exact hd⟩),ae hx]
 ·show y.jA j++((y.j0 c d k).R j).jA=jI _ i _ j;rw[hR];by_cases e:j=i
  ·subst e;rw[ag rfl,iP,Px];show y.jA j++((y.R j).jA++s.jA)=(y.jA j++(y.R j).jA)++s.jA;rw[aC]
  ·rw[ae e,iL _ _ e];rfl
theorem Tk:((List.range 10).all λs=>(lh s 1).1.all λc=>c==115||c==100)=true:=by decide+kernel
theorem Ju(xM:kZ):∀(l:List UInt8) (s:LS),l.all (λc=>c==115||c==100)=true->wM l s xM=[]
 |[],_,_=>rfl
 |c::r,s,h=>by
  rw[List.all_cons,Bool.and_eq_true]at h;show DJ c s xM++wM r _ xM=[]
  rw[Ju xM r _ h.2,aM];have h1:c=115 \/c=100:=by simpa using h.1
  rcases h1 with rfl|rfl<;>rfl
theorem Jv {s:LS} (h:ti s.st=true):(k7 s 1).2.1=[] :=by
 obtain⟨k,hk,zt⟩:=Bm h;have h0:=(rZ h).1;have e:k7 s 1=rN s 1 (0,0,[]):=rfl;rw[e]at h0⊢;have h1:(jt s.st 1).2.2=0:=by
  by_cases g:(jt s.st 1).2.2=0
  ·exact g
  ·rw[uJ _ g]at h0;exact absurd h0 g
 rw[sv _ h1];show wM (jt s.st 1).1 _ _=[]
 rw[hk,show jt (k:Int) 1=lh k 1 from m7 k 1 zt eH];exact Ju _ _ _ (bk.1 Tk k (a7.2 zt))
theorem Gx(r:iY)(p:Nat)(up:Bool)(q:Nat)(hq:q≠p):((r.iW p up).1.P q).out=(r.P q).out:=by
 unfold iY.iW;simp only;split
 ·rfl
 ·rw[(l9 _ p nobody).2.2.2];rw[ju _ _ hq];show(k8 r.P p _ q).out=_;rw[ju _ _ hq]
theorem Dc {p:Nat} (h:ti (r.P p).L.st=true):((r.iW p false).1.P p).out=(r.P p).out:=by
 unfold iY.iW jF.iW;simp only[Bool.false_eq_true,if_false];rw[Jv h,(rZ h).1];simp only[ne_eq,not_true_eq_false,if_false];rw[(l9 _ p nobody).2.2.2,jz];show(k8 r.P p _ p).out=_;rw[jz];rfl
theorem M7 {L:LS} (h:if(!up)=true then ti L.st=true else L.st=1):(k7 L (if up=true then 0 else 1)).2.2=0:=by
 cases up
 ·exact(rZ (by simpa using h)).1
 ·exact(Cn (by simpa using h)).1
theorem mH.XD {i:Nat} (hs:∀p,(s.P p).out=[])(h1:(k7 (s.P i).L (if up=true then 0 else 1)).2.2=0):∀p,∃ps,Frames ((s.iW i up).1.P p).out ps:=λp=>by
 have e:(s.P i).iW up=(({s.P i with L:=(k7 (s.P i).L (if up=true then 0 else 1)).1,rd:=([],false,false)}:jF).say (k7 (s.P i).L (if up=true then 0 else 1)).2.1,0):=by
  unfold jF.iW;simp only;rw[ae (by simp[h1])]
 unfold iY.iW;rw[e];simp only;rw[ae iC];obtain⟨x,hx⟩:=gH (({s.P i with L:=(k7 (s.P i).L (if up=true then 0 else 1)).1,rd:=([],false,false)}:jF).say (k7 (s.P i).L (if up=true then 0 else 1)).2.1);have Ad:qf {s.P i with L:=(k7 (s.P i).L (if up=true then 0 else 1)).1,rd:=([],false,false)} x:=by rw[<-hx];exact qf.say _ _
 rw[hx,(l9 _ i nobody).2.2.2];by_cases e2:p=i
 ·subst e2;rw[jz];show∃ps,Frames (k8 s.P p x p).out ps;rw[jz];obtain⟨qs,hq⟩:=Ad.out [] (by show Frames (s.P p).out [];rw[hs];exact Frames.nil);exact⟨_,hq⟩
 ·rw[ju _ _ e2];show∃ps,Frames (k8 s.P i x p).out ps;rw[ju _ _ e2,hs];exact⟨[],Frames.nil⟩
theorem Py(hF:∀i p,∃ps,Frames ((y.R i).P p).out ps)(hG:GN y)(hE:Ends y)(c:Nat)(up:Bool)(hc:c<y.nc)(hu:(y.C c).jG= !up)(ho:∀d,d<2->((y.R ((y.C c).e d).1).P ((y.C c).e d).2).out=[]):jl (y.j5 c up)=(jl y).iW c up/\(∀i p,(∀d,d<2->(y.C c).e d≠(i,p))->(((y.j5 c up).R i).P p).out=((y.R i).P p).out)/\(up=false->∀d,d<2->(((y.j5 c up).R ((y.C c).e d).1).P ((y.C c).e d).2).out=[]):=by
 have e0:=hG.ends c 0 hc eH;have e1:=hG.ends c 1 hc eH;have o0:=ho 0 eH;have o1:=ho 1 eH;rw[hu]at e0 e1;have jV:(y.C c).e 0≠(y.C c).e 1:=λh=>by
  have:=(hE.ds c 0 c 1 hc eH hc eH h).2;omega
 obtain⟨z,hz⟩:=gH (y.ll c {y.C c with jG:=up,on:=λ_=>[] });have hzC:∀x,z.C x=if x=c then {y.C c with jG:=up,on:=λ_=>[] }else y.C x:=λx=>by rw[<-hz];rfl
 have Qg:∀x,(z.C x).e=(y.C x).e:=λx=>by rw[hzC];split<;>simp_all
 have Tl:z.R=y.R:=by rw[<-hz];rfl
 have V9:z.nc=y.nc:=by rw[<-hz];rfl
 have adr:∀d,(z.C c).on d=[] :=λd=>by rw[hzC,ag rfl]
 have oz:jl z=(({jl y with jG:=jI (jl y).jG c up}:AN).lg c 0 []).lg c 1 [] :=by
  refine AN.ext' (by rw[<-hz];rfl) V9 (funext Qg) (by rw[<-hz];rfl) (funext λx=> ?_) (funext λj=> ?_) (funext λx=>funext λf=> ?_) (by rw[<-hz];rfl)
  ·show(z.C x).jG=jI _ c up x;rw[hzC];by_cases e:x=c
   ·subst e;rw[ag rfl,iP]
   ·rw[ae e,iL _ _ e];rfl
  ·show(z.R j).core=(y.R j).core;rw[Tl]
  ·show(if x<z.nc/\f<2 then tK z x f else [])=if x=c/\f=1 then []else if x=c/\f=0 then []else if x<y.nc/\f<2 then tK y x f else []
   rw[V9];by_cases J1:x<y.nc/\f<2
   ·rw[ag J1,ag J1];by_cases e:x=c
    ·subst e;have:tK z x f=[] :=by
      unfold tK;rw[adr,Qg,Tl,jM (ho f J1.2)];rfl
     rw[this];split
     ·rfl
     ·split
      ·rfl
      ·omega
    ·rw[ae (λh=>e h.1),ae (λh=>e h.1)];unfold tK kQ;rw[hzC,ae e,Tl]
   ·rw[ae J1,ae (λh=>J1 ⟨by rw[h.1];exact hc,eE⟩),ae (λh=>J1 ⟨by rw[h.1];exact hc,eE⟩),ae J1]
 obtain⟨i,hi⟩:=gH (((y.C c).e 0).1);obtain⟨p,hp⟩:=gH (((y.C c).e 0).2);obtain⟨j,hj⟩:=gH (((y.C c).e 1).1);obtain⟨q,hq⟩:=gH (((y.C c).e 1).2);rw[hi,hp]at e0 o0;rw[hj,hq]at e1 o1;have Zd:i=j->p≠q:=λh1 h2=>jV (bu (by rw[hi,hj,h1]) (by rw[hp,hq,h2]));have d0:=M7 e0.st;have d1:=M7 e1.st;have k1:((z.R i).iW p up).1=(((z.R i).core.iW p up).1).pat (jI (λs=>((z.R i).P s).rd) p lS) (λs=>((z.R i).P s).out) (z.R i).jA:=by
  have:=Jq (λs=>((z.R i).P s).rd) (λs=>((z.R i).P s).out) (z.R i).jA (z.R i).core p up (by rw[Tl];exact d0);rw[vy]at this;exact this
 have f1:∀s,∃ps,Frames (((z.R i).core.iW p up).1.P s).out ps:=mH.XD (s:=(z.R i).core) (λ_=>rfl) (by rw[Tl];exact d0);have XA:∀(w:jc),w.nc=y.nc->(∀x,(w.C x)=z.C x)->∀d0:Nat,d0<2->∀x f,x<w.nc->f<2->((w.C x).e (1-f)).1=((y.C c).e d0).1->jI (λs=>((w.R ((y.C c).e d0).1).P s).rd) ((y.C c).e d0).2 lS ((w.C x).e (1-f)).2=((w.R ((y.C c).e d0).1).P ((w.C x).e (1-f)).2).rd \/(w.C x).on f=[] :=λw hw hwC d0 hd0 x f hx hf hxe=>by
  by_cases e:((w.C x).e (1-f)).2=((y.C c).e d0).2
  ·refine .inr ?_;rw[hwC,Qg]at hxe e;have:=hE.ds x (1-f) c d0 (by rw[<-hw];exact hx) eE hc hd0 (bu hxe e);rw[hwC,this.1];exact adr f
  ·rw[iL _ _ e];exact .inl rfl
 have a1:=Gt (y:=z) (by rw[Tl];exact hF) i _ k1 (by have:=XA z V9 (λ_=>rfl) 0 eH;rw[hi,hp]at this;exact this) f1;obtain⟨z1,mW⟩:=gH (z.jQ i ((z.R i).iW p up).1);have ZV:∀x,z1.C x=z.C x:=λx=>by rw[<-mW];rfl
 have ZW:∀k,z1.R k=if k=i then((z.R i).iW p up).1 else z.R k:=λk=>by rw[<-mW];rfl
 have Wa:∀k s,¬(k=i/\s=p)->((z1.R k).P s).L=((y.R k).P s).L/\((z1.R k).P s).out=((y.R k).P s).out:=λk s h=>by
  rw[ZW];by_cases e:k=i
  ·rw[ag e,e,Tl];have hs:s≠p:=λh2=>h ⟨e,h2⟩;exact⟨((vS (up:=up) p (by simpa using e0)).2.2 s hs).1,Gx _ _ _ _ hs⟩
  ·rw[ae e,Tl];exact⟨rfl,rfl⟩
 have L1:=Wa j q (λh=>Zd h.1.symm h.2.symm);have k2:((z1.R j).iW q up).1=(((z1.R j).core.iW q up).1).pat (jI (λs=>((z1.R j).P s).rd) q lS) (λs=>((z1.R j).P s).out) (z1.R j).jA:=by
  have:=Jq (λs=>((z1.R j).P s).rd) (λs=>((z1.R j).P s).out) (z1.R j).jA (z1.R j).core q up (by show(k7 ((z1.R j).P q).L _).2.2=0;rw[L1.1];exact d1);rw[vy]at this;exact this
 have f2:∀s,∃ps,Frames (((z1.R j).core.iW q up).1.P s).out ps:=mH.XD (s:=(z1.R j).core) (λ_=>rfl) (by show(k7 ((z1.R j).P q).L _).2.2=0;rw[L1.1];exact d1);have ahp:∀k s,∃ps,Frames ((z1.R k).P s).out ps:=λk s=>by
  by_cases e:k=i/\s=p
  ·rw[ZW,ag e.1,k1,e.2];obtain⟨ps,tJ⟩:=hF i p;have:=(yo tJ (f1 p) (jI (λs=>((z.R i).P s).rd) p lS p)).2;rw[<-Tl]at this;exact this
  ·rw[(Wa k s e).2];exact hF k s
 have a2:=Gt (y:=z1) ahp j _ k2 (by have:=XA z1 (by rw[<-mW];exact V9) ZV 1 eH;rw[hj,hq]at this;exact this) f2;have sO:y.j5 c up=z1.jQ j ((z1.R j).iW q up).1:=by
  unfold jc.j5;rw[hz];have t1:z.mL c 0 up=z1:=by unfold jc.mL;rw[Qg,hi,hp,mW]
  rw[t1];unfold jc.mL;rw[ZV,Qg,hj,hq]
 have hfR:∀k,(y.j5 c up).R k=if k=j then((z1.R j).iW q up).1 else z1.R k:=λk=>by rw[sO];rfl
 refine⟨?_,λk s hks=> ?_,λhup d hd=> ?_⟩
 ·rw[sO,a2,<-mW,a1];unfold AN.iW;rw[<-oz];have t1:(jl z).lH c 0 up=(jl z).op i ((z.R i).core.iW p up).1:=by
   have ez:(jl z).e c=(y.C c).e:=Qg c;unfold AN.lH;rw[ez,hi,hp];rfl
  rw[t1,<-a1,mW];have ez:(jl z1).e c=(y.C c).e:=by show(z1.C c).e=_;rw[ZV,Qg]
  unfold AN.lH;rw[ez,hj,hq];rfl
 ·have h0:¬(k=i/\s=p):=λh=>hks 0 eH (bu (hi.trans h.1.symm) (hp.trans h.2.symm));have h1:¬(k=j/\s=q):=λh=>hks 1 eH (bu (hj.trans h.1.symm) (hq.trans h.2.symm));rw[hfR];by_cases e:k=j
  ·rw[ag e,Gx _ _ _ _ (λh=>h1 ⟨e,h⟩),<-e];exact(Wa k s h0).2
  ·rw[ae e];exact(Wa k s h0).2
 ·subst hup;have u0:ti ((y.R i).P p).L.st=true:=by simpa using e0.st
  have u1:ti ((y.R j).P q).L.st=true:=by simpa using e1.st
  have ZX:d=0 \/d=1:=eE;have hA:((z1.R i).P p).out=[] :=by
   rw[ZW,ag rfl,Dc (by rw[Tl];exact u0),Tl];exact o0
  rcases ZX with rfl|rfl
  ·rw[hi,hp,hfR];by_cases e:i=j
   ·rw[ag e,Gx _ _ _ _ (Zd e),<-e];exact hA
   ·rw[ae e];exact hA
  ·rw[hj,hq,hfR,ag rfl,Dc (by rw[L1.1];exact u1),L1.2];exact o1
end Rt
end Go.Proofs.YtieklnlbljejdaaGreatDoor
