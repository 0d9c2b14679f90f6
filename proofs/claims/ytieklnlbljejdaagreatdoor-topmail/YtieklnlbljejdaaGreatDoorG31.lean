import Derived.Test.YtieklnlbljejdaaGreatDoorG30
open Option renaming none → ν
open Prod renaming fst → iE, snd → iF
namespace Go.Proofs.YtieklnlbljejdaaGreatDoor
open Go.RowKit St
namespace Rt
variable {c:UInt8} {k:Nat} {ps:List (List UInt8)} {tx:List UInt8} {y:jc}
def E4(p:List UInt8):Prop:=1<=p.length/\p.length<=60
def Frames(l:List UInt8)(ps:List (List UInt8)):Prop:=l=ps.flatMap Plain.mT/\∀p∈ps,E4 p
def lS:ku:=([],false,false)
theorem Frames.nil:Frames [] [] :=⟨rfl,λ_ h=>by simp at h⟩
theorem Frames.snoc {l:List UInt8} (h:Frames l ps) {p:List UInt8} (hp:E4 p):Frames (l++Plain.mT p) (ps++ [p]):=by
 obtain⟨h1,h2⟩:=h;refine⟨by rw[h1];simp,λq hq=> ?_⟩;rcases aD.1 hq with e|e
 ·exact h2 q e
 ·rw[az.1 e];exact hp
theorem r6:∀(ps:List (List UInt8)),(∀p∈ps,E4 p)->kx lS (ps.flatMap Plain.mT)=(ps,0,lS)
 |[],_=>rfl
 |p::ps,h=>by
  have e:(p::ps).flatMap Plain.mT=Plain.mT p++ps.flatMap Plain.mT:=iC;have h1:kx lS (Plain.mT p)=([p],0,lS):=Ky p (h p iC).2;rw[e,qu,h1];simp only;rw[r6 ps (λq hq=>h q (by simp[hq]))];rfl
structure mH(r r':iY):Prop where
 rd:∀p,(r'.P p).rd=(r.P p).rd
 out:∀p ps,Frames (r.P p).out ps->∃qs,Frames (r'.P p).out (ps++qs)
theorem mH.refl(r:iY):mH r r:=⟨λ_=>rfl,λ_ ps h=>⟨[],by simpa using h⟩⟩
theorem mH.trans {a b c:iY} (h:mH a b)(g:mH b c):mH a c:=by
 refine⟨λp=>(g.rd p).trans (h.rd p),λp ps hp=> ?_⟩;obtain⟨q1,h1⟩:=h.out p ps hp;obtain⟨q2,h2⟩:=g.out p _ h1;exact⟨q1++q2,by rw[<-aC];exact h2⟩
theorem mH.wq {r r':iY} (h:r'.P=r.P):mH r r':=⟨λ_=>by rw[h],λ_ ps hp=>⟨[],by rw[h];simpa using hp⟩⟩
structure qf(p q:jF):Prop where
 rd:q.rd=p.rd
 out:∀ps,Frames p.out ps->∃qs,Frames q.out (ps++qs)
theorem qf.refl(p:jF):qf p p:=⟨rfl,λps h=>⟨[],by simpa using h⟩⟩
theorem qf.trans {a b c:jF} (h:qf a b)(g:qf b c):qf a c:=by
 refine⟨g.rd.trans h.rd,λps hp=> ?_⟩;obtain⟨q1,h1⟩:=h.out ps hp;obtain⟨q2,h2⟩:=g.out _ h1;exact⟨q1++q2,by rw[<-aC];exact h2⟩
theorem qf.put(p:jF)(c:UInt8)(s:List UInt8):qf p (p.put c s):=by
 unfold jF.put;split
 ·exact qf.refl p
 ·split
  ·rename_i h
   exact⟨rfl,λps hp=>⟨[c::s],hp.snoc ⟨iC,by simpa using h⟩⟩⟩
  ·exact qf.refl p
theorem qf.say:∀(l:List kZ) (p:jF),qf p (p.say l)
 |[],p=>qf.refl p
 |q::r,p=>by
  show qf p ((if jW q.1 q.2.1 q.2.2=0 then p.put 76 (lQ q.1 q.2.1 q.2.2)else p).say r);refine qf.trans ?_ (qf.say r _);split
  ·exact qf.put _ _ _
  ·exact qf.refl p
theorem qf.kA:∀(l:List (Int×PS)) (p:jF),qf p (p.kA l)
 |[],p=>qf.refl p
 |q::r,p=>(qf.put p 83 (sj q.1 q.2.1 q.2.2)).trans (qf.kA r _)
theorem qf.adi(p:jF)(L:LS)(l:List kZ):qf p (({p with L:=L}:jF).say l):=by
 have h:qf p ({p with L:=L}:jF):=⟨rfl,λps h=>⟨[],by simpa using h⟩⟩
 exact h.trans (qf.say l _)
theorem qf.tick(p:jF):qf p p.tick:=qf.adi p _ _
theorem qf.packet(p:jF)(s:List UInt8):qf p (p.packet s):=by
 unfold jF.packet;simp only;split
 ·exact qf.adi p _ _
 ·exact qf.refl p
theorem mH.jd(r:iY)(i:Nat) {q:jF} (h:qf (r.P i) q):mH r (r.jd i q):=by
 refine⟨λp=> ?_,λp ps hp=> ?_⟩
 ·show(k8 r.P i q p).rd=_;by_cases e:p=i
  ·subst e;rw[jz];exact h.rd
  ·rw[ju _ _ e]
 ·show∃qs,Frames (k8 r.P i q p).out (ps++qs);by_cases e:p=i
  ·subst e;rw[jz];exact h.out ps hp
  ·rw[ju _ _ e];exact⟨[],by simpa using hp⟩
theorem mH.meet(r:iY)(i:Nat)(q:ln):mH r (r.meet i q):=by
 refine⟨λp=> ?_,λp ps hp=>⟨[],?_⟩⟩
 ·rw[(l9 r i q).2.2.2];by_cases e:p=i
  ·subst e;rw[jz]
  ·rw[ju _ _ e]
 ·rw[(l9 r i q).2.2.2];by_cases e:p=i
  ·subst e;rw[jz];simpa using hp
  ·rw[ju _ _ e];simpa using hp
theorem mH.send(r:iY)(t:tV):mH r (r.send t):=by
 unfold iY.send;split
 ·exact mH.wq rfl
 ·split
  ·exact mH.wq rfl
  ·exact mH.jd _ _ (qf.put _ _ _)
theorem mH.state(r:iY)(i:Nat)(l:List UInt8):mH r (jK r i l):=by
 unfold jK;simp only;split
 ·exact mH.refl r
 ·split
  ·exact mH.wq (nt _ _).2.2.2
  ·split
   ·exact⟨λp=>(mH.jd _ i (qf.put _ _ _)).rd p,λp ps hp=>(mH.jd _ i (qf.put _ _ _)).out p ps hp⟩
   ·exact mH.wq rfl
theorem mH.take(r:iY)(i:Nat)(c:UInt8)(s:List UInt8):mH r (r.take i c s):=by
 rw[lF];have h1:mH r (jY r i c s):=by
  unfold jY;split
  ·exact mH.jd _ _ (qf.packet _ _)
  ·exact mH.refl r
 split
 ·exact h1.trans (mH.meet _ _ _)
 ·refine h1.trans ?_;unfold mJ;split
  ·split
   ·exact mH.meet _ _ _
   ·exact mH.refl _
  ·split
   ·exact mH.state _ _ _
   ·split
    ·unfold kO;simp only;split<;>exact mH.wq rfl
    ·split
     ·unfold qw;split
      ·exact mH.send _ _
      ·exact mH.refl _
     ·exact mH.refl _
theorem mH.takes:∀(l:List (List UInt8)) (r:iY) (i:Nat),mH r (r.takes i l)
 |[],r,_=>mH.refl r
 |t::l,r,i=>by
  show mH r ((j7 r i t).takes i l);refine mH.trans ?_ (mH.takes l _ i);cases t with
  |nil=>exact mH.refl r
  |cons c s=>exact mH.take r i c s
theorem mH.jx(r:iY)(i:Nat):mH r (r.jx i):=by
 rw[k9];have h1:mH r (jn r i):=mH.jd _ _ (qf.tick _);split
 ·exact h1.trans (mH.meet _ _ _)
 ·refine h1.trans ((mH.meet _ i (jg ((jn r i).P i).pe)).trans ?_);unfold lE;simp only;refine mH.jd _ i ?_;split
  ·exact(qf.put _ _ _).trans (qf.kA _ _)
  ·exact qf.put _ _ _
theorem mH.jB(r:iY):∀q,mH r (r.jB q)
 |0=>mH.refl r
 |q+1=>(mH.jB r q).trans (mH.jx _ _)
theorem mH.kg(r:iY)(t:Int)(tx:List UInt8):mH r (kg r t tx).1:=by
 unfold Rt.kg;split
 ·exact mH.refl r
 ·show mH r (r.send (t,8,tx));exact mH.send r (t,8,tx)
theorem Pp(r:iY)(i:Nat)(l:List UInt8):((r.recv i l).P i).rd=(kx (r.P i).rd l).2.2/\(∀p,p≠i->((r.recv i l).P p).rd=(r.P p).rd)/\∀p ps,Frames (r.P p).out ps->∃qs,Frames ((r.recv i l).P p).out (ps++qs):=by
 unfold iY.recv;simp only;have h:=mH.takes (kx (r.P i).rd l).1 (r.jd i {r.P i with rd:=(kx (r.P i).rd l).2.2}) i;have hP:∀p,((r.jd i {r.P i with rd:=(kx (r.P i).rd l).2.2}).P p).out=(r.P p).out:=λp=>by
  show(k8 r.P i _ p).out=_;by_cases e:p=i
  ·subst e;rw[jz]
  ·rw[ju _ _ e]
 refine⟨?_,λp hp=> ?_,λp ps hf=>h.out p ps (by rw[hP];exact hf)⟩
 ·rw[h.rd];show(k8 r.P i _ i).rd=_;rw[jz]
 ·rw[h.rd];show(k8 r.P i _ p).rd=_;rw[ju _ _ hp]
theorem E5 {r:iY} {up:Bool} (i:Nat)(h:oK (!up) (r.P i)):(((r.iW i up).1.P i).rd=lS)/\(∀p,p≠i->((r.iW i up).1.P p).rd=(r.P p).rd)/\∀p ps,Frames (r.P p).out ps->∃qs,Frames ((r.iW i up).1.P p).out (ps++qs):=by
 have h1:(k7 (r.P i).L (if up=true then 0 else 1)).2.2=0:=by
  cases up
  ·exact(rZ (oK.up.1 h).1).1
  ·exact(Cn (by simpa using h.st)).1
 have e:(r.P i).iW up=(({r.P i with L:=(k7 (r.P i).L (if up=true then 0 else 1)).1,rd:=([],false,false)}:jF).say (k7 (r.P i).L (if up=true then 0 else 1)).2.1,0):=by
  unfold jF.iW;simp only;rw[ae (by simp[h1])]
 unfold iY.iW;rw[e];simp only;rw[ae iC];obtain⟨x,hx⟩:=gH (({r.P i with L:=(k7 (r.P i).L (if up=true then 0 else 1)).1,rd:=([],false,false)}:jF).say (k7 (r.P i).L (if up=true then 0 else 1)).2.1);have Ad:qf {r.P i with L:=(k7 (r.P i).L (if up=true then 0 else 1)).1,rd:=([],false,false)} x:=by rw[<-hx];exact qf.say _ _
 rw[hx];have hm:=mH.meet (r.jd i x) i nobody;refine⟨?_,λp hp=> ?_,λp ps hf=> ?_⟩
 ·rw[hm.rd];show(k8 r.P i x i).rd=_;rw[jz,Ad.rd];rfl
 ·rw[hm.rd];show(k8 r.P i x p).rd=_;rw[ju _ _ hp]
 ·by_cases e2:p=i
  ·subst e2;obtain⟨q1,h2⟩:=Ad.out ps hf;obtain⟨q2,h3⟩:=hm.out p (ps++q1) (by show Frames (k8 r.P p x p).out _;rw[jz];exact h2);exact⟨q1++q2,by rw[<-aC];exact h3⟩
  ·exact hm.out p ps (by show Frames (k8 r.P i x p).out _;rw[ju _ _ e2];exact hf)
def kQ(y:jc)(c d:Nat):ku:=((y.R ((y.C c).e (1-d)).1).P ((y.C c).e (1-d)).2).rd
structure j1(y:jc):Prop where
 q:∀c d,c<y.nc->d<2->(kx (kQ y c d) ((y.C c).on d)).2=(0,lS)/\∀p∈(kx (kQ y c d) ((y.C c).on d)).1,E4 p
 o:∀i p,∃ps,Frames ((y.R i).P p).out ps
theorem j1.lA {y:jc} (h:j1 y)(c d:Nat)(_hc:c<y.nc):j1 (y.lA c d):=by
 have XA:∀i p,(((y.lA c d).R i).P p).rd=((y.R i).P p).rd:=λi p=>by
  rw[CO];split<;>rfl
 have he:∀x,((y.lA c d).C x).e=(y.C x).e:=λx=>((ni y c d).2.2.2.2 x).1;have tQ:∀x e,kQ (y.lA c d) x e=kQ y x e:=λx e=>by
  unfold kQ;rw[he,XA]
 refine⟨λx e hx Ep=> ?_,λi p=> ?_⟩
 ·have Af:x<y.nc:=hx;rw[tQ];have AR:((y.lA c d).C x).on e=(y.C x).on e \/(x=c/\e=d/\((y.lA c d).C x).on e=(y.C x).on e++((y.R ((y.C c).e d).1).P ((y.C c).e d).2).out):=by
   show((if x=c then(y.C c).put d _ else y.C x):pX).on e=_ \/(x=c/\e=d/\((if x=c then(y.C c).put d _ else y.C x):pX).on e=_);by_cases ex:x=c
   ·rw[ag ex];subst ex;unfold pX.put;split
    ·show jI (y.C x).on d _ e=_ \/(x=x/\e=d/\jI (y.C x).on d _ e=_);by_cases ed:e=d
     ·subst ed;rw[iP];exact .inr ⟨rfl,rfl,rfl⟩
     ·rw[iL _ _ ed];exact .inl rfl
    ·exact .inl rfl
   ·rw[ae ex];exact .inl rfl
  obtain⟨h1,h2⟩:=h.q x e Af Ep;rcases AR with e1|⟨_,_,e1⟩
  ·rw[e1];exact⟨h1,h2⟩
  ·obtain⟨ps,ahn,adj⟩:=h.o ((y.C c).e d).1 ((y.C c).e d).2;rw[e1,qu,h1,ahn,r6 ps adj];refine⟨rfl,λp hp=> ?_⟩;rcases aD.1 hp with e2|e2
   ·exact h2 p e2
   ·exact adj p e2
 ·rw[CO];split
  ·exact⟨[],Frames.nil⟩
  ·exact h.o i p
theorem j1.kr {y:jc} (h:j1 y):∀k,k<=y.nc->j1 (y.kr k)
 |0,_=>h
 |k+1,hk=>by
  have h1:=j1.kr h k eE;have e1:(y.kr k).nc=y.nc:=(ka y k).2.1;exact(h1.lA k 0 (by rw[e1];omega)).lA k 1 (by show k<(y.kr k).nc;rw[e1];omega)
theorem j1.gather {y:jc} (h:j1 y):j1 y.gather:=by
 unfold jc.gather;have h1:=h.kr y.nc (Nat.le_refl _);obtain⟨e1,e2,e3,e4⟩:=oo (y.kr y.nc) y.n;have hP:∀i,(((y.kr y.nc).mX y.n).R i).P=((y.kr y.nc).R i).P:=λi=>by
  rw[(xw (y.kr y.nc) i y.n).1];split<;>rfl
 refine⟨λc d hc hd=> ?_,λi p=>by rw[hP];exact h1.o i p⟩;have hf:kQ ((y.kr y.nc).mX y.n) c d=kQ (y.kr y.nc) c d:=by
  unfold kQ;rw[e4,hP]
 rw[hf,e4];exact h1.q c d (by rw[e2]at hc;exact hc) hd
theorem j1.jQ {y:jc} (h:j1 y)(i:Nat) {r:iY} (hr:mH (y.R i) r):j1 (y.jQ i r):=by
 refine⟨λc d hc hd=> ?_,λj p=> ?_⟩
 ·have hf:kQ (y.jQ i r) c d=kQ y c d:=by
   show((jI y.R i r ((y.C c).e (1-d)).1).P ((y.C c).e (1-d)).2).rd=((y.R ((y.C c).e (1-d)).1).P ((y.C c).e (1-d)).2).rd;by_cases e:((y.C c).e (1-d)).1=i
   ·rw[e,iP];exact hr.rd _
   ·rw[iL _ _ e]
  rw[hf];exact h.q c d hc hd
 ·show∃ps,Frames ((jI y.R i r j).P p).out ps;by_cases e:j=i
  ·subst e;rw[iP];obtain⟨ps,tJ⟩:=h.o j p;obtain⟨qs,hq⟩:=hr.out p ps tJ;exact⟨_,hq⟩
  ·rw[iL _ _ e];exact h.o j p
theorem j1.j0 {y:jc} (h:j1 y)(hE:Ends y)(c d k:Nat)(hc:c<y.nc)(hd:d<2):j1 (y.j0 c d k):=by
 obtain⟨i,hi⟩:=gH (((y.C c).e (1-d)).1);obtain⟨p,hp⟩:=gH (((y.C c).e (1-d)).2);obtain⟨r1,r2,r3⟩:=Pp (y.R i) p (((y.C c).on d).take k);have heC:∀x,((y.j0 c d k).C x).e=(y.C x).e:=λx=>((vp y c d k).2.2.2 x).1;have hR:∀j,(y.j0 c d k).R j=jI y.R i ((y.R i).recv p (((y.C c).on d).take k)) j:=λj=>by
  unfold jc.j0;rw[hi,hp];rfl
 have AR:∀x e,((y.j0 c d k).C x).on e=if x=c/\e=d then((y.C c).on d).drop k else(y.C x).on e:=λx e=>by
  show((if x=c then {y.C c with on:=jI (y.C c).on d (((y.C c).on d).drop k)}else y.C x):pX).on e=_;by_cases ex:x=c
  ·rw[ag ex];show jI (y.C c).on d _ e=_;by_cases ed:e=d
   ·rw[ed,iP,ag ⟨ex,rfl⟩]
   ·rw[iL _ _ ed,ae (λh=>ed h.2),ex]
  ·rw[ae ex,ae (λh=>ex h.1)]
 refine⟨λx e hx he=> ?_,λj s=> ?_⟩
 ·have Af:x<y.nc:=hx;rw[AR];by_cases hxe:x=c/\e=d
  ·obtain⟨rfl,rfl⟩:=hxe;rw[ag ⟨rfl,rfl⟩];have hf:kQ (y.j0 x e k) x e=(kx (kQ y x e) (((y.C x).on e).take k)).2.2:=by
    unfold kQ;rw[heC,hR,hi,hp,iP];exact r1
   obtain⟨h1,h2⟩:=h.q x e hc hd;have J7:=qu (kQ y x e) (((y.C x).on e).take k) (((y.C x).on e).drop k);rw[bX]at J7;rw[J7]at h1 h2;rw[hf];refine⟨?_,λq hq=>h2 q (aD.2 (.inr hq))⟩;have ha:=congrArg iE h1;have hb:=congrArg iF h1;simp only at ha hb;exact bu (by show _=0;omega) hb
  ·rw[ae hxe];have jV:(y.C x).e (1-e)≠(i,p):=λe2=>hxe (by
    have:=hE.ds x (1-e) c (1-d) Af eE hc eE (by rw[e2,<-hi,<-hp]);exact⟨this.1,eE⟩)
   have hf:kQ (y.j0 c d k) x e=kQ y x e:=by
    unfold kQ;rw[heC,hR];by_cases e3:((y.C x).e (1-e)).1=i
    ·rw[e3,iP];exact r2 _ (λe4=>jV (by rw[cL];exact⟨e3,e4⟩))
    ·rw[iL _ _ e3]
   rw[hf];exact h.q x e Af he
 ·rw[hR];by_cases e:j=i
  ·subst e;rw[iP];obtain⟨ps,tJ⟩:=h.o j s;obtain⟨qs,hq⟩:=r3 s ps tJ;exact⟨_,hq⟩
  ·rw[iL _ _ e];exact h.o j s
theorem j1.j5 {y:jc} (h:j1 y)(hG:GN y)(hE:Ends y)(c:Nat)(up:Bool)(hc:c<y.nc)(hu:(y.C c).jG= !up):j1 (y.j5 c up):=by
 obtain⟨e0,Td⟩:=gH ((y.C c).e 0);obtain⟨e1,xI⟩:=gH ((y.C c).e 1);have jV:e0≠e1:=λe=>by
  have:=(hE.ds c 0 c 1 hc eE hc eE (by rw[Td,xI,e])).2;omega
 have h0:=hG.ends c 0 hc eE;have h1:=hG.ends c 1 hc eE;rw[Td,hu]at h0;rw[xI,hu]at h1;obtain⟨cb,wj⟩:∃cb:pX,cb={y.C c with jG:=up,on:=λ_=>[] }:=⟨_,rfl⟩
 have ZR:cb.e=(y.C c).e:=by rw[wj]
 have cbo:∀d,cb.on d=[] :=λd=>by rw[wj]
 have hf:∀(z:jc) (d:Nat) (e:Nat×Nat),(z.C c).e d=e->z.mL c d up=z.jQ e.1 ((z.R e.1).iW e.2 up).1:=by
  intro z d e he;unfold jc.mL;rw[he]
 have hCc:(y.ll c cb).C c=cb:=iP _ _ _;have hp:y.j5 c up=((y.ll c cb).jQ e0.1 ((y.R e0.1).iW e0.2 up).1).jQ e1.1 ((jI y.R e0.1 ((y.R e0.1).iW e0.2 up).1 e1.1).iW e1.2 up).1:=by
  unfold jc.j5;rw[<-wj,hf (y.ll c cb) 0 e0 (by rw[hCc,ZR,Td]),hf _ 1 e1 (by show((y.ll c cb).C c).e 1=e1;rw[hCc,ZR,xI])];rfl
 clear wj;obtain⟨r1,kU⟩:=gH (jI y.R e0.1 ((y.R e0.1).iW e0.2 up).1 e1.1);obtain⟨a1,a2,a3⟩:=E5 e0.2 h0;obtain⟨_,_,b0⟩:=vS e0.2 h0;have ZT:oK (!up) (r1.P e1.2):=by
  rw[<-kU];by_cases e:e1.1=e0.1
  ·rw[e,iP];have Xf:e1.2≠e0.2:=λe2=>jV (by rw[cL];exact⟨e.symm,e2.symm⟩);rw[e]at h1;exact h1.congr (b0 _ Xf).1 (b0 _ Xf).2
  ·rw[iL _ _ e];exact h1
 obtain⟨c1,c2,c3⟩:=E5 e1.2 ZT;rw[hp,kU];obtain⟨R2,Hs⟩:=gH (jI (jI y.R e0.1 ((y.R e0.1).iW e0.2 up).1) e1.1 (r1.iW e1.2 up).1);have XA:∀i p,((R2 i).P p).rd=if(i,p)=e0 \/(i,p)=e1 then lS else((y.R i).P p).rd:=λi p=>by
  rw[<-Hs];by_cases x1:i=e1.1
  ·rw[x1,iP];by_cases y1:p=e1.2
   ·rw[y1,ag (.inr rfl)];exact c1
   ·rw[c2 p y1,<-kU];by_cases x0:e1.1=e0.1
    ·rw[x0,iP];by_cases y0:p=e0.2
     ·rw[y0,ag (.inl rfl)];exact a1
     ·rw[a2 p y0,ae];rintro(e|e)
      ·exact y0 (congrArg iF e)
      ·exact y1 (congrArg iF e)
    ·rw[iL _ _ x0,ae];rintro(e|e)
     ·exact x0 (by have h9:=congrArg iE e;exact h9)
     ·exact y1 (congrArg iF e)
  ·rw[iL _ _ x1];by_cases x0:i=e0.1
   ·rw[x0,iP];by_cases y0:p=e0.2
    ·rw[y0,ag (.inl rfl)];exact a1
    ·rw[a2 p y0,ae];rintro(e|e)
     ·exact y0 (congrArg iF e)
     ·exact x1 (x0.trans (by have h9:=congrArg iE e;exact h9))
   ·rw[iL _ _ x0,ae];rintro(e|e)
    ·exact x0 (by have h9:=congrArg iE e;exact h9)
    ·exact x1 (by have h9:=congrArg iE e;exact h9)
 have KU:∀i p,∃ps,Frames ((R2 i).P p).out ps:=λi p=>by
  rw[<-Hs];have hA:∀j s,∃ps,Frames ((jI y.R e0.1 ((y.R e0.1).iW e0.2 up).1 j).P s).out ps:=λj s=>by
   by_cases x0:j=e0.1
   ·rw[x0,iP];obtain⟨ps,tJ⟩:=h.o e0.1 s;obtain⟨qs,hq⟩:=a3 s ps tJ;exact⟨_,hq⟩
   ·rw[iL _ _ x0];exact h.o j s
  by_cases x1:i=e1.1
  ·rw[x1,iP];obtain⟨ps,tJ⟩:=hA e1.1 p;rw[kU]at tJ;obtain⟨qs,hq⟩:=c3 p ps tJ;exact⟨_,hq⟩
  ·rw[iL _ _ x1];exact hA i p
 refine⟨λx d hx hd=> ?_,λi p=> ?_⟩
 ·have Af:x<y.nc:=hx;show(kx (((jI (jI y.R e0.1 ((y.R e0.1).iW e0.2 up).1) e1.1 (r1.iW e1.2 up).1 ((((if x=c then cb else y.C x):pX).e (1-d)).1)).P (((if x=c then cb else y.C x):pX).e (1-d)).2).rd) (((if x=c then cb else y.C x):pX).on d)).2=(0,lS)/\∀p∈(kx (((jI (jI y.R e0.1 ((y.R e0.1).iW e0.2 up).1) e1.1 (r1.iW e1.2 up).1 ((((if x=c then cb else y.C x):pX).e (1-d)).1)).P (((if x=c then cb else y.C x):pX).e (1-d)).2).rd) (((if x=c then cb else y.C x):pX).on d)).1,E4 p;rw[Hs,XA];by_cases e:x=c
  ·rw[ag e,ZR,cbo];have sW:(((y.C c).e (1-d)).1,((y.C c).e (1-d)).2)=e0 \/(((y.C c).e (1-d)).1,((y.C c).e (1-d)).2)=e1:=by
    have:d=0 \/d=1:=eE;rcases this with rfl|rfl
    ·exact .inr xI
    ·exact .inl Td
   rw[ag sW];exact⟨rfl,λp hp=>by simp[kx]at hp⟩
  ·rw[ae e];have n0:¬((((y.C x).e (1-d)).1,((y.C x).e (1-d)).2)=e0 \/(((y.C x).e (1-d)).1,((y.C x).e (1-d)).2)=e1):=by
    rintro(e2|e2)
    ·exact e (hE.ds x (1-d) c 0 Af eE hc eE (by rw[Td];exact e2)).1
    ·exact e (hE.ds x (1-d) c 1 Af eE hc eE (by rw[xI];exact e2)).1
   rw[ae n0];exact h.q x d Af hd
 ·show∃ps,Frames ((jI (jI y.R e0.1 ((y.R e0.1).iW e0.2 up).1) e1.1 (r1.iW e1.2 up).1 i).P p).out ps;rw[Hs];exact KU i p
theorem j1.jS(up:Bool):∀(l:List Nat) {y:jc},j1 y->GN y->Ends y->l.Nodup->(∀c∈l,c<y.nc/\(y.C c).jG= !up)->j1 (y.jS up l)
 |[],_,h,_,_,_,_=>h
 |c::l,y,h,hG,hE,C4,hl=>by
  obtain⟨g1,g2,g3,g4,g5⟩:=oO y c up;have hc:=hl c iC;have Te:=bR.1 C4;exact j1.jS up l (h.j5 hG hE c up hc.1 hc.2) (hG.j5 hE c up hc.1 hc.2) (hE.j5 c up) Te.2 (λx hx=>by
   have jV:x≠c:=λe=>Te.1 (e▸hx);rw[g2,(g5 x).2,ae jV];exact hl x (by simp[hx]))
theorem j1.anew(h:j1 y)(hG:GN y)(i:Nat)(id:Int)(m:Nat->Int)(hf:∀c d,c<y.nc->d<2->((y.C c).e d).1=i->(y.C c).jG=false):j1 (y.jQ i (jX id 3 m)):=by
 refine⟨λc d hc hd=> ?_,λj p=> ?_⟩
 ·have kS:c<y.nc:=hc;show(kx (((jI y.R i (jX id 3 m) ((y.C c).e (1-d)).1).P ((y.C c).e (1-d)).2).rd) ((y.C c).on d)).2=(0,lS)/\∀p∈(kx (((jI y.R i (jX id 3 m) ((y.C c).e (1-d)).1).P ((y.C c).e (1-d)).2).rd) ((y.C c).on d)).1,E4 p;by_cases e:((y.C c).e (1-d)).1=i
  ·rw[e,iP,hG.off c d kS hd (hf c (1-d) kS eE e)];exact⟨rfl,λp hp=>by simp[kx]at hp⟩
  ·rw[iL _ _ e];exact h.q c d kS hd
 ·show∃ps,Frames ((jI y.R i (jX id 3 m) j).P p).out ps;by_cases e:j=i
  ·rw[e,iP];exact⟨[],Frames.nil⟩
  ·rw[iL _ _ e];exact h.o j p
theorem j1.restart {y:jc} {D:Nat} (h:j1 y)(hG:GN y)(jb:j6 y D 0)(i:Int):j1 (y.restart i).1:=by
 unfold jc.restart;split
 ·exact h
 ·rename_i hi
  obtain⟨k,hk⟩:=gH ((i-1).toNat);rw[hk];obtain⟨l,hl⟩:=gH (y.kT k);rw[hl];have sW:∀c,c∈l↔c<y.nc/\(y.C c).jG=true/\(((y.C c).e 0).1=k \/((y.C c).e 1).1=k):=λc=>by
   rw[<-hl];unfold jc.kT;simp[List.mem_filter]
  have C4:l.Nodup:=by
   rw[<-hl];unfold jc.kT;exact dD dt bS
  have wy:∀c∈l,c<y.nc/\(y.C c).jG= !false:=λc hc=>⟨((sW c).1 hc).1,((sW c).1 hc).2.1⟩
  obtain⟨a,b,d⟩:=GN.jS false l hG jb.oQ C4 wy;have f1:=j1.jS false l h hG jb.oQ C4 wy;obtain⟨s1,s2,s3,s4,s5⟩:=mV false l y;obtain⟨y1,yc⟩:=gH (y.jS false l);rw[yc]at a b d s1 s2 s3 s4 s5 f1⊢;have Ly:∀c e,c<y1.nc->e<2->((y1.C c).e e).1=k->(y1.C c).jG=false:=λc e hc he heq=>by
   have kS:c<y.nc:=by rw[s2]at hc;exact hc
   rw[d c];by_cases hm:c∈l
   ·rw[ag hm]
   ·rw[ae hm];by_cases pw:(y.C c).jG=true
    ·exfalso;rw[s5 c]at heq;refine hm ((sW c).2 ⟨kS,pw,?_⟩);have:e=0 \/e=1:=eE;rcases this with rfl|rfl
     ·exact .inl heq
     ·exact .inr heq
    ·simpa using pw
  have f2:=f1.anew a k i (y.ms k) Ly;have a2:GN (y1.jQ k (jX i 3 (y.ms k))):=by
   refine a.jQ k _ (λc e hc he heq _=> ?_);rw[Ly c e hc he heq];have hI:=pY i (y.ms k) ((y1.C c).e e).2;exact⟨by simpa using hI.st,λe=>absurd (by rw[hI.pe];rfl) e⟩
  have b2:Ends (y1.jQ k (jX i 3 (y.ms k))):=⟨b.ds,b.p3,λj=>by
   show(jI y1.R k _ j).n=3 \/y1.n<=j;by_cases e:j=k
   ·rw[e,iP];exact .inl rfl
   ·rw[iL _ _ e];exact b.rn j,b.en⟩
  exact(j1.jS true l f2 a2 b2 C4 (λc hc=>⟨by show c<y1.nc;rw[s2];exact((sW c).1 hc).1,by show(y1.C c).jG=_;rw[d c,ag hc];rfl⟩)).gather
theorem j1.iW {y:jc} {D:Nat} (h:j1 y)(hG:GN y)(jb:j6 y D 0)(i:Int)(up:Bool):j1 (y.iW i up).1:=by
 unfold jc.iW;split
 ·exact h
 ·split
  ·exact h
  ·rename_i pw
   exact(h.j5 hG jb.oQ i.toNat up eE (by cases hv:(y.C i.toNat).jG<;>cases up<;>simp_all)).gather
theorem j1.tick {y:jc} (h:j1 y)(i:Int):j1 (y.tick i).1:=by
 unfold jc.tick;split
 ·exact h
 ·exact(h.jQ _ (mH.jB _ _)).gather
theorem j1.deliver {y:jc} {D:Nat} (h:j1 y)(jb:j6 y D 0)(i d m:Int):j1 (y.deliver i d m).1:=by
 unfold jc.deliver;split
 ·exact h
 ·exact(h.j0 jb.oQ _ _ _ eE eE).gather
theorem j1.send {y:jc} (h:j1 y)(f t:Int)(tx:List UInt8):j1 (y.send f t tx).1:=by
 unfold jc.send;split
 ·exact h
 ·split
  ·exact h
  ·exact(h.jQ _ (mH.kg _ _ _)).gather
theorem j1.jB {y:jc} (h:j1 y):∀q,j1 (y.jB q)
 |0=>h
 |q+1=>(j1.jB h q).tick _
theorem j1.kF {y:jc} {D:Nat} (h:j1 y)(jb:j6 y D 0)(hD:D<=890000000):∀q,q<=9->j1 (y.kF q)
 |0,_=>h
 |q+1,hq=>by
  have h1:=jb.kF hD q eE;exact((j1.kF h jb hD q eE).deliver h1 (q:Int) 0 2000).deliver (h1.deliver eE (q:Int) 0 2000) (q:Int) 1 2000
theorem j1.turns {y:jc} {D:Nat} (h:j1 y)(jb:j6 y D 0)(hD:D<=810000000):∀t,t<=12->j1 (y.turns t)
 |0,_=>h
 |t+1,ht=>(j1.turns h jb hD t eE).kF (jb.turns hD t eE) eE y.nc jb.c9
theorem j1.round {y:jc} {D:Nat} (h:j1 y)(jb:j6 y D 0)(hD:D<=800000000):j1 y.round:=
 (h.jB y.n).turns (jb.jB hD y.n jb.n6) (by have:=jb.n6;omega) 12 (Nat.le_refl _)
theorem j1.act {D:Nat} (h:j1 y)(hG:GN y)(jb:j6 y D 0)(hD:D<=800000000)(v:AV):j1 (rF y v):=by
 unfold rF;split
 ·exact h.iW hG jb _ _
 ·split
  ·exact h.tick _
  ·split
   ·exact h.deliver jb _ _ _
   ·split
    ·exact h.restart hG jb _
    ·split
     ·exact h.send _ _ _
     ·split
      ·exact h.round jb hD
      ·exact h
theorem Lz(many:Nat)(L:List oI):j1 (jE many L):=⟨λ_ _ _ _=>⟨rfl,λp hp=>by simp[kx,jE,rY]at hp⟩,λ_ _=>⟨[],Frames.nil⟩⟩
def jF.pt(p:jF)(rd:ku)(o:List UInt8):jF:={p with rd:=rd,out:=o++p.out}
def iY.pat(s:iY)(rd:Nat->ku)(os:Nat->List UInt8)(ib:List tV):iY:={s with P:=λp=>(s.P p).pt (rd p) (os p),jA:=ib++s.jA}
def iY.core(r:iY):iY:={r with P:=λp=>{r.P p with rd:=lS,out:=[] },jA:=[] }
theorem Jo(s:iY)(rd:Nat->ku)(os:Nat->List UInt8)(ib:List tV):(s.pat rd os ib).core=s.core:=rfl
theorem vy(r:iY):r.core.pat (λp=>(r.P p).rd) (λp=>(r.P p).out) r.jA=r:=by
 unfold iY.pat iY.core jF.pt;simp only[List.append_nil]
theorem C8(p:jF)(rd:ku)(o:List UInt8)(c:UInt8)(s:List UInt8):(p.pt rd o).put c s=(p.put c s).pt rd o:=by
 unfold jF.put;have e:(p.pt rd o).L=p.L:=rfl;rw[e];split
 ·rfl
 ·split
  ·simp[jF.pt]
  ·rfl
theorem Gr(rd:ku)(o:List UInt8):∀(l:List kZ) (p:jF),(p.pt rd o).say l=(p.say l).pt rd o
 |[],_=>rfl
 |q::r,p=>by
  show((if jW q.1 q.2.1 q.2.2=0 then(p.pt rd o).put 76 (lQ q.1 q.2.1 q.2.2)else p.pt rd o)).say r=((if jW q.1 q.2.1 q.2.2=0 then p.put 76 (lQ q.1 q.2.1 q.2.2)else p).say r).pt rd o;split
  ·rw[C8,Gr rd o r]
  ·exact Gr rd o r p
theorem M6(rd:ku)(o:List UInt8)(L:LS)(l:List kZ)(p:jF):({p.pt rd o with L:=L}:jF).say l=(({p with L:=L}:jF).say l).pt rd o:=Gr rd o l {p with L:=L}
theorem E6(rd:ku)(o:List UInt8):∀(l:List (Int×PS)) (p:jF),(p.pt rd o).kA l=(p.kA l).pt rd o
 |[],_=>rfl
 |q::r,p=>by
  show((p.pt rd o).put 83 _).kA r=_;rw[C8,E6 rd o r];rfl
theorem V7(rd:ku)(o:List UInt8)(p:jF):(p.pt rd o).tick=p.tick.pt rd o:=M6 rd o _ _ p
theorem Pq(rd:ku)(o:List UInt8)(p:jF)(s:List UInt8):(p.pt rd o).packet s=(p.packet s).pt rd o:=by
 unfold jF.packet;simp only;split
 ·exact M6 rd o _ _ p
 ·rfl
section
variable (rd:Nat->ku) (os:Nat->List UInt8) (ib:List tV)
theorem tj(s:iY)(i:Nat)(q:jF):(s.pat rd os ib).jd i (q.pt (rd i) (os i))=(s.jd i q).pat rd os ib:=by
 unfold iY.jd iY.pat;congr 1
 funext p
 show k8 _ i _ p=(k8 s.P i q p).pt (rd p) (os p);by_cases e:p=i
 ·subst e;rw[jz,jz]
 ·rw[ju _ _ e,ju _ _ e]
theorem zv(s:iY)(n:Int):∀k,kd (s.pat rd os ib).P n k=kd s.P n k
 |0=>rfl
 |k+1=>by
  have ih:=zv s n k;unfold kd;rw[ih];rfl
theorem C9(s:iY):jZ (s.pat rd os ib)=jZ s:=by
 unfold jZ;congr 1
 funext j
 rw[zv];rfl
theorem Da(s:iY)(q:Int):(s.pat rd os ib).behind q=(s.behind q).pat rd os ib:=by
 unfold iY.behind;rw[C9];split<;>rfl
theorem LA(s:iY):(s.pat rd os ib).change=s.change.pat rd os ib:=by
 unfold iY.change;rw[C9,Da];show(if Cm s.K s.id=jZ s then s.pat rd os ib else(s.behind (zd s.K s.id)).pat rd os ib)=_;split<;>rfl
theorem vz(s:iY)(i:Nat)(q:ln):(s.pat rd os ib).meet i q=(s.meet i q).pat rd os ib:=by
 have e1:(s.pat rd os ib).jd i {(s.pat rd os ib).P i with pe:=q}=(s.jd i {s.P i with pe:=q}).pat rd os ib:=tj rd os ib s i {s.P i with pe:=q};unfold iY.meet;simp only;rw[e1];have e2:=LA rd os ib ({s.jd i {s.P i with pe:=q}with O:=λx=>if x=i then λ_=>ν else s.O x}:iY);show(if q.who=(s.P i).pe.who/\q.both=(s.P i).pe.both then _ else _)=_;split
 ·rfl
 ·show(if q.both=true then _ else _)=_;have e3:({(s.jd i {s.P i with pe:=q}).pat rd os ib with O:=λx=>if x=i then λ_=>ν else((s.jd i {s.P i with pe:=q}).pat rd os ib).O x}:iY).change=(({s.jd i {s.P i with pe:=q}with O:=λx=>if x=i then λ_=>ν else s.O x}:iY).change).pat rd os ib:=e2;rw[e3];split<;>rfl
theorem Jp(s:iY)(t:tV):(s.pat rd os ib).send t=(s.send t).pat rd os ib:=by
 unfold iY.send;have e1:(λh:HP=>kd (s.pat rd os ib).P h.uf (s.pat rd os ib).n)=λh:HP=>kd s.P h.uf s.n:=by
  funext h;exact zv rd os ib s h.uf s.n
 rw[e1];show(if t.1=s.id then _ else match (if 1<=t.2.1 then(yR (oX s) t.1).bind λh=>kd s.P h.uf s.n else none)with|none=>_|some i=>_)=_;split
 ·simp[iY.pat]
 ·cases (if 1<=t.2.1 then(yR (oX s) t.1).bind λh=>kd s.P h.uf s.n else ν)with
  |none=>rfl
  |some i=>
   show(s.pat rd os ib).jd i (((s.P i).pt (rd i) (os i)).put 77 _)=_;rw[C8];exact tj rd os ib s i _
theorem Pr(s:iY)(i:Nat)(l:List UInt8):jK (s.pat rd os ib) i l=(jK s i l).pat rd os ib:=by
 unfold jK;simp only;show(if(St.iT l).2.2.2≠0 \/(s.P i).pe.both=false then _ else if(St.iT l).1=s.id/\0<newF s.K (St.iT l).1 (St.iT l).2.1 (St.iT l).2.2.1 then _ else if 0<=newF s.K (St.iT l).1 (St.iT l).2.1 (St.iT l).2.2.1 then _ else _)=_;split
 ·rfl
 ·split
  ·exact Da rd os ib s _
  ·split
   ·obtain⟨x,hx⟩:∃x:iY,({s with K:=lR s.K (St.iT l).1 (St.iT l).2.1 (St.iT l).2.2.1,O:=oW s.K s.O i (St.iT l).1 (St.iT l).2.1 (St.iT l).2.2.1}:iY)=x:=⟨_,rfl⟩
    have h1:(x.pat rd os ib).jd i (((x.P i).pt (rd i) (os i)).put 65 (sj (St.iT l).1 (St.iT l).2.1 (St.iT l).2.2.1))=(x.jd i ((x.P i).put 65 (sj (St.iT l).1 (St.iT l).2.1 (St.iT l).2.2.1))).pat rd os ib:=by
     rw[C8];exact tj rd os ib x i _
    rw[<-hx]at h1;exact h1
   ·rfl
theorem Tf(s:iY)(i:Nat)(c:UInt8)(l:List UInt8):(s.pat rd os ib).take i c l=(s.take i c l).pat rd os ib:=by
 rw[lF,lF];have e1:jY (s.pat rd os ib) i c l=(jY s i c l).pat rd os ib:=by
  unfold jY;split
  ·show(s.pat rd os ib).jd i (((s.P i).pt (rd i) (os i)).packet l)=_;rw[Pq];exact tj rd os ib s i _
  ·rfl
 rw[e1];show(if((jY s i c l).P i).L.st≠9 then _ else _)=_;split
 ·exact vz rd os ib _ i _
 ·unfold mJ;split
  ·split
   ·exact vz rd os ib _ i _
   ·rfl
  ·split
   ·exact Pr rd os ib _ i l
   ·split
    ·unfold kO;simp only;split<;>rfl
    ·split
     ·unfold qw;split
      ·exact Jp rd os ib _ _
      ·rfl
     ·rfl
theorem Ps(s:iY)(i:Nat)(x:List UInt8):j7 (s.pat rd os ib) i x=(j7 s i x).pat rd os ib:=by
 cases x with
 |nil=>rfl
 |cons c l=>exact Tf rd os ib s i c l
theorem zw:∀(l:List (List UInt8)) (s:iY) (i:Nat),(s.pat rd os ib).takes i l=(s.takes i l).pat rd os ib
 |[],_,_=>rfl
 |x::l,s,i=>by
  show(j7 (s.pat rd os ib) i x).takes i l=((j7 s i x).takes i l).pat rd os ib;rw[Ps,zw l]
theorem Pt(s:iY)(i:Nat):(s.pat rd os ib).jx i=(s.jx i).pat rd os ib:=by
 rw[k9,k9];have e1:jn (s.pat rd os ib) i=(jn s i).pat rd os ib:=by
  show(s.pat rd os ib).jd i (((s.P i).pt (rd i) (os i)).tick)=_;rw[V7];exact tj rd os ib s i _
 rw[e1];show(if((jn s i).P i).L.st≠9 then _ else _)=_;split
 ·exact vz rd os ib _ i _
 ·show lE (((jn s i).pat rd os ib).meet i (jg ((jn s i).P i).pe)) i=_;rw[vz];obtain⟨x,hx⟩:=gH ((jn s i).meet i (jg ((jn s i).P i).pe));rw[hx];have e2:∀p q:jF,(if(x.P i).pe.both=true then p.pt (rd i) (os i)else q.pt (rd i) (os i))=(if(x.P i).pe.both=true then p else q).pt (rd i) (os i):=λp q=>by split<;>rfl
  show(x.pat rd os ib).jd i (if(x.P i).pe.both=true then(((x.P i).pt (rd i) (os i)).put 72 _).kA (mN (x.O i))else((x.P i).pt (rd i) (os i)).put 72 _)=_;rw[C8,E6,e2];exact tj rd os ib x i _
theorem Jq(s:iY)(i:Nat)(up:Bool)(h1:(k7 (s.P i).L (if up=true then 0 else 1)).2.2=0):((s.pat rd os ib).iW i up).1=((s.iW i up).1).pat (jI rd i lS) os ib:=by
 obtain⟨E,hE⟩:=gH (k7 (s.P i).L (if up=true then 0 else 1));rw[hE]at h1;have e:∀p:jF,p.L=(s.P i).L->p.iW up=(({p with L:=E.1,rd:=lS}:jF).say E.2.1,0):=λp hp=>by
  unfold jF.iW;rw[hp,hE];simp only;rw[ae (by simp[h1])];rfl
 unfold iY.iW;rw[e _ rfl,e ((s.pat rd os ib).P i) rfl];simp only;rw[ae iC,ae iC];have e2:(({(s.pat rd os ib).P i with L:=E.1,rd:=lS}:jF).say E.2.1)=((({s.P i with L:=E.1,rd:=lS}:jF)).say E.2.1).pt lS (os i):=
  Gr lS (os i) _ ({s.P i with L:=E.1,rd:=lS}:jF)
 rw[e2];obtain⟨q,hq⟩:=gH ((({s.P i with L:=E.1,rd:=lS}:jF)).say E.2.1);rw[hq];have e3:(s.pat rd os ib).jd i (q.pt lS (os i))=(s.jd i q).pat (jI rd i lS) os ib:=by
  unfold iY.jd iY.pat;congr 1
  funext p
  show k8 _ i _ p=(k8 s.P i q p).pt (jI rd i lS p) (os p);by_cases e:p=i
  ·subst e;rw[jz,jz,iP]
  ·rw[ju _ _ e,ju _ _ e,iL _ _ e]
 rw[e3,vz]
end
def Tg(k:Nat)(tx:List UInt8):List UInt8->Bool
 |77::a::_::s=>a.toNat==k&&s==tx
 |_=>false
def cP(k:Nat)(tx:List UInt8)(ps:List (List UInt8)):Nat:=ps.countP (Tg k tx)
def Ut(k:Nat)(tx:List UInt8)(m:tV):Bool:=m.1==(k:Int)&&m.2.2==tx
def cI(k:Nat)(tx:List UInt8)(l:List tV):Nat:=l.countP (Ut k tx)
def jH(p:jF):List (List UInt8):=(kx lS p.out).1
theorem Pu(s:List UInt8)(h:c≠77):Tg k tx (c::s)=false:=by
 unfold Tg;split
 ·rename_i e
  exact absurd (aP e).1 h
 ·rfl
theorem lZ {p:jF} (h:Frames p.out ps):jH p=ps:=by
 unfold jH;rw[h.1,r6 ps h.2]
def pc(k:Nat)(tx:List UInt8)(p:jF):Nat:=cP k tx (jH p)
theorem Ti {p:jF} (h:∃ps,Frames p.out ps)(c:UInt8)(s:List UInt8):pc k tx (p.put c s)<=pc k tx p+(if Tg k tx (c::s)=true then 1 else 0):=by
 obtain⟨ps,tJ⟩:=h;unfold jF.put;split
 ·exact Nat.le_add_right _ _
 ·split
  ·rename_i hl
   have h2:Frames ({p with out:=p.out++Plain.mT (c::s)}:jF).out (ps++ [c::s]):=tJ.snoc ⟨iC,by simpa using hl⟩;unfold pc;rw[lZ h2,lZ tJ];unfold cP;rw[cT,bY];exact Nat.le_refl _
  ·exact Nat.le_add_right _ _
theorem zx {p q:jF} (h:q.out=p.out):pc k tx q=pc k tx p:=by
 unfold pc jH;rw[h]
theorem qf.fr {p q:jF} (h:qf p q)(hp:∃ps,Frames p.out ps):∃ps,Frames q.out ps:=by
 obtain⟨ps,tJ⟩:=hp;obtain⟨qs,hq⟩:=h.out ps tJ;exact⟨_,hq⟩
theorem vT {p:jF} (h:∃ps,Frames p.out ps)(hc:c≠77)(s:List UInt8):pc k tx (p.put c s)<=pc k tx p:=by
 have:=Ti (k:=k) (tx:=tx) h c s;rw[Pu s hc]at this;simpa using this
theorem Db {k:Nat} {tx:List UInt8}:∀(l:List kZ) {p:jF},(∃ps,Frames p.out ps)->pc k tx (p.say l)<=pc k tx p
 |[],_,_=>Nat.le_refl _
 |q::r,p,h=>by
  show pc k tx ((if jW q.1 q.2.1 q.2.2=0 then p.put 76 (lQ q.1 q.2.1 q.2.2)else p).say r)<=_;split
  ·exact Nat.le_trans (Db r ((qf.put p 76 _).fr h)) (vT h eH _)
  ·exact Db r h
theorem E7 {k:Nat} {tx:List UInt8}:∀(l:List (Int×PS)) {p:jF},(∃ps,Frames p.out ps)->pc k tx (p.kA l)<=pc k tx p
 |[],_,_=>Nat.le_refl _
 |q::r,p,h=>Nat.le_trans (E7 r ((qf.put p 83 (sj q.1 q.2.1 q.2.2)).fr h)) (vT h eH _)
theorem V8 {p:jF} (h:∃ps,Frames p.out ps):pc k tx p.tick<=pc k tx p:=
 Nat.le_trans (Db (j3 p.L).2 (p:={p with L:=(j3 p.L).1}) h) (Nat.le_of_eq (zx rfl))
theorem Pv {p:jF} (h:∃ps,Frames p.out ps)(s:List UInt8):pc k tx (p.packet s)<=pc k tx p:=by
 unfold jF.packet;simp only;split
 ·exact Nat.le_trans (Db _ (p:={p with L:=(j4 p.L ((jf s).1,(jf s).2.1,(jf s).2.2.1)).1}) h) (Nat.le_of_eq (zx rfl))
 ·exact Nat.le_refl _
def vU(k:Nat)(tx:List UInt8)(r:iY):Nat:=pc k tx (r.P 0)+pc k tx (r.P 1)+pc k tx (r.P 2)+cI k tx r.jA
theorem tk(r:iY)(i:Nat) {q:jF} {a:Nat} (h:pc k tx q<=pc k tx (r.P i)+a):vU k tx (r.jd i q)<=vU k tx r+a:=by
 have hP:∀j,pc k tx ((r.jd i q).P j)<=pc k tx (r.P j)+(if j=i then a else 0):=λj=>by
  show pc k tx (k8 r.P i q j)<=_;by_cases e:j=i
  ·subst e;rw[jz,ag rfl];exact h
  ·rw[ju _ _ e,ae e];exact Nat.le_refl _
 have h0:=hP 0;have h1:=hP 1;have h2:=hP 2;have hi:(r.jd i q).jA=r.jA:=rfl;unfold vU;rw[hi];by_cases e0:(0:Nat)=i
 ·subst e0;simp at h0 h1 h2;omega
 ·by_cases e1:(1:Nat)=i
  ·subst e1;simp at h0 h1 h2;omega
  ·by_cases e2:(2:Nat)=i
   ·subst e2;simp at h0 h1 h2;omega
   ·rw[ae e0]at h0;rw[ae e1]at h1;rw[ae e2]at h2;omega
theorem rb {r r':iY} (ho:∀p,(r'.P p).out=(r.P p).out)(hi:r'.jA=r.jA):vU k tx r'=vU k tx r:=by
 unfold vU;rw[zx (ho 0),zx (ho 1),zx (ho 2),hi]
theorem vA(r:iY)(i:Nat)(q:ln):vU k tx (r.meet i q)=vU k tx r:=by
 obtain⟨h1,_,_,h4⟩:=l9 r i q;refine rb (λp=> ?_) h1;rw[h4];by_cases e:p=i
 ·subst e;rw[jz]
 ·rw[ju _ _ e]
end Rt
end Go.Proofs.YtieklnlbljejdaaGreatDoor
