import Derived.Test.YtieklnlbljejdaaGreatDoorT27
open Option renaming none → ν
open Prod renaming fst → gQ, snd → gS
namespace Go.Proofs.YtieklnlbljejdaaGreatDoor
open Go.RowKit St
namespace Rt
variable {ps:List (List UInt8)} {y:iB}
def Ec(p:List UInt8):Prop:=1<=p.length/\p.length<=60
def Frames(l:List UInt8)(ps:List (List UInt8)):Prop:=l=ps.flatMap Plain.mD/\∀p∈ps,Ec p
def lh:jY:=([],false,false)
theorem Frames.nil:Frames [] [] :=⟨rfl,λ_ h=>by simp at h⟩
theorem Frames.snoc {l:List UInt8} (h:Frames l ps) {p:List UInt8} (X:Ec p):Frames (l++Plain.mD p) (ps++ [p]):=by
 obtain⟨Z,Y⟩:=h;refine⟨by rw[Z];simp,λq V=> ?_⟩;rcases aF.1 V with e|e
 ·exact Y q e
 ·rw[ax.1 e];exact X
theorem rz:∀(ps:List (List UInt8)),(∀p∈ps,Ec p)->j2 lh (ps.flatMap Plain.mD)=(ps,0,lh)
 |[],_=>rfl
 |p::ps,h=>by
  have e:(p::ps).flatMap Plain.mD=Plain.mD p++ps.flatMap Plain.mD:=gN;have Z:j2 lh (Plain.mD p)=([p],0,lh):=JQ p (h p gN).2;rw[e,pM,Z];simp only;rw[rz ps (λq Y=>h q (by simp[Y]))];rfl
structure mJ(r r':iy):Prop where
 rd:∀p,(r'.P p).rd=(r.P p).rd
 out:∀p ps,Frames (r.P p).out ps->∃qs,Frames (r'.P p).out (ps++qs)
theorem mJ.refl(r:iy):mJ r r:=⟨λ_=>rfl,λ_ ps h=>⟨[],by simpa using h⟩⟩
theorem mJ.trans {a b c:iy} (h:mJ a b)(g:mJ b c):mJ a c:=by
 refine⟨λp=>(g.rd p).trans (h.rd p),λp ps X=> ?_⟩;obtain⟨q1,Z⟩:=h.out p ps X;obtain⟨q2,Y⟩:=g.out p _ Z;exact⟨q1++q2,by rw[<-az];exact Y⟩
theorem mJ.vt {r r':iy} (h:r'.P=r.P):mJ r r':=⟨λ_=>by rw[h],λ_ ps Z=>⟨[],by rw[h];simpa using Z⟩⟩
structure qq(p q:jb):Prop where
 rd:q.rd=p.rd
 out:∀ps,Frames p.out ps->∃qs,Frames q.out (ps++qs)
theorem qq.refl(p:jb):qq p p:=⟨rfl,λps h=>⟨[],by simpa using h⟩⟩
theorem qq.trans {a b c:jb} (h:qq a b)(g:qq b c):qq a c:=by
 refine⟨g.rd.trans h.rd,λps X=> ?_⟩;obtain⟨q1,Z⟩:=h.out ps X;obtain⟨q2,Y⟩:=g.out _ Z;exact⟨q1++q2,by rw[<-az];exact Y⟩
theorem qq.put(p:jb)(c:UInt8)(s:List UInt8):qq p (p.put c s):=by
 unfold jb.put;split
 ·exact qq.refl p
 ·split
  ·rename_i h
   exact⟨rfl,λps Z=>⟨[c::s],Z.snoc ⟨gN,by simpa using h⟩⟩⟩
  ·exact qq.refl p
theorem qq.say:∀(l:List kr) (p:jb),qq p (p.say l)
 |[],p=>qq.refl p
 |q::r,p=>by
  refine qq.trans ?_ (qq.say r _);split
  ·exact qq.put _ _ _
  ·exact qq.refl p
theorem qq.j3:∀(l:List (Int×PS)) (p:jb),qq p (p.j3 l)
 |[],p=>qq.refl p
 |q::r,p=>(qq.put p 83 (rM q.1 q.2.1 q.2.2)).trans (qq.j3 r _)
theorem qq.acu(p:jb)(L:LS)(l:List kr):qq p (({p with L:=L}:jb).say l):=by
 have h:qq p ({p with L:=L}:jb):=⟨rfl,λps h=>⟨[],by simpa using h⟩⟩
 exact h.trans (qq.say l _)
theorem qq.tick(p:jb):qq p p.tick:=qq.acu p _ _
theorem qq.packet(p:jb)(s:List UInt8):qq p (p.packet s):=by
 unfold jb.packet;simp only;split
 ·exact qq.acu p _ _
 ·exact qq.refl p
theorem mJ.iE(r:iy)(i:Nat) {q:jb} (h:qq (r.P i) q):mJ r (r.iE i q):=by
 refine⟨λp=> ?_,λp ps Z=> ?_⟩
 ·show(kA r.P i q p).rd=_;by_cases e:p=i
  ·subst e;rw[ja];exact h.rd
  ·rw[iU _ _ e]
 ·show∃qs,Frames (kA r.P i q p).out (ps++qs);by_cases e:p=i
  ·subst e;rw[ja];exact h.out ps Z
  ·rw[iU _ _ e];exact⟨[],by simpa using Z⟩
theorem mJ.meet(r:iy)(i:Nat)(q:kL):mJ r (r.meet i q):=by
 refine⟨λp=> ?_,λp ps Z=>⟨[],?_⟩⟩
 ·rw[(lS r i q).2.2.2];by_cases e:p=i
  ·subst e;rw[ja]
  ·rw[iU _ _ e]
 ·rw[(lS r i q).2.2.2];by_cases e:p=i
  ·subst e;rw[ja];simpa using Z
  ·rw[iU _ _ e];simpa using Z
theorem mJ.send(r:iy)(t:wT):mJ r (r.send t):=by
 unfold iy.send;split
 ·exact mJ.vt rfl
 ·split
  ·exact mJ.vt rfl
  ·exact mJ.iE _ _ (qq.put _ _ _)
theorem mJ.state(r:iy)(i:Nat)(l:List UInt8):mJ r (ji r i l):=by
 unfold ji;simp only;split
 ·exact mJ.refl r
 ·split
  ·exact mJ.vt (nC _ _).2.2.2
  ·split
   ·exact⟨λp=>(mJ.iE _ i (qq.put _ _ _)).rd p,λp ps Z=>(mJ.iE _ i (qq.put _ _ _)).out p ps Z⟩
   ·exact mJ.vt rfl
theorem mJ.take(r:iy)(i:Nat)(c:UInt8)(s:List UInt8):mJ r (r.take i c s):=by
 rw[lK];have Z:mJ r (jH r i c s):=by
  unfold jH;split
  ·exact mJ.iE _ _ (qq.packet _ _)
  ·exact mJ.refl r
 split
 ·exact Z.trans (mJ.meet _ _ _)
 ·refine Z.trans ?_;unfold l9;split
  ·split
   ·exact mJ.meet _ _ _
   ·exact mJ.refl _
  ·split
   ·exact mJ.state _ _ _
   ·split
    ·unfold ku;simp only;split<;>exact mJ.vt rfl
    ·split
     ·unfold qj;split
      ·exact mJ.send _ _
      ·exact mJ.refl _
     ·exact mJ.refl _
theorem mJ.takes:∀(l:List (List UInt8)) (r:iy) (i:Nat),mJ r (r.takes i l)
 |[],r,_=>mJ.refl r
 |t::l,r,i=>by
  refine mJ.trans ?_ (mJ.takes l _ i);cases t with
  |nil=>exact mJ.refl r
  |cons c s=>exact mJ.take r i c s
theorem mJ.iV(r:iy)(i:Nat):mJ r (r.iV i):=by
 rw[kO];have Z:mJ r (iT r i):=mJ.iE _ _ (qq.tick _);split
 ·exact Z.trans (mJ.meet _ _ _)
 ·refine Z.trans ((mJ.meet _ i (iH ((iT r i).P i).pe)).trans ?_);unfold lI;simp only;refine mJ.iE _ i ?_;split
  ·exact(qq.put _ _ _).trans (qq.j3 _ _)
  ·exact qq.put _ _ _
theorem mJ.iW(r:iy):∀q,mJ r (r.iW q)
 |0=>mJ.refl r
 |q+1=>(mJ.iW r q).trans (mJ.iV _ _)
theorem mJ.jR(r:iy)(t:Int)(tx:List UInt8):mJ r (jR r t tx).1:=by
 unfold Rt.jR;split
 ·exact mJ.refl r
 ·exact mJ.send r (t,8,tx)
theorem Om(r:iy)(i:Nat)(l:List UInt8):((r.recv i l).P i).rd=(j2 (r.P i).rd l).2.2/\(∀p,p≠i->((r.recv i l).P p).rd=(r.P p).rd)/\∀p ps,Frames (r.P p).out ps->∃qs,Frames ((r.recv i l).P p).out (ps++qs):=by
 unfold iy.recv;simp only;have h:=mJ.takes (j2 (r.P i).rd l).1 (r.iE i {r.P i with rd:=(j2 (r.P i).rd l).2.2}) i;have Z:∀p,((r.iE i {r.P i with rd:=(j2 (r.P i).rd l).2.2}).P p).out=(r.P p).out:=λp=>by
  show(kA r.P i _ p).out=_;by_cases e:p=i
  ·subst e;rw[ja]
  ·rw[iU _ _ e]
 refine⟨?_,λp Y=> ?_,λp ps hf=>h.out p ps (by rw[Z];exact hf)⟩
 ·rw[h.rd];show(kA r.P i _ i).rd=_;rw[ja]
 ·rw[h.rd];show(kA r.P i _ p).rd=_;rw[iU _ _ Y]
theorem Ee {r:iy} {up:Bool} (i:Nat)(h:n8 (!up) (r.P i)):(((r.iw i up).1.P i).rd=lh)/\(∀p,p≠i->((r.iw i up).1.P p).rd=(r.P p).rd)/\∀p ps,Frames (r.P p).out ps->∃qs,Frames ((r.iw i up).1.P p).out (ps++qs):=by
 have V:(ko (r.P i).L (if up=true then 0 else 1)).2.2=0:=by
  cases up
  ·exact(ry (n8.up.1 h).1).1
  ·exact(Bo (by simpa using h.st)).1
 have e:(r.P i).iw up=(({r.P i with L:=(ko (r.P i).L (if up=true then 0 else 1)).1,rd:=([],false,false)}:jb).say (ko (r.P i).L (if up=true then 0 else 1)).2.1,0):=by
  unfold jb.iw;simp only;rw[ae (by simp[V])]
 unfold iy.iw;rw[e];simp only;rw[ae gN];obtain⟨x,hx⟩:=fP (({r.P i with L:=(ko (r.P i).L (if up=true then 0 else 1)).1,rd:=([],false,false)}:jb).say (ko (r.P i).L (if up=true then 0 else 1)).2.1);have X:qq {r.P i with L:=(ko (r.P i).L (if up=true then 0 else 1)).1,rd:=([],false,false)} x:=by rw[<-hx];exact qq.say _ _
 rw[hx];have Z:=mJ.meet (r.iE i x) i nobody;refine⟨?_,λp S=> ?_,λp ps hf=> ?_⟩
 ·rw[Z.rd];show(kA r.P i x i).rd=_;rw[ja,X.rd];rfl
 ·rw[Z.rd];show(kA r.P i x p).rd=_;rw[iU _ _ S]
 ·by_cases Y:p=i
  ·subst Y;obtain⟨q1,U⟩:=X.out ps hf;obtain⟨q2,T⟩:=Z.out p (ps++q1) (by show Frames (kA r.P p x p).out _;rw[ja];exact U);exact⟨q1++q2,by rw[<-az];exact T⟩
  ·exact Z.out p ps (by show Frames (kA r.P i x p).out _;rw[iU _ _ Y];exact hf)
def kf(y:iB)(c d:Nat):jY:=((y.R ((y.C c).e (1-d)).1).P ((y.C c).e (1-d)).2).rd
structure jE(y:iB):Prop where
 q:∀c d,c<y.nc->d<2->(j2 (kf y c d) ((y.C c).on d)).2=(0,lh)/\∀p∈(j2 (kf y c d) ((y.C c).on d)).1,Ec p
 o:∀i p,∃ps,Frames ((y.R i).P p).out ps
theorem jE.kN {y:iB} (h:jE y)(c d:Nat)(_hc:c<y.nc):jE (y.kN c d):=by
 have M:∀i p,(((y.kN c d).R i).P p).rd=((y.R i).P p).rd:=λi p=>by
  rw[B5];split<;>rfl
 have J:∀x,((y.kN c d).C x).e=(y.C x).e:=λx=>((mH y c d).2.2.2.2 x).1;have G:∀x e,kf (y.kN c d) x e=kf y x e:=λx e=>by
  unfold kf;rw[J,M]
 refine⟨λx e hx Q=> ?_,λi p=> ?_⟩
 ·have E:x<y.nc:=hx;rw[G];have S:((y.kN c d).C x).on e=(y.C x).on e \/(x=c/\e=d/\((y.kN c d).C x).on e=(y.C x).on e++((y.R ((y.C c).e d).1).P ((y.C c).e d).2).out):=by
   show((if x=c then(y.C c).put d _ else y.C x):pz).on e=_ \/(x=c/\e=d/\((if x=c then(y.C c).put d _ else y.C x):pz).on e=_);by_cases ex:x=c
   ·rw[ag ex];subst ex;unfold pz.put;split
    ·show jy (y.C x).on d _ e=_ \/(x=x/\e=d/\jy (y.C x).on d _ e=_);by_cases ed:e=d
     ·subst ed;rw[ij];exact .inr ⟨rfl,rfl,rfl⟩
     ·rw[gW _ _ ed];exact .inl rfl
    ·exact .inl rfl
   ·rw[ae ex];exact .inl rfl
  obtain⟨U,T⟩:=h.q x e E Q;rcases S with X|⟨_,_,X⟩
  ·rw[X];exact⟨U,T⟩
  ·obtain⟨ps,Y,Z⟩:=h.o ((y.C c).e d).1 ((y.C c).e d).2;rw[X,pM,U,Y,rz ps Z];refine⟨rfl,λp H=> ?_⟩;rcases aF.1 H with V|V
   ·exact T p V
   ·exact Z p V
 ·rw[B5];split
  ·exact⟨[],Frames.nil⟩
  ·exact h.o i p
theorem jE.jW {y:iB} (h:jE y):∀k,k<=y.nc->jE (y.jW k)
 |0,_=>h
 |k+1,hk=>by
  have Y:=jE.jW h k dP;have Z:(y.jW k).nc=y.nc:=(jK y k).2.1;exact(Y.kN k 0 (by rw[Z];omega)).kN k 1 (by show k<(y.jW k).nc;rw[Z];omega)
theorem jE.gather {y:iB} (h:jE y):jE y.gather:=by
 unfold iB.gather;have Y:=h.jW y.nc (Nat.le_refl _);obtain⟨e1,V,e3,Z⟩:=nN (y.jW y.nc) y.n;have X:∀i,(((y.jW y.nc).mf y.n).R i).P=((y.jW y.nc).R i).P:=λi=>by
  rw[(wF (y.jW y.nc) i y.n).1];split<;>rfl
 refine⟨λc d hc hd=> ?_,λi p=>by rw[X];exact Y.o i p⟩;have hf:kf ((y.jW y.nc).mf y.n) c d=kf (y.jW y.nc) c d:=by
  unfold kf;rw[Z,X]
 rw[hf,Z];exact Y.q c d (by rw[V]at hc;exact hc) hd
theorem jE.jg {y:iB} (h:jE y)(i:Nat) {r:iy} (Z:mJ (y.R i) r):jE (y.jg i r):=by
 refine⟨λc d hc hd=> ?_,λj p=> ?_⟩
 ·have hf:kf (y.jg i r) c d=kf y c d:=by
   show((jy y.R i r ((y.C c).e (1-d)).1).P ((y.C c).e (1-d)).2).rd=((y.R ((y.C c).e (1-d)).1).P ((y.C c).e (1-d)).2).rd;by_cases e:((y.C c).e (1-d)).1=i
   ·rw[e,ij];exact Z.rd _
   ·rw[gW _ _ e]
  rw[hf];exact h.q c d hc hd
 ·show∃ps,Frames ((jy y.R i r j).P p).out ps;by_cases e:j=i
  ·subst e;rw[ij];obtain⟨ps,X⟩:=h.o j p;obtain⟨qs,Y⟩:=Z.out p ps X;exact⟨_,Y⟩
  ·rw[gW _ _ e];exact h.o j p
theorem jE.jw {y:iB} (h:jE y)(D:Ends y)(c d k:Nat)(hc:c<y.nc)(hd:d<2):jE (y.jw c d k):=by
 obtain⟨i,hi⟩:=fP (((y.C c).e (1-d)).1);obtain⟨p,U⟩:=fP (((y.C c).e (1-d)).2);obtain⟨r1,r2,r3⟩:=Om (y.R i) p (((y.C c).on d).take k);have Q:∀x,((y.jw c d k).C x).e=(y.C x).e:=λx=>((uz y c d k).2.2.2 x).1;have V:∀j,(y.jw c d k).R j=jy y.R i ((y.R i).recv p (((y.C c).on d).take k)) j:=λj=>by
  unfold iB.jw;rw[hi,U];rfl
 have H:∀x e,((y.jw c d k).C x).on e=if x=c/\e=d then((y.C c).on d).drop k else(y.C x).on e:=λx e=>by
  show((if x=c then {y.C c with on:=jy (y.C c).on d (((y.C c).on d).drop k)}else y.C x):pz).on e=_;by_cases ex:x=c
  ·rw[ag ex];show jy (y.C c).on d _ e=_;by_cases ed:e=d
   ·rw[ed,ij,ag ⟨ex,rfl⟩]
   ·rw[gW _ _ ed,ae (λh=>ed h.2),ex]
  ·rw[ae ex,ae (λh=>ex h.1)]
 refine⟨λx e hx u=> ?_,λj s=> ?_⟩
 ·have J:x<y.nc:=hx;rw[H];by_cases Z:x=c/\e=d
  ·obtain⟨rfl,rfl⟩:=Z;rw[ag ⟨rfl,rfl⟩];have hf:kf (y.jw x e k) x e=(j2 (kf y x e) (((y.C x).on e).take k)).2.2:=by
    unfold kf;rw[Q,V,hi,U,ij];exact r1
   obtain⟨X,M⟩:=h.q x e hc hd;have S:=pM (kf y x e) (((y.C x).on e).take k) (((y.C x).on e).drop k);rw[bO]at S;rw[S]at X M;rw[hf];refine⟨?_,λq T=>M q (aF.2 (.inr T))⟩;have A:=congrArg gQ X;have hb:=congrArg gS X;simp only at A hb;exact bn (by show _=0;omega) hb
  ·rw[ae Z];have t:(y.C x).e (1-e)≠(i,p):=λG=>Z (by
    have:=D.ds x (1-e) c (1-d) J dP hc dP (by rw[G,<-hi,<-U]);exact⟨this.1,dP⟩)
   have hf:kf (y.jw c d k) x e=kf y x e:=by
    unfold kf;rw[Q,V];by_cases Y:((y.C x).e (1-e)).1=i
    ·rw[Y,ij];exact r2 _ (λE=>t (by rw[cA];exact⟨Y,E⟩))
    ·rw[gW _ _ Y]
   rw[hf];exact h.q x e J u
 ·rw[V];by_cases e:j=i
  ·subst e;rw[ij];obtain⟨ps,uo⟩:=h.o j s;obtain⟨qs,T⟩:=r3 s ps uo;exact⟨_,T⟩
  ·rw[gW _ _ e];exact h.o j s
theorem jE.jC {y:iB} (h:jE y)(hG:GN y)(hE:Ends y)(c:Nat)(up:Bool)(hc:c<y.nc)(hu:(y.C c).jr= !up):jE (y.jC c up):=by
 obtain⟨Z,T⟩:=fP ((y.C c).e 0);obtain⟨Y,M⟩:=fP ((y.C c).e 1);have jq:Z≠Y:=λe=>by
  have:=(hE.ds c 0 c 1 hc dP hc dP (by rw[T,M,e])).2;omega
 have t:=hG.ends c 0 hc dP;have H:=hG.ends c 1 hc dP;rw[T,hu]at t;rw[M,hu]at H;obtain⟨X,vW⟩:∃X:pz,X={y.C c with jr:=up,on:=λ_=>[] }:=⟨_,rfl⟩
 have A:X.e=(y.C c).e:=by rw[vW]
 have u:∀d,X.on d=[] :=λd=>by rw[vW]
 have hf:∀(z:iB) (d:Nat) (e:Nat×Nat),(z.C c).e d=e->z.lQ c d up=z.jg e.1 ((z.R e.1).iw e.2 up).1:=by
  intro z d e he;unfold iB.lQ;rw[he]
 have Q:(y.kG c X).C c=X:=ij _ _ _;have hp:y.jC c up=((y.kG c X).jg Z.1 ((y.R Z.1).iw Z.2 up).1).jg Y.1 ((jy y.R Z.1 ((y.R Z.1).iw Z.2 up).1 Y.1).iw Y.2 up).1:=by
  unfold iB.jC;rw[<-vW,hf (y.kG c X) 0 Z (by rw[Q,A,T]),hf _ 1 Y (by show((y.kG c X).C c).e 1=Y;rw[Q,A,M])];rfl
 obtain⟨r1,G⟩:=fP (jy y.R Z.1 ((y.R Z.1).iw Z.2 up).1 Y.1);obtain⟨a1,a2,a3⟩:=Ee Z.2 t;obtain⟨_,_,b0⟩:=vf Z.2 t;have YG:n8 (!up) (r1.P Y.2):=by
  rw[<-G];by_cases e:Y.1=Z.1
  ·rw[e,ij];have VR:Y.2≠Z.2:=λS=>jq (by rw[cA];exact⟨e.symm,S.symm⟩);rw[e]at H;exact H.congr (b0 _ VR).1 (b0 _ VR).2
  ·rw[gW _ _ e];exact H
 obtain⟨c1,c2,c3⟩:=Ee Y.2 YG;rw[hp,G];obtain⟨R2,J⟩:=fP (jy (jy y.R Z.1 ((y.R Z.1).iw Z.2 up).1) Y.1 (r1.iw Y.2 up).1);have Wm:∀i p,((R2 i).P p).rd=if(i,p)=Z \/(i,p)=Y then lh else((y.R i).P p).rd:=λi p=>by
  rw[<-J];by_cases x1:i=Y.1
  ·rw[x1,ij];by_cases D:p=Y.2
   ·rw[D,ag (.inr rfl)];exact c1
   ·rw[c2 p D,<-G];by_cases x0:Y.1=Z.1
    ·rw[x0,ij];by_cases U:p=Z.2
     ·rw[U,ag (.inl rfl)];exact a1
     ·rw[a2 p U,ae];rintro(e|e)
      ·exact U (congrArg gS e)
      ·exact D (congrArg gS e)
    ·rw[gW _ _ x0,ae];rintro(e|e)
     ·exact x0 (by have V:=congrArg gQ e;exact V)
     ·exact D (congrArg gS e)
  ·rw[gW _ _ x1];by_cases x0:i=Z.1
   ·rw[x0,ij];by_cases U:p=Z.2
    ·rw[U,ag (.inl rfl)];exact a1
    ·rw[a2 p U,ae];rintro(e|e)
     ·exact U (congrArg gS e)
     ·exact x1 (x0.trans (by have V:=congrArg gQ e;exact V))
   ·rw[gW _ _ x0,ae];rintro(e|e)
    ·exact x0 (by have V:=congrArg gQ e;exact V)
    ·exact x1 (by have V:=congrArg gQ e;exact V)
 have Nq:∀i p,∃ps,Frames ((R2 i).P p).out ps:=λi p=>by
  rw[<-J];have hA:∀j s,∃ps,Frames ((jy y.R Z.1 ((y.R Z.1).iw Z.2 up).1 j).P s).out ps:=λj s=>by
   by_cases x0:j=Z.1
   ·rw[x0,ij];obtain⟨ps,E⟩:=h.o Z.1 s;obtain⟨qs,hq⟩:=a3 s ps E;exact⟨_,hq⟩
   ·rw[gW _ _ x0];exact h.o j s
  by_cases x1:i=Y.1
  ·rw[x1,ij];obtain⟨ps,E⟩:=hA Y.1 p;rw[G]at E;obtain⟨qs,hq⟩:=c3 p ps E;exact⟨_,hq⟩
  ·rw[gW _ _ x1];exact hA i p
 refine⟨λx d hx hd=> ?_,λi p=> ?_⟩
 ·have xE:x<y.nc:=hx;show(j2 (((jy (jy y.R Z.1 ((y.R Z.1).iw Z.2 up).1) Y.1 (r1.iw Y.2 up).1 ((((if x=c then X else y.C x):pz).e (1-d)).1)).P (((if x=c then X else y.C x):pz).e (1-d)).2).rd) (((if x=c then X else y.C x):pz).on d)).2=(0,lh)/\∀p∈(j2 (((jy (jy y.R Z.1 ((y.R Z.1).iw Z.2 up).1) Y.1 (r1.iw Y.2 up).1 ((((if x=c then X else y.C x):pz).e (1-d)).1)).P (((if x=c then X else y.C x):pz).e (1-d)).2).rd) (((if x=c then X else y.C x):pz).on d)).1,Ec p;rw[J,Wm];by_cases e:x=c
  ·rw[ag e,A,u];have rW:(((y.C c).e (1-d)).1,((y.C c).e (1-d)).2)=Z \/(((y.C c).e (1-d)).1,((y.C c).e (1-d)).2)=Y:=by
    have:d=0 \/d=1:=dP;rcases this with rfl|rfl
    ·exact .inr M
    ·exact .inl T
   rw[ag rW];exact⟨rfl,λp hp=>by simp[j2]at hp⟩
  ·rw[ae e];have n0:¬((((y.C x).e (1-d)).1,((y.C x).e (1-d)).2)=Z \/(((y.C x).e (1-d)).1,((y.C x).e (1-d)).2)=Y):=by
    rintro(S|S)
    ·exact e (hE.ds x (1-d) c 0 xE dP hc dP (by rw[T];exact S)).1
    ·exact e (hE.ds x (1-d) c 1 xE dP hc dP (by rw[M];exact S)).1
   rw[ae n0];exact h.q x d xE hd
 ·show∃ps,Frames ((jy (jy y.R Z.1 ((y.R Z.1).iw Z.2 up).1) Y.1 (r1.iw Y.2 up).1 i).P p).out ps;rw[J];exact Nq i p
theorem jE.jo(up:Bool):∀(l:List Nat) {y:iB},jE y->GN y->Ends y->l.Nodup->(∀c∈l,c<y.nc/\(y.C c).jr= !up)->jE (y.jo up l)
 |[],_,h,_,_,_,_=>h
 |c::l,y,h,hG,hE,ye,hl=>by
  obtain⟨g1,Y,g3,g4,X⟩:=og y c up;have hc:=hl c gN;have Z:=bK.1 ye;exact jE.jo up l (h.jC hG hE c up hc.1 hc.2) (hG.jC hE c up hc.1 hc.2) (hE.jC c up) Z.2 (λx hx=>by
   have V:x≠c:=λe=>Z.1 (e▸hx);rw[Y,(X x).2,ae V];exact hl x (by simp[hx]))
theorem jE.anew(h:jE y)(Y:GN y)(i:Nat)(id:Int)(m:Nat->Int)(hf:∀c d,c<y.nc->d<2->((y.C c).e d).1=i->(y.C c).jr=false):jE (y.jg i (jt id 3 m)):=by
 refine⟨λc d hc hd=> ?_,λj p=> ?_⟩
 ·have Z:c<y.nc:=hc;show(j2 (((jy y.R i (jt id 3 m) ((y.C c).e (1-d)).1).P ((y.C c).e (1-d)).2).rd) ((y.C c).on d)).2=(0,lh)/\∀p∈(j2 (((jy y.R i (jt id 3 m) ((y.C c).e (1-d)).1).P ((y.C c).e (1-d)).2).rd) ((y.C c).on d)).1,Ec p;by_cases e:((y.C c).e (1-d)).1=i
  ·rw[e,ij,Y.off c d Z hd (hf c (1-d) Z dP e)];exact⟨rfl,λp X=>by simp[j2]at X⟩
  ·rw[gW _ _ e];exact h.q c d Z hd
 ·show∃ps,Frames ((jy y.R i (jt id 3 m) j).P p).out ps;by_cases e:j=i
  ·rw[e,ij];exact⟨[],Frames.nil⟩
  ·rw[gW _ _ e];exact h.o j p
theorem jE.restart {y:iB} {D:Nat} (h:jE y)(S:GN y)(J:jN y D 0)(i:Int):jE (y.restart i).1:=by
 unfold iB.restart;split
 ·exact h
 ·rename_i hi
  obtain⟨k,t⟩:=fP ((i-1).toNat);rw[t];obtain⟨l,hl⟩:=fP (y.kH k);rw[hl];have Y:∀c,c∈l↔c<y.nc/\(y.C c).jr=true/\(((y.C c).e 0).1=k \/((y.C c).e 1).1=k):=λc=>by
   rw[<-hl];unfold iB.kH;simp[List.mem_filter]
  have U:l.Nodup:=by
   rw[<-hl];exact dg cY cB
  have E:∀c∈l,c<y.nc/\(y.C c).jr= !false:=λc hc=>⟨((Y c).1 hc).1,((Y c).1 hc).2.1⟩
  obtain⟨a,b,d⟩:=GN.jo false l S J.oS U E;have f1:=jE.jo false l h S J.oS U E;obtain⟨s1,V,s3,s4,G⟩:=l7 false l y;obtain⟨Z,A⟩:=fP (y.jo false l);rw[A]at a b d s1 V s3 s4 G f1⊢;have T:∀c e,c<Z.nc->e<2->((Z.C c).e e).1=k->(Z.C c).jr=false:=λc e hc M heq=>by
   have kh:c<y.nc:=by rw[V]at hc;exact hc
   rw[d c];by_cases X:c∈l
   ·rw[ag X]
   ·rw[ae X];by_cases H:(y.C c).jr=true
    ·exfalso;rw[G c]at heq;refine X ((Y c).2 ⟨kh,H,?_⟩);have:e=0 \/e=1:=dP;rcases this with rfl|rfl
     ·exact .inl heq
     ·exact .inr heq
    ·simpa using H
  have f2:=f1.anew a k i (y.ms k) T;have u:GN (Z.jg k (jt i 3 (y.ms k))):=by
   refine a.jg k _ (λc e hc M heq _=> ?_);rw[T c e hc M heq];have Q:=pA i (y.ms k) ((Z.C c).e e).2;exact⟨by simpa using Q.st,λe=>absurd (by rw[Q.pe];rfl) e⟩
  have b2:Ends (Z.jg k (jt i 3 (y.ms k))):=⟨b.ds,b.p3,λj=>by
   show(jy Z.R k _ j).n=3 \/Z.n<=j;by_cases e:j=k
   ·rw[e,ij];exact .inl rfl
   ·rw[gW _ _ e];exact b.rn j,b.en⟩
  exact(jE.jo true l f2 u b2 U (λc hc=>⟨by show c<Z.nc;rw[V];exact((Y c).1 hc).1,by show(Z.C c).jr=_;rw[d c,ag hc];rfl⟩)).gather
theorem jE.iw {y:iB} {D:Nat} (h:jE y)(Z:GN y)(Y:jN y D 0)(i:Int)(up:Bool):jE (y.iw i up).1:=by
 unfold iB.iw;split
 ·exact h
 ·split
  ·exact h
  ·rename_i oE
   exact(h.jC Z Y.oS i.toNat up dP (by cases hv:(y.C i.toNat).jr<;>cases up<;>simp_all)).gather
theorem jE.tick {y:iB} (h:jE y)(i:Int):jE (y.tick i).1:=by
 unfold iB.tick;split
 ·exact h
 ·exact(h.jg _ (mJ.iW _ _)).gather
theorem jE.deliver {y:iB} {D:Nat} (h:jE y)(Z:jN y D 0)(i d m:Int):jE (y.deliver i d m).1:=by
 unfold iB.deliver;split
 ·exact h
 ·exact(h.jw Z.oS _ _ _ dP dP).gather
theorem jE.send {y:iB} (h:jE y)(f t:Int)(tx:List UInt8):jE (y.send f t tx).1:=by
 unfold iB.send;split
 ·exact h
 ·split
  ·exact h
  ·exact(h.jg _ (mJ.jR _ _ _)).gather
theorem jE.iW {y:iB} (h:jE y):∀q,jE (y.iW q)
 |0=>h
 |q+1=>(jE.iW h q).tick _
theorem jE.j6 {y:iB} {D:Nat} (h:jE y)(X:jN y D 0)(Y:D<=890000000):∀q,q<=9->jE (y.j6 q)
 |0,_=>h
 |q+1,hq=>by
  have Z:=X.j6 Y q dP;exact((jE.j6 h X Y q dP).deliver Z (q:Int) 0 2000).deliver (Z.deliver dP (q:Int) 0 2000) (q:Int) 1 2000
theorem jE.turns {y:iB} {D:Nat} (h:jE y)(Z:jN y D 0)(Y:D<=810000000):∀t,t<=12->jE (y.turns t)
 |0,_=>h
 |t+1,ht=>(jE.turns h Z Y t dP).j6 (Z.turns Y t dP) dP y.nc Z.c9
theorem jE.round {y:iB} {D:Nat} (h:jE y)(Z:jN y D 0)(Y:D<=800000000):jE y.round:=
 (h.iW y.n).turns (Z.iW Y y.n Z.n6) (by have:=Z.n6;omega) 12 (Nat.le_refl _)
theorem jE.act {D:Nat} (h:jE y)(Y:GN y)(Z:jN y D 0)(X:D<=800000000)(v:AV):jE (qX y v):=by
 unfold qX;split
 ·exact h.iw Y Z _ _
 ·split
  ·exact h.tick _
  ·split
   ·exact h.deliver Z _ _ _
   ·split
    ·exact h.restart Y Z _
    ·split
     ·exact h.send _ _ _
     ·split
      ·exact h.round Z X
      ·exact h
theorem KF(many:Nat)(L:List oH):jE (jx many L):=⟨λ_ _ _ _=>⟨rfl,λp Z=>by simp[j2,jx,rv]at Z⟩,λ_ _=>⟨[],Frames.nil⟩⟩
def jb.pt(p:jb)(rd:jY)(o:List UInt8):jb:={p with rd:=rd,out:=o++p.out}
def iy.pat(s:iy)(rd:Nat->jY)(os:Nat->List UInt8)(ib:List wT):iy:={s with P:=λp=>(s.P p).pt (rd p) (os p),jM:=ib++s.jM}
def iy.core(r:iy):iy:={r with P:=λp=>{r.P p with rd:=lh,out:=[] },jM:=[] }
theorem Ir(s:iy)(rd:Nat->jY)(os:Nat->List UInt8)(ib:List wT):(s.pat rd os ib).core=s.core:=rfl
theorem uF(r:iy):r.core.pat (λp=>(r.P p).rd) (λp=>(r.P p).out) r.jM=r:=by
 unfold iy.pat iy.core jb.pt;simp only[List.append_nil]
theorem Cm(p:jb)(rd:jY)(o:List UInt8)(c:UInt8)(s:List UInt8):(p.pt rd o).put c s=(p.put c s).pt rd o:=by
 unfold jb.put;have e:(p.pt rd o).L=p.L:=rfl;rw[e];split
 ·rfl
 ·split
  ·simp[jb.pt]
  ·rfl
theorem Fk(rd:jY)(o:List UInt8):∀(l:List kr) (p:jb),(p.pt rd o).say l=(p.say l).pt rd o
 |[],_=>rfl
 |q::r,p=>by
  show((if ju q.1 q.2.1 q.2.2=0 then(p.pt rd o).put 76 (lA q.1 q.2.1 q.2.2)else p.pt rd o)).say r=((if ju q.1 q.2.1 q.2.2=0 then p.put 76 (lA q.1 q.2.1 q.2.2)else p).say r).pt rd o;split
  ·rw[Cm,Fk rd o r]
  ·exact Fk rd o r p
theorem L8(rd:jY)(o:List UInt8)(L:LS)(l:List kr)(p:jb):({p.pt rd o with L:=L}:jb).say l=(({p with L:=L}:jb).say l).pt rd o:=Fk rd o l {p with L:=L}
theorem Ef(rd:jY)(o:List UInt8):∀(l:List (Int×PS)) (p:jb),(p.pt rd o).j3 l=(p.j3 l).pt rd o
 |[],_=>rfl
 |q::r,p=>by
  show((p.pt rd o).put 83 _).j3 r=_;rw[Cm,Ef rd o r];rfl
theorem UW(rd:jY)(o:List UInt8)(p:jb):(p.pt rd o).tick=p.tick.pt rd o:=L8 rd o _ _ p
theorem Oo(rd:jY)(o:List UInt8)(p:jb)(s:List UInt8):(p.pt rd o).packet s=(p.packet s).pt rd o:=by
 unfold jb.packet;simp only;split
 ·exact L8 rd o _ _ p
 ·rfl
section
variable (rd:Nat->jY) (os:Nat->List UInt8) (ib:List wT)
theorem r8(s:iy)(i:Nat)(q:jb):(s.pat rd os ib).iE i (q.pt (rd i) (os i))=(s.iE i q).pat rd os ib:=by
 unfold iy.iE iy.pat;congr 1
 funext p
 show kA _ i _ p=(kA s.P i q p).pt (rd p) (os p);by_cases e:p=i
 ·subst e;rw[ja,ja]
 ·rw[iU _ _ e,iU _ _ e]
theorem yP(s:iy)(n:Int):∀k,jA (s.pat rd os ib).P n k=jA s.P n k
 |0=>rfl
 |k+1=>by
  have ih:=yP s n k;unfold jA;rw[ih];rfl
theorem Cn(s:iy):iX (s.pat rd os ib)=iX s:=by
 unfold iX;congr 1
 funext j
 rw[yP];rfl
theorem Co(s:iy)(q:Int):(s.pat rd os ib).behind q=(s.behind q).pat rd os ib:=by
 unfold iy.behind;rw[Cn];split<;>rfl
theorem KG(s:iy):(s.pat rd os ib).change=s.change.pat rd os ib:=by
 unfold iy.change;rw[Cn,Co];show(if zX s.K s.id=iX s then s.pat rd os ib else(s.behind (yB s.K s.id)).pat rd os ib)=_;split<;>rfl
theorem uG(s:iy)(i:Nat)(q:kL):(s.pat rd os ib).meet i q=(s.meet i q).pat rd os ib:=by
 have Z:(s.pat rd os ib).iE i {(s.pat rd os ib).P i with pe:=q}=(s.iE i {s.P i with pe:=q}).pat rd os ib:=r8 rd os ib s i {s.P i with pe:=q};unfold iy.meet;simp only;rw[Z];have Y:=KG rd os ib ({s.iE i {s.P i with pe:=q}with O:=λx=>if x=i then λ_=>ν else s.O x}:iy);show(if q.who=(s.P i).pe.who/\q.both=(s.P i).pe.both then _ else _)=_;split
 ·rfl
 ·have X:({(s.iE i {s.P i with pe:=q}).pat rd os ib with O:=λx=>if x=i then λ_=>ν else((s.iE i {s.P i with pe:=q}).pat rd os ib).O x}:iy).change=(({s.iE i {s.P i with pe:=q}with O:=λx=>if x=i then λ_=>ν else s.O x}:iy).change).pat rd os ib:=Y;rw[X];split<;>rfl
theorem Iu(s:iy)(t:wT):(s.pat rd os ib).send t=(s.send t).pat rd os ib:=by
 unfold iy.send;have Z:(λh:HP=>jA (s.pat rd os ib).P h.tf (s.pat rd os ib).n)=λh:HP=>jA s.P h.tf s.n:=by
  funext h;exact yP rd os ib s h.tf s.n
 rw[Z];show(if t.1=s.id then _ else match (if 1<=t.2.1 then(ym (oB s) t.1).bind λh=>jA s.P h.tf s.n else none)with|none=>_|some i=>_)=_;split
 ·simp[iy.pat]
 ·cases (if 1<=t.2.1 then(ym (oB s) t.1).bind λh=>jA s.P h.tf s.n else ν)with
  |none=>rfl
  |some i=>
   show(s.pat rd os ib).iE i (((s.P i).pt (rd i) (os i)).put 77 _)=_;rw[Cm];exact r8 rd os ib s i _
theorem Oq(s:iy)(i:Nat)(l:List UInt8):ji (s.pat rd os ib) i l=(ji s i l).pat rd os ib:=by
 unfold ji;simp only;show(if(St.ik l).2.2.2≠0 \/(s.P i).pe.both=false then _ else if(St.ik l).1=s.id/\0<newF s.K (St.ik l).1 (St.ik l).2.1 (St.ik l).2.2.1 then _ else if 0<=newF s.K (St.ik l).1 (St.ik l).2.1 (St.ik l).2.2.1 then _ else _)=_;split
 ·rfl
 ·split
  ·exact Co rd os ib s _
  ·split
   ·obtain⟨x,hx⟩:∃x:iy,({s with K:=ld s.K (St.ik l).1 (St.ik l).2.1 (St.ik l).2.2.1,O:=oN s.K s.O i (St.ik l).1 (St.ik l).2.1 (St.ik l).2.2.1}:iy)=x:=⟨_,rfl⟩
    have Z:(x.pat rd os ib).iE i (((x.P i).pt (rd i) (os i)).put 65 (rM (St.ik l).1 (St.ik l).2.1 (St.ik l).2.2.1))=(x.iE i ((x.P i).put 65 (rM (St.ik l).1 (St.ik l).2.1 (St.ik l).2.2.1))).pat rd os ib:=by
     rw[Cm];exact r8 rd os ib x i _
    rw[<-hx]at Z;exact Z
   ·rfl
theorem RW(s:iy)(i:Nat)(c:UInt8)(l:List UInt8):(s.pat rd os ib).take i c l=(s.take i c l).pat rd os ib:=by
 rw[lK,lK];have Z:jH (s.pat rd os ib) i c l=(jH s i c l).pat rd os ib:=by
  unfold jH;split
  ·show(s.pat rd os ib).iE i (((s.P i).pt (rd i) (os i)).packet l)=_;rw[Oo];exact r8 rd os ib s i _
  ·rfl
 rw[Z];show(if((jH s i c l).P i).L.st≠9 then _ else _)=_;split
 ·exact uG rd os ib _ i _
 ·unfold l9;split
  ·split
   ·exact uG rd os ib _ i _
   ·rfl
  ·split
   ·exact Oq rd os ib _ i l
   ·split
    ·unfold ku;simp only;split<;>rfl
    ·split
     ·unfold qj;split
      ·exact Iu rd os ib _ _
      ·rfl
     ·rfl
theorem Ot(s:iy)(i:Nat)(x:List UInt8):jT (s.pat rd os ib) i x=(jT s i x).pat rd os ib:=by
 cases x with
 |nil=>rfl
 |cons c l=>exact RW rd os ib s i c l
theorem yQ:∀(l:List (List UInt8)) (s:iy) (i:Nat),(s.pat rd os ib).takes i l=(s.takes i l).pat rd os ib
 |[],_,_=>rfl
 |x::l,s,i=>by
  show(jT (s.pat rd os ib) i x).takes i l=((jT s i x).takes i l).pat rd os ib;rw[Ot,yQ l]
theorem Ou(s:iy)(i:Nat):(s.pat rd os ib).iV i=(s.iV i).pat rd os ib:=by
 rw[kO,kO];have Z:iT (s.pat rd os ib) i=(iT s i).pat rd os ib:=by
  show(s.pat rd os ib).iE i (((s.P i).pt (rd i) (os i)).tick)=_;rw[UW];exact r8 rd os ib s i _
 rw[Z];show(if((iT s i).P i).L.st≠9 then _ else _)=_;split
 ·exact uG rd os ib _ i _
 ·show lI (((iT s i).pat rd os ib).meet i (iH ((iT s i).P i).pe)) i=_;rw[uG];obtain⟨x,hx⟩:=fP ((iT s i).meet i (iH ((iT s i).P i).pe));rw[hx];have Y:∀p q:jb,(if(x.P i).pe.both=true then p.pt (rd i) (os i)else q.pt (rd i) (os i))=(if(x.P i).pe.both=true then p else q).pt (rd i) (os i):=λp q=>by split<;>rfl
  show(x.pat rd os ib).iE i (if(x.P i).pe.both=true then(((x.P i).pt (rd i) (os i)).put 72 _).j3 (lU (x.O i))else((x.P i).pt (rd i) (os i)).put 72 _)=_;rw[Cm,Ef,Y];exact r8 rd os ib x i _
theorem Iv(s:iy)(i:Nat)(up:Bool)(Z:(ko (s.P i).L (if up=true then 0 else 1)).2.2=0):((s.pat rd os ib).iw i up).1=((s.iw i up).1).pat (jy rd i lh) os ib:=by
 obtain⟨E,Y⟩:=fP (ko (s.P i).L (if up=true then 0 else 1));rw[Y]at Z;have e:∀p:jb,p.L=(s.P i).L->p.iw up=(({p with L:=E.1,rd:=lh}:jb).say E.2.1,0):=λp U=>by
  unfold jb.iw;rw[U,Y];simp only;rw[ae (by simp[Z])];rfl
 unfold iy.iw;rw[e _ rfl,e ((s.pat rd os ib).P i) rfl];simp only;rw[ae gN,ae gN];have X:(({(s.pat rd os ib).P i with L:=E.1,rd:=lh}:jb).say E.2.1)=((({s.P i with L:=E.1,rd:=lh}:jb)).say E.2.1).pt lh (os i):=
  Fk lh (os i) _ ({s.P i with L:=E.1,rd:=lh}:jb)
 rw[X];obtain⟨q,T⟩:=fP ((({s.P i with L:=E.1,rd:=lh}:jb)).say E.2.1);rw[T];have V:(s.pat rd os ib).iE i (q.pt lh (os i))=(s.iE i q).pat (jy rd i lh) os ib:=by
  unfold iy.iE iy.pat;congr 1
  funext p
  show kA _ i _ p=(kA s.P i q p).pt (jy rd i lh p) (os p);by_cases e:p=i
  ·subst e;rw[ja,ja,ij]
  ·rw[iU _ _ e,iU _ _ e,gW _ _ e]
 rw[V,uG]
end
def isI(k:Nat)(tx:List UInt8)(m:wT):Bool:=m.1==(k:Int)&&m.2.2==tx
def cI(k:Nat)(tx:List UInt8)(l:List wT):Nat:=l.countP (isI k tx)
def je(p:jb):List (List UInt8):=(j2 lh p.out).1
theorem mO {p:jb} (h:Frames p.out ps):je p=ps:=by
 unfold je;rw[h.1,rz ps h.2]
theorem qq.fr {p q:jb} (h:qq p q)(Z:∃ps,Frames p.out ps):∃ps,Frames q.out ps:=by
 obtain⟨ps,X⟩:=Z;obtain⟨qs,Y⟩:=h.out ps X;exact⟨_,Y⟩
