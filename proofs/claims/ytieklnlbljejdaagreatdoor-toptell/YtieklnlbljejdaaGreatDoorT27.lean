import Derived.Test.YtieklnlbljejdaaGreatDoorT26
open List renaming range → fG
namespace Go.Proofs.YtieklnlbljejdaaGreatDoor
open Go.RowKit St
namespace Rt
variable {D i:Nat} {p q:jb} {r:iy} {s:LS} {y:iB}
theorem UQ(c:UInt8)(s:LS):(oG c s).st=s.st:=by
 unfold oG
 repeat' split
 all_goals rfl
theorem L7:∀(L:List UInt8) (s:LS),(pw L s).st=s.st
 |[],_=>rfl
 |c::r,s=>by
  show(pw r (oG c s)).st=s.st;rw[L7 r,UQ]
theorem UR(s:LS)(nx:Int):(s.next nx).st=nx:=by
 unfold LS.next;split<;>rfl
theorem uB(s:LS)(ev:Int):(mX s ev).st=(iN s.st ev).2.1:=by
 unfold mX;rw[L7,UR]
def r7(s:Int):Bool:=s==3||(decide (5<=s)&&decide (s<=9))
theorem Ay {s:Int} (h:r7 s=true):∃k:Nat,s=k/\k<10:=by
 refine⟨s.toNat,?_⟩;simp only[r7,Bool.or_eq_true,beq_iff_eq,Bool.and_eq_true,decide_eq_true_eq]at h;omega
theorem YD:((fG 12).all λe=>(fG 10).all λs=> !(decide (4<=e)&&r7 (s:Int)&& ((kF s e).2.2==0))||r7 (kF s e).2.1)=true:=by decide+kernel
theorem US {e s:Nat} (V:e<12)(X:4<=e)(hs:s<10)(U:r7 (s:Int)=true)(Y:(kF s e).2.2=0):r7 (kF s e).2.1=true:=by
 have Z:=a6.1 (a6.1 YD e (aY.2 V)) s (aY.2 hs);have b4:decide (4<=e)=true:=by simpa using X
 have b7:((kF s e).2.2==0)=true:=by simpa using Y
 rw[b4,U,b7]at Z;simpa using Z
theorem Cg(e:Nat)(Y:e<12)(V:4<=e)(a:kr)(h:r7 s.st=true):r7 (qU s e a).1.st=true:=by
 obtain⟨k,U,X⟩:=Ay h;by_cases Z:(iN s.st e).2.2=0
 ·rw[rF a Z];show r7 (mX s e).st=true;rw[uB];rw[U]at h Z⊢;rw[mC k e X Y]at Z⊢;exact US Y V X h Z
 ·rw[tV a Z];exact h
theorem UT(s:LS)(code:Int)(os:List jv):(s.tell code os).st=s.st:=by
 unfold LS.tell;split<;>rfl
theorem RQ(s:LS)(os:List jv):(s.sized os).st=s.st:=by
 unfold LS.sized;split<;>rfl
theorem UU(p:kr)(h:r7 s.st=true):r7 (jD s p).1.st=true:=by
 unfold jD;split
 ·exact h
 ·split
  ·unfold rT;split
   ·split
    ·rw[RQ];exact Cg 6 dS dS _ h
    ·exact Cg 6 dS dS _ h
   ·exact Cg 7 dS dS _ h
  ·split
   ·exact Cg 10 dS dS _ h
   ·split
    ·exact Cg 11 dS dS _ h
    ·unfold rG;split
     ·exact h
     ·split
      ·split
       ·exact h
       ·exact Cg 8 dS dS _ h
      ·exact Cg 9 dS dS _ (by rw[UT];exact h)
theorem Ip:((fG 10).all λs=> !(r7 (s:Int)&&decide (4<=s)&&decide (s<=8))||(r7 (kF s 4).2.1&&r7 (kF s 5).2.1))=true:=by decide+kernel
theorem RS(h:r7 s.st=true):r7 (j5 s).st=true:=by
 obtain⟨k,Y,X⟩:=Ay h;unfold j5;split
 ·exact h
 ·rename_i U
  have V:4<=k/\k<=8:=by
   rw[Y]at U;simp at U;omega
  have Z:=a6.1 Ip k (aY.2 X);rw[<-Y,h]at Z;simp[V.1,V.2]at Z;split
  ·exact h
  ·split
   ·rw[uB];show r7 (iN s.st 4).2.1=true;rw[Y,show(4:Int)=((4:Nat):Int)from rfl,mC k 4 X dS];exact Z.1
   ·rw[uB];show r7 (iN s.st 5).2.1=true;rw[Y,show(5:Int)=((5:Nat):Int)from rfl,mC k 5 X dS];exact Z.2
theorem Iq:((fG 10).all λs=> !(r7 (s:Int))||((kF s 1).2.2==0&& (kF s 1).2.1==1))=true:=by decide+kernel
theorem ry(h:r7 s.st=true):(ko s 1).2.2=0/\(ko s 1).1.st=1:=by
 obtain⟨k,Y,X⟩:=Ay h;have Z:=a6.1 Iq k (aY.2 X);rw[<-Y,h]at Z;simp at Z;have V:(iN s.st 1).2.2=0:=by
  rw[Y,show(1:Int)=((1:Nat):Int)from rfl,mC k 1 X dS];exact Z.1
 have e:ko s 1=(mX s 1,oA s 1 (0,0,[]),0):=by
  unfold ko;rw[ag gN,rF _ V]
 rw[e];refine⟨rfl,?_⟩;show(mX s 1).st=1;rw[uB,Y,show(1:Int)=((1:Nat):Int)from rfl,mC k 1 X dS];exact Z.2
theorem Bo(h:s.st=1):(ko s 0).2.2=0/\r7 (ko s 0).1.st=true:=by
 have Z:(iN s.st 0).2.2=0:=by rw[h];decide+kernel
 have e:ko s 0=(mX s 0,oA s 0 (0,0,[]),0):=by
  unfold ko;rw[ag gN,rF _ Z]
 rw[e];refine⟨rfl,?_⟩;show r7 (mX s 0).st=true;rw[uB,h];decide+kernel
theorem RT(h:r7 s.st=true):r7 (jB s).1.st=true:=by
 have Z:=RS h;unfold jB;split
 ·exact(Bo (ry Z).2).2
 ·exact Z
theorem Oj(h:s.st=1):(jB s).1=s:=by
 have Z:j5 s=s:=by unfold j5;simp[h]
 unfold jB;rw[Z];simp[h]
structure n8(up:Bool)(p:jb):Prop where
 st:if up=true then r7 p.L.st=true else p.L.st=1
 gate:p.pe.who≠0->p.L.st=9
theorem n8.congr {up:Bool} (h:n8 up p)(Z:q.L=p.L)(Y:q.pe=p.pe):n8 up q:=⟨by rw[Z];exact h.st,by rw[Z,Y];exact h.gate⟩
theorem uC(p:jb)(c:UInt8)(s:List UInt8):(p.put c s).L=p.L:=by
 unfold jb.put
 repeat' split
 all_goals rfl
theorem Ch:∀(l:List kr) (p:jb),(p.say l).L=p.L
 |[],_=>rfl
 |q::r,p=>by
  show((if ju q.1 q.2.1 q.2.2=0 then p.put 76 (lA q.1 q.2.1 q.2.2)else p).say r).L=_;rw[Ch r];split
  ·exact uC _ _ _
  ·rfl
theorem uD:∀(l:List (Int×PS)) (p:jb),(p.j3 l).L=p.L/\(p.j3 l).pe=p.pe
 |[],_=>⟨rfl,rfl⟩
 |q::r,p=>by
  obtain⟨Z,Y⟩:=uD r (p.put 83 (rM q.1 q.2.1 q.2.2));exact⟨Z.trans (uC _ _ _),Y.trans (pW _ _ _)⟩
def jU(r r':iy)(p:Nat):Prop:=(r'.P p).L=(r.P p).L/\(r'.P p).pe=(r.P p).pe
theorem jU.refl(r:iy)(p:Nat):jU r r p:=⟨rfl,rfl⟩
theorem jU.trans {a b c:iy} {p:Nat} (h:jU a b p)(g:jU b c p):jU a c p:=⟨g.1.trans h.1,g.2.trans h.2⟩
theorem jU.vt {r':iy} (h:r'.P=r.P)(p:Nat):jU r r' p:=by unfold jU;rw[h];exact⟨rfl,rfl⟩
theorem jU.iE(r:iy)(i:Nat)(q:jb)(Z:q.L=(r.P i).L)(Y:q.pe=(r.P i).pe)(p:Nat):jU r (r.iE i q) p:=by
 show(kA r.P i q p).L=_/\(kA r.P i q p).pe=_;by_cases e:p=i
 ·subst e;rw[ja];exact⟨Z,Y⟩
 ·rw[iU _ _ e];exact⟨rfl,rfl⟩
theorem jU.wH(r:iy)(q:jb) {p:Nat} (h:p≠i):jU r (r.iE i q) p:=by
 show(kA r.P i q p).L=_/\(kA r.P i q p).pe=_;rw[iU _ _ h];exact⟨rfl,rfl⟩
theorem jU.pD(r:iy)(q:kL) {p:Nat} (h:p≠i):jU r (r.meet i q) p:=by
 unfold jU;rw[(lS r i q).2.2.2,iU _ _ h];exact⟨rfl,rfl⟩
theorem xP(r:iy)(i:Nat)(q:kL):((r.meet i q).P i).L=(r.P i).L/\((r.meet i q).P i).pe=q:=by
 rw[(lS r i q).2.2.2,ja];exact⟨rfl,rfl⟩
theorem jU.send(r:iy)(t:wT)(p:Nat):jU r (r.send t) p:=by
 unfold iy.send;split
 ·exact jU.vt rfl p
 ·split
  ·exact jU.vt rfl p
  ·exact jU.iE _ _ _ (uC _ _ _) (pW _ _ _) p
theorem jU.state(r:iy)(i:Nat)(l:List UInt8)(p:Nat):jU r (ji r i l) p:=by
 unfold ji;simp only;split
 ·exact jU.refl r p
 ·split
  ·exact jU.vt (nC _ _).2.2.2 p
  ·split
   ·exact jU.iE _ i _ (uC _ _ _) (pW _ _ _) p
   ·exact jU.vt rfl p
theorem KB(r:iy)(i:Nat)(c:UInt8)(s:List UInt8)(p:Nat):((l9 r i c s).P p).L=(r.P p).L/\(p≠i->jU r (l9 r i c s) p):=by
 unfold l9;split
 ·split
  ·refine⟨?_,λh=>jU.pD r _ h⟩;by_cases e:p=i
   ·subst e;exact(xP r p _).1
   ·exact(jU.pD r _ e).1
  ·exact⟨rfl,λ_=>jU.refl r p⟩
 ·split
  ·exact⟨(jU.state r i s p).1,λ_=>jU.state r i s p⟩
  ·split
   ·have h:jU r (ku r i s) p:=by
     unfold ku;simp only;split<;>exact jU.vt rfl p
    exact⟨h.1,λ_=>h⟩
   ·split
    ·have h:jU r (qj r s) p:=by
      unfold qj;split
      ·exact jU.send _ _ p
      ·exact jU.refl r p
     exact⟨h.1,λ_=>h⟩
    ·exact⟨rfl,λ_=>jU.refl r p⟩
def KC(p:jb):Prop:=r7 p.L.st=true/\(p.pe.who≠0->p.L.st=9)
theorem n8.up:n8 true p↔KC p:=⟨λh=>⟨by simpa using h.st,h.gate⟩,λh=>⟨by simpa using h.1,h.2⟩⟩
theorem KC.congr(h:KC p)(Z:q.L=p.L)(Y:q.pe=p.pe):KC q:=by
 unfold KC;rw[Z,Y];exact h
theorem Ok(s:List UInt8)(h:r7 p.L.st=true):r7 (p.packet s).L.st=true:=by
 unfold jb.packet;simp only;split
 ·rw[Ch];exact UU _ h
 ·exact h
theorem D8(i:Nat)(c:UInt8)(s:List UInt8)(h:KC (r.P i)):KC ((r.take i c s).P i)/\∀p,p≠i->jU r (r.take i c s) p:=by
 have Y:r7 ((jH r i c s).P i).L.st=true:=by
  unfold jH;split
  ·show r7 (kA r.P i _ i).L.st=true;rw[ja];exact Ok s h.1
  ·exact h.1
 have X:∀p,p≠i->jU r (jH r i c s) p:=λp Z=>by
  unfold jH;split
  ·exact jU.wH r _ Z
  ·exact jU.refl r p
 rw[lK];split
 ·obtain⟨a,b⟩:=xP (jH r i c s) i nobody;refine⟨⟨by rw[a];exact Y,λe=>absurd (by rw[b];rfl) e⟩,λp Z=>(X p Z).trans (jU.pD _ _ Z)⟩
 ·rename_i U
  have V:((jH r i c s).P i).L.st=9:=by simpa using U
  obtain⟨a,_⟩:=KB (jH r i c s) i c s i;exact⟨⟨by rw[a];exact Y,λ_=>by rw[a];exact V⟩,λp Z=>(X p Z).trans ((KB _ i c s p).2 Z)⟩
theorem Ci:∀(l:List (List UInt8)) {r:iy} (i:Nat),KC (r.P i)->KC ((r.takes i l).P i)/\∀p,p≠i->jU r (r.takes i l) p
 |[],r,i,h=>⟨h,λp _=>jU.refl r p⟩
 |t::l,r,i,h=>by
  show KC (((jT r i t).takes i l).P i)/\∀p,p≠i->jU r ((jT r i t).takes i l) p;have Z:KC ((jT r i t).P i)/\∀p,p≠i->jU r (jT r i t) p:=by
   cases t with
   |nil=>exact⟨h,λp _=>jU.refl r p⟩
   |cons c s=>exact D8 i c s h
  obtain⟨a,b⟩:=Ci l i Z.1;exact⟨a,λp Y=>(Z.2 p Y).trans (b p Y)⟩
theorem Ol(i:Nat)(l:List UInt8)(h:KC (r.P i)):KC ((r.recv i l).P i)/\∀p,p≠i->jU r (r.recv i l) p:=by
 unfold iy.recv;simp only;have Z:∀p,jU r (r.iE i {r.P i with rd:=(j2 (r.P i).rd l).2.2}) p:=λp=>jU.iE r i {r.P i with rd:=(j2 (r.P i).rd l).2.2} rfl rfl p;obtain⟨a,b⟩:=Ci (j2 (r.P i).rd l).1 (r:=r.iE i {r.P i with rd:=(j2 (r.P i).rd l).2.2}) i (h.congr (Z i).1 (Z i).2);exact⟨a,λp Y=>(Z p).trans (b p Y)⟩
theorem RU(r:iy)(i p:Nat):jU r (r.recv i []) p:=jU.iE r i _ rfl rfl p
theorem uE(p:jb):p.tick.L=(jB p.L).1:=by
 unfold jb.tick;rw[Ch]
theorem D9 {up:Bool} (i:Nat)(h:n8 up (r.P i)):n8 up ((r.iV i).P i)/\∀p,p≠i->jU r (r.iV i) p:=by
 have S:((iT r i).P i).L=(jB (r.P i).L).1:=by
  show(kA r.P i (r.P i).tick i).L=_;rw[ja,uE]
 have X:if up=true then r7 ((iT r i).P i).L.st=true else((iT r i).P i).L.st=1:=by
  rw[S];have:=h.st;split
  ·rename_i Y;rw[ag Y]at this;exact RT this
  ·rename_i Y;rw[ae Y]at this;rw[Oj this];exact this
 have V:∀p,p≠i->jU r (iT r i) p:=λp Z=>jU.wH r _ Z;rw[kO];split
 ·obtain⟨a,b⟩:=xP (iT r i) i nobody;exact⟨⟨by rw[a];exact X,λe=>absurd (by rw[b];rfl) e⟩,λp Z=>(V p Z).trans (jU.pD _ _ Z)⟩
 ·rename_i Q
  have T:((iT r i).P i).L.st=9:=by simpa using Q
  have U:∀(x:iy) (p:Nat),jU x (lI x i) p:=λx p=>by
   unfold lI;simp only;refine jU.iE x i _ ?_ ?_ p
   ·split
    ·exact(uD _ _).1.trans (uC _ _ _)
    ·exact uC _ _ _
   ·split
    ·exact(uD _ _).2.trans (pW _ _ _)
    ·exact pW _ _ _
  obtain⟨a,b⟩:=xP (iT r i) i (iH ((iT r i).P i).pe);obtain⟨c,d⟩:=U ((iT r i).meet i (iH ((iT r i).P i).pe)) i;exact⟨⟨by rw[c,a];exact X,λ_=>by rw[c,a];exact T⟩,λp Z=>(V p Z).trans ((jU.pD _ _ Z).trans (U _ p))⟩
theorem Cj {r:iy} {U:Nat->Bool}:∀q,(∀p,p<q->n8 (U p) (r.P p))->(∀p,p<q->n8 (U p) ((r.iW q).P p))/\∀p,q<=p->jU r (r.iW q) p
 |0,_=>⟨λp Z=>absurd Z dP,λp _=>jU.refl r p⟩
 |q+1,h=>by
  obtain⟨a,b⟩:=Cj (U:=U) q (λp Z=>h p dP);have Y:=b q (Nat.le_refl q);obtain⟨c,d⟩:=D9 (r:=r.iW q) q ((h q dP).congr Y.1 Y.2);refine⟨λp Z=> ?_,λp Z=>(b p dP).trans (d p dP)⟩;by_cases e:p=q
  ·subst e;exact c
  ·have:=d p e;exact(a p dP).congr this.1 this.2
theorem vf {up:Bool} (i:Nat)(h:n8 (!up) (r.P i)):n8 up ((r.iw i up).1.P i)/\(r.iw i up).2=0/\∀p,p≠i->jU r (r.iw i up).1 p:=by
 have Y:(ko (r.P i).L (if up=true then 0 else 1)).2.2=0/\(if up=true then r7 (ko (r.P i).L (if up=true then 0 else 1)).1.st=true else(ko (r.P i).L (if up=true then 0 else 1)).1.st=1):=by
  cases up
  ·exact ry (n8.up.1 h).1
  ·exact Bo (by simpa using h.st)
 have e:(r.P i).iw up=(({r.P i with L:=(ko (r.P i).L (if up=true then 0 else 1)).1,rd:=([],false,false)}:jb).say (ko (r.P i).L (if up=true then 0 else 1)).2.1,0):=by
  unfold jb.iw;simp only;rw[ae (by simp[Y.1])]
 unfold iy.iw;rw[e];simp only;rw[ae gN];obtain⟨x,hx⟩:=fP (({r.P i with L:=(ko (r.P i).L (if up=true then 0 else 1)).1,rd:=([],false,false)}:jb).say (ko (r.P i).L (if up=true then 0 else 1)).2.1);have Z:x.L=(ko (r.P i).L (if up=true then 0 else 1)).1:=by rw[<-hx,Ch]
 rw[hx];obtain⟨a,b⟩:=xP (r.iE i x) i nobody;have c:((r.iE i x).P i)=x:=by show kA r.P i x i=x;exact ja _ _ _
 refine⟨⟨by rw[a,c,Z];exact Y.2,λe=>absurd (by rw[b];rfl) e⟩,rfl,λp X=>(jU.wH r _ X).trans (jU.pD _ _ X)⟩
structure GN(y:iB):Prop where
 ends:∀c d,c<y.nc->d<2->n8 (y.C c).jr ((y.R ((y.C c).e d).1).P ((y.C c).e d).2)
 off:∀c d,c<y.nc->d<2->(y.C c).jr=false->(y.C c).on d=[]
structure Ends(y:iB):Prop where
 ds:∀c d c' d',c<y.nc->d<2->c'<y.nc->d'<2->(y.C c).e d=(y.C c').e d'->c=c'/\d=d'
 p3:∀c d,c<y.nc->d<2->((y.C c).e d).2<3
 rn:∀i,(y.R i).n=3 \/y.n<=i
 en:∀c d,c<y.nc->d<2->((y.C c).e d).1<y.n
theorem jN.oS {k:Nat} (h:jN y D k):Ends y:=⟨h.ds,λc d hc hd=>(h.en c d hc hd).2,λi=>by
 by_cases e:i<y.n
 ·exact .inl (h.rn i e).1
 ·exact .inr dP,λc d hc hd=>(h.en c d hc hd).1⟩
theorem GN.alike {y':iB} (h:GN y)(Y:y'.nc=y.nc)(hC:∀c,c<y.nc->(y'.C c).e=(y.C c).e/\(y'.C c).jr=(y.C c).jr/\((y.C c).jr=false->∀d,d<2->(y'.C c).on d=[]))
 (Z:∀i p,jU (y.R i) (y'.R i) p):GN y':=by
 refine⟨λc d hc hd=> ?_,λc d hc hd hf=> ?_⟩
 ·rw[Y]at hc;rw[(hC c hc).1,(hC c hc).2.1];exact(h.ends c d hc hd).congr (Z _ _).1 (Z _ _).2
 ·rw[Y]at hc;rw[(hC c hc).2.1]at hf;exact(hC c hc).2.2 hf d hd
theorem Ea(h:GN y)(c d:Nat)(hc:c<y.nc):GN (y.kN c d):=by
 obtain⟨s1,X,s3,s4,Y⟩:=mH y c d;refine h.alike X (λx hx=>⟨(Y x).1,(Y x).2,λhf e Z=> ?_⟩) (λi p=> ?_)
 ·show(if x=c then(y.C c).put d _ else y.C x).on e=[]
  by_cases ex:x=c
  ·rw[ag ex];subst ex;unfold pz.put;rw[ae (by simp[hf])];exact h.off x e hx Z hf
  ·rw[ae ex];exact h.off x e hx Z hf
 ·unfold jU;rw[B5];split<;>exact⟨rfl,rfl⟩
theorem Eb {y:iB} (h:GN y):∀k,k<=y.nc->GN (y.jW k)
 |0,_=>h
 |k+1,hk=>by
  have Y:=Eb h k dP;have Z:(y.jW k).nc=y.nc:=(jK y k).2.1;exact Ea (Ea Y k 0 (by rw[Z];omega)) k 1 (by show k<(y.jW k).nc;rw[Z];omega)
theorem GN.gather {y:iB} (h:GN y):GN y.gather:=by
 unfold iB.gather;have Y:=Eb h y.nc (Nat.le_refl _);obtain⟨e1,X,e3,Z⟩:=nN (y.jW y.nc) y.n;refine Y.alike X (λc hc=>⟨by rw[Z],by rw[Z],λhf d hd=>by rw[Z];exact Y.off c d hc hd hf⟩) (λi p=> ?_);rw[(wF (y.jW y.nc) i y.n).1];split<;>exact⟨rfl,rfl⟩
theorem GN.jg {y:iB} (h:GN y)(i:Nat)(r:iy)(Z:∀c d,c<y.nc->d<2->((y.C c).e d).1=i->n8 (y.C c).jr ((y.R i).P ((y.C c).e d).2)->n8 (y.C c).jr (r.P ((y.C c).e d).2)):GN (y.jg i r):=by
 refine⟨λc d hc hd=> ?_,h.off⟩;show n8 (y.C c).jr ((jy y.R i r ((y.C c).e d).1).P ((y.C c).e d).2);by_cases e:((y.C c).e d).1=i
 ·rw[e,ij];exact Z c d hc hd e (by have:=h.ends c d hc hd;rw[e]at this;exact this)
 ·rw[gW _ _ e];exact h.ends c d hc hd
theorem GN.iT(h:GN y)(X:Ends y)(qw:∀i p,i<y.n->p<3->(∀c d,c<y.nc->d<2->(y.C c).e d≠(i,p))->Idle ((y.R i).P p))(i:Nat)(hi:i<y.n):GN (y.jg i (y.R i).tick):=by
 classical
 have vE:(y.R i).n=3:=(X.rn i).resolve_right dP;obtain⟨U,M⟩:∃U:Nat->Bool,∀c d,c<y.nc->d<2->((y.C c).e d).1=i->U ((y.C c).e d).2=(y.C c).jr:=by
  refine⟨λp=>if h:∃c d,c<y.nc/\d<2/\(y.C c).e d=(i,p)then(y.C h.choose).jr else false,λc d hc hd Z=> ?_⟩;have hex:∃c' d',c'<y.nc/\d'<2/\(y.C c').e d'=(i,((y.C c).e d).2):=⟨c,d,hc,hd,by rw[<-Z]⟩
  show(if h:∃c' d',c'<y.nc/\d'<2/\(y.C c').e d'=(i,((y.C c).e d).2)then(y.C h.choose).jr else false)=_;rw[dif_pos hex];obtain⟨d',kh,j,G⟩:=hex.choose_spec;have:=(X.ds _ _ _ _ kh j hc hd (G.trans (by rw[<-Z]))).1;rw[this]
 have A:∀p,p<3->n8 (U p) ((y.R i).P p) \/ ∀c d,c<y.nc->d<2->(y.C c).e d≠(i,p):=λp _=>by
  by_cases hex:∃c d,c<y.nc/\d<2/\(y.C c).e d=(i,p)
  ·obtain⟨c,d,hc,hd,Z⟩:=hex;refine .inl ?_;have Y:=h.ends c d hc hd;have S:=M c d hc hd (by rw[Z]);rw[Z]at Y S;rw[S];exact Y
  ·exact .inr λc d hc hd Z=>hex ⟨c,d,hc,hd,Z⟩
 obtain⟨V,J⟩:∃V:Nat->Bool,V=λp=>if h:∃c d,c<y.nc/\d<2/\(y.C c).e d=(i,p)then U p else false:=⟨_,rfl⟩
 have T:∀p,p<3->n8 (V p) ((y.R i).P p):=λp H=>by
  rw[J];show n8 (if h:∃c d,c<y.nc/\d<2/\(y.C c).e d=(i,p)then U p else false) _;by_cases hex:∃c d,c<y.nc/\d<2/\(y.C c).e d=(i,p)
  ·rw[dif_pos hex];refine(A p H).resolve_right (λu=> ?_);obtain⟨c,d,hc,hd,Z⟩:=hex;exact u c d hc hd Z
  ·rw[dif_neg hex];have Q:=qw i p hi H (λc d hc hd Z=>hex ⟨c,d,hc,hd,Z⟩);exact⟨by simpa using Q.st,λe=>absurd (by rw[Q.pe];rfl) e⟩
 have t:=(Cj (r:=y.R i) (U:=V) 3 T).1;refine h.jg i _ (λc d hc hd Z _=> ?_);have E:=X.p3 c d hc hd;have Y:=t ((y.C c).e d).2 E;have hex:∃c' d',c'<y.nc/\d'<2/\(y.C c').e d'=(i,((y.C c).e d).2):=⟨c,d,hc,hd,by rw[<-Z]⟩
 have hv:V ((y.C c).e d).2=(y.C c).jr:=by
  rw[J];show(if h:∃c' d',c'<y.nc/\d'<2/\(y.C c').e d'=(i,((y.C c).e d).2)then U ((y.C c).e d).2 else false)=_;rw[dif_pos hex];exact M c d hc hd Z
 rw[hv]at Y;show n8 _ (((y.R i).iW (y.R i).n).P _);rw[vE];exact Y
theorem GN.jw {y:iB} (h:GN y)(M:Ends y)(c d k:Nat)(hc:c<y.nc)(hd:d<2):GN (y.jw c d k):=by
 have Q:GN (y.kG c {y.C c with on:=jy (y.C c).on d (((y.C c).on d).drop k)}):=by
  refine h.alike rfl (λx hx=> ?_) (λi p=>jU.refl _ _);show(if x=c then _ else y.C x).e=_/\(if x=c then _ else y.C x).jr=_/\(_->∀d',d'<2->(if x=c then _ else y.C x).on d'=[])
  by_cases e:x=c
  ·rw[ag e];subst e;refine⟨rfl,rfl,λhf d' Z=> ?_⟩;show jy (y.C x).on d _ d'=[]
   by_cases U:d'=d
   ·subst U;rw[ij,h.off x d' hx Z hf];simp
   ·rw[gW _ _ U];exact h.off x d' hx Z hf
  ·rw[ae e];exact⟨rfl,rfl,λhf d' Z=>h.off x d' hx Z hf⟩
 have T:∀x,((y.kG c {y.C c with on:=jy (y.C c).on d (((y.C c).on d).drop k)}).C x).e=(y.C x).e/\((y.kG c {y.C c with on:=jy (y.C c).on d (((y.C c).on d).drop k)}).C x).jr=(y.C x).jr:=λx=>by
  show(if x=c then _ else y.C x).e=_/\(if x=c then _ else y.C x).jr=_;by_cases e:x=c
  ·rw[ag e];subst e;exact⟨rfl,rfl⟩
  ·rw[ae e];exact⟨rfl,rfl⟩
 refine Q.jg _ _ (λx d' hx Z S X=> ?_);rw[(T x).1]at S X⊢;rw[(T x).2]at X⊢;have H:x<y.nc:=hx;have V:n8 (y.C x).jr ((y.R ((y.C c).e (1-d)).1).P ((y.C x).e d').2):=X;by_cases Y:(y.C c).jr=true
 ·have J:KC ((y.R ((y.C c).e (1-d)).1).P ((y.C c).e (1-d)).2):=by
   have:=h.ends c (1-d) hc dP;rw[Y]at this;exact n8.up.1 this
  obtain⟨a,b⟩:=Ol ((y.C c).e (1-d)).2 (((y.C c).on d).take k) J;by_cases e:((y.C x).e d').2=((y.C c).e (1-d)).2
  ·have:=(M.ds x d' c (1-d) H Z hc dP (by rw[cA];exact⟨S,e⟩)).1;rw[e,this,Y];exact n8.up.2 a
  ·exact V.congr (b _ e).1 (b _ e).2
 ·have hf:(y.C c).jr=false:=by simpa using Y
  rw[h.off c d hc hd hf];have:=RU (y.R ((y.C c).e (1-d)).1) ((y.C c).e (1-d)).2 ((y.C x).e d').2;rw[List.take_nil];exact V.congr this.1 this.2
theorem GN.jC {y:iB} (h:GN y)(t:Ends y)(c:Nat)(up:Bool)(hc:c<y.nc)(hu:(y.C c).jr= !up):GN (y.jC c up):=by
 obtain⟨Z,U⟩:=fP ((y.C c).e 0);obtain⟨Y,Q⟩:=fP ((y.C c).e 1);have jq:Z≠Y:=λe=>by
  have:=(t.ds c 0 c 1 hc dP hc dP (by rw[U,Q,e])).2;omega
 have h0:=h.ends c 0 hc dP;have h1:=h.ends c 1 hc dP;rw[U,hu]at h0;rw[Q,hu]at h1;obtain⟨G,_,b0⟩:=vf Z.2 h0;obtain⟨X,M⟩:∃X:pz,X={y.C c with jr:=up,on:=λ_=>[] }:=⟨_,rfl⟩
 have J:X.e=(y.C c).e:=by rw[M]
 have A:X.jr=up:=by rw[M]
 have u:∀d,X.on d=[] :=λd=>by rw[M]
 have hf:∀(z:iB) (d:Nat) (e:Nat×Nat),(z.C c).e d=e->z.lQ c d up=z.jg e.1 ((z.R e.1).iw e.2 up).1:=by
  intro z d e he;unfold iB.lQ;rw[he]
 have T:(y.kG c X).C c=X:=ij _ _ _;have hp:y.jC c up=((y.kG c X).jg Z.1 ((y.R Z.1).iw Z.2 up).1).jg Y.1 ((jy y.R Z.1 ((y.R Z.1).iw Z.2 up).1 Y.1).iw Y.2 up).1:=by
  unfold iB.jC;rw[<-M,hf (y.kG c X) 0 Z (by rw[T,J,U]),hf _ 1 Y (by show((y.kG c X).C c).e 1=Y;rw[T,J,Q])];rfl
 obtain⟨r1,j⟩:=fP (jy y.R Z.1 ((y.R Z.1).iw Z.2 up).1 Y.1);have H:∀p,(Y.1,p)≠Z->jU (y.R Y.1) r1 p:=λp tj=>by
  rw[<-j];by_cases e:Y.1=Z.1
  ·rw[e,ij];exact b0 p (λV=>tj (by rw[cA];exact⟨e,V⟩))
  ·rw[gW _ _ e];exact jU.refl _ _
 have YG:n8 (!up) (r1.P Y.2):=h1.congr (H Y.2 (λe=>jq e.symm)).1 (H Y.2 (λe=>jq e.symm)).2;obtain⟨a1,_,b1⟩:=vf Y.2 YG;rw[hp,j];have E:∀i p,n8 up ((jy (jy y.R Z.1 ((y.R Z.1).iw Z.2 up).1) Y.1 (r1.iw Y.2 up).1 i).P p) \/((i,p)≠Z/\(i,p)≠Y):=λi p=>by
  by_cases x1:(i,p)=Y
  ·left;rw[<-x1]at a1⊢;rw[ij];exact a1
  ·by_cases x0:(i,p)=Z
   ·left;by_cases e:i=Y.1
    ·rw[e,ij];have VR:p≠Y.2:=λV=>x1 (by rw[cA];exact⟨e,V⟩);have hr:r1.P p=((y.R Z.1).iw Z.2 up).1.P Z.2:=by
      rw[<-j,<-e,<-x0,ij]
     exact(G.congr (by rw[hr]) (by rw[hr]):n8 up (r1.P p)).congr (b1 p VR).1 (b1 p VR).2
    ·rw[gW _ _ e,<-x0,ij];rw[<-x0]at G;exact G
   ·exact .inr ⟨x0,x1⟩
 have j9:∀i p,(i,p)≠Z->(i,p)≠Y->jU (y.R i) (jy (jy y.R Z.1 ((y.R Z.1).iw Z.2 up).1) Y.1 (r1.iw Y.2 up).1 i) p:=λi p x0 x1=>by
  by_cases e:i=Y.1
  ·subst e;rw[ij];exact(H p x0).trans (b1 p (λV=>x1 (by rw[cA];exact⟨rfl,V⟩)))
  ·rw[gW _ _ e];by_cases e':i=Z.1
   ·subst e';rw[ij];exact b0 p (λV=>x0 (by rw[cA];exact⟨rfl,V⟩))
   ·rw[gW _ _ e'];exact jU.refl _ _
 refine⟨λx d hx hd=> ?_,λx d hx hd hf=> ?_⟩
 ·show n8 ((if x=c then X else y.C x):pz).jr ((jy (jy y.R Z.1 ((y.R Z.1).iw Z.2 up).1) Y.1 (r1.iw Y.2 up).1 (((if x=c then X else y.C x):pz).e d).1).P (((if x=c then X else y.C x):pz).e d).2);have xE:x<y.nc:=hx;by_cases e:x=c
  ·rw[ag e,J,A];refine(E _ _).resolve_right (λhn=> ?_);have:d=0 \/d=1:=dP;rcases this with rfl|rfl
   ·exact hn.1 U
   ·exact hn.2 Q
  ·rw[ae e];have n0:(y.C x).e d≠Z:=λV=>e (t.ds x d c 0 xE hd hc dP (by rw[U];exact V)).1;have n1:(y.C x).e d≠Y:=λV=>e (t.ds x d c 1 xE hd hc dP (by rw[Q];exact V)).1;have:=j9 ((y.C x).e d).1 ((y.C x).e d).2 n0 n1;exact(h.ends x d xE hd).congr this.1 this.2
 ·have S:((if x=c then X else y.C x):pz).jr=false:=hf;show((if x=c then X else y.C x):pz).on d=[]
  by_cases e:x=c
  ·rw[ag e];exact u d
  ·rw[ae e]at S⊢;exact h.off x d hx hd S
theorem Ends.jC {y:iB} (h:Ends y)(c:Nat)(up:Bool):Ends (y.jC c up):=by
 obtain⟨g1,V,g3,g4,Y⟩:=og y c up;refine⟨λa d a' d' Z hd ha' T e=> ?_,λa d Z hd=> ?_,λi=> ?_,λa d Z hd=> ?_⟩
 ·rw[(Y a).1,(Y a').1]at e;rw[V]at Z ha';exact h.ds a d a' d' Z hd ha' T e
 ·rw[(Y a).1];rw[V]at Z;exact h.p3 a d Z hd
 ·have U:∀(x:iB) (d:Nat),(∀i,(x.R i).n=3 \/x.n<=i)->∀i,((x.lQ c d up).R i).n=3 \/(x.lQ c d up).n<=i:=λx d hx i=>by
   show(jy x.R ((x.C c).e d).1 _ i).n=3 \/x.n<=i;by_cases e:i=((x.C c).e d).1
   ·rw[e,ij,(jm.iw _ _ up).n];exact hx _
   ·rw[gW _ _ e];exact hx i
  unfold iB.jC;obtain⟨X,S⟩:∃X:pz,X={y.C c with jr:=up,on:=λ_=>[] }:=⟨_,rfl⟩
  rw[<-S];exact U _ 1 (U (y.kG c X) 0 h.rn) i
 ·rw[(Y a).1,g1];rw[V]at Z;exact h.en a d Z hd
theorem GN.jo(up:Bool):∀(l:List Nat) {y:iB},GN y->Ends y->l.Nodup->(∀c∈l,c<y.nc/\(y.C c).jr= !up)->GN (y.jo up l)/\Ends (y.jo up l)/\∀x,((y.jo up l).C x).jr=if x∈l then up else(y.C x).jr
 |[],y,h,hE,_,_=>⟨h,hE,λx=>by simp[iB.jo]⟩
 |c::l,y,h,hE,ye,hl=>by
  obtain⟨g1,U,g3,g4,V⟩:=og y c up;have hc:=hl c gN;have X:=bK.1 ye;obtain⟨a,b,d⟩:=GN.jo up l (h.jC hE c up hc.1 hc.2) (hE.jC c up) X.2 (λx hx=>by
   have T:x≠c:=λe=>X.1 (e▸hx);rw[U,(V x).2,ae T];exact hl x (by simp[hx]))
  refine⟨a,b,λx=> ?_⟩;show(((y.jC c up).jo up l).C x).jr=_;rw[d x,(V x).2];by_cases Z:x∈l
  ·rw[ag Z,ag (by simp[Z])]
  ·by_cases Y:x=c
   ·rw[ae Z,ag Y,ag (by simp[Y])]
   ·rw[ae Z,ae Y,ae (by simp[Z,Y])]
theorem GN.restart {y:iB} {D:Nat} (h:GN y)(A:jN y D 0)(i:Int):GN (y.restart i).1/\∀x,x<y.nc->((y.restart i).1.C x).jr=(y.C x).jr:=by
 unfold iB.restart;split
 ·exact⟨h,λ_ _=>rfl⟩
 ·rename_i hi
  obtain⟨k,E⟩:=fP ((i-1).toNat);rw[E];obtain⟨l,hl⟩:=fP (y.kH k);rw[hl];have X:∀c,c∈l↔c<y.nc/\(y.C c).jr=true/\(((y.C c).e 0).1=k \/((y.C c).e 1).1=k):=λc=>by
   rw[<-hl];unfold iB.kH;simp[List.mem_filter]
  have Q:l.Nodup:=by
   rw[<-hl];exact dg cY cB
  obtain⟨a,b,d⟩:=GN.jo false l h A.oS Q (λc hc=>⟨((X c).1 hc).1,((X c).1 hc).2.1⟩);obtain⟨t,V,s3,s4,S⟩:=l7 false l y;obtain⟨Z,M⟩:=fP (y.jo false l);rw[M]at a b d t V s3 s4 S⊢;have J:GN (Z.jg k (jt i 3 (y.ms k))):=by
   refine a.jg k _ (λc e hc he heq _=> ?_);have u:c<y.nc:=by rw[V]at hc;exact hc
   have hf:(Z.C c).jr=false:=by
    rw[d c];by_cases Y:c∈l
    ·rw[ag Y]
    ·rw[ae Y];by_cases T:(y.C c).jr=true
     ·exfalso;rw[S c]at heq;refine Y ((X c).2 ⟨u,T,?_⟩);have:e=0 \/e=1:=dP;rcases this with rfl|rfl
      ·exact .inl heq
      ·exact .inr heq
     ·simpa using T
   rw[hf];have U:=pA i (y.ms k) ((Z.C c).e e).2;exact⟨by simpa using U.st,λe=>absurd (by rw[U.pe];rfl) e⟩
  have b2:Ends (Z.jg k (jt i 3 (y.ms k))):=⟨b.ds,b.p3,λj=>by
   show(jy Z.R k _ j).n=3 \/Z.n<=j;by_cases e:j=k
   ·rw[e,ij];exact .inl rfl
   ·rw[gW _ _ e];exact b.rn j,b.en⟩
  obtain⟨H,_,G⟩:=GN.jo true l J b2 Q (λc hc=>⟨by show c<Z.nc;rw[V];exact((X c).1 hc).1,by show(Z.C c).jr=_;rw[d c,ag hc];rfl⟩);refine⟨H.gather,λx hx=> ?_⟩;rw[((lg _).2.2.2 x).2,G x];show(if x∈l then true else(Z.C x).jr)=_;rw[d x];by_cases Y:x∈l
  ·rw[ag Y,((X x).1 Y).2.1]
  ·rw[ae Y,ae Y]
theorem GN.iw {y:iB} {D:Nat} (h:GN y)(Y:jN y D 0)(i:Int)(up:Bool):GN (y.iw i up).1/\∀x,((y.iw i up).1.C x).jr=if(x:Int)=i/\x<y.nc then up else(y.C x).jr:=by
 unfold iB.iw;split
 ·rename_i hi
  exact⟨h,λx=>by rw[ae dP]⟩
 ·rename_i hi
  split
  ·rename_i Z
   refine⟨h,λx=> ?_⟩;split
   ·rename_i hx
    have:x=i.toNat:=dP;rw[this,Z]
   ·rfl
  ·rename_i Z
   refine⟨(h.jC Y.oS i.toNat up dP (by cases hv:(y.C i.toNat).jr<;>cases up<;>simp_all)).gather,λx=> ?_⟩;rw[((lg _).2.2.2 x).2,((og y i.toNat up).2.2.2.2 x).2];by_cases e:x=i.toNat
   ·rw[ag e,ag dP]
   ·rw[ae e,ae dP]
theorem GN.tick {y:iB} {D:Nat} (h:GN y)(Z:jN y D 0)(i:Int):GN (y.tick i).1/\∀x,((y.tick i).1.C x).jr=(y.C x).jr:=by
 unfold iB.tick;split
 ·exact⟨h,λ_=>rfl⟩
 ·exact⟨(h.iT Z.oS Z.idle (i-1).toNat dP).gather,λx=>((lg _).2.2.2 x).2⟩
theorem Ck(y:iB)(c d k x:Nat):((y.jw c d k).C x).jr=(y.C x).jr:=by
 show((if x=c then _ else y.C x):pz).jr=_;by_cases e:x=c
 ·rw[ag e];subst e;rfl
 ·rw[ae e]
theorem GN.deliver {y:iB} {D:Nat} (h:GN y)(Z:jN y D 0)(i d m:Int):GN (y.deliver i d m).1/\∀x,((y.deliver i d m).1.C x).jr=(y.C x).jr:=by
 unfold iB.deliver;split
 ·exact⟨h,λ_=>rfl⟩
 ·exact⟨(h.jw Z.oS _ _ _ dP dP).gather,λx=>by rw[((lg _).2.2.2 x).2,Ck]⟩
theorem GN.send {y:iB} (h:GN y)(f t:Int)(tx:List UInt8):GN (y.send f t tx).1/\∀x,((y.send f t tx).1.C x).jr=(y.C x).jr:=by
 unfold iB.send;split
 ·exact⟨h,λ_=>rfl⟩
 ·split
  ·exact⟨h,λ_=>rfl⟩
  ·refine⟨GN.gather (h.jg _ _ (λc d hc hd he Z=> ?_)),λx=>((lg _).2.2.2 x).2⟩;have:∀(r:iy) (p:Nat),jU r (jR r t tx).1 p:=λr p=>by
    unfold jR;split
    ·exact jU.refl r p
    ·exact jU.send r (t,8,tx) p
   exact Z.congr (this _ _).1 (this _ _).2
theorem GN.iW {y:iB} {D:Nat} (h:GN y)(Y:jN y D 0)(Z:D<=800000000):∀q,q<=6->GN (y.iW q)
 |0,_=>h
 |q+1,hq=>((GN.iW h Y Z q dP).tick (Y.iW Z q dP) ((q:Int)+1)).1
theorem GN.j6 {y:iB} {D:Nat} (h:GN y)(X:jN y D 0)(Y:D<=890000000):∀q,q<=9->GN (y.j6 q)
 |0,_=>h
 |q+1,hq=>by
  have Z:=X.j6 Y q dP;have V:=GN.j6 h X Y q dP;exact((V.deliver Z (q:Int) 0 2000).1.deliver (Z.deliver dP (q:Int) 0 2000) (q:Int) 1 2000).1
theorem GN.turns {y:iB} {D:Nat} (h:GN y)(Z:jN y D 0)(Y:D<=810000000):∀t,t<=12->GN (y.turns t)
 |0,_=>h
 |t+1,ht=>(GN.turns h Z Y t dP).j6 (Z.turns Y t dP) dP y.nc Z.c9
theorem GN.round {y:iB} {D:Nat} (h:GN y)(Z:jN y D 0)(Y:D<=800000000):GN y.round:=
 (h.iW Z Y y.n Z.n6).turns (Z.iW Y y.n Z.n6) (by have:=Z.n6;omega) 12 (Nat.le_refl _)
def Fj(v:AV):Bool:=v.kind.toList==[112,108,117,103]
theorem GN.act(h:GN y)(Z:jN y D 0)(V:D<=800000000)(v:AV):GN (qX y v)/\∀x,x<y.nc->((qX y v).C x).jr=if Fj v=true/\(x:Int)=v.a then v.b==1 else(y.C x).jr:=by
 unfold qX;by_cases k1:(v.kind.toList==[112,108,117,103])=true
 ·rw[ag k1];obtain⟨a,b⟩:=h.iw Z v.a (v.b==1);refine⟨a,λx hx=> ?_⟩;rw[b x];have Y:Fj v=true:=k1;by_cases e:(x:Int)=v.a
  ·rw[ag ⟨e,hx⟩,ag ⟨Y,e⟩]
  ·rw[ae (λh=>e h.1),ae (λh=>e h.2)]
 ·rw[ae k1];have Y:∀x:Nat,¬(Fj v=true/\(x:Int)=v.a):=λx e=>k1 e.1;have U:∀z:iB,(GN z/\∀x,x<y.nc->(z.C x).jr=(y.C x).jr)->GN z/\∀x,x<y.nc->(z.C x).jr=if Fj v=true/\(x:Int)=v.a then v.b==1 else(y.C x).jr:=λz X=>⟨X.1,λx hx=>by rw[ae (Y x)];exact X.2 x hx⟩
  apply U;split
  ·obtain⟨a,b⟩:=h.tick Z v.a;exact⟨a,λx _=>b x⟩
  ·split
   ·obtain⟨a,b⟩:=h.deliver Z v.a v.b v.c;exact⟨a,λx _=>b x⟩
   ·split
    ·exact h.restart Z v.a
    ·split
     ·obtain⟨a,b⟩:=h.send v.a v.b v.s.data.toList;exact⟨a,λx _=>b x⟩
     ·split
      ·exact⟨h.round Z V,λx _=>((sT y).2.2.2 x).2⟩
      ·exact⟨h,λ_ _=>rfl⟩
theorem Cl(many:Nat)(L:List oH):GN (jx many L):=by
 refine⟨λc d _ _=> ?_,λc d _ _ _=>rfl⟩;have Z:=pA (((((jx many L).C c).e d).1:Int)+1) (m8 L (((jx many L).C c).e d).1) (((jx many L).C c).e d).2;have Y:((jx many L).R (((jx many L).C c).e d).1).P (((jx many L).C c).e d).2=(jt (((((jx many L).C c).e d).1:Int)+1) 3 (m8 L (((jx many L).C c).e d).1)).P (((jx many L).C c).e d).2:=rfl;rw[Y];exact⟨by rw[show((jx many L).C c).jr=false from rfl,ae dS];exact Z.st,λe=>absurd (by
  show((jt _ 3 _).P _).pe.who=0;rw[Z.pe];rfl) e⟩
