import Derived.Test.YtieklnlbljejdaaGreatDoorG29
open List renaming range → gJ
namespace Go.Proofs.YtieklnlbljejdaaGreatDoor
open Go.RowKit St
namespace Rt
variable {D i:Nat} {p q:jF} {r:iY} {s:LS} {y:jc}
theorem VX(c:UInt8)(s:LS):(pg c s).st=s.st:=by
 unfold pg
 repeat' split
 all_goals rfl
theorem M4:∀(L:List UInt8) (s:LS),(ph L s).st=s.st
 |[],_=>rfl
 |c::r,s=>by
  show(ph r (pg c s)).st=s.st;rw[M4 r,VX]
theorem VY(s:LS)(nx:Int):(s.next nx).st=nx:=by
 unfold LS.next;split<;>rfl
theorem vt(s:LS)(ev:Int):(nJ s ev).st=(jt s.st ev).2.1:=by
 unfold nJ;rw[M4,VY]
def ti(s:Int):Bool:=s==3||(decide (5<=s)&&decide (s<=9))
theorem Bm {s:Int} (h:ti s=true):∃k:Nat,s=k/\k<10:=by
 refine⟨s.toNat,?_⟩;simp only[ti,Bool.or_eq_true,beq_iff_eq,Bool.and_eq_true,decide_eq_true_eq]at h;omega
theorem ZQ:((gJ 12).all λe=>(gJ 10).all λs=> !(decide (4<=e)&&ti (s:Int)&& ((lh s e).2.2==0))||ti (lh s e).2.1)=true:=by decide+kernel
theorem VZ {e s:Nat} (he:e<12)(h4:4<=e)(hs:s<10)(hu:ti (s:Int)=true)(h0:(lh s e).2.2=0):ti (lh s e).2.1=true:=by
 have h1:=bk.1 (bk.1 ZQ e (a7.2 he)) s (a7.2 hs);have b4:decide (4<=e)=true:=by simpa using h4
 have b7:((lh s e).2.2==0)=true:=by simpa using h0
 rw[b4,hu,b7]at h1;simpa using h1
theorem CX(e:Nat)(he:e<12)(h4:4<=e)(a:kZ)(h:ti s.st=true):ti (rN s e a).1.st=true:=by
 obtain⟨k,hk,zt⟩:=Bm h;by_cases h0:(jt s.st e).2.2=0
 ·rw[sv a h0];show ti (nJ s e).st=true;rw[vt];rw[hk]at h h0⊢;rw[m7 k e zt he]at h0⊢;exact VZ he h4 zt h h0
 ·rw[uJ a h0];exact h
theorem V5(s:LS)(code:Int)(os:List j2):(s.tell code os).st=s.st:=by
 unfold LS.tell;split<;>rfl
theorem S9(s:LS)(os:List j2):(s.sized os).st=s.st:=by
 unfold LS.sized;split<;>rfl
theorem V6(p:kZ)(h:ti s.st=true):ti (j4 s p).1.st=true:=by
 unfold j4;split
 ·exact h
 ·split
  ·unfold sQ;split
   ·split
    ·rw[S9];exact CX 6 eH eH _ h
    ·exact CX 6 eH eH _ h
   ·exact CX 7 eH eH _ h
  ·split
   ·exact CX 10 eH eH _ h
   ·split
    ·exact CX 11 eH eH _ h
    ·unfold sy;split
     ·exact h
     ·split
      ·split
       ·exact h
       ·exact CX 8 eH eH _ h
      ·exact CX 9 eH eH _ (by rw[V5];exact h)
theorem Jm:((gJ 10).all λs=> !(ti (s:Int)&&decide (4<=s)&&decide (s<=8))||(ti (lh s 4).2.1&&ti (lh s 5).2.1))=true:=by decide+kernel
theorem Ta(h:ti s.st=true):ti (kE s).st=true:=by
 obtain⟨k,hk,zt⟩:=Bm h;unfold kE;split
 ·exact h
 ·rename_i hr
  have Xb:4<=k/\k<=8:=by
   rw[hk]at hr;simp at hr;omega
  have h1:=bk.1 Jm k (a7.2 zt);rw[<-hk,h]at h1;simp[Xb.1,Xb.2]at h1;split
  ·exact h
  ·split
   ·rw[vt];show ti (jt s.st 4).2.1=true;rw[hk,show(4:Int)=((4:Nat):Int)from rfl,m7 k 4 zt eH];exact h1.1
   ·rw[vt];show ti (jt s.st 5).2.1=true;rw[hk,show(5:Int)=((5:Nat):Int)from rfl,m7 k 5 zt eH];exact h1.2
theorem Jn:((gJ 10).all λs=> !(ti (s:Int))||((lh s 1).2.2==0&& (lh s 1).2.1==1))=true:=by decide+kernel
theorem rZ(h:ti s.st=true):(k7 s 1).2.2=0/\(k7 s 1).1.st=1:=by
 obtain⟨k,hk,zt⟩:=Bm h;have h1:=bk.1 Jn k (a7.2 zt);rw[<-hk,h]at h1;simp at h1;have e0:(jt s.st 1).2.2=0:=by
  rw[hk,show(1:Int)=((1:Nat):Int)from rfl,m7 k 1 zt eH];exact h1.1
 have e:k7 s 1=(nJ s 1,oV s 1 (0,0,[]),0):=by
  unfold k7;rw[ag iC,sv _ e0]
 rw[e];refine⟨rfl,?_⟩;show(nJ s 1).st=1;rw[vt,hk,show(1:Int)=((1:Nat):Int)from rfl,m7 k 1 zt eH];exact h1.2
theorem Cn(h:s.st=1):(k7 s 0).2.2=0/\ti (k7 s 0).1.st=true:=by
 have e0:(jt s.st 0).2.2=0:=by rw[h];decide+kernel
 have e:k7 s 0=(nJ s 0,oV s 0 (0,0,[]),0):=by
  unfold k7;rw[ag iC,sv _ e0]
 rw[e];refine⟨rfl,?_⟩;show ti (nJ s 0).st=true;rw[vt,h];decide+kernel
theorem Tb(h:ti s.st=true):ti (j3 s).1.st=true:=by
 have h1:=Ta h;unfold j3;split
 ·exact(Cn (rZ h1).2).2
 ·exact h1
theorem Pm(h:s.st=1):(j3 s).1=s:=by
 have e1:kE s=s:=by unfold kE;simp[h]
 unfold j3;rw[e1];simp[h]
structure oK(up:Bool)(p:jF):Prop where
 st:if up=true then ti p.L.st=true else p.L.st=1
 gate:p.pe.who≠0->p.L.st=9
theorem oK.congr {up:Bool} (h:oK up p)(hL:q.L=p.L)(hp:q.pe=p.pe):oK up q:=⟨by rw[hL];exact h.st,by rw[hL,hp];exact h.gate⟩
theorem vu(p:jF)(c:UInt8)(s:List UInt8):(p.put c s).L=p.L:=by
 unfold jF.put
 repeat' split
 all_goals rfl
theorem CY:∀(l:List kZ) (p:jF),(p.say l).L=p.L
 |[],_=>rfl
 |q::r,p=>by
  show((if jW q.1 q.2.1 q.2.2=0 then p.put 76 (lQ q.1 q.2.1 q.2.2)else p).say r).L=_;rw[CY r];split
  ·exact vu _ _ _
  ·rfl
theorem vv:∀(l:List (Int×PS)) (p:jF),(p.kA l).L=p.L/\(p.kA l).pe=p.pe
 |[],_=>⟨rfl,rfl⟩
 |q::r,p=>by
  obtain⟨h1,h2⟩:=vv r (p.put 83 (sj q.1 q.2.1 q.2.2));exact⟨h1.trans (vu _ _ _),h2.trans (qG _ _ _)⟩
def kh(r r':iY)(p:Nat):Prop:=(r'.P p).L=(r.P p).L/\(r'.P p).pe=(r.P p).pe
theorem kh.refl(r:iY)(p:Nat):kh r r p:=⟨rfl,rfl⟩
theorem kh.trans {a b c:iY} {p:Nat} (h:kh a b p)(g:kh b c p):kh a c p:=⟨g.1.trans h.1,g.2.trans h.2⟩
theorem kh.wq {r':iY} (h:r'.P=r.P)(p:Nat):kh r r' p:=by unfold kh;rw[h];exact⟨rfl,rfl⟩
theorem kh.jd(r:iY)(i:Nat)(q:jF)(hL:q.L=(r.P i).L)(hp:q.pe=(r.P i).pe)(p:Nat):kh r (r.jd i q) p:=by
 show(k8 r.P i q p).L=_/\(k8 r.P i q p).pe=_;by_cases e:p=i
 ·subst e;rw[jz];exact⟨hL,hp⟩
 ·rw[ju _ _ e];exact⟨rfl,rfl⟩
theorem kh.xy(r:iY)(q:jF) {p:Nat} (h:p≠i):kh r (r.jd i q) p:=by
 show(k8 r.P i q p).L=_/\(k8 r.P i q p).pe=_;rw[ju _ _ h];exact⟨rfl,rfl⟩
theorem kh.qe(r:iY)(q:ln) {p:Nat} (h:p≠i):kh r (r.meet i q) p:=by
 unfold kh;rw[(l9 r i q).2.2.2,ju _ _ h];exact⟨rfl,rfl⟩
theorem yn(r:iY)(i:Nat)(q:ln):((r.meet i q).P i).L=(r.P i).L/\((r.meet i q).P i).pe=q:=by
 rw[(l9 r i q).2.2.2,jz];exact⟨rfl,rfl⟩
theorem kh.send(r:iY)(t:tV)(p:Nat):kh r (r.send t) p:=by
 unfold iY.send;split
 ·exact kh.wq rfl p
 ·split
  ·exact kh.wq rfl p
  ·exact kh.jd _ _ _ (vu _ _ _) (qG _ _ _) p
theorem kh.state(r:iY)(i:Nat)(l:List UInt8)(p:Nat):kh r (jK r i l) p:=by
 unfold jK;simp only;split
 ·exact kh.refl r p
 ·split
  ·exact kh.wq (nt _ _).2.2.2 p
  ·split
   ·exact kh.jd _ i _ (vu _ _ _) (qG _ _ _) p
   ·exact kh.wq rfl p
theorem Lw(r:iY)(i:Nat)(c:UInt8)(s:List UInt8)(p:Nat):((mJ r i c s).P p).L=(r.P p).L/\(p≠i->kh r (mJ r i c s) p):=by
 unfold mJ;split
 ·split
  ·refine⟨?_,λh=>kh.qe r _ h⟩;by_cases e:p=i
   ·subst e;exact(yn r p _).1
   ·exact(kh.qe r _ e).1
  ·exact⟨rfl,λ_=>kh.refl r p⟩
 ·split
  ·exact⟨(kh.state r i s p).1,λ_=>kh.state r i s p⟩
  ·split
   ·have h:kh r (kO r i s) p:=by
     unfold kO;simp only;split<;>exact kh.wq rfl p
    exact⟨h.1,λ_=>h⟩
   ·split
    ·have h:kh r (qw r s) p:=by
      unfold qw;split
      ·exact kh.send _ _ p
      ·exact kh.refl r p
     exact⟨h.1,λ_=>h⟩
    ·exact⟨rfl,λ_=>kh.refl r p⟩
def Lx(p:jF):Prop:=ti p.L.st=true/\(p.pe.who≠0->p.L.st=9)
theorem oK.up:oK true p↔Lx p:=⟨λh=>⟨by simpa using h.st,h.gate⟩,λh=>⟨by simpa using h.1,h.2⟩⟩
theorem Lx.congr(h:Lx p)(hL:q.L=p.L)(hp:q.pe=p.pe):Lx q:=by
 unfold Lx;rw[hL,hp];exact h
theorem Pn(s:List UInt8)(h:ti p.L.st=true):ti (p.packet s).L.st=true:=by
 unfold jF.packet;simp only;split
 ·rw[CY];exact V6 _ h
 ·exact h
theorem EX(i:Nat)(c:UInt8)(s:List UInt8)(h:Lx (r.P i)):Lx ((r.take i c s).P i)/\∀p,p≠i->kh r (r.take i c s) p:=by
 have h1:ti ((jY r i c s).P i).L.st=true:=by
  unfold jY;split
  ·show ti (k8 r.P i _ i).L.st=true;rw[jz];exact Pn s h.1
  ·exact h.1
 have h2:∀p,p≠i->kh r (jY r i c s) p:=λp hp=>by
  unfold jY;split
  ·exact kh.xy r _ hp
  ·exact kh.refl r p
 rw[lF];split
 ·obtain⟨a,b⟩:=yn (jY r i c s) i nobody;refine⟨⟨by rw[a];exact h1,λe=>absurd (by rw[b];rfl) e⟩,λp hp=>(h2 p hp).trans (kh.qe _ _ hp)⟩
 ·rename_i h9
  have ZB:((jY r i c s).P i).L.st=9:=by simpa using h9
  obtain⟨a,_⟩:=Lw (jY r i c s) i c s i;exact⟨⟨by rw[a];exact h1,λ_=>by rw[a];exact ZB⟩,λp hp=>(h2 p hp).trans ((Lw _ i c s p).2 hp)⟩
theorem CZ:∀(l:List (List UInt8)) {r:iY} (i:Nat),Lx (r.P i)->Lx ((r.takes i l).P i)/\∀p,p≠i->kh r (r.takes i l) p
 |[],r,i,h=>⟨h,λp _=>kh.refl r p⟩
 |t::l,r,i,h=>by
  show Lx (((j7 r i t).takes i l).P i)/\∀p,p≠i->kh r ((j7 r i t).takes i l) p;have h1:Lx ((j7 r i t).P i)/\∀p,p≠i->kh r (j7 r i t) p:=by
   cases t with
   |nil=>exact⟨h,λp _=>kh.refl r p⟩
   |cons c s=>exact EX i c s h
  obtain⟨a,b⟩:=CZ l i h1.1;exact⟨a,λp hp=>(h1.2 p hp).trans (b p hp)⟩
theorem Po(i:Nat)(l:List UInt8)(h:Lx (r.P i)):Lx ((r.recv i l).P i)/\∀p,p≠i->kh r (r.recv i l) p:=by
 unfold iY.recv;simp only;have h1:∀p,kh r (r.jd i {r.P i with rd:=(kx (r.P i).rd l).2.2}) p:=λp=>kh.jd r i {r.P i with rd:=(kx (r.P i).rd l).2.2} rfl rfl p;obtain⟨a,b⟩:=CZ (kx (r.P i).rd l).1 (r:=r.jd i {r.P i with rd:=(kx (r.P i).rd l).2.2}) i (h.congr (h1 i).1 (h1 i).2);exact⟨a,λp hp=>(h1 p).trans (b p hp)⟩
theorem Tc(r:iY)(i p:Nat):kh r (r.recv i []) p:=kh.jd r i _ rfl rfl p
theorem vw(p:jF):p.tick.L=(j3 p.L).1:=by
 unfold jF.tick;rw[CY]
theorem EY {up:Bool} (i:Nat)(h:oK up (r.P i)):oK up ((r.jx i).P i)/\∀p,p≠i->kh r (r.jx i) p:=by
 have e1:((jn r i).P i).L=(j3 (r.P i).L).1:=by
  show(k8 r.P i (r.P i).tick i).L=_;rw[jz,vw]
 have h1:if up=true then ti ((jn r i).P i).L.st=true else((jn r i).P i).L.st=1:=by
  rw[e1];have:=h.st;split
  ·rename_i hu;rw[ag hu]at this;exact Tb this
  ·rename_i hu;rw[ae hu]at this;rw[Pm this];exact this
 have h2:∀p,p≠i->kh r (jn r i) p:=λp hp=>kh.xy r _ hp;rw[k9];split
 ·obtain⟨a,b⟩:=yn (jn r i) i nobody;exact⟨⟨by rw[a];exact h1,λe=>absurd (by rw[b];rfl) e⟩,λp hp=>(h2 p hp).trans (kh.qe _ _ hp)⟩
 ·rename_i h9
  have ZB:((jn r i).P i).L.st=9:=by simpa using h9
  have ht:∀(x:iY) (p:Nat),kh x (lE x i) p:=λx p=>by
   unfold lE;simp only;refine kh.jd x i _ ?_ ?_ p
   ·split
    ·exact(vv _ _).1.trans (vu _ _ _)
    ·exact vu _ _ _
   ·split
    ·exact(vv _ _).2.trans (qG _ _ _)
    ·exact qG _ _ _
  obtain⟨a,b⟩:=yn (jn r i) i (jg ((jn r i).P i).pe);obtain⟨c,d⟩:=ht ((jn r i).meet i (jg ((jn r i).P i).pe)) i;exact⟨⟨by rw[c,a];exact h1,λ_=>by rw[c,a];exact ZB⟩,λp hp=>(h2 p hp).trans ((kh.qe _ _ hp).trans (ht _ p))⟩
theorem C2 {r:iY} {U:Nat->Bool}:∀q,(∀p,p<q->oK (U p) (r.P p))->(∀p,p<q->oK (U p) ((r.jB q).P p))/\∀p,q<=p->kh r (r.jB q) p
 |0,_=>⟨λp hp=>absurd hp eE,λp _=>kh.refl r p⟩
 |q+1,h=>by
  obtain⟨a,b⟩:=C2 (U:=U) q (λp hp=>h p eE);have hq:=b q (Nat.le_refl q);obtain⟨c,d⟩:=EY (r:=r.jB q) q ((h q eE).congr hq.1 hq.2);refine⟨λp hp=> ?_,λp hp=>(b p eE).trans (d p eE)⟩;by_cases e:p=q
  ·subst e;exact c
  ·have:=d p e;exact(a p eE).congr this.1 this.2
theorem vS {up:Bool} (i:Nat)(h:oK (!up) (r.P i)):oK up ((r.iW i up).1.P i)/\(r.iW i up).2=0/\∀p,p≠i->kh r (r.iW i up).1 p:=by
 have h1:(k7 (r.P i).L (if up=true then 0 else 1)).2.2=0/\(if up=true then ti (k7 (r.P i).L (if up=true then 0 else 1)).1.st=true else(k7 (r.P i).L (if up=true then 0 else 1)).1.st=1):=by
  cases up
  ·exact rZ (oK.up.1 h).1
  ·exact Cn (by simpa using h.st)
 have e:(r.P i).iW up=(({r.P i with L:=(k7 (r.P i).L (if up=true then 0 else 1)).1,rd:=([],false,false)}:jF).say (k7 (r.P i).L (if up=true then 0 else 1)).2.1,0):=by
  unfold jF.iW;simp only;rw[ae (by simp[h1.1])]
 unfold iY.iW;rw[e];simp only;rw[ae iC];obtain⟨x,hx⟩:=gH (({r.P i with L:=(k7 (r.P i).L (if up=true then 0 else 1)).1,rd:=([],false,false)}:jF).say (k7 (r.P i).L (if up=true then 0 else 1)).2.1);have hxL:x.L=(k7 (r.P i).L (if up=true then 0 else 1)).1:=by rw[<-hx,CY]
 rw[hx];obtain⟨a,b⟩:=yn (r.jd i x) i nobody;have c:((r.jd i x).P i)=x:=by show k8 r.P i x i=x;exact jz _ _ _
 refine⟨⟨by rw[a,c,hxL];exact h1.2,λe=>absurd (by rw[b];rfl) e⟩,rfl,λp hp=>(kh.xy r _ hp).trans (kh.qe _ _ hp)⟩
structure GN(y:jc):Prop where
 ends:∀c d,c<y.nc->d<2->oK (y.C c).jG ((y.R ((y.C c).e d).1).P ((y.C c).e d).2)
 off:∀c d,c<y.nc->d<2->(y.C c).jG=false->(y.C c).on d=[]
structure Ends(y:jc):Prop where
 ds:∀c d c' d',c<y.nc->d<2->c'<y.nc->d'<2->(y.C c).e d=(y.C c').e d'->c=c'/\d=d'
 p3:∀c d,c<y.nc->d<2->((y.C c).e d).2<3
 rn:∀i,(y.R i).n=3 \/y.n<=i
 en:∀c d,c<y.nc->d<2->((y.C c).e d).1<y.n
theorem j6.oQ {k:Nat} (h:j6 y D k):Ends y:=⟨h.ds,λc d hc hd=>(h.en c d hc hd).2,λi=>by
 by_cases e:i<y.n
 ·exact .inl (h.rn i e).1
 ·exact .inr eE,λc d hc hd=>(h.en c d hc hd).1⟩
theorem GN.alike {y':jc} (h:GN y)(hn:y'.nc=y.nc)(hC:∀c,c<y.nc->(y'.C c).e=(y.C c).e/\(y'.C c).jG=(y.C c).jG/\((y.C c).jG=false->∀d,d<2->(y'.C c).on d=[]))
 (hP:∀i p,kh (y.R i) (y'.R i) p):GN y':=by
 refine⟨λc d hc hd=> ?_,λc d hc hd hf=> ?_⟩
 ·rw[hn]at hc;rw[(hC c hc).1,(hC c hc).2.1];exact(h.ends c d hc hd).congr (hP _ _).1 (hP _ _).2
 ·rw[hn]at hc;rw[(hC c hc).2.1]at hf;exact(hC c hc).2.2 hf d hd
theorem EZ(h:GN y)(c d:Nat)(hc:c<y.nc):GN (y.lA c d):=by
 obtain⟨s1,s2,s3,s4,s5⟩:=ni y c d;refine h.alike s2 (λx hx=>⟨(s5 x).1,(s5 x).2,λhf e he=> ?_⟩) (λi p=> ?_)
 ·show(if x=c then(y.C c).put d _ else y.C x).on e=[]
  by_cases ex:x=c
  ·rw[ag ex];subst ex;unfold pX.put;rw[ae (by simp[hf])];exact h.off x e hx he hf
  ·rw[ae ex];exact h.off x e hx he hf
 ·unfold kh;rw[CO];split<;>exact⟨rfl,rfl⟩
theorem E3 {y:jc} (h:GN y):∀k,k<=y.nc->GN (y.kr k)
 |0,_=>h
 |k+1,hk=>by
  have h1:=E3 h k eE;have e1:(y.kr k).nc=y.nc:=(ka y k).2.1;exact EZ (EZ h1 k 0 (by rw[e1];omega)) k 1 (by show k<(y.kr k).nc;rw[e1];omega)
theorem GN.gather {y:jc} (h:GN y):GN y.gather:=by
 unfold jc.gather;have h1:=E3 h y.nc (Nat.le_refl _);obtain⟨e1,e2,e3,e4⟩:=oo (y.kr y.nc) y.n;refine h1.alike e2 (λc hc=>⟨by rw[e4],by rw[e4],λhf d hd=>by rw[e4];exact h1.off c d hc hd hf⟩) (λi p=> ?_);unfold kh;rw[(xw (y.kr y.nc) i y.n).1];split<;>exact⟨rfl,rfl⟩
theorem GN.jQ {y:jc} (h:GN y)(i:Nat)(r:iY)(hr:∀c d,c<y.nc->d<2->((y.C c).e d).1=i->oK (y.C c).jG ((y.R i).P ((y.C c).e d).2)->oK (y.C c).jG (r.P ((y.C c).e d).2)):GN (y.jQ i r):=by
 refine⟨λc d hc hd=> ?_,h.off⟩;show oK (y.C c).jG ((jI y.R i r ((y.C c).e d).1).P ((y.C c).e d).2);by_cases e:((y.C c).e d).1=i
 ·rw[e,iP];exact hr c d hc hd e (by have:=h.ends c d hc hd;rw[e]at this;exact this)
 ·rw[iL _ _ e];exact h.ends c d hc hd
theorem GN.jn(h:GN y)(hE:Ends y)(rO:∀i p,i<y.n->p<3->(∀c d,c<y.nc->d<2->(y.C c).e d≠(i,p))->Idle ((y.R i).P p))(i:Nat)(hi:i<y.n):GN (y.jQ i (y.R i).tick):=by
 classical
 have wF:(y.R i).n=3:=(hE.rn i).resolve_right eE;obtain⟨U,hU⟩:∃U:Nat->Bool,∀c d,c<y.nc->d<2->((y.C c).e d).1=i->U ((y.C c).e d).2=(y.C c).jG:=by
  refine⟨λp=>if h:∃c d,c<y.nc/\d<2/\(y.C c).e d=(i,p)then(y.C h.choose).jG else false,λc d hc hd he=> ?_⟩;have hex:∃c' d',c'<y.nc/\d'<2/\(y.C c').e d'=(i,((y.C c).e d).2):=⟨c,d,hc,hd,by rw[<-he]⟩
  show(if h:∃c' d',c'<y.nc/\d'<2/\(y.C c').e d'=(i,((y.C c).e d).2)then(y.C h.choose).jG else false)=_;rw[dif_pos hex];obtain⟨d',kS,lD,Ep⟩:=hex.choose_spec;have:=(hE.ds _ _ _ _ kS lD hc hd (Ep.trans (by rw[<-he]))).1;rw[this]
 have hP:∀p,p<3->oK (U p) ((y.R i).P p) \/ ∀c d,c<y.nc->d<2->(y.C c).e d≠(i,p):=λp _=>by
  by_cases hex:∃c d,c<y.nc/\d<2/\(y.C c).e d=(i,p)
  ·obtain⟨c,d,hc,hd,he⟩:=hex;refine .inl ?_;have h1:=h.ends c d hc hd;have h2:=hU c d hc hd (by rw[he]);rw[he]at h1 h2;rw[h2];exact h1
  ·exact .inr λc d hc hd he=>hex ⟨c,d,hc,hd,he⟩
 obtain⟨V,hV⟩:∃V:Nat->Bool,V=λp=>if h:∃c d,c<y.nc/\d<2/\(y.C c).e d=(i,p)then U p else false:=⟨_,rfl⟩
 have hVP:∀p,p<3->oK (V p) ((y.R i).P p):=λp hp=>by
  rw[hV];show oK (if h:∃c d,c<y.nc/\d<2/\(y.C c).e d=(i,p)then U p else false) _;by_cases hex:∃c d,c<y.nc/\d<2/\(y.C c).e d=(i,p)
  ·rw[dif_pos hex];refine(hP p hp).resolve_right (λhn=> ?_);obtain⟨c,d,hc,hd,he⟩:=hex;exact hn c d hc hd he
  ·rw[dif_neg hex];have hI:=rO i p hi hp (λc d hc hd he=>hex ⟨c,d,hc,hd,he⟩);exact⟨by simpa using hI.st,λe=>absurd (by rw[hI.pe];rfl) e⟩
 have ht:=(C2 (r:=y.R i) (U:=V) 3 hVP).1;refine h.jQ i _ (λc d hc hd he _=> ?_);have hp3:=hE.p3 c d hc hd;have h1:=ht ((y.C c).e d).2 hp3;have hex:∃c' d',c'<y.nc/\d'<2/\(y.C c').e d'=(i,((y.C c).e d).2):=⟨c,d,hc,hd,by rw[<-he]⟩
 have hv:V ((y.C c).e d).2=(y.C c).jG:=by
  rw[hV];show(if h:∃c' d',c'<y.nc/\d'<2/\(y.C c').e d'=(i,((y.C c).e d).2)then U ((y.C c).e d).2 else false)=_;rw[dif_pos hex];exact hU c d hc hd he
 rw[hv]at h1;show oK _ (((y.R i).jB (y.R i).n).P _);rw[wF];exact h1
theorem GN.j0 {y:jc} (h:GN y)(hE:Ends y)(c d k:Nat)(hc:c<y.nc)(hd:d<2):GN (y.j0 c d k):=by
 unfold jc.j0;have h1:GN (y.ll c {y.C c with on:=jI (y.C c).on d (((y.C c).on d).drop k)}):=by
  refine h.alike rfl (λx hx=> ?_) (λi p=>kh.refl _ _);show(if x=c then _ else y.C x).e=_/\(if x=c then _ else y.C x).jG=_/\(_->∀d',d'<2->(if x=c then _ else y.C x).on d'=[])
  by_cases e:x=c
  ·rw[ag e];subst e;refine⟨rfl,rfl,λhf d' lD=> ?_⟩;show jI (y.C x).on d _ d'=[]
   by_cases e2:d'=d
   ·subst e2;rw[iP,h.off x d' hx lD hf];simp
   ·rw[iL _ _ e2];exact h.off x d' hx lD hf
  ·rw[ae e];exact⟨rfl,rfl,λhf d' lD=>h.off x d' hx lD hf⟩
 have eC:∀x,((y.ll c {y.C c with on:=jI (y.C c).on d (((y.C c).on d).drop k)}).C x).e=(y.C x).e/\((y.ll c {y.C c with on:=jI (y.C c).on d (((y.C c).on d).drop k)}).C x).jG=(y.C x).jG:=λx=>by
  show(if x=c then _ else y.C x).e=_/\(if x=c then _ else y.C x).jG=_;by_cases e:x=c
  ·rw[ag e];subst e;exact⟨rfl,rfl⟩
  ·rw[ae e];exact⟨rfl,rfl⟩
 refine h1.jQ _ _ (λx d' hx lD he sD=> ?_);rw[(eC x).1]at he sD⊢;rw[(eC x).2]at sD⊢;have Af:x<y.nc:=hx;have Xz:oK (y.C x).jG ((y.R ((y.C c).e (1-d)).1).P ((y.C x).e d').2):=sD;by_cases pw:(y.C c).jG=true
 ·have hu:Lx ((y.R ((y.C c).e (1-d)).1).P ((y.C c).e (1-d)).2):=by
   have:=h.ends c (1-d) hc eE;rw[pw]at this;exact oK.up.1 this
  obtain⟨a,b⟩:=Po ((y.C c).e (1-d)).2 (((y.C c).on d).take k) hu;by_cases e:((y.C x).e d').2=((y.C c).e (1-d)).2
  ·have:=(hE.ds x d' c (1-d) Af lD hc eE (by rw[cL];exact⟨he,e⟩)).1;rw[e,this,pw];exact oK.up.2 a
  ·exact Xz.congr (b _ e).1 (b _ e).2
 ·have hf:(y.C c).jG=false:=by simpa using pw
  rw[h.off c d hc hd hf];have:=Tc (y.R ((y.C c).e (1-d)).1) ((y.C c).e (1-d)).2 ((y.C x).e d').2;rw[List.take_nil];exact Xz.congr this.1 this.2
theorem GN.j5 {y:jc} (h:GN y)(hE:Ends y)(c:Nat)(up:Bool)(hc:c<y.nc)(hu:(y.C c).jG= !up):GN (y.j5 c up):=by
 obtain⟨e0,Td⟩:=gH ((y.C c).e 0);obtain⟨e1,xI⟩:=gH ((y.C c).e 1);have jV:e0≠e1:=λe=>by
  have:=(hE.ds c 0 c 1 hc eE hc eE (by rw[Td,xI,e])).2;omega
 have h0:=h.ends c 0 hc eE;have h1:=h.ends c 1 hc eE;rw[Td,hu]at h0;rw[xI,hu]at h1;obtain⟨a0,_,b0⟩:=vS e0.2 h0;obtain⟨cb,wj⟩:∃cb:pX,cb={y.C c with jG:=up,on:=λ_=>[] }:=⟨_,rfl⟩
 have ZR:cb.e=(y.C c).e:=by rw[wj]
 have cbi:cb.jG=up:=by rw[wj]
 have cbo:∀d,cb.on d=[] :=λd=>by rw[wj]
 have hf:∀(z:jc) (d:Nat) (e:Nat×Nat),(z.C c).e d=e->z.mL c d up=z.jQ e.1 ((z.R e.1).iW e.2 up).1:=by
  intro z d e he;unfold jc.mL;rw[he]
 have hCc:(y.ll c cb).C c=cb:=iP _ _ _;have hp:y.j5 c up=((y.ll c cb).jQ e0.1 ((y.R e0.1).iW e0.2 up).1).jQ e1.1 ((jI y.R e0.1 ((y.R e0.1).iW e0.2 up).1 e1.1).iW e1.2 up).1:=by
  unfold jc.j5;rw[<-wj,hf (y.ll c cb) 0 e0 (by rw[hCc,ZR,Td]),hf _ 1 e1 (by show((y.ll c cb).C c).e 1=e1;rw[hCc,ZR,xI])];rfl
 clear wj;obtain⟨r1,kU⟩:=gH (jI y.R e0.1 ((y.R e0.1).iW e0.2 up).1 e1.1);have ZS:∀p,(e1.1,p)≠e0->kh (y.R e1.1) r1 p:=λp vK=>by
  rw[<-kU];by_cases e:e1.1=e0.1
  ·rw[e,iP];exact b0 p (λe2=>vK (by rw[cL];exact⟨e,e2⟩))
  ·rw[iL _ _ e];exact kh.refl _ _
 have ZT:oK (!up) (r1.P e1.2):=h1.congr (ZS e1.2 (λe=>jV e.symm)).1 (ZS e1.2 (λe=>jV e.symm)).2;obtain⟨a1,_,b1⟩:=vS e1.2 ZT;rw[hp,kU];have adh:∀i p,oK up ((jI (jI y.R e0.1 ((y.R e0.1).iW e0.2 up).1) e1.1 (r1.iW e1.2 up).1 i).P p) \/((i,p)≠e0/\(i,p)≠e1):=λi p=>by
  by_cases x1:(i,p)=e1
  ·left;rw[<-x1]at a1⊢;rw[iP];exact a1
  ·by_cases x0:(i,p)=e0
   ·left;by_cases e:i=e1.1
    ·rw[e,iP];have Xf:p≠e1.2:=λe2=>x1 (by rw[cL];exact⟨e,e2⟩);have hr:r1.P p=((y.R e0.1).iW e0.2 up).1.P e0.2:=by
      rw[<-kU,<-e,<-x0,iP]
     exact(a0.congr (by rw[hr]) (by rw[hr]):oK up (r1.P p)).congr (b1 p Xf).1 (b1 p Xf).2
    ·rw[iL _ _ e,<-x0,iP];rw[<-x0]at a0;exact a0
   ·exact .inr ⟨x0,x1⟩
 have ko:∀i p,(i,p)≠e0->(i,p)≠e1->kh (y.R i) (jI (jI y.R e0.1 ((y.R e0.1).iW e0.2 up).1) e1.1 (r1.iW e1.2 up).1 i) p:=λi p x0 x1=>by
  by_cases e:i=e1.1
  ·subst e;rw[iP];exact(ZS p x0).trans (b1 p (λe2=>x1 (by rw[cL];exact⟨rfl,e2⟩)))
  ·rw[iL _ _ e];by_cases e':i=e0.1
   ·subst e';rw[iP];exact b0 p (λe2=>x0 (by rw[cL];exact⟨rfl,e2⟩))
   ·rw[iL _ _ e'];exact kh.refl _ _
 refine⟨λx d hx hd=> ?_,λx d hx hd hf=> ?_⟩
 ·show oK ((if x=c then cb else y.C x):pX).jG ((jI (jI y.R e0.1 ((y.R e0.1).iW e0.2 up).1) e1.1 (r1.iW e1.2 up).1 (((if x=c then cb else y.C x):pX).e d).1).P (((if x=c then cb else y.C x):pX).e d).2);have Af:x<y.nc:=hx;by_cases e:x=c
  ·rw[ag e,ZR,cbi];refine(adh _ _).resolve_right (λhn=> ?_);have:d=0 \/d=1:=eE;rcases this with rfl|rfl
   ·exact hn.1 Td
   ·exact hn.2 xI
  ·rw[ae e];have n0:(y.C x).e d≠e0:=λe2=>e (hE.ds x d c 0 Af hd hc eE (by rw[Td];exact e2)).1;have n1:(y.C x).e d≠e1:=λe2=>e (hE.ds x d c 1 Af hd hc eE (by rw[xI];exact e2)).1;have:=ko ((y.C x).e d).1 ((y.C x).e d).2 n0 n1;exact(h.ends x d Af hd).congr this.1 this.2
 ·have hf':((if x=c then cb else y.C x):pX).jG=false:=hf;show((if x=c then cb else y.C x):pX).on d=[]
  by_cases e:x=c
  ·rw[ag e];exact cbo d
  ·rw[ae e]at hf'⊢;exact h.off x d hx hd hf'
theorem Ends.j5 {y:jc} (h:Ends y)(c:Nat)(up:Bool):Ends (y.j5 c up):=by
 obtain⟨g1,g2,g3,g4,g5⟩:=oO y c up;refine⟨λa d a' d' ha hd ha' lD e=> ?_,λa d ha hd=> ?_,λi=> ?_,λa d ha hd=> ?_⟩
 ·rw[(g5 a).1,(g5 a').1]at e;rw[g2]at ha ha';exact h.ds a d a' d' ha hd ha' lD e
 ·rw[(g5 a).1];rw[g2]at ha;exact h.p3 a d ha hd
 ·have Bh:∀(x:jc) (d:Nat),(∀i,(x.R i).n=3 \/x.n<=i)->∀i,((x.mL c d up).R i).n=3 \/(x.mL c d up).n<=i:=λx d hx i=>by
   show(jI x.R ((x.C c).e d).1 _ i).n=3 \/x.n<=i;by_cases e:i=((x.C c).e d).1
   ·rw[e,iP,(jR.iW _ _ up).n];exact hx _
   ·rw[iL _ _ e];exact hx i
  unfold jc.j5;obtain⟨cb,wj⟩:∃cb:pX,cb={y.C c with jG:=up,on:=λ_=>[] }:=⟨_,rfl⟩
  rw[<-wj];exact Bh _ 1 (Bh (y.ll c cb) 0 h.rn) i
 ·rw[(g5 a).1,g1];rw[g2]at ha;exact h.en a d ha hd
theorem GN.jS(up:Bool):∀(l:List Nat) {y:jc},GN y->Ends y->l.Nodup->(∀c∈l,c<y.nc/\(y.C c).jG= !up)->GN (y.jS up l)/\Ends (y.jS up l)/\∀x,((y.jS up l).C x).jG=if x∈l then up else(y.C x).jG
 |[],y,h,hE,_,_=>⟨h,hE,λx=>by simp[jc.jS]⟩
 |c::l,y,h,hE,C4,hl=>by
  obtain⟨g1,g2,g3,g4,g5⟩:=oO y c up;have hc:=hl c iC;have Te:=bR.1 C4;obtain⟨a,b,d⟩:=GN.jS up l (h.j5 hE c up hc.1 hc.2) (hE.j5 c up) Te.2 (λx hx=>by
   have jV:x≠c:=λe=>Te.1 (e▸hx);rw[g2,(g5 x).2,ae jV];exact hl x (by simp[hx]))
  refine⟨a,b,λx=> ?_⟩;show(((y.j5 c up).jS up l).C x).jG=_;rw[d x,(g5 x).2];by_cases e1:x∈l
  ·rw[ag e1,ag (by simp[e1])]
  ·by_cases e2:x=c
   ·rw[ae e1,ag e2,ag (by simp[e2])]
   ·rw[ae e1,ae e2,ae (by simp[e1,e2])]
theorem GN.restart {y:jc} {D:Nat} (h:GN y)(jb:j6 y D 0)(i:Int):GN (y.restart i).1/\∀x,x<y.nc->((y.restart i).1.C x).jG=(y.C x).jG:=by
 unfold jc.restart;split
 ·exact⟨h,λ_ _=>rfl⟩
 ·rename_i hi
  obtain⟨k,hk⟩:=gH ((i-1).toNat);rw[hk];obtain⟨l,hl⟩:=gH (y.kT k);rw[hl];have sW:∀c,c∈l↔c<y.nc/\(y.C c).jG=true/\(((y.C c).e 0).1=k \/((y.C c).e 1).1=k):=λc=>by
   rw[<-hl];unfold jc.kT;simp[List.mem_filter]
  have C4:l.Nodup:=by
   rw[<-hl];unfold jc.kT;exact dD dt bS
  obtain⟨a,b,d⟩:=GN.jS false l h jb.oQ C4 (λc hc=>⟨((sW c).1 hc).1,((sW c).1 hc).2.1⟩);obtain⟨s1,s2,s3,s4,s5⟩:=mV false l y;obtain⟨y1,yc⟩:=gH (y.jS false l);rw[yc]at a b d s1 s2 s3 s4 s5⊢;have a2:GN (y1.jQ k (jX i 3 (y.ms k))):=by
   refine a.jQ k _ (λc e hc he heq _=> ?_);have kS:c<y.nc:=by rw[s2]at hc;exact hc
   have hf:(y1.C c).jG=false:=by
    rw[d c];by_cases hm:c∈l
    ·rw[ag hm]
    ·rw[ae hm];by_cases pw:(y.C c).jG=true
     ·exfalso;rw[s5 c]at heq;refine hm ((sW c).2 ⟨kS,pw,?_⟩);have:e=0 \/e=1:=eE;rcases this with rfl|rfl
      ·exact .inl heq
      ·exact .inr heq
     ·simpa using pw
   rw[hf];have hI:=pY i (y.ms k) ((y1.C c).e e).2;exact⟨by simpa using hI.st,λe=>absurd (by rw[hI.pe];rfl) e⟩
  have b2:Ends (y1.jQ k (jX i 3 (y.ms k))):=⟨b.ds,b.p3,λj=>by
   show(jI y1.R k _ j).n=3 \/y1.n<=j;by_cases e:j=k
   ·rw[e,iP];exact .inl rfl
   ·rw[iL _ _ e];exact b.rn j,b.en⟩
  obtain⟨a3,_,d3⟩:=GN.jS true l a2 b2 C4 (λc hc=>⟨by show c<y1.nc;rw[s2];exact((sW c).1 hc).1,by show(y1.C c).jG=_;rw[d c,ag hc];rfl⟩);refine⟨a3.gather,λx hx=> ?_⟩;rw[((ld _).2.2.2 x).2,d3 x];show(if x∈l then true else(y1.C x).jG)=_;rw[d x];by_cases hm:x∈l
  ·rw[ag hm,((sW x).1 hm).2.1]
  ·rw[ae hm,ae hm]
theorem GN.iW {y:jc} {D:Nat} (h:GN y)(jb:j6 y D 0)(i:Int)(up:Bool):GN (y.iW i up).1/\∀x,((y.iW i up).1.C x).jG=if(x:Int)=i/\x<y.nc then up else(y.C x).jG:=by
 unfold jc.iW;split
 ·rename_i hi
  exact⟨h,λx=>by rw[ae eE]⟩
 ·rename_i hi
  split
  ·rename_i pw
   refine⟨h,λx=> ?_⟩;split
   ·rename_i hx
    have:x=i.toNat:=eE;rw[this,pw]
   ·rfl
  ·rename_i pw
   refine⟨(h.j5 jb.oQ i.toNat up eE (by cases hv:(y.C i.toNat).jG<;>cases up<;>simp_all)).gather,λx=> ?_⟩;rw[((ld _).2.2.2 x).2,((oO y i.toNat up).2.2.2.2 x).2];by_cases e:x=i.toNat
   ·rw[ag e,ag eE]
   ·rw[ae e,ae eE]
theorem GN.tick {y:jc} {D:Nat} (h:GN y)(jb:j6 y D 0)(i:Int):GN (y.tick i).1/\∀x,((y.tick i).1.C x).jG=(y.C x).jG:=by
 unfold jc.tick;split
 ·exact⟨h,λ_=>rfl⟩
 ·exact⟨(h.jn jb.oQ jb.idle (i-1).toNat eE).gather,λx=>((ld _).2.2.2 x).2⟩
theorem C5(y:jc)(c d k x:Nat):((y.j0 c d k).C x).jG=(y.C x).jG:=by
 show((if x=c then _ else y.C x):pX).jG=_;by_cases e:x=c
 ·rw[ag e];subst e;rfl
 ·rw[ae e]
theorem GN.deliver {y:jc} {D:Nat} (h:GN y)(jb:j6 y D 0)(i d m:Int):GN (y.deliver i d m).1/\∀x,((y.deliver i d m).1.C x).jG=(y.C x).jG:=by
 unfold jc.deliver;split
 ·exact⟨h,λ_=>rfl⟩
 ·exact⟨(h.j0 jb.oQ _ _ _ eE eE).gather,λx=>by rw[((ld _).2.2.2 x).2,C5]⟩
theorem GN.send {y:jc} (h:GN y)(f t:Int)(tx:List UInt8):GN (y.send f t tx).1/\∀x,((y.send f t tx).1.C x).jG=(y.C x).jG:=by
 unfold jc.send;split
 ·exact⟨h,λ_=>rfl⟩
 ·split
  ·exact⟨h,λ_=>rfl⟩
  ·refine⟨GN.gather (h.jQ _ _ (λc d hc hd he sD=> ?_)),λx=>((ld _).2.2.2 x).2⟩;have:∀(r:iY) (p:Nat),kh r (kg r t tx).1 p:=λr p=>by
    unfold kg;split
    ·exact kh.refl r p
    ·show kh r (r.send (t,8,tx)) p;exact kh.send r (t,8,tx) p
   exact sD.congr (this _ _).1 (this _ _).2
theorem GN.jB {y:jc} {D:Nat} (h:GN y)(jb:j6 y D 0)(hD:D<=800000000):∀q,q<=6->GN (y.jB q)
 |0,_=>h
 |q+1,hq=>((GN.jB h jb hD q eE).tick (jb.jB hD q eE) ((q:Int)+1)).1
theorem GN.kF {y:jc} {D:Nat} (h:GN y)(jb:j6 y D 0)(hD:D<=890000000):∀q,q<=9->GN (y.kF q)
 |0,_=>h
 |q+1,hq=>by
  have h1:=jb.kF hD q eE;have h2:=GN.kF h jb hD q eE;exact((h2.deliver h1 (q:Int) 0 2000).1.deliver (h1.deliver eE (q:Int) 0 2000) (q:Int) 1 2000).1
theorem GN.turns {y:jc} {D:Nat} (h:GN y)(jb:j6 y D 0)(hD:D<=810000000):∀t,t<=12->GN (y.turns t)
 |0,_=>h
 |t+1,ht=>(GN.turns h jb hD t eE).kF (jb.turns hD t eE) eE y.nc jb.c9
theorem GN.round {y:jc} {D:Nat} (h:GN y)(jb:j6 y D 0)(hD:D<=800000000):GN y.round:=
 (h.jB jb hD y.n jb.n6).turns (jb.jB hD y.n jb.n6) (by have:=jb.n6;omega) 12 (Nat.le_refl _)
def zu(v:AV):Bool:=v.kind.toList==[112,108,117,103]
theorem GN.act(h:GN y)(jb:j6 y D 0)(hD:D<=800000000)(v:AV):GN (rF y v)/\∀x,x<y.nc->((rF y v).C x).jG=if zu v=true/\(x:Int)=v.a then v.b==1 else(y.C x).jG:=by
 unfold rF;by_cases k1:(v.kind.toList==[112,108,117,103])=true
 ·rw[ag k1];obtain⟨a,b⟩:=h.iW jb v.a (v.b==1);refine⟨a,λx hx=> ?_⟩;rw[b x];have hp:zu v=true:=k1;by_cases e:(x:Int)=v.a
  ·rw[ag ⟨e,hx⟩,ag ⟨hp,e⟩]
  ·rw[ae (λh=>e h.1),ae (λh=>e h.2)]
 ·rw[ae k1];have hp:∀x:Nat,¬(zu v=true/\(x:Int)=v.a):=λx e=>k1 e.1;have sO:∀z:jc,(GN z/\∀x,x<y.nc->(z.C x).jG=(y.C x).jG)->GN z/\∀x,x<y.nc->(z.C x).jG=if zu v=true/\(x:Int)=v.a then v.b==1 else(y.C x).jG:=λz hz=>⟨hz.1,λx hx=>by rw[ae (hp x)];exact hz.2 x hx⟩
  apply sO;split
  ·obtain⟨a,b⟩:=h.tick jb v.a;exact⟨a,λx _=>b x⟩
  ·split
   ·obtain⟨a,b⟩:=h.deliver jb v.a v.b v.c;exact⟨a,λx _=>b x⟩
   ·split
    ·exact h.restart jb v.a
    ·split
     ·obtain⟨a,b⟩:=h.send v.a v.b v.s.data.toList;exact⟨a,λx _=>b x⟩
     ·split
      ·exact⟨h.round jb hD,λx _=>((rD y).2.2.2 x).2⟩
      ·exact⟨h,λ_ _=>rfl⟩
theorem C6(many:Nat)(L:List oI):GN (jE many L):=by
 refine⟨λc d _ _=> ?_,λc d _ _ _=>rfl⟩;have hI:=pY (((((jE many L).C c).e d).1:Int)+1) (pM L (((jE many L).C c).e d).1) (((jE many L).C c).e d).2;have h1:((jE many L).R (((jE many L).C c).e d).1).P (((jE many L).C c).e d).2=(jX (((((jE many L).C c).e d).1:Int)+1) 3 (pM L (((jE many L).C c).e d).1)).P (((jE many L).C c).e d).2:=rfl;rw[h1];exact⟨by rw[show((jE many L).C c).jG=false from rfl,ae eH];exact hI.st,λe=>absurd (by
  show((jX _ 3 _).P _).pe.who=0;rw[hI.pe];rfl) e⟩
end Rt
end Go.Proofs.YtieklnlbljejdaaGreatDoor
