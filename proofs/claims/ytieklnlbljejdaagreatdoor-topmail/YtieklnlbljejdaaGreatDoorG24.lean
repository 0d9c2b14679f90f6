import Derived.Test.YtieklnlbljejdaaGreatDoorG23
open Go.Value renaming int → ι, pointer → π, tuple → τ, nilIface → η
open Go.IntKind renaming i64 → κ
open Go.Ending renaming returned → ρ
open Option renaming none → ν, some → μ
open Go renaming World → eB, Calls → fj
open Go.Proofs.Tryz renaming prog → fk
open Go.Instr renaming index → il
set_option maxRecDepth 100000
namespace Go.Proofs.YtieklnlbljejdaaGreatDoor
open Go.RowKit St
namespace Rt
variable {D c d g i k k' p:Nat} {id:Int} {m:Nat->Int} {r r':iY} {w:World} {y:Yt}
structure Idle(p:jF):Prop where
 st:p.L.st=1
 pe:p.pe=nobody
 out:p.out=[]
structure jR(r r':iY)(k:Nat):Prop where
 n:r'.n=r.n
 id:r'.id=r.id
 lo:r.drop<=r'.drop
 hi:r'.drop<=r.drop+k
theorem jR.refl(r:iY):jR r r 0:=⟨rfl,rfl,Int.le_refl _,eE⟩
theorem jR.mono {l:Nat} (h:jR r r' k)(hl:k<=l):jR r r' l:=⟨h.n,h.id,h.lo,by have:=h.hi;omega⟩
theorem jR.trans {a b c:iY} {k l:Nat} (h:jR a b k)(g:jR b c l):jR a c (k+l):=⟨g.n.trans h.n,g.id.trans h.id,Int.le_trans h.lo g.lo,by have:=h.hi;have:=g.hi;omega⟩
theorem jR.vQ(hn:r'.n=r.n)(hi:r'.id=r.id)(hd:r'.drop=r.drop):jR r r' 0:=⟨hn,hi,eE,eE⟩
theorem jR.jd(r:iY)(i:Nat)(p:jF):jR r (r.jd i p) 0:=jR.vQ rfl rfl rfl
theorem jR.meet(r:iY)(i:Nat)(q:ln):jR r (r.meet i q) 0:=by
 obtain⟨_,h2,h3,_⟩:=l9 r i q;exact jR.vQ h3 (Bj _ _ _) h2
theorem jR.behind(r:iY)(s:Int):jR r (r.behind s) 0:=by
 obtain⟨_,h2,h3,_⟩:=nt r s;exact jR.vQ h3 (zh _ _) h2
theorem jR.send(r:iY)(t:tV):jR r (r.send t) 1:=by
 unfold iY.send;split
 ·exact jR.mono (k:=0) (jR.vQ rfl rfl rfl) eE
 ·split
  ·exact⟨rfl,rfl,by simp;omega,iC⟩
  ·exact(jR.jd _ _ _).mono eE
theorem jR.state(r:iY)(i:Nat)(l:List UInt8):jR r (jK r i l) 0:=by
 unfold jK;simp only;split
 ·exact jR.refl r
 ·split
  ·exact jR.behind _ _
  ·split<;>exact jR.vQ rfl rfl rfl
theorem jR.link(r:iY)(i:Nat)(c:UInt8)(s:List UInt8):jR r (jY r i c s) 0:=by
 unfold jY;split
 ·exact jR.jd _ _ _
 ·exact jR.refl r
theorem jR.rest(r:iY)(i:Nat)(c:UInt8)(s:List UInt8):jR r (mJ r i c s) 1:=by
 unfold mJ;split
 ·split
  ·exact(jR.meet _ _ _).mono eE
  ·exact(jR.refl r).mono eE
 ·split
  ·exact(jR.state _ _ _).mono eE
  ·split
   ·unfold kO;simp only;split<;>exact jR.mono (k:=0) (jR.vQ rfl rfl rfl) eE
   ·split
    ·unfold qw;split
     ·exact jR.send _ _
     ·exact(jR.refl r).mono eE
    ·exact(jR.refl r).mono eE
theorem jR.take(r:iY)(i:Nat)(c:UInt8)(s:List UInt8):jR r (r.take i c s) 1:=by
 rw[lF];have h1:=jR.link r i c s;split
 ·exact(h1.trans (jR.meet _ _ _)).mono eE
 ·exact(h1.trans (jR.rest _ i c s)).mono eE
theorem jR.takes:∀(l:List (List UInt8)) (r:iY) (i:Nat),jR r (r.takes i l) l.length
 |[],r,_=>jR.refl r
 |t::l,r,i=>by
  show jR r ((j7 r i t).takes i l) (l.length+1);have h2:=jR.takes l (j7 r i t) i;have h1:jR r (j7 r i t) 1:=by
   cases t with
   |nil=>exact jR.mono (jR.refl r) eE
   |cons c s=>exact jR.take r i c s
  exact jR.mono (h1.trans h2) eE
theorem jR.recv(r:iY)(i:Nat)(l:List UInt8):jR r (r.recv i l) l.length:=by
 unfold iY.recv;simp only;have h:=(jR.jd r i {r.P i with rd:=(kx (r.P i).rd l).2.2}).trans (jR.takes (kx (r.P i).rd l).1 _ i);refine h.mono ?_;have:=Be (r.P i).rd l;omega
theorem jR.iW(r:iY)(i:Nat)(up:Bool):jR r (r.iW i up).1 0:=by
 unfold iY.iW;simp only;split
 ·exact jR.refl r
 ·exact((jR.jd r i _).trans (jR.meet _ _ _)).mono eE
theorem jR.jx(r:iY)(i:Nat):jR r (r.jx i) 0:=by
 rw[k9];have h1:jR r (jn r i) 0:=jR.jd _ _ _;split
 ·exact h1.trans (jR.meet _ _ _)
 ·exact(h1.trans (jR.meet _ i _)).trans (jR.jd _ _ _)
theorem jR.jB(r:iY):∀q,jR r (r.jB q) 0
 |0=>jR.refl r
 |q+1=>(jR.jB r q).trans (jR.jx _ _)
theorem jR.kg(r:iY)(t:Int)(tx:List UInt8):jR r (kg r t tx).1 1:=by
 unfold Rt.kg;split
 ·exact jR.mono (k:=0) (jR.refl r) eE
 ·show jR r (r.send (t,8,tx)) 1;exact jR.send r (t,8,tx)
theorem Gk {m:Nat} (h:lp r)(hf:Fit r k)(i:Nat)(A:List (List UInt8))(rd:ku)(hA:A.length<=m):lp ((r.jd i {r.P i with rd:=rd}).takes i A)/\Fit ((r.jd i {r.P i with rd:=rd}).takes i A) (k+2*m):=by
 have h1:lp (r.jd i {r.P i with rd:=rd}):=h.jd i _ rfl (λhi=>h.pe i hi);have f1:Fit (r.jd i {r.P i with rd:=rd}) k:=hf.jd i _ (λhi=>hf.out i hi);have h2:=zk A h1 f1 i;exact⟨h2.2.1,h2.2.2.mono eE⟩
theorem SF(h:lp r)(hf:Fit r k)(i:Nat)(l:List UInt8):lp (r.recv i l)/\Fit (r.recv i l) (k+2*l.length):=
 Gk h hf i (kx (r.P i).rd l).1 (kx (r.P i).rd l).2.2 (Nat.le_trans (Nat.le_add_right _ _) (Be (r.P i).rd l))
theorem SG(h:lp r)(hf:Fit r k)(i:Nat)(up:Bool):lp (r.iW i up).1/\Fit (r.iW i up).1 (k+1):=by
 have hp:=(xt (r.P i) up).1;have hl:((r.P i).iW up).1.out.length<=(r.P i).out.length+6000:=by
  unfold jF.iW;have h3:=x5 (r.P i).L (if up=true then 0 else 1);generalize k7 (r.P i).L (if up=true then 0 else 1)=e at h3⊢;simp only;by_cases h0:e.2.2=0
  ·rw[ae (by simp[h0])];have h2:=xZ e.2.1 {r.P i with L:=e.1,rd:=([],false,false)};have h4:({r.P i with L:=e.1,rd:=([],false,false)}:jF).out.length=(r.P i).out.length:=rfl;show(({r.P i with L:=e.1,rd:=([],false,false)}:jF).say e.2.1).out.length<=_;omega
  ·rw[ag h0];show(r.P i).out.length<=_;omega
 unfold iY.iW;generalize (r.P i).iW up=e at hp hl⊢;simp only;split
 ·exact⟨h,hf.mono (Nat.le_succ k)⟩
 ·exact⟨(h.jd i _ hp.1 (λhi=>by rw[hp.2];exact h.pe i hi)).meet i (nV.nobody h.id.1),(hf.grow i _ hl).meet i _⟩
theorem Lj(h:lp r)(hf:Fit r k)(t:Int)(tx:List UInt8):lp (kg r t tx).1/\Fit (kg r t tx).1 (k+1):=by
 unfold Rt.kg;split
 ·exact⟨h,hf.mono (Nat.le_succ k)⟩
 ·exact⟨h.send _,hf.send _⟩
def j9(r r':iY)(i:Nat):Prop:=∀p,p≠i->Idle (r.P p)->Idle (r'.P p)
theorem j9.refl(r:iY)(i:Nat):j9 r r i:=λ_ _ h=>h
theorem j9.trans {a b c:iY} (h:j9 a b i)(g:j9 b c i):j9 a c i:=λp hp hi=>g p hp (h p hp hi)
theorem j9.jd(r:iY)(i:Nat)(q:jF):j9 r (r.jd i q) i:=λp hp h=>by
 show Idle (k8 r.P i q p);rw[ju _ _ hp];exact h
theorem j9.wq(h:r'.P=r.P)(i:Nat):j9 r r' i:=λp _ hi=>by rw[h];exact hi
theorem j9.meet(r:iY)(i:Nat)(q:ln):j9 r (r.meet i q) i:=λp hp h=>by
 rw[(l9 r i q).2.2.2,ju _ _ hp];exact h
theorem ER(t:tV)(h:Idle (r.P p)):Idle ((r.send t).P p):=by
 unfold iY.send;split
 ·exact h
 ·split
  ·exact h
  ·rename_i b hb
   show Idle (k8 r.P b _ p);by_cases e:p=b
   ·subst e;exfalso;split at hb
    ·cases ht:yR (oX r) t.1 with
     |none=>rw[ht]at hb;simp at hb
     |some x=>
      rw[ht]at hb;have mf:kd r.P x.uf r.n=μ p:=hb;have:=(pW mf).2.1;rw[h.pe]at this;exact absurd this eH
    ·simp at hb
   ·rw[ju _ _ e];exact h
theorem j9.send(r:iY)(t:tV)(i:Nat):j9 r (r.send t) i:=λ_ _ h=>ER t h
theorem j9.state(r:iY)(i:Nat)(l:List UInt8):j9 r (jK r i l) i:=by
 unfold jK;simp only;split
 ·exact j9.refl r i
 ·split
  ·exact j9.wq (nt _ _).2.2.2 i
  ·split
   ·exact(j9.wq rfl i).trans (j9.jd _ _ _)
   ·exact j9.wq rfl i
theorem j9.take(r:iY)(i:Nat)(c:UInt8)(s:List UInt8):j9 r (r.take i c s) i:=by
 rw[lF];have h1:j9 r (jY r i c s) i:=by
  unfold jY;split
  ·exact j9.jd _ _ _
  ·exact j9.refl _ _
 split
 ·exact h1.trans (j9.meet _ _ _)
 ·refine h1.trans ?_;unfold mJ;split
  ·split
   ·exact j9.meet _ _ _
   ·exact j9.refl _ _
  ·split
   ·exact j9.state _ _ _
   ·split
    ·unfold kO;simp only;split<;>exact j9.wq rfl i
    ·split
     ·unfold qw;split
      ·exact j9.send _ _ _
      ·exact j9.refl _ _
     ·exact j9.refl _ _
theorem j9.takes:∀(l:List (List UInt8)) (r:iY) (i:Nat),j9 r (r.takes i l) i
 |[],r,i=>j9.refl r i
 |t::l,r,i=>by
  show j9 r ((match t with|[] =>r|c::s=>r.take i c s).takes i l) i;refine j9.trans ?_ (j9.takes l _ i);cases t with
  |nil=>exact j9.refl _ _
  |cons c s=>exact j9.take r i c s
theorem j9.recv(r:iY)(i:Nat)(l:List UInt8):j9 r (r.recv i l) i:=by
 unfold iY.recv;simp only;exact(j9.jd r i _).trans (j9.takes _ _ i)
theorem j9.iW(r:iY)(i:Nat)(up:Bool):j9 r (r.iW i up).1 i:=by
 unfold iY.iW;simp only;split
 ·exact j9.refl r i
 ·exact(j9.jd r i _).trans (j9.meet _ _ _)
theorem I2 {p:jF} (h:Idle p):p.tick=p:=by
 have h1:j3 p.L=(p.L,[]):=by
  have e1:kE p.L=p.L:=by unfold kE;simp[h.st]
  have e2:mI p.L=[] :=by unfold mI;simp[h.st]
  unfold j3;rw[e1,e2];simp[h.st]
 unfold jF.tick;rw[h1];rfl
theorem Ll(i:Nat)(h:Idle (r.P p)):Idle ((r.jx i).P p):=by
 rw[k9];by_cases e:p=i
 ·subst e;have h1:(jn r p).P p=r.P p:=by
   show k8 r.P p (r.P p).tick p=_;rw[jz,I2 h]
  rw[h1,ag (by rw[h.st];decide),(l9 _ _ _).2.2.2,jz,h1];exact⟨h.st,rfl,h.out⟩
 ·have h1:Idle ((jn r i).P p):=by
   show Idle (k8 r.P i _ p);rw[ju _ _ e];exact h
  split
  ·exact j9.meet _ _ _ p e h1
  ·exact j9.jd _ i _ p e (j9.meet _ _ _ p e h1)
theorem CN {r:iY} {p:Nat} (h:Idle (r.P p)):∀q,Idle ((r.jB q).P p)
 |0=>h
 |q+1=>Ll q (CN h q)
theorem I3(t:Int)(tx:List UInt8)(h:Idle (r.P p)):Idle ((kg r t tx).1.P p):=by
 unfold Rt.kg;split
 ·exact h
 ·show Idle ((r.send (t,8,tx)).P p);exact ER (t,8,tx) h
structure j6(y:jc)(D k:Nat):Prop where
 n1:1<=y.n
 n6:y.n<=6
 c9:y.nc<=9
 en:∀c d,c<y.nc->d<2->((y.C c).e d).1<y.n/\((y.C c).e d).2<3
 ds:∀c d c' d',c<y.nc->d<2->c'<y.nc->d'<2->(y.C c).e d=(y.C c').e d'->c=c'/\d=d'
 ms:∀i p,i<y.n->p<3->1<=y.ms i p/\y.ms i p<=20
 rn:∀i,i<y.n->(y.R i).n=3/\(y.R i).id=(i:Int)+1
 ok:∀i,i<y.n->lp (y.R i)
 drop:∀i,i<y.n->0<=(y.R i).drop/\(y.R i).drop<=D
 ol:∀c d,c<y.nc->d<2->((y.C c).on d).length<=2000
 ib:∀i,i<y.n->(y.jA i).length<=D
 idle:∀i p,i<y.n->p<3->(∀c d,c<y.nc->d<2->(y.C c).e d≠(i,p))->Idle ((y.R i).P p)
 fit:∀i,i<y.n->(y.R i).jA.length<=k/\∀p,p<3->((y.R i).P p).out.length<=6000*k
theorem j6.mono {y:jc} {D':Nat} (h:j6 y D k)(hD:D<=D')(hk:k<=k'):j6 y D' k':=
 ⟨h.n1,h.n6,h.c9,h.en,h.ds,h.ms,h.rn,h.ok,λi hi=>by have:=h.drop i hi;omega,h.ol,λi hi=>by have:=h.ib i hi;omega,h.idle,λi hi=>⟨by have:=(h.fit i hi).1;omega,λp hp=>by have:=(h.fit i hi).2 p hp;omega⟩⟩
theorem j6.fits {y:jc} (h:j6 y D k)(hD:D<=1000000000000000)(hi:i<y.n):Fit (y.R i) k:=
 ⟨(h.fit i hi).1,by have:=h.drop i hi;omega,λp hp=>(h.fit i hi).2 p (by rw[(h.rn i hi).1]at hp;exact hp)⟩
theorem j6.jQ {y:jc} {D k:Nat} (h:j6 y D k) {i:Nat} (hi:i<y.n) {r:iY} {D' k':Nat} (hD:D<=D')(hk:k<=k')(hn:r.n=3/\r.id=(i:Int)+1)(jb:lp r)(hd:0<=r.drop/\r.drop<=D')(hf:Fit r k')
 (rO:∀p,p<3->(∀c d,c<y.nc->d<2->(y.C c).e d≠(i,p))->Idle (r.P p)):j6 (y.jQ i r) D' k':=by
 have hR:∀j,(y.jQ i r).R j=if j=i then r else y.R j:=λj=>rfl
 refine⟨h.n1,h.n6,h.c9,h.en,h.ds,h.ms,λj hj=> ?_,λj hj=> ?_,λj hj=> ?_,h.ol,λj hj=>Nat.le_trans (h.ib j hj) hD,λj p hj hp hc=> ?_,λj hj=> ?_⟩
 ·rw[hR];by_cases e:j=i
  ·rw[ag e];subst e;exact hn
  ·rw[ae e];exact h.rn j hj
 ·rw[hR];by_cases e:j=i
  ·rw[ag e];exact jb
  ·rw[ae e];exact h.ok j hj
 ·rw[hR];by_cases e:j=i
  ·rw[ag e];exact hd
  ·rw[ae e];have:=h.drop j hj;omega
 ·rw[hR];by_cases e:j=i
  ·rw[ag e];subst e;exact rO p hp hc
  ·rw[ae e];exact h.idle j p hj hp hc
 ·rw[hR];by_cases e:j=i
  ·rw[ag e];exact⟨hf.jA,λp hp=>hf.out p (by rw[hn.1];exact hp)⟩
  ·rw[ae e];exact⟨by have:=(h.fit j hj).1;omega,λp hp=>by have:=(h.fit j hj).2 p hp;omega⟩
theorem j6.call {y:jc} (h:j6 y D k)(hi:i<y.n)(hk:k<=k')(hG:jR (y.R i) r g)(jb:lp r)(hf:Fit r k')
 (rO:∀p,p<3->(∀c d,c<y.nc->d<2->(y.C c).e d≠(i,p))->Idle ((y.R i).P p)->Idle (r.P p)):j6 (y.jQ i r) (D+g) k':=by
 have h1:=h.rn i hi;have h2:=h.drop i hi;have h3:=hG.lo;have h4:=hG.hi;exact h.jQ hi eE hk ⟨hG.n.trans h1.1,hG.id.trans h1.2⟩ jb eE hf (λp hp hc=>rO p hp hc (h.idle i p hi hp hc))
theorem j6.ll {y:jc} {D k:Nat} (h:j6 y D k) {c:Nat} {cb:pX} (he:c<y.nc->cb.e=(y.C c).e)(hl:c<y.nc->∀d,d<2->(cb.on d).length<=2000):j6 (y.ll c cb) D k:=by
 have hC:∀x,x<y.nc->((y.ll c cb).C x).e=(y.C x).e:=λx hx=>by
  show(if x=c then cb else y.C x).e=_;by_cases e:x=c
  ·rw[ag e];subst e;exact he hx
  ·rw[ae e]
 refine⟨h.n1,h.n6,h.c9,λx d hx hd=>by rw[hC x hx];exact h.en x d hx hd,λx d x' d' hx hd Af lD e=>by rw[hC x hx,hC x' Af]at e;exact h.ds x d x' d' hx hd Af lD e,h.ms,h.rn,h.ok,h.drop,λx d hx hd=> ?_,h.ib,λi p hi hp hc=>h.idle i p hi hp (λx d hx hd=>by have:=hc x d hx hd;rwa [hC x hx]at this),h.fit⟩;show((if x=c then cb else y.C x).on d).length<=_;by_cases e:x=c
 ·rw[ag e];subst e;exact hl hx d hd
 ·rw[ae e];exact h.ol x d hx hd
theorem j6.jn {y:jc} (h:j6 y D k)(hD:D<=1000000000000000)(hi:i<y.n):j6 (y.jQ i (y.R i).tick) D (k+6):=by
 have h1:=zm (h.ok i hi) (h.fits hD hi) (y.R i).n (Nat.le_refl _);rw[(h.rn i hi).1]at h1;have e:(y.R i).tick=(y.R i).jB 3:=by unfold iY.tick;rw[(h.rn i hi).1]
 rw[e];exact h.call hi eE (jR.jB _ 3) h1.2.1 h1.2.2 (λp _ _ hp=>CN hp 3)
theorem j6.acz {y:jc} (h:j6 y D k)(hD:D<=1000000000000000)(hc:c<y.nc)(hd:d<2)(l:List UInt8)(hl:l.length<=2000):j6 (y.jQ ((y.C c).e d).1 ((y.R ((y.C c).e d).1).recv ((y.C c).e d).2 l)) (D+2000) (k+4000):=by
 obtain⟨hi,hp⟩:=h.en c d hc hd;have h1:=SF (h.ok _ hi) (h.fits hD hi) ((y.C c).e d).2 l;exact h.call hi eE ((jR.recv _ _ l).mono hl) h1.1 (h1.2.mono eE) (λp _ hn hp=>j9.recv _ _ l p (λe=>hn c d hc hd (by rw[e])) hp)
theorem j6.SH {y:jc} (h:j6 y D k)(hD:D<=1000000000000000)(hc:c<y.nc)(hd:d<2)(up:Bool):j6 (y.mL c d up) D (k+1):=by
 obtain⟨hi,hp⟩:=h.en c d hc hd;have h1:=SG (h.ok _ hi) (h.fits hD hi) ((y.C c).e d).2 up;exact h.call hi eE (jR.iW _ _ up) h1.1 h1.2 (λp _ hn hp=>j9.iW _ _ up p (λe=>hn c d hc hd (by rw[e])) hp)
theorem j6.SI {y:jc} (h:j6 y D k)(hD:D<=1000000000000000)(hi:i<y.n)(t:Int)(tx:List UInt8):j6 (y.jQ i (kg (y.R i) t tx).1) (D+1) (k+1):=by
 have h1:=Lj (h.ok i hi) (h.fits hD hi) t tx;exact h.call hi eE (jR.kg _ t tx) h1.1 h1.2 (λp _ _ hp=>I3 t tx hp)
theorem yh(rO:1<=id/\id<=6)(hm:∀i,i<3->1<=m i/\m i<=20):lp (jX id 3 m):=by
 refine⟨rO,hm,λi _=>nV.nobody rO.1,⟨(1,[]),?_,?_⟩,λx hx=> ?_⟩
 ·show(if id=id then μ ((1,[]):PS)else ν)=_;rw[ag rfl]
 ·show pj id 1 [] =0;unfold pj;have h1:¬id<1:=eE;have h2:¬6<id:=eE;simp[h1,h2,qt]
 ·have Af:(if x=id then μ ((1,[]):PS)else ν).isSome=true:=hx;by_cases e:x=id
  ·omega
  ·rw[ae e]at Af;simp at Af
theorem OZ(k:Nat):Fit (jX id 3 m) k:=⟨Nat.zero_le _,⟨Int.le_refl _,by show(0:Int)<=_;omega⟩,λ_ _=>Nat.zero_le _⟩
theorem pY(id:Int)(m:Nat->Int)(p:Nat):Idle ((jX id 3 m).P p):=⟨rfl,rfl,rfl⟩
theorem j6.lA {y:jc} {D k:Nat} (h:j6 y D k)(hD:D<=1000000000000000) {c d:Nat} (hc:c<y.nc)(hd:d<2):j6 (y.lA c d) D k:=by
 obtain⟨hi,hp⟩:=h.en c d hc hd;unfold jc.lA;have hf:=h.fits hD hi;have ho:=h.ok _ hi;have h1:j6 (y.jQ ((y.C c).e d).1 ((y.R ((y.C c).e d).1).out ((y.C c).e d).2)) D k:=by
  refine h.jQ hi (Nat.le_refl _) (Nat.le_refl _) (h.rn _ hi) (ho.jd _ _ rfl (λhi=>ho.pe _ hi)) (h.drop _ hi) (hf.jd _ _ (λ_=>Nat.zero_le _)) (λp hp hn=> ?_);exact j9.jd _ _ _ p (λe=>hn c d hc hd (by rw[e])) (h.idle _ p hi hp hn)
 refine h1.ll (λ_=> ?_) (λ_ d' lD=> ?_)
 ·unfold pX.put;split<;>rfl
 ·unfold pX.put;split
  ·rename_i hx
   show(jI (y.C c).on d _ d').length<=2000;by_cases e:d'=d
   ·subst e;rw[iP,aA];exact hx.2
   ·rw[iL _ _ e];exact h.ol c d' hc lD
  ·exact h.ol c d' hc lD
theorem ni(y:jc)(c d:Nat):(y.lA c d).n=y.n/\(y.lA c d).nc=y.nc/\(y.lA c d).ms=y.ms/\(y.lA c d).jA=y.jA/\∀x,((y.lA c d).C x).e=(y.C x).e/\((y.lA c d).C x).jG=(y.C x).jG:=by
 refine⟨rfl,rfl,rfl,rfl,λx=> ?_⟩;show(if x=c then(y.C c).put d _ else y.C x).e=_/\(if x=c then(y.C c).put d _ else y.C x).jG=_;by_cases e:x=c
 ·rw[ag e];subst e;unfold pX.put;split<;>exact⟨rfl,rfl⟩
 ·rw[ae e];exact⟨rfl,rfl⟩
theorem ka(y:jc):∀k,(y.kr k).n=y.n/\(y.kr k).nc=y.nc/\(y.kr k).ms=y.ms/\(y.kr k).jA=y.jA/\∀x,((y.kr k).C x).e=(y.C x).e/\((y.kr k).C x).jG=(y.C x).jG
 |0=>⟨rfl,rfl,rfl,rfl,λ_=>⟨rfl,rfl⟩⟩
 |k+1=>by
  obtain⟨a1,a2,a3,a4,a5⟩:=ka y k;obtain⟨b1,b2,b3,b4,b5⟩:=ni (y.kr k) k 0;obtain⟨c1,c2,c3,c4,c5⟩:=ni ((y.kr k).lA k 0) k 1;exact⟨c1.trans (b1.trans a1),c2.trans (b2.trans a2),c3.trans (b3.trans a3),c4.trans (b4.trans a4),λx=>⟨(c5 x).1.trans ((b5 x).1.trans (a5 x).1),(c5 x).2.trans ((b5 x).2.trans (a5 x).2)⟩⟩
theorem j6.kr {y:jc} {D k:Nat} (h:j6 y D k)(hD:D<=1000000000000000):∀q,q<=y.nc->j6 (y.kr q) D k
 |0,_=>h
 |q+1,hq=>by
  have h1:=j6.kr h hD q eE;have e1:(y.kr q).nc=y.nc:=(ka y q).2.1;have h2:=h1.lA hD (c:=q) (d:=0) (by rw[e1];omega) eE;exact h2.lA hD (c:=q) (d:=1) (by show q<(y.kr q).nc;rw[e1];omega) eE
theorem CO(y:jc)(c d i p:Nat):((y.lA c d).R i).P p=if(y.C c).e d=(i,p)then {(y.R i).P p with out:=[] }else(y.R i).P p:=by
 show((jI y.R ((y.C c).e d).1 ((y.R ((y.C c).e d).1).out ((y.C c).e d).2)) i).P p=_;by_cases e:i=((y.C c).e d).1
 ·rw[e,iP];show k8 _ ((y.C c).e d).2 _ p=_;by_cases e2:p=((y.C c).e d).2
  ·rw[e2,jz,ag rfl]
  ·rw[ju _ _ e2,ae (λh=>e2 (by rw[h]))]
 ·rw[iL _ _ e,ae (λh=>e (by rw[h]))]
theorem vj {y:jc} (c d i p:Nat)(h:(y.C c).e d=(i,p) \/((y.R i).P p).out=[]):(((y.lA c d).R i).P p).out=[] :=by
 rw[CO];rcases h with h|h
 ·rw[ag h]
 ·split
  ·rfl
  ·exact h
theorem CP {y:jc} (i p:Nat):∀q,((y.R i).P p).out=[] \/(∃c d,c<q/\d<2/\(y.C c).e d=(i,p))->(((y.kr q).R i).P p).out=[]
 |0,h=>by
  rcases h with h|⟨c,_,hc,_⟩
  ·exact h
  ·omega
 |q+1,h=>by
  have hs:=ka y q;have BF:=ni (y.kr q) q 0;by_cases h0:((y.R i).P p).out=[] \/(∃c d,c<q/\d<2/\(y.C c).e d=(i,p))
  ·have ih:=CP i p q h0;exact vj _ _ _ _ (.inr (vj _ _ _ _ (.inr ih)))
  ·rcases h with h|⟨c,d,hc,hd,he⟩
   ·exact absurd (.inl h) h0
   ·have hcq:c=q:=by
     rcases Nat.lt_or_ge c q with h1|h1
     ·exact absurd (.inr ⟨c,d,h1,hd,he⟩) h0
     ·omega
    subst hcq;have P9:d=0 \/d=1:=eE;rcases P9 with rfl|rfl
    ·exact vj _ _ _ _ (.inr (vj _ _ _ _ (.inl ((hs.2.2.2.2 c).1▸he))))
    ·refine vj _ _ _ _ (.inl ?_);rw[(BF.2.2.2.2 c).1,(hs.2.2.2.2 c).1];exact he
theorem j6.outs {y:jc} (h:j6 y D k)(hi:i<y.n)(hp:p<3):(((y.kr y.nc).R i).P p).out=[] :=by
 by_cases hx:∃c d,c<y.nc/\d<2/\(y.C c).e d=(i,p)
 ·exact CP i p _ (.inr hx)
 ·exact CP i p _ (.inl (h.idle i p hi hp (λc d hc hd e=>hx ⟨c,d,hc,hd,e⟩)).out)
theorem oo(y:jc):∀k,(y.mX k).n=y.n/\(y.mX k).nc=y.nc/\(y.mX k).ms=y.ms/\(y.mX k).C=y.C
 |0=>⟨rfl,rfl,rfl,rfl⟩
 |k+1=>oo y k
theorem xw(y:jc)(i:Nat):∀k,(y.mX k).R i=(if i<k then {y.R i with jA:=[] }else y.R i)/\(y.mX k).jA i=if i<k then y.jA i++(y.R i).jA else y.jA i
 |0=>by simp[jc.mX]
 |k+1=>by
  obtain⟨h1,h2⟩:=xw y i k;show jI (y.mX k).R k {(y.mX k).R k with jA:=[] } i=_/\jI (y.mX k).jA k ((y.mX k).jA k++((y.mX k).R k).jA) i=_;by_cases e:i=k
  ·subst e;rw[iP,iP,h1,h2,ae (Nat.lt_irrefl i),ae (Nat.lt_irrefl i),ag (Nat.lt_succ_self i),ag (Nat.lt_succ_self i)];exact⟨rfl,rfl⟩
  ·rw[iL _ _ e,iL _ _ e,h1,h2];by_cases e2:i<k
   ·have e3:i<k+1:=eE;rw[ag e2,ag e3,ag e2,ag e3];exact⟨rfl,rfl⟩
   ·have e3:¬i<k+1:=eE;rw[ae e2,ae e3,ae e2,ae e3];exact⟨rfl,rfl⟩
theorem j6.mX {y:jc} {D k:Nat} (h:j6 y D k)(q:Nat):j6 (y.mX q) (D+k) k:=by
 obtain⟨e1,e2,e3,e4⟩:=oo y q;have hR:∀i,((y.mX q).R i).n=(y.R i).n/\((y.mX q).R i).id=(y.R i).id/\((y.mX q).R i).P=(y.R i).P/\((y.mX q).R i).drop=(y.R i).drop/\((y.mX q).R i).K=(y.R i).K/\((y.mX q).R i).jA.length<=(y.R i).jA.length:=λi=>by
  rw[(xw y i q).1];split
  ·exact⟨rfl,rfl,rfl,rfl,rfl,Nat.zero_le _⟩
  ·exact⟨rfl,rfl,rfl,rfl,rfl,Nat.le_refl _⟩
 refine⟨by rw[e1];exact h.n1,by rw[e1];exact h.n6,by rw[e2];exact h.c9,λc d hc hd=> ?_,λc d c' d' hc hd kS lD=> ?_,λi p hi hp=> ?_,λi hi=> ?_,λi hi=> ?_,λi hi=> ?_,λc d hc hd=> ?_,λi hi=> ?_,λi p hi hp hn=> ?_,λi hi=> ?_⟩
 ·rw[e4,e1];rw[e2]at hc;exact h.en c d hc hd
 ·rw[e4];rw[e2]at hc kS;exact h.ds c d c' d' hc hd kS lD
 ·rw[e3];rw[e1]at hi;exact h.ms i p hi hp
 ·rw[e1]at hi;rw[(hR i).1,(hR i).2.1];exact h.rn i hi
 ·rw[e1]at hi;have ho:=h.ok i hi;rw[(xw y i q).1];split
  ·exact⟨ho.id,ho.m,ho.pe,ho.own,ho.RY⟩
  ·exact ho
 ·rw[e1]at hi;rw[(hR i).2.2.2.1];have:=h.drop i hi;omega
 ·rw[e4];rw[e2]at hc;exact h.ol c d hc hd
 ·rw[e1]at hi;rw[(xw y i q).2];have h1:=h.ib i hi;have h2:=(h.fit i hi).1;split
  ·rw[aA];omega
  ·omega
 ·rw[e1]at hi;rw[(hR i).2.2.1];exact h.idle i p hi hp (λc d hc hd=>by have:=hn c d (by rw[e2];exact hc) hd;rwa [e4]at this)
 ·rw[e1]at hi;have h1:=h.fit i hi;rw[(hR i).2.2.1];exact⟨Nat.le_trans (hR i).2.2.2.2.2 h1.1,h1.2⟩
theorem j6.gather {y:jc} {D k:Nat} (h:j6 y D k)(hD:D<=1000000000000000):j6 y.gather (D+k) 0:=by
 unfold jc.gather;obtain⟨s1,s2,s3,s4,s5⟩:=ka y y.nc;have h1:=h.kr hD y.nc (Nat.le_refl _);have h2:=h1.mX y.n;obtain⟨e1,e2,e3,e4⟩:=oo (y.kr y.nc) y.n;refine⟨h2.n1,h2.n6,h2.c9,h2.en,h2.ds,h2.ms,h2.rn,h2.ok,h2.drop,h2.ol,h2.ib,h2.idle,λi hi=> ?_⟩;have lO:i<y.n:=by rw[e1,s1]at hi;exact hi
 rw[(xw (y.kr y.nc) i y.n).1,ag lO];refine⟨Nat.le_refl _,λp hp=> ?_⟩;show(((y.kr y.nc).R i).P p).out.length<=_;rw[h.outs lO hp];exact Nat.zero_le _
theorem ld(y:jc):y.gather.n=y.n/\y.gather.nc=y.nc/\y.gather.ms=y.ms/\∀x,(y.gather.C x).e=(y.C x).e/\(y.gather.C x).jG=(y.C x).jG:=by
 unfold jc.gather;obtain⟨s1,s2,s3,s4,s5⟩:=ka y y.nc;obtain⟨e1,e2,e3,e4⟩:=oo (y.kr y.nc) y.n;exact⟨e1.trans s1,e2.trans s2,e3.trans s3,λx=>by rw[e4];exact s5 x⟩
theorem j6.j5 {y:jc} {D k:Nat} (h:j6 y D k)(hD:D<=1000000000000000) {c:Nat} (hc:c<y.nc)(up:Bool):j6 (y.j5 c up) D (k+2):=by
 unfold jc.j5;have h1:j6 (y.ll c {y.C c with jG:=up,on:=λ_=>[] }) D k:=h.ll (λ_=>rfl) (λ_ _ _=>Nat.zero_le _);exact(h1.SH hD (c:=c) (d:=0) hc eE up).SH hD (c:=c) (d:=1) hc eE up
theorem oO(y:jc)(c:Nat)(up:Bool):(y.j5 c up).n=y.n/\(y.j5 c up).nc=y.nc/\(y.j5 c up).ms=y.ms/\(y.j5 c up).jA=y.jA/\∀x,((y.j5 c up).C x).e=(y.C x).e/\((y.j5 c up).C x).jG=if x=c then up else(y.C x).jG:=by
 refine⟨rfl,rfl,rfl,rfl,λx=> ?_⟩;show(if x=c then({y.C c with jG:=up,on:=λ_=>[] }:pX)else y.C x).e=_/\(if x=c then({y.C c with jG:=up,on:=λ_=>[] }:pX)else y.C x).jG=_;by_cases e:x=c
 ·rw[ag e,ag e];subst e;exact⟨rfl,rfl⟩
 ·rw[ae e,ae e];exact⟨rfl,rfl⟩
theorem j6.jS {D:Nat} (hD:D<=1000000000000000)(up:Bool):∀(l:List Nat) {y:jc} {k:Nat},j6 y D k->(∀c∈l,c<y.nc)->j6 (y.jS up l) D (k+2*l.length)
 |[],_,_,h,_=>h
 |c::l,y,k,h,hl=>by
  have h1:=h.j5 hD (hl c iC) up;have:=j6.jS hD up l h1 (λx hx=>hl x (by simp[hx]));exact this.mono (Nat.le_refl _) (by simp;omega)
theorem mV(up:Bool):∀(l:List Nat) (y:jc),(y.jS up l).n=y.n/\(y.jS up l).nc=y.nc/\(y.jS up l).ms=y.ms/\(y.jS up l).jA=y.jA/\∀x,((y.jS up l).C x).e=(y.C x).e
 |[],y=>⟨rfl,rfl,rfl,rfl,λ_=>rfl⟩
 |c::l,y=>by
  obtain⟨h1,h2,h3,h4,h5⟩:=mV up l (y.j5 c up);obtain⟨g1,g2,g3,g4,g5⟩:=oO y c up;exact⟨h1.trans g1,h2.trans g2,h3.trans g3,h4.trans g4,λx=>(h5 x).trans (g5 x).1⟩
theorem j6.iW {y:jc} {D:Nat} (h:j6 y D 0)(hD:D<=1000000000000000)(i:Int)(up:Bool):j6 (y.iW i up).1 (D+2) 0:=by
 unfold jc.iW;split
 ·exact h.mono eE (Nat.le_refl _)
 ·split
  ·exact h.mono eE (Nat.le_refl _)
  ·exact(h.j5 hD eE up).gather hD
theorem j6.tick {y:jc} {D:Nat} (h:j6 y D 0)(hD:D<=1000000000000000)(i:Int):j6 (y.tick i).1 (D+6) 0:=by
 unfold jc.tick;split
 ·exact h.mono eE (Nat.le_refl _)
 ·exact(h.jn hD eE).gather hD
theorem j6.j0 {y:jc} {D k:Nat} (h:j6 y D k)(hD:D<=1000000000000000) {c d q:Nat} (hc:c<y.nc)(hd:d<2):j6 (y.j0 c d q) (D+2000) (k+4000):=by
 have hl:((y.C c).on d).length<=2000:=h.ol c d hc hd;unfold jc.j0;have h1:j6 (y.ll c {y.C c with on:=jI (y.C c).on d (((y.C c).on d).drop q)}) D k:=h.ll (λ_=>rfl) (λ_ d' lD=>by
  show(jI (y.C c).on d _ d').length<=_;by_cases e:d'=d
  ·subst e;rw[iP,dO];omega
  ·rw[iL _ _ e];exact h.ol c d' hc lD)
 have h2:=h1.acz hD (c:=c) (d:=1-d) hc eE (((y.C c).on d).take q) (by rw[List.length_take];omega);have e:((y.ll c {y.C c with on:=jI (y.C c).on d (((y.C c).on d).drop q)}).C c).e=(y.C c).e:=by
  show(if c=c then _ else y.C c).e=_;rw[ag rfl]
 rw[e]at h2;exact h2
theorem j6.deliver {y:jc} {D:Nat} (h:j6 y D 0)(hD:D<=100000000000000)(i d many:Int):j6 (y.deliver i d many).1 (D+6000) 0:=by
 unfold jc.deliver;split
 ·exact h.mono eE (Nat.le_refl _)
 ·exact((h.j0 eE eE eE).gather eE).mono eE (Nat.le_refl _)
theorem zo {y:jc}:∀c∈y.kT k,c<y.nc:=λc hc=>by
 unfold jc.kT at hc;exact a7.1 (List.mem_filter.1 hc).1
theorem xx(y:jc)(k:Nat):(y.kT k).length<=y.nc:=by
 unfold jc.kT;have:=cK (λc=>(y.C c).jG&& (((y.C c).e 0).1==k||((y.C c).e 1).1==k)) (List.range y.nc);simpa using this
theorem j6.anew {y:jc} (h:j6 y D k)(i:Nat)(hi:i<y.n):j6 (y.jQ i (jX ((i:Int)+1) 3 (y.ms i))) D k:=
 h.jQ hi (Nat.le_refl _) (Nat.le_refl _) ⟨rfl,rfl⟩ (yh (by have:=h.n6;omega) (λp hp=>h.ms i p hi hp)) ⟨Int.le_refl _,by show(0:Int)<=_;omega⟩ (OZ k) (λp _ _=>pY _ _ p)
theorem j6.restart {y:jc} {D:Nat} (h:j6 y D 0)(hD:D<=1000000000000000)(i:Int):j6 (y.restart i).1 (D+36) 0:=by
 unfold jc.restart;split
 ·exact h.mono eE (Nat.le_refl _)
 ·have hl:=xx y (i-1).toNat;have h9:=h.c9;have h1:=j6.jS hD false (y.kT (i-1).toNat) h zo;obtain⟨s1,s2,s3,s4,s5⟩:=mV false (y.kT (i-1).toNat) y;have h2:=h1.anew (i-1).toNat (by rw[s1];omega);have e:(((i-1).toNat:Nat):Int)+1=i:=eE;rw[e,s3]at h2;have h3:=j6.jS hD true (y.kT (i-1).toNat) h2 (λc hc=>by
   show c<(y.jS false (y.kT (i-1).toNat)).nc;rw[s2];exact zo c hc)
  exact(h3.gather hD).mono eE (Nat.le_refl _)
theorem j6.send {y:jc} {D:Nat} (h:j6 y D 0)(hD:D<=100000000000000)(f t:Int)(tx:List UInt8):j6 (y.send f t tx).1 (D+2) 0:=by
 unfold jc.send;split
 ·exact h.mono eE (Nat.le_refl _)
 ·split
  ·exact h.mono eE (Nat.le_refl _)
  ·exact(h.SI eE eE t tx).gather eE
theorem j6.inbox {y:jc} {D:Nat} (h:j6 y D 0)(hD:D<=1000000000000000)(i:Nat):j6 (y.inbox i) D 0:=by
 unfold jc.inbox;refine j6.gather (k:=0) ⟨h.n1,h.n6,h.c9,h.en,h.ds,h.ms,h.rn,h.ok,h.drop,h.ol,λj hj=> ?_,h.idle,h.fit⟩ hD;show(jI y.jA i [] j).length<=_;by_cases e:j=i
 ·subst e;rw[iP];exact Nat.zero_le _
 ·rw[iL _ _ e];exact h.ib j hj
theorem jJ.Ah {n:jc} (h:jJ w y n)(hk:y.all n.n k):k<w.heap.size:=by
 rcases hk with e|⟨j,hj,e⟩
 ·exact h.lt (.inl e)
 ·exact h.xk hj e
theorem jJ.cbW {w':eB} {n:jc} {cb:pX} {v':Value} (h:jJ w y n)(hc:c<n.nc)(hd:d<2)(hg:y.gC=μ g)(hW:Qd w w' g (c*7) d cb (y.ov c) v')(he:cb.e=(n.C c).e)(ho:∀x,x≠d->cb.on x=(n.C c).on x)(hl:(cb.on d).length<=2000):iV w w' y (n.ll c cb) n.n:=by
 have jV:∀x,x<2->x≠d->∀k,(y.ov c x).ownBlock=μ k->v'.ownBlock≠μ k:=by
  intro x hx hxd k e e';rcases hW.own k e' with e1|e1
  ·have:=h.inj (.on c x) (.on c d) k e e1;injection this with _ h2
   exact hxd h2
  ·have:=h.qL (l:=.on c x) e;omega
 refine h.EK hc hg cb (jI (y.ov c) d v') hW.size hW.os hW.tape hW.output (λk hk h1 h2=>hW.block k hk h1 (h2 d hd)) hW.cell hW.fz hW.vN (λx hx=> ?_) (λx hx=> ?_) he (λx k hx e=> ?_) (λk e=> ?_)
 ·by_cases e:x=d
  ·subst e;rw[iP];exact hW.row
  ·rw[iL _ _ e,ho x e];refine(h.ob c x hc hx).keep hW.size (λk hk=>hW.block k ((h.ob c x hc hx).lt k hk) (λe1=> ?_) (λe1=> ?_))
   ·exact h.sZ (l:=.on c x) (l':=.C) hk hg (by intro e;cases e) e1
   ·have:=h.inj (.on c x) (.on c d) k hk e1;injection this with _ h2
    exact e h2
 ·by_cases e:x=d
  ·subst e;exact hl
  ·rw[ho x e];exact h.ol c x hc hx
 ·by_cases ex:x=d
  ·subst ex;rw[iP]at e;exact hW.own k e
  ·rw[iL _ _ ex]at e;exact .inl e
 ·have P9:d=0 \/d=1:=eE;rcases P9 with rfl|rfl
  ·rw[iP]at e;rw[iL _ _ eH];exact λe1=>jV 1 eE eH k e1 e
  ·rw[iL _ _ eH]at e;rw[iP];exact jV 0 eE eH k e
theorem jJ.acA {n:jc} (h:jJ w y n)(hg:y.gC=μ g):(y.ov c d).ownBlock≠μ g:=λe=>h.sZ (l:=.on c d) (l':=.C) e hg (by intro e;cases e) rfl
theorem SJ(y:Yt)(n:jc)(c d g:Nat)(s:ByteArray)(w:eB)(h:jJ w y n)(hc:c<n.nc)(hd:d<2)(hg:y.gC=μ g)(hs:s.size<=1000000000):
 fj fk 161 #[π (μ ⟨g,c*7,ν⟩),ι κ (d:Int),.string s] w λe w'=>e=ρ (τ #[])/\iV w w' y (n.ll c ((n.C c).put d s.data.toList)) n.n:=by
 refine(Sm g (c*7) d (n.C c) (y.ov c) s w hd (h.rc g hg c hc) (h.ob c d hc hd) (h.acA hg) (h.ol c d hc hd) hs).mono ?_;rintro e w1 ⟨rfl,v',hW⟩;refine⟨rfl,h.cbW hc hd hg hW ?_ (λx hx=> ?_) ?_⟩
 ·unfold pX.put;split<;>rfl
 ·unfold pX.put;split
  ·exact iL _ _ hx
  ·rfl
 ·unfold pX.put;split
  ·rename_i hx
   show(jI (n.C c).on d _ d).length<=2000;rw[iP,aA];exact hx.2
  ·exact h.ol c d hc hd
theorem SK(y:Yt)(n:jc)(i p:Nat)(w:eB)(h:jJ w y n)(hi:i<n.n)(hp:p<3):
 fj fk 29 #[π (μ ⟨(y.z i).R,0,ν⟩),ι κ (p:Int)] w λe w'=>e=ρ (τ #[.string ⟨((n.R i).P p).out.toArray⟩,η])/\iV w w' y (n.jQ i ((n.R i).out p)) n.n:=by
 have h3:=(h.rn i hi).1;refine(SA (y.z i) (n.R i) p w (h.rt i hi) eE).mono ?_;rintro e w1 ⟨rfl,hw⟩;rw[h3]at hw;exact⟨rfl,h.CB hi hw (h.rn i hi)⟩
def jc.oB(y:jc)(q d:Nat):jc:=if d=0 then y.kr q else if d=1 then(y.kr q).lA q 0 else y.kr (q+1)
theorem Ai(c:pX)(o:Nat->Value):AO c o 0=ι κ (((c.e 0).1:Int)+1)/\AO c o 1=ι κ ((c.e 0).2:Int)/\AO c o 2=ι κ (((c.e 1).1:Int)+1)/\AO c o 3=ι κ ((c.e 1).2:Int)/\AO c o 4=.bool c.jG:=⟨rfl,rfl,rfl,rfl,rfl⟩
theorem Zi(y:jc)(q d x:Nat):((y.oB q d).C x).e=(y.C x).e:=by
 unfold jc.oB;split
 ·exact((ka y q).2.2.2.2 x).1
 ·split
  ·exact((ni _ q 0).2.2.2.2 x).1.trans ((ka y q).2.2.2.2 x).1
  ·exact((ka y (q+1)).2.2.2.2 x).1
theorem Zj(y:jc)(q d:Nat):(y.oB q d).n=y.n/\(y.oB q d).nc=y.nc:=by
 unfold jc.oB;split
 ·exact⟨(ka y q).1,(ka y q).2.1⟩
 ·split
  ·exact⟨(ka y q).1,(ka y q).2.1⟩
  ·exact⟨(ka y (q+1)).1,(ka y (q+1)).2.1⟩
theorem O0(y:jc)(q d:Nat)(hd:d<2):y.oB q (d+1)=(y.oB q d).lA q d:=by
 have:d=0 \/d=1:=eE;rcases this with rfl|rfl<;>rfl
theorem j6.oB {y:jc} {D k:Nat} (h:j6 y D k)(hD:D<=1000000000000000)(q d:Nat)(hq:q<y.nc):j6 (y.oB q d) D k:=by
 unfold jc.oB;split
 ·exact h.kr hD q eE
 ·split
  ·exact(h.kr hD q eE).lA hD (by rw[(ka y q).2.1];exact hq) eE
  ·exact h.kr hD (q+1) eE
theorem Lm(w:eB)(y:Yt)(n:jc)(D k q d g m:Nat)(jb:j6 n D k)(hD:D<=1000000000000000)(hk:k<=100000)(hq:q<n.nc)(hd:d<2)(hg:y.gC=μ g)(hm:n.n=m)(i p:Nat)(yI:(n.C q).e d=(i,p))(W0 W1:eB)(hW:iV w W0 y (n.oB q d) m)(hb:eN W0 W1)(E:Nat)(u v:Value)(hE:W0.heap.size<=E)(hc:W1.cell? ⟨E,0,ν⟩=μ u/\W1.cell? ⟨E,1,ν⟩=μ v):
 fj fk 157 #[π (μ ⟨y.N,0,ν⟩),.agg #[ι κ ((i:Int)+1),ι κ (p:Int)]] W1 λe w1=>∃R,e=ρ (π (μ ⟨R,0,ν⟩))/\(w1.cell? ⟨E,0,ν⟩=μ u/\w1.cell? ⟨E,1,ν⟩=μ v)/\
  fj fk 29 #[π (μ ⟨R,0,ν⟩),ι κ (p:Int)] w1 λe w2=>∃s:ByteArray,e=ρ (τ #[.string s,η])/\(w2.cell? ⟨E,0,ν⟩=μ u/\w2.cell? ⟨E,1,ν⟩=μ v)/\
   ∀w3,eN w2 w3->fj fk 161 #[π (μ ⟨g,q*7,ν⟩),ι κ (d:Int),.string s] w3 λe w4=>e=ρ (τ #[])/\iV w w4 y (n.oB q (d+1)) m:=by
 subst hm;obtain⟨hi,hp⟩:=jb.en q d hq hd;rw[yI]at hi hp;obtain⟨gn,gc⟩:=Zj n q d;obtain⟨y1,R0,s1,vY,xI⟩:=hW.ex;have R1:=R0.below hb;have MB:E<W1.heap.size:=af _ _ hc.1;have hEn:¬y1.all n.n E:=λe=>by
  have:=R0.Ah (k:=E) (by rw[gn];exact e);omega
 rw[<-s1.N];refine(Ld y1 _ i p W1 R1 (by rw[gn];exact hi)).mono ?_;rintro e w1 ⟨rfl,b1⟩;refine⟨_,rfl,⟨(ai (a:=⟨E,0,ν⟩) (b1.block E MB)).trans hc.1,(ai (a:=⟨E,1,ν⟩) (b1.block E MB)).trans hc.2⟩,?_⟩;have hE1:E<w1.heap.size:=Nat.lt_of_lt_of_le MB b1.size;have R2:=R1.below b1;refine(SK y1 _ i p w1 R2 (by rw[gn];exact hi) hp).mono ?_;rintro e w2 ⟨rfl,sT⟩;have sg:=sT.kept.block E hE1 (by rw[gn];exact hEn);refine⟨_,rfl,⟨(ai (a:=⟨E,0,ν⟩) (sg.trans (b1.block E MB))).trans hc.1,(ai (a:=⟨E,1,ν⟩) (sg.trans (b1.block E MB))).trans hc.2⟩,λw3 b3=> ?_⟩;have WM:=sT.below rfl b3;rw[gn]at WM;have hF:=(jb.oB hD q d hq).fits hD (i:=i) (by rw[gn];exact hi);have qI:((((n.oB q d).R i).P p).out).length<=6000*k:=hF.out p (by rw[((jb.oB hD q d hq).rn i (by rw[gn];exact hi)).1];exact hp);have h4:fj fk 161 #[π (μ ⟨g,q*7,ν⟩),ι κ (d:Int),.string ⟨(((n.oB q d).R i).P p).out.toArray⟩] w3 λe w4=>e=ρ (τ #[])/\iV w1 w4 y1 (n.oB q (d+1)) n.n:=by
  refine WM.call λy2 R3 s2=> ?_;have vZ:y2.gC=μ g:=by rw[s2.gC,s1.gC];exact hg
  have hcc:q<(n.oB q d).nc:=by rw[gc];exact hq
  have nQ:=SJ y2 _ q d g ⟨(((n.oB q d).R i).P p).out.toArray⟩ w3 R3 hcc hd vZ (by show Array.size _<=_;simp;omega);have e1:n.oB q (d+1)=((n.oB q d).jQ i (((n.oB q d).R i).out p)).ll q (((n.oB q d).C q).put d ((((n.oB q d).R i).P p).out)):=by
   rw[O0 n q d hd];unfold jc.lA;rw[Zi,yI]
  rw[e1];have e2:((n.oB q d).jQ i (((n.oB q d).R i).out p)).n=n.n:=gn;rw[e2]at nQ;have e3:(⟨(((n.oB q d).R i).P p).out.toArray⟩:ByteArray).data.toList=(((n.oB q d).R i).P p).out:=iC;rw[e3]at nQ;exact nQ
 refine h4.mono ?_;rintro e w4 ⟨rfl,G9⟩;exact⟨rfl,iV.pF hW.kept s1 vY xI (iV.first (iA hb b1) G9)⟩
theorem Zk(a b c d:Int)(w:eB):(il 193 (.agg #[ι κ a,ι κ b,ι κ c,ι κ d]) (ι κ 0)).run fk w=.ok (.agg #[ι κ a,ι κ b]) w:=gT
theorem Zl(a b c d:Int)(w:eB):(il 193 (.agg #[ι κ a,ι κ b,ι κ c,ι κ d]) (ι κ 1)).run fk w=.ok (.agg #[ι κ c,ι κ d]) w:=gT
end Rt
end Go.Proofs.YtieklnlbljejdaaGreatDoor
