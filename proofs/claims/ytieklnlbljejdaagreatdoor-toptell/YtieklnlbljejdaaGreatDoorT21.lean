import Derived.Test.YtieklnlbljejdaaGreatDoorT19
open Go.Value renaming int → ι, pointer → π, tuple → τ, nilIface → η
open Go.IntKind renaming i64 → κ
open Go.Ending renaming returned → ρ
open Option renaming none → ν, some → μ
open Go renaming World → dN, Calls → eM
open Go.Proofs.Tryz renaming prog → eN
open Go.Instr renaming index → gF
set_option maxRecDepth 100000
namespace Go.Proofs.YtieklnlbljejdaaGreatDoor
open Go.RowKit St
namespace Rt
variable {D c d g i k k' p:Nat} {id:Int} {m:Nat->Int} {r r':iy} {w:World} {y:Yt}
structure Idle(p:jb):Prop where
 st:p.L.st=1
 pe:p.pe=nobody
 out:p.out=[]
structure jm(r r':iy)(k:Nat):Prop where
 n:r'.n=r.n
 id:r'.id=r.id
 lo:r.drop<=r'.drop
 hi:r'.drop<=r.drop+k
theorem jm.refl(r:iy):jm r r 0:=⟨rfl,rfl,Int.le_refl _,dP⟩
theorem jm.mono {l:Nat} (h:jm r r' k)(hl:k<=l):jm r r' l:=⟨h.n,h.id,h.lo,by have:=h.hi;omega⟩
theorem jm.trans {a b c:iy} {k l:Nat} (h:jm a b k)(g:jm b c l):jm a c (k+l):=⟨g.n.trans h.n,g.id.trans h.id,Int.le_trans h.lo g.lo,by have:=h.hi;have:=g.hi;omega⟩
theorem jm.uZ(Z:r'.n=r.n)(hi:r'.id=r.id)(hd:r'.drop=r.drop):jm r r' 0:=⟨Z,hi,dP,dP⟩
theorem jm.iE(r:iy)(i:Nat)(p:jb):jm r (r.iE i p) 0:=jm.uZ rfl rfl rfl
theorem jm.meet(r:iy)(i:Nat)(q:kL):jm r (r.meet i q) 0:=by
 obtain⟨_,Z,Y,_⟩:=lS r i q;exact jm.uZ Y (Au _ _ _) Z
theorem jm.behind(r:iy)(s:Int):jm r (r.behind s) 0:=by
 obtain⟨_,Z,Y,_⟩:=nC r s;exact jm.uZ Y (yF _ _) Z
theorem jm.send(r:iy)(t:wT):jm r (r.send t) 1:=by
 unfold iy.send;split
 ·exact jm.mono (k:=0) (jm.uZ rfl rfl rfl) dP
 ·split
  ·exact⟨rfl,rfl,by simp;omega,gN⟩
  ·exact(jm.iE _ _ _).mono dP
theorem jm.state(r:iy)(i:Nat)(l:List UInt8):jm r (ji r i l) 0:=by
 unfold ji;simp only;split
 ·exact jm.refl r
 ·split
  ·exact jm.behind _ _
  ·split<;>exact jm.uZ rfl rfl rfl
theorem jm.link(r:iy)(i:Nat)(c:UInt8)(s:List UInt8):jm r (jH r i c s) 0:=by
 unfold jH;split
 ·exact jm.iE _ _ _
 ·exact jm.refl r
theorem jm.rest(r:iy)(i:Nat)(c:UInt8)(s:List UInt8):jm r (l9 r i c s) 1:=by
 unfold l9;split
 ·split
  ·exact(jm.meet _ _ _).mono dP
  ·exact(jm.refl r).mono dP
 ·split
  ·exact(jm.state _ _ _).mono dP
  ·split
   ·unfold ku;simp only;split<;>exact jm.mono (k:=0) (jm.uZ rfl rfl rfl) dP
   ·split
    ·unfold qj;split
     ·exact jm.send _ _
     ·exact(jm.refl r).mono dP
    ·exact(jm.refl r).mono dP
theorem jm.take(r:iy)(i:Nat)(c:UInt8)(s:List UInt8):jm r (r.take i c s) 1:=by
 rw[lK];have Z:=jm.link r i c s;split
 ·exact(Z.trans (jm.meet _ _ _)).mono dP
 ·exact(Z.trans (jm.rest _ i c s)).mono dP
theorem jm.takes:∀(l:List (List UInt8)) (r:iy) (i:Nat),jm r (r.takes i l) l.length
 |[],r,_=>jm.refl r
 |t::l,r,i=>by
  show jm r ((jT r i t).takes i l) (l.length+1);have Y:=jm.takes l (jT r i t) i;have Z:jm r (jT r i t) 1:=by
   cases t with
   |nil=>exact jm.mono (jm.refl r) dP
   |cons c s=>exact jm.take r i c s
  exact jm.mono (Z.trans Y) dP
theorem jm.recv(r:iy)(i:Nat)(l:List UInt8):jm r (r.recv i l) l.length:=by
 unfold iy.recv;simp only;have h:=(jm.iE r i {r.P i with rd:=(j2 (r.P i).rd l).2.2}).trans (jm.takes (j2 (r.P i).rd l).1 _ i);refine h.mono ?_;have:=Ap (r.P i).rd l;omega
theorem jm.iw(r:iy)(i:Nat)(up:Bool):jm r (r.iw i up).1 0:=by
 unfold iy.iw;simp only;split
 ·exact jm.refl r
 ·exact((jm.iE r i _).trans (jm.meet _ _ _)).mono dP
theorem jm.iV(r:iy)(i:Nat):jm r (r.iV i) 0:=by
 rw[kO];have Z:jm r (iT r i) 0:=jm.iE _ _ _;split
 ·exact Z.trans (jm.meet _ _ _)
 ·exact(Z.trans (jm.meet _ i _)).trans (jm.iE _ _ _)
theorem jm.iW(r:iy):∀q,jm r (r.iW q) 0
 |0=>jm.refl r
 |q+1=>(jm.iW r q).trans (jm.iV _ _)
theorem jm.jR(r:iy)(t:Int)(tx:List UInt8):jm r (jR r t tx).1 1:=by
 unfold Rt.jR;split
 ·exact jm.mono (k:=0) (jm.refl r) dP
 ·show jm r (r.send (t,8,tx)) 1;exact jm.send r (t,8,tx)
theorem Fc {m:Nat} (h:kE r)(hf:Fit r k)(i:Nat)(A:List (List UInt8))(rd:jY)(hA:A.length<=m):kE ((r.iE i {r.P i with rd:=rd}).takes i A)/\Fit ((r.iE i {r.P i with rd:=rd}).takes i A) (k+2*m):=by
 have Y:kE (r.iE i {r.P i with rd:=rd}):=h.iE i _ rfl (λhi=>h.pe i hi);have f1:Fit (r.iE i {r.P i with rd:=rd}) k:=hf.iE i _ (λhi=>hf.out i hi);have Z:=yI A Y f1 i;exact⟨Z.2.1,Z.2.2.mono dP⟩
theorem Rv(h:kE r)(hf:Fit r k)(i:Nat)(l:List UInt8):kE (r.recv i l)/\Fit (r.recv i l) (k+2*l.length):=
 Fc h hf i (j2 (r.P i).rd l).1 (j2 (r.P i).rd l).2.2 (Nat.le_trans (Nat.le_add_right _ _) (Ap (r.P i).rd l))
theorem Rw(h:kE r)(hf:Fit r k)(i:Nat)(up:Bool):kE (r.iw i up).1/\Fit (r.iw i up).1 (k+1):=by
 have Z:=(wD (r.P i) up).1;have hl:((r.P i).iw up).1.out.length<=(r.P i).out.length+6000:=by
  unfold jb.iw;have X:=xx (r.P i).L (if up=true then 0 else 1);generalize ko (r.P i).L (if up=true then 0 else 1)=e at X⊢;simp only;by_cases Y:e.2.2=0
  ·rw[ae (by simp[Y])];have h2:=xA e.2.1 {r.P i with L:=e.1,rd:=([],false,false)};have h4:({r.P i with L:=e.1,rd:=([],false,false)}:jb).out.length=(r.P i).out.length:=rfl;show(({r.P i with L:=e.1,rd:=([],false,false)}:jb).say e.2.1).out.length<=_;omega
  ·rw[ag Y];show(r.P i).out.length<=_;omega
 unfold iy.iw;generalize (r.P i).iw up=e at Z hl⊢;simp only;split
 ·exact⟨h,hf.mono (Nat.le_succ k)⟩
 ·exact⟨(h.iE i _ Z.1 (λhi=>by rw[Z.2];exact h.pe i hi)).meet i (nr.nobody h.id.1),(hf.grow i _ hl).meet i _⟩
theorem Ks(h:kE r)(hf:Fit r k)(t:Int)(tx:List UInt8):kE (jR r t tx).1/\Fit (jR r t tx).1 (k+1):=by
 unfold Rt.jR;split
 ·exact⟨h,hf.mono (Nat.le_succ k)⟩
 ·exact⟨h.send _,hf.send _⟩
def jJ(r r':iy)(i:Nat):Prop:=∀p,p≠i->Idle (r.P p)->Idle (r'.P p)
theorem jJ.refl(r:iy)(i:Nat):jJ r r i:=λ_ _ h=>h
theorem jJ.trans {a b c:iy} (h:jJ a b i)(g:jJ b c i):jJ a c i:=λp Z hi=>g p Z (h p Z hi)
theorem jJ.iE(r:iy)(i:Nat)(q:jb):jJ r (r.iE i q) i:=λp Z h=>by
 show Idle (kA r.P i q p);rw[iU _ _ Z];exact h
theorem jJ.vt(h:r'.P=r.P)(i:Nat):jJ r r' i:=λp _ hi=>by rw[h];exact hi
theorem jJ.meet(r:iy)(i:Nat)(q:kL):jJ r (r.meet i q) i:=λp Z h=>by
 rw[(lS r i q).2.2.2,iU _ _ Z];exact h
theorem DZ(t:wT)(h:Idle (r.P p)):Idle ((r.send t).P p):=by
 unfold iy.send;split
 ·exact h
 ·split
  ·exact h
  ·rename_i b hb
   show Idle (kA r.P b _ p);by_cases e:p=b
   ·subst e;exfalso;split at hb
    ·cases Z:ym (oB r) t.1 with
     |none=>rw[Z]at hb;simp at hb
     |some x=>
      rw[Z]at hb;have Y:jA r.P x.tf r.n=μ p:=hb;have:=(nt Y).2.1;rw[h.pe]at this;exact absurd this dS
    ·simp at hb
   ·rw[iU _ _ e];exact h
theorem jJ.send(r:iy)(t:wT)(i:Nat):jJ r (r.send t) i:=λ_ _ h=>DZ t h
theorem jJ.state(r:iy)(i:Nat)(l:List UInt8):jJ r (ji r i l) i:=by
 unfold ji;simp only;split
 ·exact jJ.refl r i
 ·split
  ·exact jJ.vt (nC _ _).2.2.2 i
  ·split
   ·exact(jJ.vt rfl i).trans (jJ.iE _ _ _)
   ·exact jJ.vt rfl i
theorem jJ.take(r:iy)(i:Nat)(c:UInt8)(s:List UInt8):jJ r (r.take i c s) i:=by
 rw[lK];have Z:jJ r (jH r i c s) i:=by
  unfold jH;split
  ·exact jJ.iE _ _ _
  ·exact jJ.refl _ _
 split
 ·exact Z.trans (jJ.meet _ _ _)
 ·refine Z.trans ?_;unfold l9;split
  ·split
   ·exact jJ.meet _ _ _
   ·exact jJ.refl _ _
  ·split
   ·exact jJ.state _ _ _
   ·split
    ·unfold ku;simp only;split<;>exact jJ.vt rfl i
    ·split
     ·unfold qj;split
      ·exact jJ.send _ _ _
      ·exact jJ.refl _ _
     ·exact jJ.refl _ _
theorem jJ.takes:∀(l:List (List UInt8)) (r:iy) (i:Nat),jJ r (r.takes i l) i
 |[],r,i=>jJ.refl r i
 |t::l,r,i=>by
  show jJ r ((match t with|[] =>r|c::s=>r.take i c s).takes i l) i;refine jJ.trans ?_ (jJ.takes l _ i);cases t with
  |nil=>exact jJ.refl _ _
  |cons c s=>exact jJ.take r i c s
theorem jJ.recv(r:iy)(i:Nat)(l:List UInt8):jJ r (r.recv i l) i:=by
 unfold iy.recv;simp only;exact(jJ.iE r i _).trans (jJ.takes _ _ i)
theorem jJ.iw(r:iy)(i:Nat)(up:Bool):jJ r (r.iw i up).1 i:=by
 unfold iy.iw;simp only;split
 ·exact jJ.refl r i
 ·exact(jJ.iE r i _).trans (jJ.meet _ _ _)
theorem Hx {p:jb} (h:Idle p):p.tick=p:=by
 have X:jB p.L=(p.L,[]):=by
  have Z:j5 p.L=p.L:=by unfold j5;simp[h.st]
  have Y:lO p.L=[] :=by unfold lO;simp[h.st]
  unfold jB;rw[Z,Y];simp[h.st]
 unfold jb.tick;rw[X];rfl
theorem Kt(i:Nat)(h:Idle (r.P p)):Idle ((r.iV i).P p):=by
 rw[kO];by_cases e:p=i
 ·subst e;have Z:(iT r p).P p=r.P p:=by
   show kA r.P p (r.P p).tick p=_;rw[ja,Hx h]
  rw[Z,ag (by rw[h.st];decide),(lS _ _ _).2.2.2,ja,Z];exact⟨h.st,rfl,h.out⟩
 ·have Z:Idle ((iT r i).P p):=by
   show Idle (kA r.P i _ p);rw[iU _ _ e];exact h
  split
  ·exact jJ.meet _ _ _ p e Z
  ·exact jJ.iE _ i _ p e (jJ.meet _ _ _ p e Z)
theorem B3 {r:iy} {p:Nat} (h:Idle (r.P p)):∀q,Idle ((r.iW q).P p)
 |0=>h
 |q+1=>Kt q (B3 h q)
theorem Hy(t:Int)(tx:List UInt8)(h:Idle (r.P p)):Idle ((jR r t tx).1.P p):=by
 unfold Rt.jR;split
 ·exact h
 ·show Idle ((r.send (t,8,tx)).P p);exact DZ (t,8,tx) h
structure jN(y:iB)(D k:Nat):Prop where
 n1:1<=y.n
 n6:y.n<=6
 c9:y.nc<=9
 en:∀c d,c<y.nc->d<2->((y.C c).e d).1<y.n/\((y.C c).e d).2<3
 ds:∀c d c' d',c<y.nc->d<2->c'<y.nc->d'<2->(y.C c).e d=(y.C c').e d'->c=c'/\d=d'
 ms:∀i p,i<y.n->p<3->1<=y.ms i p/\y.ms i p<=20
 rn:∀i,i<y.n->(y.R i).n=3/\(y.R i).id=(i:Int)+1
 ok:∀i,i<y.n->kE (y.R i)
 drop:∀i,i<y.n->0<=(y.R i).drop/\(y.R i).drop<=D
 ol:∀c d,c<y.nc->d<2->((y.C c).on d).length<=2000
 ib:∀i,i<y.n->(y.jM i).length<=D
 idle:∀i p,i<y.n->p<3->(∀c d,c<y.nc->d<2->(y.C c).e d≠(i,p))->Idle ((y.R i).P p)
 fit:∀i,i<y.n->(y.R i).jM.length<=k/\∀p,p<3->((y.R i).P p).out.length<=6000*k
theorem jN.mono {y:iB} {D':Nat} (h:jN y D k)(hD:D<=D')(hk:k<=k'):jN y D' k':=
 ⟨h.n1,h.n6,h.c9,h.en,h.ds,h.ms,h.rn,h.ok,λi hi=>by have:=h.drop i hi;omega,h.ol,λi hi=>by have:=h.ib i hi;omega,h.idle,λi hi=>⟨by have:=(h.fit i hi).1;omega,λp Z=>by have:=(h.fit i hi).2 p Z;omega⟩⟩
theorem jN.fits {y:iB} (h:jN y D k)(hD:D<=1000000000000000)(hi:i<y.n):Fit (y.R i) k:=
 ⟨(h.fit i hi).1,by have:=h.drop i hi;omega,λp Z=>(h.fit i hi).2 p (by rw[(h.rn i hi).1]at Z;exact Z)⟩
theorem jN.jg {y:iB} {D k:Nat} (h:jN y D k) {i:Nat} (hi:i<y.n) {r:iy} {D' k':Nat} (U:D<=D')(hk:k<=k')(V:r.n=3/\r.id=(i:Int)+1)(T:kE r)(hd:0<=r.drop/\r.drop<=D')(hf:Fit r k')
 (S:∀p,p<3->(∀c d,c<y.nc->d<2->(y.C c).e d≠(i,p))->Idle (r.P p)):jN (y.jg i r) D' k':=by
 have X:∀j,(y.jg i r).R j=if j=i then r else y.R j:=λj=>rfl
 refine⟨h.n1,h.n6,h.c9,h.en,h.ds,h.ms,λj Z=> ?_,λj Z=> ?_,λj Z=> ?_,h.ol,λj Z=>Nat.le_trans (h.ib j Z) U,λj p Z Y hc=> ?_,λj Z=> ?_⟩
 ·rw[X];by_cases e:j=i
  ·rw[ag e];subst e;exact V
  ·rw[ae e];exact h.rn j Z
 ·rw[X];by_cases e:j=i
  ·rw[ag e];exact T
  ·rw[ae e];exact h.ok j Z
 ·rw[X];by_cases e:j=i
  ·rw[ag e];exact hd
  ·rw[ae e];have:=h.drop j Z;omega
 ·rw[X];by_cases e:j=i
  ·rw[ag e];subst e;exact S p Y hc
  ·rw[ae e];exact h.idle j p Z Y hc
 ·rw[X];by_cases e:j=i
  ·rw[ag e];exact⟨hf.jM,λp Y=>hf.out p (by rw[V.1];exact Y)⟩
  ·rw[ae e];exact⟨by have:=(h.fit j Z).1;omega,λp Y=>by have:=(h.fit j Z).2 p Y;omega⟩
theorem jN.call {y:iB} (h:jN y D k)(hi:i<y.n)(V:k<=k')(Z:jm (y.R i) r g)(U:kE r)(hf:Fit r k')
 (T:∀p,p<3->(∀c d,c<y.nc->d<2->(y.C c).e d≠(i,p))->Idle ((y.R i).P p)->Idle (r.P p)):jN (y.jg i r) (D+g) k':=by
 have Y:=h.rn i hi;have h2:=h.drop i hi;have h3:=Z.lo;have h4:=Z.hi;exact h.jg hi dP V ⟨Z.n.trans Y.1,Z.id.trans Y.2⟩ U dP hf (λp X hc=>T p X hc (h.idle i p hi X hc))
theorem jN.kG {y:iB} {D k:Nat} (h:jN y D k) {c:Nat} {cb:pz} (Y:c<y.nc->cb.e=(y.C c).e)(hl:c<y.nc->∀d,d<2->(cb.on d).length<=2000):jN (y.kG c cb) D k:=by
 have hC:∀x,x<y.nc->((y.kG c cb).C x).e=(y.C x).e:=λx hx=>by
  show(if x=c then cb else y.C x).e=_;by_cases e:x=c
  ·rw[ag e];subst e;exact Y hx
  ·rw[ae e]
 refine⟨h.n1,h.n6,h.c9,λx d hx hd=>by rw[hC x hx];exact h.en x d hx hd,λx d x' d' hx hd Z V e=>by rw[hC x hx,hC x' Z]at e;exact h.ds x d x' d' hx hd Z V e,h.ms,h.rn,h.ok,h.drop,λx d hx hd=> ?_,h.ib,λi p hi X hc=>h.idle i p hi X (λx d hx hd=>by have:=hc x d hx hd;rwa [hC x hx]at this),h.fit⟩;show((if x=c then cb else y.C x).on d).length<=_;by_cases e:x=c
 ·rw[ag e];subst e;exact hl hx d hd
 ·rw[ae e];exact h.ol x d hx hd
theorem jN.iT {y:iB} (h:jN y D k)(Y:D<=1000000000000000)(hi:i<y.n):jN (y.jg i (y.R i).tick) D (k+6):=by
 have Z:=yJ (h.ok i hi) (h.fits Y hi) (y.R i).n (Nat.le_refl _);rw[(h.rn i hi).1]at Z;have e:(y.R i).tick=(y.R i).iW 3:=by unfold iy.tick;rw[(h.rn i hi).1]
 rw[e];exact h.call hi dP (jm.iW _ 3) Z.2.1 Z.2.2 (λp _ _ X=>B3 X 3)
theorem jN.abN {y:iB} (h:jN y D k)(X:D<=1000000000000000)(hc:c<y.nc)(hd:d<2)(l:List UInt8)(hl:l.length<=2000):jN (y.jg ((y.C c).e d).1 ((y.R ((y.C c).e d).1).recv ((y.C c).e d).2 l)) (D+2000) (k+4000):=by
 obtain⟨hi,Y⟩:=h.en c d hc hd;have Z:=Rv (h.ok _ hi) (h.fits X hi) ((y.C c).e d).2 l;exact h.call hi dP ((jm.recv _ _ l).mono hl) Z.1 (Z.2.mono dP) (λp _ V Y=>jJ.recv _ _ l p (λe=>V c d hc hd (by rw[e])) Y)
theorem jN.Rx {y:iB} (h:jN y D k)(X:D<=1000000000000000)(hc:c<y.nc)(hd:d<2)(up:Bool):jN (y.lQ c d up) D (k+1):=by
 obtain⟨hi,Y⟩:=h.en c d hc hd;have Z:=Rw (h.ok _ hi) (h.fits X hi) ((y.C c).e d).2 up;exact h.call hi dP (jm.iw _ _ up) Z.1 Z.2 (λp _ V Y=>jJ.iw _ _ up p (λe=>V c d hc hd (by rw[e])) Y)
theorem jN.Ry {y:iB} (h:jN y D k)(Y:D<=1000000000000000)(hi:i<y.n)(t:Int)(tx:List UInt8):jN (y.jg i (jR (y.R i) t tx).1) (D+1) (k+1):=by
 have Z:=Ks (h.ok i hi) (h.fits Y hi) t tx;exact h.call hi dP (jm.jR _ t tx) Z.1 Z.2 (λp _ _ X=>Hy t tx X)
theorem xJ(Z:1<=id/\id<=6)(U:∀i,i<3->1<=m i/\m i<=20):kE (jt id 3 m):=by
 refine⟨Z,U,λi _=>nr.nobody Z.1,⟨(1,[]),?_,?_⟩,λx hx=> ?_⟩
 ·show(if id=id then μ ((1,[]):PS)else ν)=_;rw[ag rfl]
 ·show ox id 1 [] =0;unfold ox;have X:¬id<1:=dP;have V:¬6<id:=dP;simp[X,V,pL]
 ·have Y:(if x=id then μ ((1,[]):PS)else ν).isSome=true:=hx;by_cases e:x=id
  ·omega
  ·rw[ae e]at Y;simp at Y
theorem N0(k:Nat):Fit (jt id 3 m) k:=⟨Nat.zero_le _,⟨Int.le_refl _,by show(0:Int)<=_;omega⟩,λ_ _=>Nat.zero_le _⟩
theorem pA(id:Int)(m:Nat->Int)(p:Nat):Idle ((jt id 3 m).P p):=⟨rfl,rfl,rfl⟩
theorem jN.kN {y:iB} {D k:Nat} (h:jN y D k)(T:D<=1000000000000000) {c d:Nat} (hc:c<y.nc)(hd:d<2):jN (y.kN c d) D k:=by
 obtain⟨hi,X⟩:=h.en c d hc hd;unfold iB.kN;have hf:=h.fits T hi;have Y:=h.ok _ hi;have U:jN (y.jg ((y.C c).e d).1 ((y.R ((y.C c).e d).1).out ((y.C c).e d).2)) D k:=by
  refine h.jg hi (Nat.le_refl _) (Nat.le_refl _) (h.rn _ hi) (Y.iE _ _ rfl (λhi=>Y.pe _ hi)) (h.drop _ hi) (hf.iE _ _ (λ_=>Nat.zero_le _)) (λp X Z=> ?_);exact jJ.iE _ _ _ p (λe=>Z c d hc hd (by rw[e])) (h.idle _ p hi X Z)
 refine U.kG (λ_=> ?_) (λ_ d' V=> ?_)
 ·unfold pz.put;split<;>rfl
 ·unfold pz.put;split
  ·rename_i hx
   show(jy (y.C c).on d _ d').length<=2000;by_cases e:d'=d
   ·subst e;rw[ij,ay];exact hx.2
   ·rw[gW _ _ e];exact h.ol c d' hc V
  ·exact h.ol c d' hc V
theorem mH(y:iB)(c d:Nat):(y.kN c d).n=y.n/\(y.kN c d).nc=y.nc/\(y.kN c d).ms=y.ms/\(y.kN c d).jM=y.jM/\∀x,((y.kN c d).C x).e=(y.C x).e/\((y.kN c d).C x).jr=(y.C x).jr:=by
 refine⟨rfl,rfl,rfl,rfl,λx=> ?_⟩;show(if x=c then(y.C c).put d _ else y.C x).e=_/\(if x=c then(y.C c).put d _ else y.C x).jr=_;by_cases e:x=c
 ·rw[ag e];subst e;unfold pz.put;split<;>exact⟨rfl,rfl⟩
 ·rw[ae e];exact⟨rfl,rfl⟩
theorem jK(y:iB):∀k,(y.jW k).n=y.n/\(y.jW k).nc=y.nc/\(y.jW k).ms=y.ms/\(y.jW k).jM=y.jM/\∀x,((y.jW k).C x).e=(y.C x).e/\((y.jW k).C x).jr=(y.C x).jr
 |0=>⟨rfl,rfl,rfl,rfl,λ_=>⟨rfl,rfl⟩⟩
 |k+1=>by
  obtain⟨X,V,U,T,Z⟩:=jK y k;obtain⟨b1,b2,b3,b4,b5⟩:=mH (y.jW k) k 0;obtain⟨c1,c2,c3,c4,Y⟩:=mH ((y.jW k).kN k 0) k 1;exact⟨c1.trans (b1.trans X),c2.trans (b2.trans V),c3.trans (b3.trans U),c4.trans (b4.trans T),λx=>⟨(Y x).1.trans ((b5 x).1.trans (Z x).1),(Y x).2.trans ((b5 x).2.trans (Z x).2)⟩⟩
theorem jN.jW {y:iB} {D k:Nat} (h:jN y D k)(Z:D<=1000000000000000):∀q,q<=y.nc->jN (y.jW q) D k
 |0,_=>h
 |q+1,hq=>by
  have X:=jN.jW h Z q dP;have Y:(y.jW q).nc=y.nc:=(jK y q).2.1;have V:=X.kN Z (c:=q) (d:=0) (by rw[Y];omega) dP;exact V.kN Z (c:=q) (d:=1) (by show q<(y.jW q).nc;rw[Y];omega) dP
theorem B5(y:iB)(c d i p:Nat):((y.kN c d).R i).P p=if(y.C c).e d=(i,p)then {(y.R i).P p with out:=[] }else(y.R i).P p:=by
 show((jy y.R ((y.C c).e d).1 ((y.R ((y.C c).e d).1).out ((y.C c).e d).2)) i).P p=_;by_cases e:i=((y.C c).e d).1
 ·rw[e,ij];show kA _ ((y.C c).e d).2 _ p=_;by_cases Z:p=((y.C c).e d).2
  ·rw[Z,ja,ag rfl]
  ·rw[iU _ _ Z,ae (λh=>Z (by rw[h]))]
 ·rw[gW _ _ e,ae (λh=>e (by rw[h]))]
theorem uy {y:iB} (c d i p:Nat)(h:(y.C c).e d=(i,p) \/((y.R i).P p).out=[]):(((y.kN c d).R i).P p).out=[] :=by
 rw[B5];rcases h with h|h
 ·rw[ag h]
 ·split
  ·rfl
  ·exact h
theorem B6 {y:iB} (i p:Nat):∀q,((y.R i).P p).out=[] \/(∃c d,c<q/\d<2/\(y.C c).e d=(i,p))->(((y.jW q).R i).P p).out=[]
 |0,h=>by
  rcases h with h|⟨c,_,hc,_⟩
  ·exact h
  ·omega
 |q+1,h=>by
  have hs:=jK y q;have U:=mH (y.jW q) q 0;by_cases Z:((y.R i).P p).out=[] \/(∃c d,c<q/\d<2/\(y.C c).e d=(i,p))
  ·have ih:=B6 i p q Z;exact uy _ _ _ _ (.inr (uy _ _ _ _ (.inr ih)))
  ·rcases h with h|⟨c,d,hc,hd,X⟩
   ·exact absurd (.inl h) Z
   ·have Y:c=q:=by
     rcases Nat.lt_or_ge c q with V|V
     ·exact absurd (.inr ⟨c,d,V,hd,X⟩) Z
     ·omega
    subst Y;have T:d=0 \/d=1:=dP;rcases T with rfl|rfl
    ·exact uy _ _ _ _ (.inr (uy _ _ _ _ (.inl ((hs.2.2.2.2 c).1▸X))))
    ·refine uy _ _ _ _ (.inl ?_);rw[(U.2.2.2.2 c).1,(hs.2.2.2.2 c).1];exact X
theorem jN.outs {y:iB} (h:jN y D k)(hi:i<y.n)(Z:p<3):(((y.jW y.nc).R i).P p).out=[] :=by
 by_cases hx:∃c d,c<y.nc/\d<2/\(y.C c).e d=(i,p)
 ·exact B6 i p _ (.inr hx)
 ·exact B6 i p _ (.inl (h.idle i p hi Z (λc d hc hd e=>hx ⟨c,d,hc,hd,e⟩)).out)
theorem nN(y:iB):∀k,(y.mf k).n=y.n/\(y.mf k).nc=y.nc/\(y.mf k).ms=y.ms/\(y.mf k).C=y.C
 |0=>⟨rfl,rfl,rfl,rfl⟩
 |k+1=>nN y k
theorem wF(y:iB)(i:Nat):∀k,(y.mf k).R i=(if i<k then {y.R i with jM:=[] }else y.R i)/\(y.mf k).jM i=if i<k then y.jM i++(y.R i).jM else y.jM i
 |0=>by simp[iB.mf]
 |k+1=>by
  obtain⟨X,V⟩:=wF y i k;show jy (y.mf k).R k {(y.mf k).R k with jM:=[] } i=_/\jy (y.mf k).jM k ((y.mf k).jM k++((y.mf k).R k).jM) i=_;by_cases e:i=k
  ·subst e;rw[ij,ij,X,V,ae (Nat.lt_irrefl i),ae (Nat.lt_irrefl i),ag (Nat.lt_succ_self i),ag (Nat.lt_succ_self i)];exact⟨rfl,rfl⟩
  ·rw[gW _ _ e,gW _ _ e,X,V];by_cases Y:i<k
   ·have Z:i<k+1:=dP;rw[ag Y,ag Z,ag Y,ag Z];exact⟨rfl,rfl⟩
   ·have Z:¬i<k+1:=dP;rw[ae Y,ae Z,ae Y,ae Z];exact⟨rfl,rfl⟩
theorem jN.mf {y:iB} {D k:Nat} (h:jN y D k)(q:Nat):jN (y.mf q) (D+k) k:=by
 obtain⟨Z,V,M,U⟩:=nN y q;have Y:∀i,((y.mf q).R i).n=(y.R i).n/\((y.mf q).R i).id=(y.R i).id/\((y.mf q).R i).P=(y.R i).P/\((y.mf q).R i).drop=(y.R i).drop/\((y.mf q).R i).K=(y.R i).K/\((y.mf q).R i).jM.length<=(y.R i).jM.length:=λi=>by
  rw[(wF y i q).1];split
  ·exact⟨rfl,rfl,rfl,rfl,rfl,Nat.zero_le _⟩
  ·exact⟨rfl,rfl,rfl,rfl,rfl,Nat.le_refl _⟩
 refine⟨by rw[Z];exact h.n1,by rw[Z];exact h.n6,by rw[V];exact h.c9,λc d hc hd=> ?_,λc d c' d' hc hd Q H=> ?_,λi p hi S=> ?_,λi hi=> ?_,λi hi=> ?_,λi hi=> ?_,λc d hc hd=> ?_,λi hi=> ?_,λi p hi S J=> ?_,λi hi=> ?_⟩
 ·rw[U,Z];rw[V]at hc;exact h.en c d hc hd
 ·rw[U];rw[V]at hc Q;exact h.ds c d c' d' hc hd Q H
 ·rw[M];rw[Z]at hi;exact h.ms i p hi S
 ·rw[Z]at hi;rw[(Y i).1,(Y i).2.1];exact h.rn i hi
 ·rw[Z]at hi;have X:=h.ok i hi;rw[(wF y i q).1];split
  ·exact⟨X.id,X.m,X.pe,X.own,X.QS⟩
  ·exact X
 ·rw[Z]at hi;rw[(Y i).2.2.2.1];have:=h.drop i hi;omega
 ·rw[U];rw[V]at hc;exact h.ol c d hc hd
 ·rw[Z]at hi;rw[(wF y i q).2];have T:=h.ib i hi;have h2:=(h.fit i hi).1;split
  ·rw[ay];omega
  ·omega
 ·rw[Z]at hi;rw[(Y i).2.2.1];exact h.idle i p hi S (λc d hc hd=>by have:=J c d (by rw[V];exact hc) hd;rwa [U]at this)
 ·rw[Z]at hi;have T:=h.fit i hi;rw[(Y i).2.2.1];exact⟨Nat.le_trans (Y i).2.2.2.2.2 T.1,T.2⟩
theorem jN.gather {y:iB} {D k:Nat} (h:jN y D k)(U:D<=1000000000000000):jN y.gather (D+k) 0:=by
 unfold iB.gather;obtain⟨S,s2,s3,s4,s5⟩:=jK y y.nc;have V:=h.jW U y.nc (Nat.le_refl _);have Z:=V.mf y.n;obtain⟨X,e2,e3,e4⟩:=nN (y.jW y.nc) y.n;refine⟨Z.n1,Z.n6,Z.c9,Z.en,Z.ds,Z.ms,Z.rn,Z.ok,Z.drop,Z.ol,Z.ib,Z.idle,λi hi=> ?_⟩;have Y:i<y.n:=by rw[X,S]at hi;exact hi
 rw[(wF (y.jW y.nc) i y.n).1,ag Y];refine⟨Nat.le_refl _,λp T=> ?_⟩;show(((y.jW y.nc).R i).P p).out.length<=_;rw[h.outs Y T];exact Nat.zero_le _
theorem lg(y:iB):y.gather.n=y.n/\y.gather.nc=y.nc/\y.gather.ms=y.ms/\∀x,(y.gather.C x).e=(y.C x).e/\(y.gather.C x).jr=(y.C x).jr:=by
 unfold iB.gather;obtain⟨U,T,S,s4,Q⟩:=jK y y.nc;obtain⟨Z,Y,X,V⟩:=nN (y.jW y.nc) y.n;exact⟨Z.trans U,Y.trans T,X.trans S,λx=>by rw[V];exact Q x⟩
theorem jN.jC {y:iB} {D k:Nat} (h:jN y D k)(Z:D<=1000000000000000) {c:Nat} (hc:c<y.nc)(up:Bool):jN (y.jC c up) D (k+2):=by
 unfold iB.jC;have Y:jN (y.kG c {y.C c with jr:=up,on:=λ_=>[] }) D k:=h.kG (λ_=>rfl) (λ_ _ _=>Nat.zero_le _);exact(Y.Rx Z (c:=c) (d:=0) hc dP up).Rx Z (c:=c) (d:=1) hc dP up
theorem og(y:iB)(c:Nat)(up:Bool):(y.jC c up).n=y.n/\(y.jC c up).nc=y.nc/\(y.jC c up).ms=y.ms/\(y.jC c up).jM=y.jM/\∀x,((y.jC c up).C x).e=(y.C x).e/\((y.jC c up).C x).jr=if x=c then up else(y.C x).jr:=by
 refine⟨rfl,rfl,rfl,rfl,λx=> ?_⟩;show(if x=c then({y.C c with jr:=up,on:=λ_=>[] }:pz)else y.C x).e=_/\(if x=c then({y.C c with jr:=up,on:=λ_=>[] }:pz)else y.C x).jr=_;by_cases e:x=c
 ·rw[ag e,ag e];subst e;exact⟨rfl,rfl⟩
 ·rw[ae e,ae e];exact⟨rfl,rfl⟩
theorem jN.jo {D:Nat} (Z:D<=1000000000000000)(up:Bool):∀(l:List Nat) {y:iB} {k:Nat},jN y D k->(∀c∈l,c<y.nc)->jN (y.jo up l) D (k+2*l.length)
 |[],_,_,h,_=>h
 |c::l,y,k,h,hl=>by
  have Y:=h.jC Z (hl c gN) up;have:=jN.jo Z up l Y (λx hx=>hl x (by simp[hx]));exact this.mono (Nat.le_refl _) (by simp;omega)
theorem l7(up:Bool):∀(l:List Nat) (y:iB),(y.jo up l).n=y.n/\(y.jo up l).nc=y.nc/\(y.jo up l).ms=y.ms/\(y.jo up l).jM=y.jM/\∀x,((y.jo up l).C x).e=(y.C x).e
 |[],y=>⟨rfl,rfl,rfl,rfl,λ_=>rfl⟩
 |c::l,y=>by
  obtain⟨U,T,S,Q,M⟩:=l7 up l (y.jC c up);obtain⟨g1,Z,Y,X,V⟩:=og y c up;exact⟨U.trans g1,T.trans Z,S.trans Y,Q.trans X,λx=>(M x).trans (V x).1⟩
theorem jN.iw {y:iB} {D:Nat} (h:jN y D 0)(Z:D<=1000000000000000)(i:Int)(up:Bool):jN (y.iw i up).1 (D+2) 0:=by
 unfold iB.iw;split
 ·exact h.mono dP (Nat.le_refl _)
 ·split
  ·exact h.mono dP (Nat.le_refl _)
  ·exact(h.jC Z dP up).gather Z
theorem jN.tick {y:iB} {D:Nat} (h:jN y D 0)(Z:D<=1000000000000000)(i:Int):jN (y.tick i).1 (D+6) 0:=by
 unfold iB.tick;split
 ·exact h.mono dP (Nat.le_refl _)
 ·exact(h.iT Z dP).gather Z
theorem jN.jw {y:iB} {D k:Nat} (h:jN y D k)(X:D<=1000000000000000) {c d q:Nat} (hc:c<y.nc)(hd:d<2):jN (y.jw c d q) (D+2000) (k+4000):=by
 have hl:((y.C c).on d).length<=2000:=h.ol c d hc hd;unfold iB.jw;have Y:jN (y.kG c {y.C c with on:=jy (y.C c).on d (((y.C c).on d).drop q)}) D k:=h.kG (λ_=>rfl) (λ_ d' V=>by
  show(jy (y.C c).on d _ d').length<=_;by_cases e:d'=d
  ·subst e;rw[ij,dw];omega
  ·rw[gW _ _ e];exact h.ol c d' hc V)
 have Z:=Y.abN X (c:=c) (d:=1-d) hc dP (((y.C c).on d).take q) (by rw[List.length_take];omega);have e:((y.kG c {y.C c with on:=jy (y.C c).on d (((y.C c).on d).drop q)}).C c).e=(y.C c).e:=by
  show(if c=c then _ else y.C c).e=_;rw[ag rfl]
 rw[e]at Z;exact Z
theorem jN.deliver {y:iB} {D:Nat} (h:jN y D 0)(hD:D<=100000000000000)(i d many:Int):jN (y.deliver i d many).1 (D+6000) 0:=by
 unfold iB.deliver;split
 ·exact h.mono dP (Nat.le_refl _)
 ·exact((h.jw dP dP dP).gather dP).mono dP (Nat.le_refl _)
theorem yL {y:iB}:∀c∈y.kH k,c<y.nc:=λc hc=>by
 unfold iB.kH at hc;exact aY.1 (List.mem_filter.1 hc).1
theorem wG(y:iB)(k:Nat):(y.kH k).length<=y.nc:=by
 unfold iB.kH;have:=cy (λc=>(y.C c).jr&& (((y.C c).e 0).1==k||((y.C c).e 1).1==k)) (List.range y.nc);simpa using this
theorem jN.anew {y:iB} (h:jN y D k)(i:Nat)(hi:i<y.n):jN (y.jg i (jt ((i:Int)+1) 3 (y.ms i))) D k:=
 h.jg hi (Nat.le_refl _) (Nat.le_refl _) ⟨rfl,rfl⟩ (xJ (by have:=h.n6;omega) (λp Z=>h.ms i p hi Z)) ⟨Int.le_refl _,by show(0:Int)<=_;omega⟩ (N0 k) (λp _ _=>pA _ _ p)
theorem jN.restart {y:iB} {D:Nat} (h:jN y D 0)(Z:D<=1000000000000000)(i:Int):jN (y.restart i).1 (D+36) 0:=by
 unfold iB.restart;split
 ·exact h.mono dP (Nat.le_refl _)
 ·have hl:=wG y (i-1).toNat;have h9:=h.c9;have X:=jN.jo Z false (y.kH (i-1).toNat) h yL;obtain⟨U,T,S,s4,s5⟩:=l7 false (y.kH (i-1).toNat) y;have Y:=X.anew (i-1).toNat (by rw[U];omega);have e:(((i-1).toNat:Nat):Int)+1=i:=dP;rw[e,S]at Y;have V:=jN.jo Z true (y.kH (i-1).toNat) Y (λc hc=>by
   show c<(y.jo false (y.kH (i-1).toNat)).nc;rw[T];exact yL c hc)
  exact(V.gather Z).mono dP (Nat.le_refl _)
theorem jN.send {y:iB} {D:Nat} (h:jN y D 0)(hD:D<=100000000000000)(f t:Int)(tx:List UInt8):jN (y.send f t tx).1 (D+2) 0:=by
 unfold iB.send;split
 ·exact h.mono dP (Nat.le_refl _)
 ·split
  ·exact h.mono dP (Nat.le_refl _)
  ·exact(h.Ry dP dP t tx).gather dP
theorem jl.zy {n:iB} (h:jl w y n)(Y:y.all n.n k):k<w.heap.size:=by
 rcases Y with e|⟨j,Z,e⟩
 ·exact h.lt (.inl e)
 ·exact h.wz Z e
theorem jl.cbW {w':dN} {n:iB} {cb:pz} {v':Value} (h:jl w y n)(hc:c<n.nc)(hd:d<2)(T:y.gC=μ g)(Z:O5 w w' g (c*7) d cb (y.ov c) v')(H:cb.e=(n.C c).e)(S:∀x,x≠d->cb.on x=(n.C c).on x)(hl:(cb.on d).length<=2000):il w w' y (n.kG c cb) n.n:=by
 have Q:∀x,x<2->x≠d->∀k,(y.ov c x).ownBlock=μ k->v'.ownBlock≠μ k:=by
  intro x hx U k e e';rcases Z.own k e' with Y|Y
  ·have:=h.inj (.on c x) (.on c d) k e Y;injection this with _ X
   exact U X
  ·have:=h.tq (l:=.on c x) e;omega
 refine h.LQ hc T cb (jy (y.ov c) d v') Z.size Z.os Z.tape Z.output (λk V J X=>Z.block k V J (X d hd)) Z.cell Z.fz Z.uV (λx hx=> ?_) (λx hx=> ?_) H (λx k hx e=> ?_) (λk e=> ?_)
 ·by_cases e:x=d
  ·subst e;rw[ij];exact Z.row
  ·rw[gW _ _ e,S x e];refine(h.ob c x hc hx).keep Z.size (λk V=>Z.block k ((h.ob c x hc hx).lt k V) (λY=> ?_) (λY=> ?_))
   ·exact h.uq (l:=.on c x) (l':=.C) V T (by intro e;cases e) Y
   ·have:=h.inj (.on c x) (.on c d) k V Y;injection this with _ X
    exact e X
 ·by_cases e:x=d
  ·subst e;exact hl
  ·rw[S x e];exact h.ol c x hc hx
 ·by_cases ex:x=d
  ·subst ex;rw[ij]at e;exact Z.own k e
  ·rw[gW _ _ ex]at e;exact .inl e
 ·have M:d=0 \/d=1:=dP;rcases M with rfl|rfl
  ·rw[ij]at e;rw[gW _ _ dS];exact λY=>Q 1 dP dS k Y e
  ·rw[gW _ _ dS]at e;rw[ij];exact Q 0 dP dS k e
theorem jl.abO {n:iB} (h:jl w y n)(Z:y.gC=μ g):(y.ov c d).ownBlock≠μ g:=λe=>h.uq (l:=.on c d) (l':=.C) e Z (by intro e;cases e) rfl
theorem RA(y:Yt)(n:iB)(c d g:Nat)(s:ByteArray)(w:dN)(h:jl w y n)(hc:c<n.nc)(hd:d<2)(Z:y.gC=μ g)(hs:s.size<=1000000000):
 eM eN 161 #[π (μ ⟨g,c*7,ν⟩),ι κ (d:Int),.string s] w λe w'=>e=ρ (τ #[])/\il w w' y (n.kG c ((n.C c).put d s.data.toList)) n.n:=by
 refine(Rh g (c*7) d (n.C c) (y.ov c) s w hd (h.rc g Z c hc) (h.ob c d hc hd) (h.abO Z) (h.ol c d hc hd) hs).mono ?_;rintro e w1 ⟨rfl,v',Y⟩;refine⟨rfl,h.cbW hc hd Z Y ?_ (λx hx=> ?_) ?_⟩
 ·unfold pz.put;split<;>rfl
 ·unfold pz.put;split
  ·exact gW _ _ hx
  ·rfl
 ·unfold pz.put;split
  ·rename_i hx
   show(jy (n.C c).on d _ d).length<=2000;rw[ij,ay];exact hx.2
  ·exact h.ol c d hc hd
theorem RB(y:Yt)(n:iB)(i p:Nat)(w:dN)(h:jl w y n)(hi:i<n.n)(hp:p<3):
 eM eN 29 #[π (μ ⟨(y.z i).R,0,ν⟩),ι κ (p:Int)] w λe w'=>e=ρ (τ #[.string ⟨((n.R i).P p).out.toArray⟩,η])/\il w w' y (n.jg i ((n.R i).out p)) n.n:=by
 have Y:=(h.rn i hi).1;refine(Rp (y.z i) (n.R i) p w (h.rt i hi) dP).mono ?_;rintro e w1 ⟨rfl,Z⟩;rw[Y]at Z;exact⟨rfl,h.wA hi Z (h.rn i hi)⟩
def iB.nT(y:iB)(q d:Nat):iB:=if d=0 then y.jW q else if d=1 then(y.jW q).kN q 0 else y.jW (q+1)
theorem zA(c:pz)(o:Nat->Value):zZ c o 0=ι κ (((c.e 0).1:Int)+1)/\zZ c o 1=ι κ ((c.e 0).2:Int)/\zZ c o 2=ι κ (((c.e 1).1:Int)+1)/\zZ c o 3=ι κ ((c.e 1).2:Int)/\zZ c o 4=.bool c.jr:=⟨rfl,rfl,rfl,rfl,rfl⟩
theorem X9(y:iB)(q d x:Nat):((y.nT q d).C x).e=(y.C x).e:=by
 unfold iB.nT;split
 ·exact((jK y q).2.2.2.2 x).1
 ·split
  ·exact((mH _ q 0).2.2.2.2 x).1.trans ((jK y q).2.2.2.2 x).1
  ·exact((jK y (q+1)).2.2.2.2 x).1
theorem Ya(y:iB)(q d:Nat):(y.nT q d).n=y.n/\(y.nT q d).nc=y.nc:=by
 unfold iB.nT;split
 ·exact⟨(jK y q).1,(jK y q).2.1⟩
 ·split
  ·exact⟨(jK y q).1,(jK y q).2.1⟩
  ·exact⟨(jK y (q+1)).1,(jK y (q+1)).2.1⟩
theorem N1(y:iB)(q d:Nat)(hd:d<2):y.nT q (d+1)=(y.nT q d).kN q d:=by
 have:d=0 \/d=1:=dP;rcases this with rfl|rfl<;>rfl
theorem jN.nT {y:iB} {D k:Nat} (h:jN y D k)(Z:D<=1000000000000000)(q d:Nat)(Y:q<y.nc):jN (y.nT q d) D k:=by
 unfold iB.nT;split
 ·exact h.jW Z q dP
 ·split
  ·exact(h.jW Z q dP).kN Z (by rw[(jK y q).2.1];exact Y) dP
  ·exact h.jW Z (q+1) dP
theorem Ku(w:dN)(y:Yt)(n:iB)(D k q d g m:Nat)(A:jN n D k)(J:D<=1000000000000000)(hk:k<=100000)(U:q<n.nc)(hd:d<2)(hg:y.gC=μ g)(hm:n.n=m)(i p:Nat)(yc:(n.C q).e d=(i,p))(M Y:dN)(hW:il w M y (n.nT q d) m)(hb:dV M Y)(E:Nat)(u v:Value)(hE:M.heap.size<=E)(hc:Y.cell? ⟨E,0,ν⟩=μ u/\Y.cell? ⟨E,1,ν⟩=μ v):
 eM eN 157 #[π (μ ⟨y.N,0,ν⟩),.agg #[ι κ ((i:Int)+1),ι κ (p:Int)]] Y λe Z=>∃R,e=ρ (π (μ ⟨R,0,ν⟩))/\(Z.cell? ⟨E,0,ν⟩=μ u/\Z.cell? ⟨E,1,ν⟩=μ v)/\
  eM eN 29 #[π (μ ⟨R,0,ν⟩),ι κ (p:Int)] Z λe T=>∃s:ByteArray,e=ρ (τ #[.string s,η])/\(T.cell? ⟨E,0,ν⟩=μ u/\T.cell? ⟨E,1,ν⟩=μ v)/\
   ∀V,dV T V->eM eN 161 #[π (μ ⟨g,q*7,ν⟩),ι κ (d:Int),.string s] V λe S=>e=ρ (τ #[])/\il w S y (n.nT q (d+1)) m:=by
 subst hm;obtain⟨hi,G⟩:=A.en q d U hd;rw[yc]at hi G;obtain⟨gn,gc⟩:=Ya n q d;obtain⟨Q,h,j,wO,wU⟩:=hW.ex;have R1:=h.below hb;have X:E<Y.heap.size:=af _ _ hc.1;have H:¬Q.all n.n E:=λe=>by
  have:=h.zy (k:=E) (by rw[gn];exact e);omega
 rw[<-j.N];refine(Km Q _ i p Y R1 (by rw[gn];exact hi)).mono ?_;rintro e Z ⟨rfl,b1⟩;refine⟨_,rfl,⟨(ai (a:=⟨E,0,ν⟩) (b1.block E X)).trans hc.1,(ai (a:=⟨E,1,ν⟩) (b1.block E X)).trans hc.2⟩,?_⟩;have ZP:E<Z.heap.size:=Nat.lt_of_lt_of_le X b1.size;have R2:=R1.below b1;refine(RB Q _ i p Z R2 (by rw[gn];exact hi) G).mono ?_;rintro e T ⟨rfl,uT⟩;have rD:=uT.kept.block E ZP (by rw[gn];exact H);refine⟨_,rfl,⟨(ai (a:=⟨E,0,ν⟩) (rD.trans (b1.block E X))).trans hc.1,(ai (a:=⟨E,1,ν⟩) (rD.trans (b1.block E X))).trans hc.2⟩,λV b3=> ?_⟩;have VG:=uT.below rfl b3;rw[gn]at VG;have hF:=(A.nT J q d U).fits J (i:=i) (by rw[gn];exact hi);have pY:((((n.nT q d).R i).P p).out).length<=6000*k:=hF.out p (by rw[((A.nT J q d U).rn i (by rw[gn];exact hi)).1];exact G);have h4:eM eN 161 #[π (μ ⟨g,q*7,ν⟩),ι κ (d:Int),.string ⟨(((n.nT q d).R i).P p).out.toArray⟩] V λe S=>e=ρ (τ #[])/\il Z S Q (n.nT q (d+1)) n.n:=by
  refine VG.call λy2 R3 s2=> ?_;have y8:y2.gC=μ g:=by rw[s2.gC,j.gC];exact hg
  have hcc:q<(n.nT q d).nc:=by rw[gc];exact U
  have t:=RA y2 _ q d g ⟨(((n.nT q d).R i).P p).out.toArray⟩ V R3 hcc hd y8 (by show Array.size _<=_;simp;omega);have e1:n.nT q (d+1)=((n.nT q d).jg i (((n.nT q d).R i).out p)).kG q (((n.nT q d).C q).put d ((((n.nT q d).R i).P p).out)):=by
   rw[N1 n q d hd];unfold iB.kN;rw[X9,yc]
  rw[e1];have e2:((n.nT q d).jg i (((n.nT q d).R i).out p)).n=n.n:=gn;rw[e2]at t;have e3:(⟨(((n.nT q d).R i).P p).out.toArray⟩:ByteArray).data.toList=(((n.nT q d).R i).P p).out:=gN;rw[e3]at t;exact t
 refine h4.mono ?_;rintro e S ⟨rfl,LY⟩;exact⟨rfl,il.py hW.kept j wO wU (il.first (gD hb b1) LY)⟩
theorem Yb(a b c d:Int)(w:dN):(gF 193 (.agg #[ι κ a,ι κ b,ι κ c,ι κ d]) (ι κ 0)).run eN w=.ok (.agg #[ι κ a,ι κ b]) w:=gJ
theorem Yc(a b c d:Int)(w:dN):(gF 193 (.agg #[ι κ a,ι κ b,ι κ c,ι κ d]) (ι κ 1)).run eN w=.ok (.agg #[ι κ c,ι κ d]) w:=gJ
