import Derived.Test.YtieklnlbljejdaaGreatDoorM17
open Option renaming none → ν
open List renaming append_nil → gU, range → fW, mem_cons → ij, not_mem_nil → ik, mem_singleton → iq, range_succ → iu, map_cons → eN, sum_cons → iw
namespace Go.Proofs.YtieklnlbljejdaaGreatDoor
open Go.RowKit St
namespace Rt
variable {D c d k:Nat} {S:List (Int×List UInt8)} {T U:List (Nat×Nat)} {up:Bool} {y:iP} {α:Type}
def jw.pt(p:jw)(rd:kC)(o:List UInt8):jw:={p with rd:=rd,out:=o++p.out}
def iM.pat(s:iM)(rd:Nat->kC)(os:Nat->List UInt8)(ib:List za):iM:={s with P:=λp=>(s.P p).pt (rd p) (os p),j8:=ib++s.j8}
def iM.core(r:iM):iM:={r with P:=λp=>{r.P p with rd:=lH,out:=[] },j8:=[] }
theorem LO(s:iM)(rd:Nat->kC)(os:Nat->List UInt8)(ib:List za):(s.pat rd os ib).core=s.core:=rfl
theorem wM(r:iM):r.core.pat (λp=>(r.P p).rd) (λp=>(r.P p).out) r.j8=r:=by
 unfold iM.pat iM.core jw.pt;simp only[gU]
theorem E8(p:jw)(rd:kC)(o:List UInt8)(c:UInt8)(s:List UInt8):(p.pt rd o).put c s=(p.put c s).pt rd o:=by
 unfold jw.put;have e:(p.pt rd o).L=p.L:=rfl;rw[e];split
 ·rfl
 ·split
  ·simp[jw.pt]
  ·rfl
theorem Js(rd:kC)(o:List UInt8):∀(l:List kM) (p:jw),(p.pt rd o).say l=(p.say l).pt rd o
 |[],_=>rfl
 |q::r,p=>by
  show((if jS q.1 q.2.1 q.2.2=0 then(p.pt rd o).put 76 (mD q.1 q.2.1 q.2.2)else p.pt rd o)).say r=((if jS q.1 q.2.1 q.2.2=0 then p.put 76 (mD q.1 q.2.1 q.2.2)else p).say r).pt rd o;split
  ·rw[E8,Js rd o r]
  ·exact Js rd o r p
theorem PH(rd:kC)(o:List UInt8)(L:LS)(l:List kM)(p:jw):({p.pt rd o with L:=L}:jw).say l=(({p with L:=L}:jw).say l).pt rd o:=Js rd o l {p with L:=L}
theorem Ib(rd:kC)(o:List UInt8):∀(l:List (Int×PS)) (p:jw),(p.pt rd o).kH l=(p.kH l).pt rd o
 |[],_=>rfl
 |q::r,p=>by
  show((p.pt rd o).put 83 _).kH r=_;rw[E8,Ib rd o r];rfl
theorem Zb(rd:kC)(o:List UInt8)(p:jw):(p.pt rd o).tick=p.tick.pt rd o:=PH rd o _ _ p
theorem Sg(rd:kC)(o:List UInt8)(p:jw)(s:List UInt8):(p.pt rd o).packet s=(p.packet s).pt rd o:=by
 unfold jw.packet;simp only;split
 ·exact PH rd o _ _ p
 ·rfl
section
variable (rd:Nat->kC) (os:Nat->List UInt8) (ib:List za)
theorem ux(s:iM)(i:Nat)(q:jw):(s.pat rd os ib).iU i (q.pt (rd i) (os i))=(s.iU i q).pat rd os ib:=by
 unfold iM.iU iM.pat;congr 1
 funext p
 show la _ i _ p=(la s.P i q p).pt (rd p) (os p);by_cases e:p=i
 ·subst e;rw[jy,jy]
 ·rw[jq _ _ e,jq _ _ e]
theorem Bq(s:iM)(n:Int):∀k,jP (s.pat rd os ib).P n k=jP s.P n k
 |0=>rfl
 |k+1=>by
  have ih:=Bq s n k;unfold jP;rw[ih];rfl
theorem E9(s:iM):jx (s.pat rd os ib)=jx s:=by
 unfold jx;congr 1
 funext j
 rw[Bq];rfl
theorem Fa(s:iM)(q:Int):(s.pat rd os ib).behind q=(s.behind q).pat rd os ib:=by
 unfold iM.behind;rw[E9];split<;>rfl
theorem Oi(s:iM):(s.pat rd os ib).change=s.change.pat rd os ib:=by
 unfold iM.change;rw[E9,Fa];show(if CS s.K s.id=jx s then s.pat rd os ib else(s.behind (A1 s.K s.id)).pat rd os ib)=_;split<;>rfl
theorem wN(s:iM)(i:Nat)(q:lD):(s.pat rd os ib).meet i q=(s.meet i q).pat rd os ib:=by
 have Y:(s.pat rd os ib).iU i {(s.pat rd os ib).P i with pe:=q}=(s.iU i {s.P i with pe:=q}).pat rd os ib:=ux rd os ib s i {s.P i with pe:=q};unfold iM.meet;simp only;rw[Y];have Z:=Oi rd os ib ({s.iU i {s.P i with pe:=q}with O:=λx=>if x=i then λ_=>ν else s.O x}:iM);show(if q.who=(s.P i).pe.who/\q.both=(s.P i).pe.both then _ else _)=_;split
 ·rfl
 ·have X:({(s.iU i {s.P i with pe:=q}).pat rd os ib with O:=λx=>if x=i then λ_=>ν else((s.iU i {s.P i with pe:=q}).pat rd os ib).O x}:iM).change=(({s.iU i {s.P i with pe:=q}with O:=λx=>if x=i then λ_=>ν else s.O x}:iM).change).pat rd os ib:=Z;rw[X];split<;>rfl
theorem LP(s:iM)(t:za):(s.pat rd os ib).send t=(s.send t).pat rd os ib:=by
 unfold iM.send;have Z:(λh:HP=>jP (s.pat rd os ib).P h.rG (s.pat rd os ib).n)=λh:HP=>jP s.P h.rG s.n:=by
  funext h;exact Bq rd os ib s h.rG s.n
 rw[Z];show(if t.1=s.id then _ else match (if 1<=t.2.1 then(AL (mc s) t.1).bind λh=>jP s.P h.rG s.n else none)with|none=>_|some i=>_)=_;split
 ·simp[iM.pat]
 ·cases (if 1<=t.2.1 then(AL (mc s) t.1).bind λh=>jP s.P h.rG s.n else ν)with
  |none=>rfl
  |some i=>
   show(s.pat rd os ib).iU i (((s.P i).pt (rd i) (os i)).put 77 _)=_;rw[E8];exact ux rd os ib s i _
theorem Sh(s:iM)(i:Nat)(l:List UInt8):ji (s.pat rd os ib) i l=(ji s i l).pat rd os ib:=by
 unfold ji;simp only;show(if(St.il l).2.2.2≠0 \/(s.P i).pe.both=false then _ else if(St.il l).1=s.id/\0<newF s.K (St.il l).1 (St.il l).2.1 (St.il l).2.2.1 then _ else if 0<=newF s.K (St.il l).1 (St.il l).2.1 (St.il l).2.2.1 then _ else _)=_;split
 ·rfl
 ·split
  ·exact Fa rd os ib s _
  ·split
   ·obtain⟨x,hx⟩:∃x:iM,({s with K:=lr s.K (St.il l).1 (St.il l).2.1 (St.il l).2.2.1,O:=oR s.K s.O i (St.il l).1 (St.il l).2.1 (St.il l).2.2.1}:iM)=x:=⟨_,rfl⟩
    have Z:(x.pat rd os ib).iU i (((x.P i).pt (rd i) (os i)).put 65 (rb (St.il l).1 (St.il l).2.1 (St.il l).2.2.1))=(x.iU i ((x.P i).put 65 (rb (St.il l).1 (St.il l).2.1 (St.il l).2.2.1))).pat rd os ib:=by
     rw[E8];exact ux rd os ib x i _
    rw[<-hx]at Z;exact Z
   ·rfl
theorem V9(s:iM)(i:Nat)(c:UInt8)(l:List UInt8):(s.pat rd os ib).take i c l=(s.take i c l).pat rd os ib:=by
 rw[lJ,lJ];have Z:j1 (s.pat rd os ib) i c l=(j1 s i c l).pat rd os ib:=by
  unfold j1;split
  ·show(s.pat rd os ib).iU i (((s.P i).pt (rd i) (os i)).packet l)=_;rw[Sg];exact ux rd os ib s i _
  ·rfl
 rw[Z];show(if((j1 s i c l).P i).L.st≠9 then _ else _)=_;split
 ·exact wN rd os ib _ i _
 ·unfold mA;split
  ·split
   ·exact wN rd os ib _ i _
   ·rfl
  ·split
   ·exact Sh rd os ib _ i l
   ·split
    ·unfold kD;simp only;split<;>rfl
    ·split
     ·unfold ru;split
      ·exact LP rd os ib _ _
      ·rfl
     ·rfl
theorem Si(s:iM)(i:Nat)(x:List UInt8):jM (s.pat rd os ib) i x=(jM s i x).pat rd os ib:=by
 cases x with
 |nil=>rfl
 |cons c l=>exact V9 rd os ib s i c l
theorem Br:∀(l:List (List UInt8)) (s:iM) (i:Nat),(s.pat rd os ib).takes i l=(s.takes i l).pat rd os ib
 |[],_,_=>rfl
 |x::l,s,i=>by
  show(jM (s.pat rd os ib) i x).takes i l=((jM s i x).takes i l).pat rd os ib;rw[Si,Br l]
theorem Sj(s:iM)(i:Nat):(s.pat rd os ib).iV i=(s.iV i).pat rd os ib:=by
 rw[k7,k7];have Z:jb (s.pat rd os ib) i=(jb s i).pat rd os ib:=by
  show(s.pat rd os ib).iU i (((s.P i).pt (rd i) (os i)).tick)=_;rw[Zb];exact ux rd os ib s i _
 rw[Z];show(if((jb s i).P i).L.st≠9 then _ else _)=_;split
 ·exact wN rd os ib _ i _
 ·show mI (((jb s i).pat rd os ib).meet i (iI ((jb s i).P i).pe)) i=_;rw[wN];obtain⟨x,hx⟩:=gg ((jb s i).meet i (iI ((jb s i).P i).pe));rw[hx];have Y:∀p q:jw,(if(x.P i).pe.both=true then p.pt (rd i) (os i)else q.pt (rd i) (os i))=(if(x.P i).pe.both=true then p else q).pt (rd i) (os i):=λp q=>by split<;>rfl
  show(x.pat rd os ib).iU i (if(x.P i).pe.both=true then(((x.P i).pt (rd i) (os i)).put 72 _).kH (lE (x.O i))else((x.P i).pt (rd i) (os i)).put 72 _)=_;rw[E8,Ib,Y];exact ux rd os ib x i _
theorem LQ(s:iM)(i:Nat)(up:Bool)(Z:(kY (s.P i).L (if up=true then 0 else 1)).2.2=0):((s.pat rd os ib).iL i up).1=((s.iL i up).1).pat (jU rd i lH) os ib:=by
 obtain⟨E,Y⟩:=gg (kY (s.P i).L (if up=true then 0 else 1));rw[Y]at Z;have e:∀p:jw,p.L=(s.P i).L->p.iL up=(({p with L:=E.1,rd:=lH}:jw).say E.2.1,0):=λp Q=>by
  unfold jw.iL;rw[Q,Y];simp only;rw[af (by simp[Z])];rfl
 unfold iM.iL;rw[e _ rfl,e ((s.pat rd os ib).P i) rfl];simp only;rw[af gY,af gY];have M:(({(s.pat rd os ib).P i with L:=E.1,rd:=lH}:jw).say E.2.1)=((({s.P i with L:=E.1,rd:=lH}:jw)).say E.2.1).pt lH (os i):=
  Js lH (os i) _ ({s.P i with L:=E.1,rd:=lH}:jw)
 rw[M];obtain⟨q,V⟩:=gg ((({s.P i with L:=E.1,rd:=lH}:jw)).say E.2.1);rw[V];have X:(s.pat rd os ib).iU i (q.pt lH (os i))=(s.iU i q).pat (jU rd i lH) os ib:=by
  unfold iM.iU iM.pat;congr 1
  funext p
  show la _ i _ p=(la s.P i q p).pt (jU rd i lH p) (os p);by_cases e:p=i
  ·subst e;rw[jy,jy,iE]
  ·rw[jq _ _ e,jq _ _ e,iC _ _ e]
 rw[X,wN]
end
abbrev k9:=List UInt8
structure AN where
 n:Nat
 nc:Nat
 e:Nat->Nat->Nat×Nat
 ms:Nat->Nat->Int
 iQ:Nat->Bool
 R:Nat->iM
 F:Nat->Nat->List k9
 ib:Nat->List za
def tT(y:iP)(c d:Nat):List k9:=(kx (jW y c d) ((y.C c).on d)).1++jk ((y.R ((y.C c).e d).1).P ((y.C c).e d).2)
def iH(y:iP):AN:=⟨y.n,y.nc,λc=>(y.C c).e,y.ms,λc=>(y.C c).iQ,λi=>(y.R i).core,λc d=>if c<y.nc/\d<2 then tT y c d else [],λi=>y.j8 i++(y.R i).j8⟩
def AN.op(a:AN)(i:Nat)(s:iM):AN:=
 {a with R:=jU a.R i s.core,F:=λc d=>if(c<a.nc/\d<2)/\(a.e c d).1=i then a.F c d++jk (s.P (a.e c d).2)else a.F c d,ib:=jU a.ib i (a.ib i++s.j8)}
def AN.lv(a:AN)(c d:Nat)(l:List k9):AN:={a with F:=λc' d'=>if c'=c/\d'=d then l else a.F c' d'}
def AN.pop(a:AN)(c d:Nat)(x:k9)(l:List k9):AN:=(a.lv c d l).op (a.e c (1-d)).1 (jM (a.R (a.e c (1-d)).1) (a.e c (1-d)).2 x)
def AN.nI(a:AN)(c d:Nat)(up:Bool):AN:=a.op (a.e c d).1 ((a.R (a.e c d).1).iL (a.e c d).2 up).1
def AN.iL(a:AN)(c:Nat)(up:Bool):AN:=((({a with iQ:=jU a.iQ c up}:AN).lv c 0 []).lv c 1 []).nI c 0 up|>.nI c 1 up
def wO(a b:AN):Prop:=b={a with F:=b.F} /\∀c d,∃m,b.F c d=(a.F c d).take m
theorem wO.refl(a:AN):wO a a:=⟨rfl,λc d=>⟨(a.F c d).length,gY⟩⟩
theorem wO.trans {a b c:AN} (h:wO a b)(g:wO b c):wO a c:=by
 refine⟨?_,λx d=> ?_⟩
 ·rw[g.1,h.1]
 ·obtain⟨m,Y⟩:=h.2 x d;obtain⟨k,Z⟩:=g.2 x d;exact⟨min k m,by rw[Z,Y,List.take_take]⟩
inductive mQ:AN->List (Nat×Nat)->List (Int×List UInt8)->AN->Prop
 |lost {a b:AN}:wO a b->mQ a [] [] b
 |tick {a:AN} (i p:Nat):i<a.n->p<3->mQ a [(i,p)] [] (a.op i ((a.R i).iV p))
 |pop {a:AN} (c d:Nat) (x:k9) (l:List k9):c<a.nc->d<2->a.F c d=x::l->mQ a [] [] (a.pop c d x l)
 |send {a:AN} (i:Nat) (t:Int) (tx:List UInt8):i<a.n->1<=t->t<=6->tx.length<=20->mQ a [] [(t,tx)] (a.op i ((a.R i).send (t,8,tx)))
 |iL {a:AN} (c:Nat):c<a.nc->a.iQ c=false->a.F c 0=[]->a.F c 1=[]->mQ a [a.e c 0,a.e c 1] [] (a.iL c true)
 |draw {a:AN} (c:Nat):c<a.nc->a.iQ c=true->mQ a [] [] (a.iL c false)
 |anew {a:AN} (i m:Nat):i<a.n->(∀c d,c<a.nc->d<2->(a.e c d).1=i->a.iQ c=false/\a.F c 0=[] /\a.F c 1=[])->mQ a [] [] {a with R:=jU a.R i (jN ((i:Int)+1) 3 (a.ms i)),ib:=jU a.ib i ((a.ib i).take m)}
inductive jT:AN->List (Nat×Nat)->List (Int×List UInt8)->AN->Prop
 |nil (a:AN):jT a [] [] a
 |snoc {a b c:AN} {T U:List (Nat×Nat)} {S V:List (Int×List UInt8)}:jT a T S b->mQ b U V c->jT a (T++U) (S++V) c
theorem jT.one {a b:AN} (h:mQ a T S b):jT a T S b:=jT.snoc (jT.nil a) h
theorem jT.trans {a b c:AN} {V:List (Int×List UInt8)} (h:jT a T S b)(g:jT b U V c):jT a (T++U) (S++V) c:=by
 induction g with
 |nil=>simpa using h
 |snoc _ s ih=>rw[<-aE,<-aE];exact ih.snoc s
theorem jT.lost {a b c:AN} {T:List (Nat×Nat)} {S:List (Int×List UInt8)} (h:jT a T S b)(g:wO b c):jT a T S c:=by
 have:=h.snoc (mQ.lost g);simpa using this
theorem mQ.same {a b:AN} (h:mQ a T S b):b.n=a.n/\b.nc=a.nc/\b.e=a.e/\b.ms=a.ms:=by
 cases h with
 |lost h=>rw[h.1];exact⟨rfl,rfl,rfl,rfl⟩
 |_=>exact⟨rfl,rfl,rfl,rfl⟩
theorem jT.same {a b:AN} {T:List (Nat×Nat)} {S:List (Int×List UInt8)} (h:jT a T S b):b.n=a.n/\b.nc=a.nc/\b.e=a.e/\b.ms=a.ms:=by
 induction h with
 |nil=>exact⟨rfl,rfl,rfl,rfl⟩
 |snoc _ s ih=>
  obtain⟨Y,V,Z,X⟩:=s.same;exact⟨Y.trans ih.1,V.trans ih.2.1,Z.trans ih.2.2.1,X.trans ih.2.2.2⟩
theorem AN.ext' {a b:AN} (Y:a.n=b.n)(V:a.nc=b.nc)(Z:a.e=b.e)(H:a.ms=b.ms)(M:a.iQ=b.iQ)(Q:a.R=b.R)(J:a.F=b.F)(X:a.ib=b.ib):a=b:=by
 cases a;cases b;simp only at*;subst Y V Z H M Q J X;rfl
theorem zX {p:jw} {o:List UInt8} {ps:List k9} (Y:Frames o ps)(X:∃qs,Frames p.out qs)(rd:kC):jk (p.pt rd o)=ps++jk p/\∃qs,Frames (p.pt rd o).out qs:=by
 obtain⟨qs,Z⟩:=X;have h:Frames (p.pt rd o).out (ps++qs):=by
  refine⟨?_,λx hx=> ?_⟩
  ·show o++p.out=_;rw[Y.1,Z.1,cu]
  ·rcases aw.1 hx with e|e
   ·exact Y.2 x e
   ·exact Z.2 x e
 exact⟨by rw[m8 h,m8 Z],_,h⟩
theorem jz {p:jw} (h:p.out=[]):jk p=[] :=by unfold jk;rw[h];rfl
theorem Jt {p:jw} (h:∃ps,Frames p.out ps):Frames p.out (jk p):=by
 obtain⟨ps,Z⟩:=h;rw[m8 Z];exact Z
theorem Ju(hF:∀i p,∃ps,Frames ((y.R i).P p).out ps)(i:Nat) {s r:iM} (rd:Nat->kC)(Y:r=s.pat rd (λp=>((y.R i).P p).out) (y.R i).j8)(V:∀c d,c<y.nc->d<2->((y.C c).e (1-d)).1=i->rd ((y.C c).e (1-d)).2=((y.R i).P ((y.C c).e (1-d)).2).rd \/(y.C c).on d=[])(hs:∀p,∃ps,Frames (s.P p).out ps):iH (y.jB i r)=(iH y).op i s:=by
 have X:∀j,(y.jB i r).R j=if j=i then r else y.R j:=λj=>rfl
 refine AN.ext' rfl rfl rfl rfl rfl ?_ ?_ ?_
 ·funext j
  show((y.jB i r).R j).core=jU _ i s.core j;rw[X];by_cases e:j=i
  ·subst e;rw[ai rfl,iE,Y,LO]
  ·rw[af e,iC _ _ e];rfl
 ·funext c d
  show(if c<y.nc/\d<2 then tT (y.jB i r) c d else [])=if(c<y.nc/\d<2)/\((y.C c).e d).1=i then(if c<y.nc/\d<2 then tT y c d else [])++jk (s.P ((y.C c).e d).2)else if c<y.nc/\d<2 then tT y c d else []
  by_cases hc:c<y.nc/\d<2
  ·rw[ai hc,ai hc];have hf:(kx (jW (y.jB i r) c d) ((y.C c).on d)).1=(kx (jW y c d) ((y.C c).on d)).1:=by
    have Z:jW (y.jB i r) c d=jW y c d \/(y.C c).on d=[] :=by
     show(((y.jB i r).R ((y.C c).e (1-d)).1).P ((y.C c).e (1-d)).2).rd=_ \/_;rw[X];by_cases e:((y.C c).e (1-d)).1=i
     ·rw[ai e,Y];unfold jW;rw[e];exact V c d hc.1 hc.2 e
     ·rw[af e];exact .inl rfl
    rcases Z with Z|Z
    ·rw[Z]
    ·rw[Z];rfl
   unfold tT;show(kx (jW (y.jB i r) c d) ((y.C c).on d)).1++_=_;rw[hf];show(kx (jW y c d) ((y.C c).on d)).1++jk (((y.jB i r).R ((y.C c).e d).1).P ((y.C c).e d).2)=_;rw[X];by_cases e:((y.C c).e d).1=i
   ·rw[ai e,ai ⟨hc,e⟩,Y,e];obtain⟨ps,Q⟩:=hF i ((y.C c).e d).2;have M:=(zX Q (hs ((y.C c).e d).2) (rd ((y.C c).e d).2)).1;show _++jk ((s.P ((y.C c).e d).2).pt _ _)=_;rw[M,m8 Q,aE]
   ·rw[af e,af (λh=>e h.2)]
  ·rw[af hc,af (λh=>hc h.1),af hc]
 ·funext j
  show y.j8 j++((y.jB i r).R j).j8=jU _ i _ j;rw[X];by_cases e:j=i
  ·subst e;rw[ai rfl,iE,Y];show y.j8 j++((y.R j).j8++s.j8)=(y.j8 j++(y.R j).j8)++s.j8;rw[aE]
  ·rw[af e,iC _ _ e];rfl
theorem Wa(hF:∀i p,∃ps,Frames ((y.R i).P p).out ps)(i:Nat) {s r:iM} (Z:r=s.pat (λp=>((y.R i).P p).rd) (λp=>((y.R i).P p).out) (y.R i).j8)(hs:∀p,∃ps,Frames (s.P p).out ps):iH (y.jB i r)=(iH y).op i s:=Ju hF i _ Z (λ_ _ _ _ _=>.inl rfl) hs
def Room(y:iP):Prop:=∀c d,c<y.nc->d<2->((y.R ((y.C c).e d).1).P ((y.C c).e d).2).out=[] \/((y.C c).iQ=true/\((y.C c).on d).length+((y.R ((y.C c).e d).1).P ((y.C c).e d).2).out.length<=2000)
theorem Dr(y:iP)(c d x f:Nat):((y.kZ c d).C x).on f=(if x=c/\f=d/\(y.C c).iQ=true/\((y.C c).on d).length+((y.R ((y.C c).e d).1).P ((y.C c).e d).2).out.length<=2000 then(y.C c).on d++((y.R ((y.C c).e d).1).P ((y.C c).e d).2).out else(y.C x).on f):=by
 show((if x=c then(y.C c).put d _ else y.C x):qA).on f=_;by_cases ex:x=c
 ·rw[ai ex];subst ex;unfold qA.put;split
  ·rename_i h
   show jU (y.C x).on d _ f=_;by_cases ed:f=d
   ·subst ed;rw[iE,ai ⟨rfl,rfl,h⟩]
   ·rw[iC _ _ ed,af (λq=>ed q.2.1)]
  ·rename_i h
   rw[af (λq=>h q.2.2)]
 ·rw[af ex,af (λq=>ex q.1)]
theorem LR(hF:jA y)(A:Ends y)(c d:Nat)(hc:c<y.nc)(hd:d<2):wO (iH y) (iH (y.kZ c d))/\(Room y->iH (y.kZ c d)=iH y/\Room (y.kZ c d)):=by
 have Y:∀x,((y.kZ c d).C x).e=(y.C x).e:=λx=>((mW y c d).2.2.2.2 x).1;have hi:∀x,((y.kZ c d).C x).iQ=(y.C x).iQ:=λx=>((mW y c d).2.2.2.2 x).2;have hR:∀j,((y.kZ c d).R j)=if j=((y.C c).e d).1 then(y.R j).out ((y.C c).e d).2 else y.R j:=λj=>by
  show jU y.R ((y.C c).e d).1 _ j=_;by_cases e:j=((y.C c).e d).1
  ·subst e;rw[iE,ai rfl]
  ·rw[iC _ _ e,af e]
 have Q:∀j,((y.kZ c d).R j).core=(y.R j).core:=λj=>by
  rw[hR];split
  ·show iM.core (iM.iU _ _ _)=_;unfold iM.core iM.iU;congr 1
   funext p
   show({la (y.R j).P ((y.C c).e d).2 {(y.R j).P ((y.C c).e d).2 with out:=[] } p with rd:=lH,out:=[] }:jw)=_;by_cases e:p=((y.C c).e d).2
   ·rw[e,jy]
   ·rw[jq _ _ e]
  ·rfl
 have M:∀j,((y.kZ c d).R j).j8=(y.R j).j8:=λj=>by
  rw[hR];split<;>rfl
 have V:∀j p,((y.kZ c d).R j).P p=if(y.C c).e d=(j,p)then {(y.R j).P p with out:=[] }else(y.R j).P p:=λj p=>Bh y c d j p
 have uK:∀x f,jW (y.kZ c d) x f=jW y x f:=λx f=>by
  unfold jW;rw[Y,V];split<;>rfl
 have E:∀x f,x<y.nc->f<2->¬(x=c/\f=d)->tT (y.kZ c d) x f=tT y x f:=λx f hx hf u=>by
  unfold tT;rw[uK,Y,Dr,af (λq=>u ⟨q.1,q.2.1⟩),V,af (λq=>u (A.ds x f c d hx hf hc hd q.symm))]
 have hq:=(hF.q c d hc hd).1;obtain⟨ps,H⟩:=hF.o ((y.C c).e d).1 ((y.C c).e d).2;have h0:jk (((y.kZ c d).R ((y.C c).e d).1).P ((y.C c).e d).2)=[] :=jz (by rw[V,ai rfl]);have Z:tT (y.kZ c d) c d=(if(y.C c).iQ=true/\((y.C c).on d).length+((y.R ((y.C c).e d).1).P ((y.C c).e d).2).out.length<=2000 then tT y c d else(kx (jW y c d) ((y.C c).on d)).1):=by
  unfold tT;rw[uK,Y,h0,aC,Dr];split
  ·rename_i h
   rw[ai h.2.2,rk,hq,m8 H];rw[H.1,rA ps H.2]
  ·rename_i h
   rw[af (λq=>h ⟨rfl,rfl,q⟩)]
 have De:∀G:Nat->Nat->List k9,(∀x f,(if x<y.nc/\f<2 then tT (y.kZ c d) x f else [])=G x f)->iH (y.kZ c d)={iH y with F:=G}:=λG hG=>by
  refine AN.ext' rfl rfl (funext Y) rfl (funext hi) (funext Q) ?_ (funext λj=> ?_)
  ·funext x f;exact hG x f
  ·show y.j8 j++((y.kZ c d).R j).j8=_;rw[M];rfl
 refine⟨⟨?_,λx f=> ?_⟩,λhr=>⟨?_,λx f hx hf=> ?_⟩⟩
 ·exact De _ λ_ _=>rfl
 ·show∃m,(if x<y.nc/\f<2 then tT (y.kZ c d) x f else [])=(if x<y.nc/\f<2 then tT y x f else []).take m;split
  ·rename_i X
   by_cases e:x=c/\f=d
   ·obtain⟨rfl,rfl⟩:=e;rw[Z];split
    ·exact⟨(tT y x f).length,gY⟩
    ·exact⟨(kx (jW y x f) ((y.C x).on f)).1.length,by unfold tT;simp⟩
   ·rw[E x f X.1 X.2 e];exact⟨(tT y x f).length,gY⟩
  ·exact⟨0,rfl⟩
 ·refine De (iH y).F λx f=> ?_;show _=if x<y.nc/\f<2 then tT y x f else []
  split
  ·rename_i X
   by_cases e:x=c/\f=d
   ·obtain⟨rfl,rfl⟩:=e;rw[Z];rcases hr x f hc hd with J|J
    ·split
     ·rfl
     ·unfold tT;rw[jz J,aC]
    ·rw[ai J]
   ·exact E x f X.1 X.2 e
  ·rfl
 ·rw[Y,V,hi,Dr];by_cases e:x=c/\f=d
  ·obtain⟨rfl,rfl⟩:=e;rw[ai rfl];exact .inl rfl
  ·rw[af (λq=>e (A.ds x f c d hx hf hc hd q.symm)),af (λq=>e ⟨q.1,q.2.1⟩)];exact hr x f hx hf
theorem Ends.same {y':iP} (h:Ends y)(X:y'.n=y.n)(Y:y'.nc=y.nc)(Z:∀c,(y'.C c).e=(y.C c).e)(V:∀i,(y'.R i).n=(y.R i).n):Ends y':=
 ⟨λc d c' d'=>by rw[Y,Z,Z];exact h.ds c d c' d',λc d=>by rw[Y,Z];exact h.p3 c d,λi=>by rw[V,X];exact h.rn i,λc d=>by rw[Y,Z,X];exact h.en c d⟩
theorem Ends.kZ {y:iP} (h:Ends y)(c d:Nat):Ends (y.kZ c d):=h.same (mW y c d).1 (mW y c d).2.1 (λx=>((mW y c d).2.2.2.2 x).1) λj=>by
 show(jU y.R ((y.C c).e d).1 _ j).n=_;by_cases e:j=((y.C c).e d).1
 ·subst e;rw[iE];rfl
 ·rw[iC _ _ e]
theorem LU {y:iP} (hF:jA y)(Z:Ends y):∀k,k<=y.nc->(Ends (y.j2 k)/\wO (iH y) (iH (y.j2 k)))/\(Room y->iH (y.j2 k)=iH y/\Room (y.j2 k))
 |0,_=>⟨⟨Z,wO.refl _⟩,λh=>⟨rfl,h⟩⟩
 |k+1,hk=>by
  obtain⟨⟨Y,l1⟩,r1⟩:=LU hF Z k eh;have f1:=jA.j2 hF k eh;have n1:(y.j2 k).nc=y.nc:=(j4 y k).2.1;obtain⟨l2,J⟩:=LR f1 Y k 0 (by rw[n1];omega) eA;have X:=Y.kZ k 0;have f2:=f1.kZ k 0 (by rw[n1];omega);obtain⟨H,G⟩:=LR f2 X k 1 (by show k<(y.j2 k).nc;rw[n1];omega) eA;refine⟨⟨X.kZ k 1,l1.trans (l2.trans H)⟩,λh=> ?_⟩;obtain⟨q1,s1⟩:=r1 h;obtain⟨q2,M⟩:=J s1;obtain⟨V,Q⟩:=G M;exact⟨V.trans (q2.trans q1),Q⟩
theorem LV(y:iP):∀k,iH (y.mZ k)=iH y
 |0=>rfl
 |k+1=>by
  rw[<-LV y k];obtain⟨z,Y⟩:=gg (y.mZ k);show iH ((y.mZ k).xY k)=iH (y.mZ k);rw[Y];have Z:∀j,((z.xY k).R j).P=(z.R j).P:=λj=>by
   show(jU z.R k {z.R k with j8:=[] } j).P=_;by_cases e:j=k
   ·subst e;rw[iE]
   ·rw[iC _ _ e]
  refine AN.ext' rfl rfl rfl rfl rfl (funext λj=> ?_) (funext λc=>funext λd=> ?_) (funext λj=> ?_)
  ·show(jU z.R k {z.R k with j8:=[] } j).core=_;by_cases e:j=k
   ·subst e;rw[iE];rfl
   ·rw[iC _ _ e];rfl
  ·show(if c<z.nc/\d<2 then(kx (((z.xY k).R _).P _).rd _).1++jk (((z.xY k).R _).P _)else [])=_;rw[Z,Z];rfl
  ·show jU z.j8 k (z.j8 k++(z.R k).j8) j++(jU z.R k {z.R k with j8:=[] } j).j8=z.j8 j++(z.R j).j8;by_cases e:j=k
   ·subst e;rw[iE,iE];simp
   ·rw[iC _ _ e,iC _ _ e]
theorem pF(hF:jA y)(Z:Ends y):wO (iH y) (iH y.gather)/\(Room y->iH y.gather=iH y):=by
 obtain⟨⟨_,l⟩,r⟩:=LU hF Z y.nc (Nat.le_refl _);unfold iP.gather;rw[LV];exact⟨l,λh=>(r h).1⟩
theorem vD(a:AN)(i:Nat)(s:iM)(c d:Nat):(a.op i s).F c d=if(c<a.nc/\d<2)/\(a.e c d).1=i then a.F c d++jk (s.P (a.e c d).2)else a.F c d:=rfl
theorem Sk(a:AN)(i:Nat)(s:iM):(a.op i s).e=a.e:=rfl
theorem agP(a:AN)(i:Nat)(s:iM):(a.op i s).nc=a.nc:=rfl
theorem sO(a:AN)(c d:Nat)(l:List k9)(x f:Nat):(a.lv c d l).F x f=if x=c/\f=d then l else a.F x f:=rfl
theorem yR(a:AN)(c d:Nat)(l:List k9):(a.lv c d l).e=a.e:=rfl
theorem Ds(a:AN)(c d:Nat)(l:List k9):(a.lv c d l).nc=a.nc:=rfl
def Norm(a:AN):Prop:=∀i,(a.R i).core=a.R i
theorem wP(y:iP):Norm (iH y):=λ_=>rfl
theorem qV {a:AN} (h:Norm a)(i:Nat)(s:iM):Norm (a.op i s):=λj=>by
 show(jU a.R i s.core j).core=jU a.R i s.core j;by_cases e:j=i
 ·subst e;rw[iE];rfl
 ·rw[iC _ _ e];exact h j
theorem Norm.out {a:AN} (h:Norm a)(i p:Nat):((a.R i).P p).out=[] :=by rw[<-h i];rfl
theorem Norm.j8 {a:AN} (h:Norm a)(i:Nat):(a.R i).j8=[] :=by rw[<-h i];rfl
theorem nu.frN {r s:iM} (h:nu r s)(Y:∀p,(r.P p).out=[]):∀p,∃ps,Frames (s.P p).out ps:=λp=>by
 obtain⟨qs,Z⟩:=h.out p [] (by rw[Y p];exact Frames.nil);exact⟨_,Z⟩
theorem nu.jM(r:iM)(i:Nat)(x:k9):nu r (jM r i x):=by
 cases x with
 |nil=>exact nu.refl r
 |cons c s=>exact nu.take r i c s
theorem agR(a:AN)(i:Nat)(s t:iM)(rd:Nat->kC)(hs:∀p,∃ps,Frames (s.P p).out ps)(Z:∀p,∃ps,Frames (t.P p).out ps):(a.op i s).op i t=a.op i (t.pat rd (λp=>(s.P p).out) s.j8):=by
 refine AN.ext' rfl rfl rfl rfl rfl (funext λj=> ?_) (funext λc=>funext λd=> ?_) (funext λj=> ?_)
 ·show jU (jU a.R i s.core) i t.core j=jU a.R i t.core j;by_cases e:j=i
  ·subst e;rw[iE,iE]
  ·rw[iC _ _ e,iC _ _ e,iC _ _ e]
 ·rw[vD,vD,vD,Sk,agP];by_cases e:(c<a.nc/\d<2)/\(a.e c d).1=i
  ·rw[ai e,ai e,ai e,aE];congr 1;exact(zX (Jt (hs _)) (Z _) _).1.symm
  ·rw[af e,af e,af e]
 ·show jU (jU a.ib i (a.ib i++s.j8)) i (jU a.ib i (a.ib i++s.j8) i++t.j8) j=jU a.ib i (a.ib i++(s.j8++t.j8)) j;by_cases e:j=i
  ·subst e;rw[iE,iE,iE,aE]
  ·rw[iC _ _ e,iC _ _ e,iC _ _ e]
inductive yS(c d:Nat):List k9->AN->AN->Prop
 |nil (a:AN):yS c d [] a a
 |cons {a b:AN} {x:k9} {l r:List k9}:c<a.nc->d<2->a.F c d=x::r->yS c d l (a.pop c d x r) b->yS c d (x::l) a b
theorem yS.path {l:List k9} {a b:AN} (h:yS c d l a b):jT a [] [] b:=by
 induction h with
 |nil a=>exact jT.nil a
 |cons Y X Z _ ih=>exact(jT.one (mQ.pop _ _ _ _ Y X Z)).trans ih
theorem ade:∀(l rest:List k9) (a:AN) (c d:Nat),Norm a->c<a.nc->d<2->a.F c d=l++rest->yS c d l a ((a.lv c d rest).op (a.e c (1-d)).1 ((a.R (a.e c (1-d)).1).takes (a.e c (1-d)).2 l))
 |[],rest,a,c,d,hN,hc,hd,hF=>by
  have G:(a.lv c d rest).op (a.e c (1-d)).1 ((a.R (a.e c (1-d)).1).takes (a.e c (1-d)).2 [])=a:=by
   refine AN.ext' rfl rfl rfl rfl rfl ?_ (funext λx=>funext λf=> ?_) ?_
   ·show jU a.R _ (a.R _).core=_;rw[hN];exact wu _ _
   ·show(if _/\_ then(if x=c/\f=d then rest else a.F x f)++jk _ else if x=c/\f=d then rest else a.F x f)=_;have u:(if x=c/\f=d then rest else a.F x f)=a.F x f:=by
     split
     ·rename_i h;rw[h.1,h.2,hF];rfl
     ·rfl
    rw[u];split
    ·show _++jk ((a.R _).P _)=_;rw[jz (hN.out _ _),aC]
    ·rfl
   ·show jU a.ib _ (a.ib _++(a.R _).j8)=_;rw[hN.j8,aC];exact wu _ _
  rw[G];exact yS.nil a
 |x::l,rest,a,c,d,hN,hc,hd,hF=>by
  obtain⟨i,hi⟩:=gg ((a.e c (1-d)).1);obtain⟨p,V⟩:=gg ((a.e c (1-d)).2);have hs:=(nu.jM (a.R i) p x).frN (hN.out i);obtain⟨s,Z⟩:=gg (jM (a.R i) p x);have H:a.pop c d x (l++rest)=(a.lv c d (l++rest)).op i s:=by unfold AN.pop;rw[hi,V,Z]
  rw[Z]at hs;have E:Norm ((a.lv c d (l++rest)).op i s):=qV (a:=a.lv c d (l++rest)) hN i s;have X:(if c=c/\d=d then l++rest else a.F c d)=l++rest:=ai ⟨rfl,rfl⟩;have J:((a.lv c d (l++rest)).op i s).F c d=l++(if(c<a.nc/\d<2)/\(a.e c d).1=i then rest++jk (s.P (a.e c d).2)else rest):=by
   show(if(c<a.nc/\d<2)/\(a.e c d).1=i then(if c=c/\d=d then l++rest else a.F c d)++jk (s.P (a.e c d).2)else(if c=c/\d=d then l++rest else a.F c d))=_;rw[X];split<;>simp
  have ih:=ade l _ _ c d E hc hd J;have Q:((a.lv c d (l++rest)).op i s).R i=s.core:=iE _ _ _;have Y:=ih;have A:((a.lv c d (l++rest)).op i s).e=a.e:=rfl;rw[A,hi,V,Q]at Y;have M:(((a.lv c d (l++rest)).op i s).lv c d (if(c<a.nc/\d<2)/\(a.e c d).1=i then rest++jk (s.P (a.e c d).2)else rest))=(a.lv c d rest).op i s:=by
   refine AN.ext' rfl rfl rfl rfl rfl rfl (funext λy=>funext λf=> ?_) rfl;rw[sO,vD,vD,sO,sO,yR,yR,Ds,Ds];by_cases e:y=c/\f=d
   ·rw[ai e,ai e,e.1,e.2]
   ·rw[af e,af e,af e]
  rw[M,agR _ _ _ _ (λq=>(s.P q).rd) hs ((nu.takes l s.core p).frN λ_=>rfl),<-Br,wM]at Y;rw[hi,V];show yS c d (x::l) a ((a.lv c d rest).op i ((jM (a.R i) p x).takes p l));rw[Z];exact yS.cons (r:=l++rest) hc hd hF (by rw[H];exact Y)
theorem Fb(hF:jA y)(u:Ends y)(c d k:Nat)(hc:c<y.nc)(hd:d<2):∃l rest,tT y c d=l++rest/\l=(kx (jW y c d) (((y.C c).on d).take k)).1/\iH (y.jo c d k)=((iH y).lv c d rest).op ((y.C c).e (1-d)).1 (((y.R ((y.C c).e (1-d)).1).core).takes ((y.C c).e (1-d)).2 l):=by
 obtain⟨i,hi⟩:=gg (((y.C c).e (1-d)).1);obtain⟨p,V⟩:=gg (((y.C c).e (1-d)).2);obtain⟨A,hA⟩:=gg (kx ((y.R i).P p).rd (((y.C c).on d).take k));have H:jW y c d=((y.R i).P p).rd:=by unfold jW;rw[hi,V]
 have J:(kx (jW y c d) ((y.C c).on d)).1=A.1++(kx A.2.2 (((y.C c).on d).drop k)).1:=by
  have:=rk (jW y c d) (((y.C c).on d).take k) (((y.C c).on d).drop k);rw[cK,H,hA]at this;rw[H,this]
 refine⟨A.1,(kx A.2.2 (((y.C c).on d).drop k)).1++jk ((y.R ((y.C c).e d).1).P ((y.C c).e d).2),?_,by rw[H,hA],?_⟩
 ·unfold tT;rw[J,aE]
 rw[hi,V];have X:(y.R i).recv p (((y.C c).on d).take k)=(((y.R i).core).takes p A.1).pat (jU (λq=>((y.R i).P q).rd) p A.2.2) (λq=>((y.R i).P q).out) (y.R i).j8:=by
  rw[<-Br];unfold iM.recv;simp only;rw[hA];congr 1;unfold iM.iU iM.pat iM.core jw.pt;simp only[gU];congr 1
  funext q
  by_cases e:q=p
  ·subst e;rw[jy,iE]
  ·rw[jq _ _ e,iC _ _ e]
 have hs:=(nu.takes A.1 (y.R i).core p).frN λ_=>rfl;obtain⟨s,E⟩:=gg (((y.R i).core).takes p A.1);rw[E]at X hs⊢;have Q:∀j,(y.jo c d k).R j=if j=i then(y.R i).recv p (((y.C c).on d).take k)else y.R j:=λj=>by
  unfold iP.jo;rw[hi,V];rfl
 have Y:∀x,((y.jo c d k).C x).e=(y.C x).e:=λx=>((ry y c d k).2.2.2 x).1;have CX:∀x e,((y.jo c d k).C x).on e=if x=c/\e=d then((y.C c).on d).drop k else(y.C x).on e:=λx e=>by
  show((if x=c then {y.C c with on:=jU (y.C c).on d (((y.C c).on d).drop k)}else y.C x):qA).on e=_;by_cases ex:x=c
  ·rw[ai ex];show jU (y.C c).on d _ e=_;by_cases ed:e=d
   ·rw[ed,iE,ai ⟨ex,rfl⟩]
   ·rw[iC _ _ ed,af (λh=>ed h.2),ex]
  ·rw[af ex,af (λh=>ex h.1)]
 refine AN.ext' rfl rfl (funext Y) rfl (funext λx=>E6 y c d k x) (funext λj=> ?_) (funext λx=>funext λf=> ?_) (funext λj=> ?_)
 ·show((y.jo c d k).R j).core=jU _ i s.core j;rw[Q];by_cases e:j=i
  ·subst e;rw[ai rfl,iE,X,LO]
  ·rw[af e,iC _ _ e];rfl
 ·show(if x<y.nc/\f<2 then tT (y.jo c d k) x f else [])=if(x<y.nc/\f<2)/\((y.C x).e f).1=i then(if x=c/\f=d then _ else if x<y.nc/\f<2 then tT y x f else [])++jk (s.P ((y.C x).e f).2)else if x=c/\f=d then _ else if x<y.nc/\f<2 then tT y x f else []
  by_cases hx:x<y.nc/\f<2
  ·rw[ai hx];have hq:tT (y.jo c d k) x f=(if x=c/\f=d then(kx A.2.2 (((y.C c).on d).drop k)).1 else(kx (jW y x f) ((y.C x).on f)).1)++(if((y.C x).e f).1=i then jk ((y.R ((y.C x).e f).1).P ((y.C x).e f).2)++jk (s.P ((y.C x).e f).2)else jk ((y.R ((y.C x).e f).1).P ((y.C x).e f).2)):=by
    unfold tT;congr 1
    ·unfold jW;rw[Y,Q,CX];by_cases e:x=c/\f=d
     ·rw[ai e,ai e,e.1,e.2,hi,ai rfl,X,V];have:((s.pat (jU (λq=>((y.R i).P q).rd) p A.2.2) (λq=>((y.R i).P q).out) (y.R i).j8).P p).rd=A.2.2:=by
       show jU (λq=>((y.R i).P q).rd) p A.2.2 p=_;rw[iE]
      rw[this]
     ·rw[af e,af e];by_cases Z:((y.C x).e (1-f)).1=i
      ·have M:((y.C x).e (1-f)).2≠p:=λM=>by
        have:=u.ds x (1-f) c (1-d) hx.1 eh hc eh (aV (Z.trans hi.symm) (M.trans V.symm));exact e ⟨this.1,eh⟩
       rw[ai Z,X,Z];have:((s.pat (jU (λq=>((y.R i).P q).rd) p A.2.2) (λq=>((y.R i).P q).out) (y.R i).j8).P ((y.C x).e (1-f)).2).rd=((y.R i).P ((y.C x).e (1-f)).2).rd:=by
        show jU (λq=>((y.R i).P q).rd) p A.2.2 ((y.C x).e (1-f)).2=_;rw[iC _ _ M]
       rw[this]
      ·rw[af Z]
    ·rw[Y,Q];by_cases Z:((y.C x).e f).1=i
     ·rw[ai Z,ai Z,X,Z];obtain⟨ps,G⟩:=hF.o i ((y.C x).e f).2;show jk ((s.P ((y.C x).e f).2).pt _ _)=_;rw[(zX G (hs _) _).1,m8 G]
     ·rw[af Z,af Z]
   rw[hq];by_cases e:x=c/\f=d
   ·rw[ai e,ai e,<-e.1,<-e.2];by_cases Z:((y.C x).e f).1=i
    ·rw[ai Z,ai ⟨hx,Z⟩,aE]
    ·rw[af Z,af (λh=>Z h.2)]
   ·rw[af e,af e,ai hx];unfold tT;by_cases Z:((y.C x).e f).1=i
    ·rw[ai Z,ai ⟨hx,Z⟩,aE]
    ·rw[af Z,af (λh=>Z h.2)]
  ·rw[af hx,af (λh=>hx h.1),af (λh=>hx ⟨by rw[h.1];exact hc,by rw[h.2];exact hd⟩),af hx]
 ·show y.j8 j++((y.jo c d k).R j).j8=jU _ i _ j;rw[Q];by_cases e:j=i
  ·subst e;rw[ai rfl,iE,X];show y.j8 j++((y.R j).j8++s.j8)=(y.j8 j++(y.R j).j8)++s.j8;rw[aE]
  ·rw[af e,iC _ _ e];rfl
theorem Wd:((fW 10).all λs=>(lp s 1).1.all λc=>c==115||c==100)=true:=by decide+kernel
theorem LW(zo:kM):∀(l:List UInt8) (s:LS),l.all (λc=>c==115||c==100)=true->yu l s zo=[]
 |[],_,_=>rfl
 |c::r,s,h=>by
  rw[List.all_cons,Bool.and_eq_true]at h;show Gi c s zo++yu r _ zo=[]
  rw[LW zo r _ h.2,aC];have Z:c=115 \/c=100:=by simpa using h.1
  rcases Z with rfl|rfl<;>rfl
theorem LX {s:LS} (h:uv s.st=true):(kY s 1).2.1=[] :=by
 obtain⟨k,V,Y⟩:=Dq h;have Z:=(tG h).1;have e:kY s 1=sW s 1 (0,0,[]):=rfl;rw[e]at Z⊢;have X:(jh s.st 1).2.2=0:=by
  by_cases g:(jh s.st 1).2.2=0
  ·exact g
  ·rw[wa _ g]at Z;exact absurd Z g
 rw[tO _ X];show yu (jh s.st 1).1 _ _=[]
 rw[V,show jh (k:Int) 1=lp k 1 from nA k 1 Y eA];exact LW _ _ _ (a8.1 Wd k (aQ.2 Y))
theorem Jv(r:iM)(p:Nat)(up:Bool)(q:Nat)(Z:q≠p):((r.iL p up).1.P q).out=(r.P q).out:=by
 unfold iM.iL;simp only;split
 ·rfl
 ·rw[(mV _ p nobody).2.2.2];rw[jq _ _ Z];show(la r.P p _ q).out=_;rw[jq _ _ Z]
theorem Fc {r:iM} {p:Nat} (h:uv (r.P p).L.st=true):((r.iL p false).1.P p).out=(r.P p).out:=by
 unfold iM.iL jw.iL;simp only[Bool.false_eq_true,if_false];rw[LX h,(tG h).1];simp only[ne_eq,not_true_eq_false,if_false];rw[(mV _ p nobody).2.2.2,jy];show(la r.P p _ p).out=_;rw[jy];rfl
theorem PI {L:LS} (h:if(!up)=true then uv L.st=true else L.st=1):(kY L (if up=true then 0 else 1)).2.2=0:=by
 cases up
 ·exact(tG (by simpa using h)).1
 ·exact(Ef (by simpa using h)).1
theorem nu.aaK {s:iM} {i:Nat} (hs:∀p,(s.P p).out=[])(X:(kY (s.P i).L (if up=true then 0 else 1)).2.2=0):∀p,∃ps,Frames ((s.iL i up).1.P p).out ps:=λp=>by
 have e:(s.P i).iL up=(({s.P i with L:=(kY (s.P i).L (if up=true then 0 else 1)).1,rd:=([],false,false)}:jw).say (kY (s.P i).L (if up=true then 0 else 1)).2.1,0):=by
  unfold jw.iL;simp only;rw[af (by simp[X])]
 unfold iM.iL;rw[e];simp only;rw[af gY];obtain⟨x,hx⟩:=gg (({s.P i with L:=(kY (s.P i).L (if up=true then 0 else 1)).1,rd:=([],false,false)}:jw).say (kY (s.P i).L (if up=true then 0 else 1)).2.1);have V:r7 {s.P i with L:=(kY (s.P i).L (if up=true then 0 else 1)).1,rd:=([],false,false)} x:=by rw[<-hx];exact r7.say _ _
 rw[hx,(mV _ i nobody).2.2.2];by_cases Z:p=i
 ·subst Z;rw[jy];show∃ps,Frames (la s.P p x p).out ps;rw[jy];obtain⟨qs,Y⟩:=V.out [] (by show Frames (s.P p).out [];rw[hs];exact Frames.nil);exact⟨_,Y⟩
 ·rw[jq _ _ Z];show∃ps,Frames (la s.P i x p).out ps;rw[jq _ _ Z,hs];exact⟨[],Frames.nil⟩
theorem Sn(hF:∀i p,∃ps,Frames ((y.R i).P p).out ps)(hG:GN y)(hE:Ends y)(c:Nat)(up:Bool)(hc:c<y.nc)(hu:(y.C c).iQ= !up)(ho:∀d,d<2->((y.R ((y.C c).e d).1).P ((y.C c).e d).2).out=[]):iH (y.jZ c up)=(iH y).iL c up/\(∀i p,(∀d,d<2->(y.C c).e d≠(i,p))->(((y.jZ c up).R i).P p).out=((y.R i).P p).out)/\(up=false->∀d,d<2->(((y.jZ c up).R ((y.C c).e d).1).P ((y.C c).e d).2).out=[]):=by
 have e0:=hG.ends c 0 hc eA;have e1:=hG.ends c 1 hc eA;have o0:=ho 0 eA;have o1:=ho 1 eA;rw[hu]at e0 e1;have ju:(y.C c).e 0≠(y.C c).e 1:=λh=>by
  have:=(hE.ds c 0 c 1 hc eA hc eA h).2;omega
 obtain⟨z,G⟩:=gg (y.lq c {y.C c with iQ:=up,on:=λ_=>[] });have X:∀x,z.C x=if x=c then {y.C c with iQ:=up,on:=λ_=>[] }else y.C x:=λx=>by rw[<-G];rfl
 have V:∀x,(z.C x).e=(y.C x).e:=λx=>by rw[X];split<;>simp_all
 have Y:z.R=y.R:=by rw[<-G];rfl
 have Zc:z.nc=y.nc:=by rw[<-G];rfl
 have agS:∀d,(z.C c).on d=[] :=λd=>by rw[X,ai rfl]
 have ox:iH z=(({iH y with iQ:=jU (iH y).iQ c up}:AN).lv c 0 []).lv c 1 [] :=by
  refine AN.ext' (by rw[<-G];rfl) Zc (funext V) (by rw[<-G];rfl) (funext λx=> ?_) (funext λj=> ?_) (funext λx=>funext λf=> ?_) (by rw[<-G];rfl)
  ·show(z.C x).iQ=jU _ c up x;rw[X];by_cases e:x=c
   ·subst e;rw[ai rfl,iE]
   ·rw[af e,iC _ _ e];rfl
  ·show(z.R j).core=(y.R j).core;rw[Y]
  ·show(if x<z.nc/\f<2 then tT z x f else [])=if x=c/\f=1 then []else if x=c/\f=0 then []else if x<y.nc/\f<2 then tT y x f else []
   rw[Zc];by_cases u:x<y.nc/\f<2
   ·rw[ai u,ai u];by_cases e:x=c
    ·subst e;have:tT z x f=[] :=by
      unfold tT;rw[agS,V,Y,jz (ho f u.2)];rfl
     rw[this];split
     ·rfl
     ·split
      ·rfl
      ·omega
    ·rw[af (λh=>e h.1),af (λh=>e h.1)];unfold tT jW;rw[X,af e,Y]
   ·rw[af u,af (λh=>u ⟨by rw[h.1];exact hc,eh⟩),af (λh=>u ⟨by rw[h.1];exact hc,eh⟩),af u]
 obtain⟨i,hi⟩:=gg (((y.C c).e 0).1);obtain⟨p,Q⟩:=gg (((y.C c).e 0).2);obtain⟨j,M⟩:=gg (((y.C c).e 1).1);obtain⟨q,E⟩:=gg (((y.C c).e 1).2);rw[hi,Q]at e0 o0;rw[M,E]at e1 o1;have hpq:i=j->p≠q:=λh1 h2=>ju (aV (by rw[hi,M,h1]) (by rw[Q,E,h2]));have d0:=PI e0.st;have d1:=PI e1.st;have k1:((z.R i).iL p up).1=(((z.R i).core.iL p up).1).pat (jU (λs=>((z.R i).P s).rd) p lH) (λs=>((z.R i).P s).out) (z.R i).j8:=by
  have:=LQ (λs=>((z.R i).P s).rd) (λs=>((z.R i).P s).out) (z.R i).j8 (z.R i).core p up (by rw[Y];exact d0);rw[wM]at this;exact this
 have f1:∀s,∃ps,Frames (((z.R i).core.iL p up).1.P s).out ps:=nu.aaK (s:=(z.R i).core) (λ_=>rfl) (by rw[Y];exact d0);have hrd:∀(w:iP),w.nc=y.nc->(∀x,(w.C x)=z.C x)->∀d0:Nat,d0<2->∀x f,x<w.nc->f<2->((w.C x).e (1-f)).1=((y.C c).e d0).1->jU (λs=>((w.R ((y.C c).e d0).1).P s).rd) ((y.C c).e d0).2 lH ((w.C x).e (1-f)).2=((w.R ((y.C c).e d0).1).P ((w.C x).e (1-f)).2).rd \/(w.C x).on f=[] :=λw hw hwC d0 hd0 x f hx hf V8=>by
  by_cases e:((w.C x).e (1-f)).2=((y.C c).e d0).2
  ·refine .inr ?_;rw[hwC,V]at V8 e;have:=hE.ds x (1-f) c d0 (by rw[<-hw];exact hx) eh hc hd0 (aV V8 e);rw[hwC,this.1];exact agS f
  ·rw[iC _ _ e];exact .inl rfl
 have a1:=Ju (y:=z) (by rw[Y];exact hF) i _ k1 (by have:=hrd z Zc (λ_=>rfl) 0 eA;rw[hi,Q]at this;exact this) f1;obtain⟨Z,nh⟩:=gg (z.jB i ((z.R i).iL p up).1);have J:∀x,Z.C x=z.C x:=λx=>by rw[<-nh];rfl
 have A:∀k,Z.R k=if k=i then((z.R i).iL p up).1 else z.R k:=λk=>by rw[<-nh];rfl
 have Zd:∀k s,¬(k=i/\s=p)->((Z.R k).P s).L=((y.R k).P s).L/\((Z.R k).P s).out=((y.R k).P s).out:=λk s h=>by
  rw[A];by_cases e:k=i
  ·rw[ai e,e,Y];have hs:s≠p:=λh2=>h ⟨e,h2⟩;exact⟨((xx (up:=up) p (by simpa using e0)).2.2 s hs).1,Jv _ _ _ _ hs⟩
  ·rw[af e,Y];exact⟨rfl,rfl⟩
 have L1:=Zd j q (λh=>hpq h.1.symm h.2.symm);have k2:((Z.R j).iL q up).1=(((Z.R j).core.iL q up).1).pat (jU (λs=>((Z.R j).P s).rd) q lH) (λs=>((Z.R j).P s).out) (Z.R j).j8:=by
  have:=LQ (λs=>((Z.R j).P s).rd) (λs=>((Z.R j).P s).out) (Z.R j).j8 (Z.R j).core q up (by show(kY ((Z.R j).P q).L _).2.2=0;rw[L1.1];exact d1);rw[wM]at this;exact this
 have f2:∀s,∃ps,Frames (((Z.R j).core.iL q up).1.P s).out ps:=nu.aaK (s:=(Z.R j).core) (λ_=>rfl) (by show(kY ((Z.R j).P q).L _).2.2=0;rw[L1.1];exact d1);have alH:∀k s,∃ps,Frames ((Z.R k).P s).out ps:=λk s=>by
  by_cases e:k=i/\s=p
  ·rw[A,ai e.1,k1,e.2];obtain⟨ps,uF⟩:=hF i p;have:=(zX uF (f1 p) (jU (λs=>((z.R i).P s).rd) p lH p)).2;rw[<-Y]at this;exact this
  ·rw[(Zd k s e).2];exact hF k s
 have a2:=Ju (y:=Z) alH j _ k2 (by have:=hrd Z (by rw[<-nh];exact Zc) J 1 eA;rw[M,E]at this;exact this) f2;have ui:y.jZ c up=Z.jB j ((Z.R j).iL q up).1:=by
  unfold iP.jZ;rw[G];have t1:z.mT c 0 up=Z:=by unfold iP.mT;rw[V,hi,Q,nh]
  rw[t1];unfold iP.mT;rw[J,V,M,E]
 have H:∀k,(y.jZ c up).R k=if k=j then((Z.R j).iL q up).1 else Z.R k:=λk=>by rw[ui];rfl
 refine⟨?_,λk s hks=> ?_,λhup d hd=> ?_⟩
 ·rw[ui,a2,<-nh,a1];unfold AN.iL;rw[<-ox];have t1:(iH z).nI c 0 up=(iH z).op i ((z.R i).core.iL p up).1:=by
   have ez:(iH z).e c=(y.C c).e:=V c;unfold AN.nI;rw[ez,hi,Q];rfl
  rw[t1,<-a1,nh];have ez:(iH Z).e c=(y.C c).e:=by show(Z.C c).e=_;rw[J,V]
  unfold AN.nI;rw[ez,M,E];rfl
 ·have h0:¬(k=i/\s=p):=λh=>hks 0 eA (aV (hi.trans h.1.symm) (Q.trans h.2.symm));have h1:¬(k=j/\s=q):=λh=>hks 1 eA (aV (M.trans h.1.symm) (E.trans h.2.symm));rw[H];by_cases e:k=j
  ·rw[ai e,Jv _ _ _ _ (λh=>h1 ⟨e,h⟩),<-e];exact(Zd k s h0).2
  ·rw[af e];exact(Zd k s h0).2
 ·subst hup;have u0:uv ((y.R i).P p).L.st=true:=by simpa using e0.st
  have u1:uv ((y.R j).P q).L.st=true:=by simpa using e1.st
  have Gx:d=0 \/d=1:=eh;have hA:((Z.R i).P p).out=[] :=by
   rw[A,ai rfl,Fc (by rw[Y];exact u0),Y];exact o0
  rcases Gx with rfl|rfl
  ·rw[hi,Q,H];by_cases e:i=j
   ·rw[ai e,Jv _ _ _ _ (hpq e),<-e];exact hA
   ·rw[af e];exact hA
  ·rw[M,E,H,ai rfl,Fc (by rw[L1.1];exact u1),L1.2];exact o1
theorem j3.Ze(h:j3 y D 0):∀c d,c<y.nc->d<2->((y.R ((y.C c).e d).1).P ((y.C c).e d).2).out=[] :=λc d hc hd=>by
 obtain⟨Z,Y⟩:=h.en c d hc hd;exact aI (by have:=(h.fit _ Z).2 _ Y;omega)
theorem Dt(Z:GN y)(hc:c<y.nc)(hi:(y.C c).iQ=false)(Y:∀d,d<2->((y.R ((y.C c).e d).1).P ((y.C c).e d).2).out=[])(hd:d<2):(iH y).F c d=[] :=by
 show(if c<y.nc/\d<2 then tT y c d else [])=[]
 rw[ai ⟨hc,hd⟩];unfold tT;rw[Z.off c d hc hd hi,jz (Y d hd)];rfl
def ny(y:iP)(l:List Nat):List (Nat×Nat):=l.flatMap λc=>[(y.C c).e 0,(y.C c).e 1]
theorem uU(up:Bool):∀(l:List Nat) {y:iP},jA y->GN y->Ends y->l.Nodup->(∀c∈l,c<y.nc/\(y.C c).iQ= !up)->(∀c∈l,∀d,d<2->((y.R ((y.C c).e d).1).P ((y.C c).e d).2).out=[])->
 jT (iH y) (if up=true then ny y l else []) [] (iH (y.jL up l))/\(up=false->(∀c d,c<y.nc->d<2->((y.R ((y.C c).e d).1).P ((y.C c).e d).2).out=[])->∀c d,c<y.nc->d<2->(((y.jL up l).R ((y.C c).e d).1).P ((y.C c).e d).2).out=[])
 |[],y,_,_,_,_,_,_=>⟨by cases up<;>exact jT.nil _,λ_ h=>h⟩
 |c::l,y,hF,hG,hE,xy,hm,ho=>by
  obtain⟨hc,hi⟩:=hm c gY;have Z:=ho c gY;obtain⟨a1,G,u⟩:=Sn hF.o hG hE c up hc hi Z;obtain⟨s1,J,_,_,Y⟩:=pD y c up;have Sl:=hF.jZ hG hE c up hc hi;have Q:=hG.jZ hE c up hc hi;have V:=hE.jZ c up;have X:=br.1 xy;have j:∀x∈l,x≠c:=λx hx e=>X.1 (e▸hx);have A:jT (iH y) (if up=true then [(y.C c).e 0,(y.C c).e 1]else []) [] (iH (y.jZ c up)):=by
   rw[a1];cases up
   ·exact jT.one (mQ.draw c hc (show(y.C c).iQ=true by simpa using hi))
   ·exact jT.one (mQ.iL c hc (show(y.C c).iQ=false by simpa using hi) (Dt hG hc (by simpa using hi) Z eA) (Dt hG hc (by simpa using hi) Z eA))
  obtain⟨y1,E⟩:=gg (y.jZ c up);rw[E]at G u J Y Sl Q V A;obtain⟨p1,p2⟩:=uU up l (y:=y1) Sl Q V X.2 (λx hx=>⟨by rw[J];exact(hm x (by simp[hx])).1,by rw[(Y x).2,af (j x hx)];exact(hm x (by simp[hx])).2⟩) (λx hx d hd=>by
   rw[(Y x).1];rw[G _ _ (λd' H h=>(j x hx) (hE.ds x d c d' (hm x (by simp[hx])).1 hd hc H h.symm).1)];exact ho x (by simp[hx]) d hd)
  have hP:ny y1 l=ny y l:=by unfold ny;congr 1;funext x;rw[(Y x).1]
  refine⟨?_,λM nL x d hx hd=> ?_⟩
  ·have:=A.trans p1;rw[hP]at this;show jT _ _ _ (iH ((y.jZ c up).jL up l));rw[E];cases up
   ·simpa using this
   ·simpa[ny]using this
  ·show(((y.jZ c up).jL up l).R _|>.P _).out=[]
   rw[E];have:=p2 M (λx d hx hd=>by
    rw[(Y x).1];have vC:x<y.nc:=by rw[<-J];exact hx
    by_cases e:x=c
    ·subst e;exact u M d hd
    ·rw[G _ _ (λd' H h=>e (hE.ds x d c d' vC hd hc H h.symm).1)];exact nL x d vC hd) x d (by rw[J];exact hx) hd
   rw[(Y x).1]at this;exact this
structure Sr(T:List (Nat×Nat)):Prop where
 nd:T.Nodup
 len:T.length<=18
theorem Sr.nil:Sr [] :=⟨cY,gY⟩
theorem wQ {y:iP} (Y:Ends y):∀l:List Nat,l.Nodup->(∀c∈l,c<y.nc)->(ny y l).Nodup/\(ny y l).length=2*l.length
 |[],_,_=>⟨by simp[ny],rfl⟩
 |c::l,xy,hm=>by
  have V:=br.1 xy;obtain⟨a,b⟩:=wQ Y l V.2 λx hx=>hm x (by simp[hx]);have hc:=hm c gY;have e:ny y (c::l)=(y.C c).e 0::(y.C c).e 1::ny y l:=by simp[ny]
  have Q:∀d,d<2->(y.C c).e d∉ny y l:=λd hd hx=>by
   obtain⟨x,Z,X⟩:=aT.1 hx;have M:=hm x (by simp[Z]);have:(∃f,f<2/\(y.C c).e d=(y.C x).e f):=by
    simp only[ij,ik,or_false]at X;rcases X with h|h
    ·exact⟨0,eA,h⟩
    ·exact⟨1,eA,h⟩
   obtain⟨f,hf,h⟩:=this;exact V.1 ((Y.ds c d x f hc hd M hf h).1▸Z)
  refine⟨?_,by rw[e];simp only[List.length_cons,b];omega⟩;rw[e,br,br];refine⟨λhx=> ?_,Q 1 eA,a⟩;rcases aP.1 hx with h|h
  ·have:=(Y.ds c 0 c 1 hc eA hc eA h).2;omega
  ·exact Q 0 eA h
inductive xN:List (Nat×Nat)->AN->AN->Prop
 |nil (a:AN):xN [] a a
 |snoc {T:List (Nat×Nat)} {a b:AN} (i p:Nat):xN T a b->i<b.n->p<3->xN (T++ [(i,p)]) a (b.op i ((b.R i).iV p))
theorem xN.path {a b:AN} (h:xN T a b):jT a T [] b:=by
 induction h with
 |nil a=>exact jT.nil a
 |snoc i p _ hi Z ih=>have:=ih.snoc (mQ.tick i p hi Z);simpa using this
theorem xN.trans {a b c:AN} (h:xN T a b)(g:xN U b c):xN (T++U) a c:=by
 induction g with
 |nil=>simpa using h
 |snoc i p _ hi Z ih=>rw[<-aE];exact(ih h).snoc i p hi Z
theorem Ci {y:iP} (hF:jA y)(k:Nat)(M:k<y.n):∀j,j<=3->xN ((fW j).map λp=>(k,p)) (iH y) (iH (y.jB k ((y.R k).ja j)))
 |0,_=>by
  have e:y.jB k ((y.R k).ja 0)=y:=by
   show y.jB k (y.R k)=y;unfold iP.jB;rw[wu]
  rw[e];exact xN.nil _
 |j+1,hj=>by
  have X:=Ci hF k M j eh;have V:=hF.jB k (nu.ja (y.R k) j);obtain⟨z,Z⟩:=gg (y.jB k ((y.R k).ja j));rw[Z]at X V;have Y:z.R k=(y.R k).ja j:=by rw[<-Z];exact iE _ _ _
  have e:y.jB k ((y.R k).ja (j+1))=z.jB k ((z.R k).iV j):=by
   rw[Y,<-Z];show({y with R:=_}:iP)={y with R:=jU (jU y.R k _) k _}
   congr 1
   funext x
   by_cases ex:x=k
   ·subst ex;rw[iE,iE];rfl
   ·rw[iC _ _ ex,iC _ _ ex,iC _ _ ex]
  have Q:(z.R k).iV j=((z.R k).core.iV j).pat (λp=>((z.R k).P p).rd) (λp=>((z.R k).P p).out) (z.R k).j8:=by
   rw[<-Sj,wM]
  rw[e,Wa V.o k Q ((nu.iV (z.R k).core j).frN λ_=>rfl),bZ,cU];have RU:z.n=y.n:=by rw[<-Z];rfl
  exact X.snoc k j (by show k<z.n;omega) eh
def Ss(k:Nat):List (Nat×Nat):=[(k,0),(k,1),(k,2)]
theorem Fe(hF:jA y)(Y:j3 y D 0)(hD:D<=900000000)(k:Nat)(Z:k<y.n):xN (Ss k) (iH y) (iH (y.jB k (y.R k).tick))/\Ends (y.jB k (y.R k).tick)/\jA (y.jB k (y.R k).tick):=by
 have h:=Ci hF k Z 3 (Nat.le_refl _);have e:(y.R k).tick=(y.R k).ja 3:=by unfold iM.tick;rw[(Y.rn k Z).1]
 rw[<-e]at h;exact⟨h,(Y.jb eh Z).oI,hF.jB k (nu.ja _ _)⟩
theorem Ic(hF:jA y)(X:j3 y D 0)(V:D<=900000000)(k:Nat)(Z:k<y.n):jT (iH y) (Ss k) [] (iH (y.tick ((k:Int)+1)).1):=by
 obtain⟨h,Y,f1⟩:=Fe hF X V k Z;unfold iP.tick;rw[af eh];rw[show((k:Int)+1-1).toNat=k by omega];exact h.path.lost (pF f1 Y).1
theorem uV(hF:jA y)(X:j3 y D 0)(hD:D<=900000000)(i d m:Int):jT (iH y) [] [] (iH (y.deliver i d m).1):=by
 unfold iP.deliver;split
 ·exact jT.nil _
 ·rename_i h
  have hc:i.toNat<y.nc:=eh;have hd:d.toNat<2:=eh;obtain⟨k,J⟩:=gg (min m.toNat ((y.C i.toNat).on d.toNat).length);rw[J];have Y:=X.oI;obtain⟨l,rest,V,_,Q⟩:=Fb hF Y i.toNat d.toNat k hc hd;have Z:(iH y).F i.toNat d.toNat=l++rest:=by
   show(if i.toNat<y.nc/\d.toNat<2 then tT y i.toNat d.toNat else [])=_;rw[ai ⟨hc,hd⟩,V]
  have M:=(ade l rest (iH y) i.toNat d.toNat (wP y) hc hd Z).path;have:jT (iH y) [] [] (iH (y.jo i.toNat d.toNat k)):=by rw[Q];exact M
  exact this.lost (pF (hF.jo Y _ _ _ hc hd) (X.jo eh hc hd).oI).1
theorem Sv(hF:jA y)(V:GN y)(Q:j3 y D 0)(i:Int)(up:Bool):∃T,Sr T/\jT (iH y) T [] (iH (y.iL i up).1):=by
 unfold iP.iL;split
 ·exact⟨[],Sr.nil,jT.nil _⟩
 ·split
  ·exact⟨[],Sr.nil,jT.nil _⟩
  ·rename_i h kP
   have hc:i.toNat<y.nc:=eh;have hi:(y.C i.toNat).iQ= !up:=by cases hv:(y.C i.toNat).iQ<;>cases up<;>simp_all
   have Y:=Q.oI;have M:=(uU up [i.toNat] hF V Y gY (λc Z=>by simp only[iq]at Z;subst Z;exact⟨hc,hi⟩) (λc Z d hd=>by simp only[iq]at Z;subst Z;exact Q.Ze _ d hc hd)).1;have X:=wQ Y [i.toNat] gY (λc Z=>by simp only[iq]at Z;subst Z;exact hc);refine⟨_,?_,M.lost (pF (hF.jZ V Y _ _ hc hi) (Y.jZ _ _)).1⟩;split
   ·exact⟨X.1,by rw[X.2];simp⟩
   ·exact Sr.nil
theorem Jw(hF:jA y)(hG:GN y)(iN:j3 y D 0)(i:Int):∃T,Sr T/\jT (iH y) T [] (iH (y.restart i).1):=by
 unfold iP.restart;split
 ·exact⟨[],Sr.nil,jT.nil _⟩
 ·rename_i hi
  obtain⟨k,hk⟩:=gg ((i-1).toNat);have hik:i=(k:Int)+1:=eh;have AK:k<y.n:=eh;simp only;rw[hk];obtain⟨l,hl⟩:=gg (y.lA k);rw[hl];have E:∀c,c∈l↔c<y.nc/\(y.C c).iQ=true/\(((y.C c).e 0).1=k \/((y.C c).e 1).1=k):=λc=>by
   rw[<-hl];unfold iP.lA;simp[List.mem_filter]
  have hll:l.length<=9:=by rw[<-hl];exact Nat.le_trans (yP y k) iN.c9
  have H:l.Nodup:=by
   rw[<-hl];exact dv dk bX
  have vN:∀c∈l,c<y.nc/\(y.C c).iQ= !false:=λc hc=>⟨((E c).1 hc).1,((E c).1 hc).2.1⟩
  have hE:=iN.oI;obtain⟨a,b,d⟩:=GN.jL false l hG hE H vN;have f1:=jA.jL false l hF hG hE H vN;obtain⟨p1,o1⟩:=uU false l hF hG hE H vN (λc hc d hd=>iN.Ze c d (vN c hc).1 hd);have o1:=o1 rfl iN.Ze;obtain⟨s1,s2,s3,s4,s5⟩:=nj false l y;have hpo:∀z:iP,(∀x,(z.C x).e=(y.C x).e)->ny z l=ny y l:=λz hz=>by unfold ny;congr 1;funext x;rw[hz]
  obtain⟨Z,Ca⟩:=gg (y.jL false l);rw[Ca]at a b d s1 s2 s3 s4 s5 f1 p1 o1⊢;have Og:∀c e,c<Z.nc->e<2->((Z.C c).e e).1=k->(Z.C c).iQ=false:=λc e hc J heq=>by
   have jX:c<y.nc:=by rw[s2]at hc;exact hc
   rw[d c];by_cases hm:c∈l
   ·rw[ai hm]
   ·rw[af hm];by_cases kP:(y.C c).iQ=true
    ·exfalso;rw[s5 c]at heq;refine hm ((E c).2 ⟨jX,kP,?_⟩);have:e=0 \/e=1:=eh;rcases this with rfl|rfl
     ·exact .inl heq
     ·exact .inr heq
    ·simpa using kP
  have X:∀c d,c<Z.nc->d<2->((Z.R ((Z.C c).e d).1).P ((Z.C c).e d).2).out=[] :=λc d hc hd=>by
   rw[s5 c];exact o1 c d (by rw[<-s2];exact hc) hd
  have f2:=f1.anew a k i (y.ms k) Og;have a2:GN (Z.jB k (jN i 3 (y.ms k))):=by
   refine a.jB k _ (λc e hc J heq _=> ?_);rw[Og c e hc J heq];have hI:=qL i (y.ms k) ((Z.C c).e e).2;exact⟨by simpa using hI.st,λe=>absurd (by rw[hI.pe];rfl) e⟩
  have b2:Ends (Z.jB k (jN i 3 (y.ms k))):=⟨b.ds,b.p3,λj=>by
   show(jU Z.R k _ j).n=3 \/Z.n<=j;by_cases e:j=k
   ·rw[e,iE];exact .inl rfl
   ·rw[iC _ _ e];exact b.rn j,b.en⟩
  have De:jT (iH Z) [] [] (iH (Z.jB k (jN i 3 (y.ms k)))):=by
   have ki:=mQ.anew (a:=iH Z) k (Z.j8 k).length (by show k<Z.n;omega) (λc e hc J heq=>by
    have u:=Og c e hc J heq;exact⟨u,Dt a hc u (λd hd=>X c d hc hd) eA,Dt a hc u (λd hd=>X c d hc hd) eA⟩)
   have heq:iH (Z.jB k (jN i 3 (y.ms k)))={iH Z with R:=jU (iH Z).R k (jN ((k:Int)+1) 3 ((iH Z).ms k)),ib:=jU (iH Z).ib k (((iH Z).ib k).take (Z.j8 k).length)}:=by
    refine AN.ext' rfl rfl rfl rfl rfl (funext λj=> ?_) (funext λc=>funext λe=> ?_) (funext λj=> ?_)
    ·show(jU Z.R k _ j).core=jU _ k (jN ((k:Int)+1) 3 (Z.ms k)) j;by_cases Y:j=k
     ·rw[Y,iE,iE,hik,s3];rfl
     ·rw[iC _ _ Y,iC _ _ Y];rfl
    ·show(if c<Z.nc/\e<2 then tT (Z.jB k (jN i 3 (y.ms k))) c e else [])=if c<Z.nc/\e<2 then tT Z c e else []
     split
     ·rename_i C6
      obtain⟨hc,J⟩:=C6;have hP:∀p,(((Z.jB k (jN i 3 (y.ms k))).R k).P p).out=[] :=λp=>by
       show((jU Z.R k _ k).P p).out=[]
       rw[iE];rfl
      have hO:jk (((Z.jB k (jN i 3 (y.ms k))).R ((Z.C c).e e).1).P ((Z.C c).e e).2)=jk ((Z.R ((Z.C c).e e).1).P ((Z.C c).e e).2):=by
       by_cases G:((Z.C c).e e).1=k
       ·rw[jz (X c e hc J),G,jz (hP _)]
       ·show jk ((jU Z.R k _ _).P _)=_;rw[iC _ _ G]
      show(kx (jW (Z.jB k (jN i 3 (y.ms k))) c e) ((Z.C c).on e)).1++jk (((Z.jB k (jN i 3 (y.ms k))).R ((Z.C c).e e).1).P ((Z.C c).e e).2)=_;rw[hO];congr 1;by_cases G:((Z.C c).e (1-e)).1=k
      ·have u:=Og c (1-e) hc eh G;rw[a.off c e hc J u];rfl
      ·have hR:jW (Z.jB k (jN i 3 (y.ms k))) c e=jW Z c e:=by
        show((jU Z.R k _ ((Z.C c).e (1-e)).1).P ((Z.C c).e (1-e)).2).rd=_;rw[iC _ _ G];rfl
       rw[hR]
     ·rfl
    ·show Z.j8 j++(jU Z.R k (jN i 3 (y.ms k)) j).j8=jU _ k ((Z.j8 k++(Z.R k).j8).take (Z.j8 k).length) j;by_cases Y:j=k
     ·rw[Y,iE,iE,List.take_left];show Z.j8 k++ [] =_;rw[aC]
     ·rw[iC _ _ Y,iC _ _ Y];rfl
   rw[heq];exact jT.one ki
  obtain⟨M,V⟩:=gg (Z.jB k (jN i 3 (y.ms k)));have Q:M.C=Z.C:=by rw[<-V];rfl
  have A:M.nc=Z.nc:=by rw[<-V];rfl
  rw[V]at f2 a2 b2 De⊢;have IE:∀c∈l,c<M.nc/\(M.C c).iQ= !true:=λc hc=>⟨by rw[A,s2];exact((E c).1 hc).1,by rw[Q,d c,ai hc];rfl⟩
  have jj:∀j p,((M.R j).P p).out=[] \/((M.R j).P p).out=((Z.R j).P p).out:=λj p=>by
   rw[<-V];show((jU Z.R k _ j).P p).out=[] \/((jU Z.R k _ j).P p).out=_;by_cases Y:j=k
   ·rw[Y,iE];exact .inl rfl
   ·rw[iC _ _ Y];exact .inr rfl
  have p2:=(uU true l f2 a2 b2 H IE (λc hc d hd=>by
   rw[Q];rcases jj ((Z.C c).e d).1 ((Z.C c).e d).2 with h|h
   ·exact h
   ·rw[h];exact X c d (by rw[<-A];exact(IE c hc).1) hd)).1
  have g2:=GN.jL true l a2 b2 H IE;have f3:=jA.jL true l f2 a2 b2 H IE;have nL:=((p1.trans De).trans p2).lost (pF f3 g2.2.1).1;rw[hpo M (λx=>by rw[Q,s5 x])]at nL;have hn:=wQ hE l H (λc hc=>((E c).1 hc).1);exact⟨ny y l,⟨hn.1,by rw[hn.2];omega⟩,by simpa using nL⟩
def zY(n:Nat)(f t:Int)(tx:List UInt8):List (Int×List UInt8):=if(1<=f/\f<=(n:Int))/\(1<=t/\t<=6)/\tx.length<=20 then [(t,tx)]else []
theorem Sw(hF:jA y)(H:j3 y D 0)(hD:D<=900000000)(f t:Int)(tx:List UInt8):jT (iH y) [] (zY y.n f t tx) (iH (y.send f t tx).1):=by
 unfold iP.send;split
 ·unfold zY;rw[af eh];exact jT.nil _
 ·rename_i h
  obtain⟨k,J⟩:=gg ((f-1).toNat);have Y:k<y.n:=eh;rw[J];by_cases hv:t<1 \/6<t \/20<tx.length
  ·have e:kd (y.R k) t tx=(y.R k,1):=by unfold kd;rw[ai hv]
   rw[e,ai gY];unfold zY;rw[af eh];exact jT.nil _
  ·have e:kd (y.R k) t tx=((y.R k).send (t,8,tx),0):=by unfold kd;rw[af hv]
   have Z:=(H.VF eh Y t tx).oI;rw[e]at Z;rw[e,af gY];unfold zY;rw[ai eh];have Q:=nu.send (y.R k).core (t,8,tx);have M:(y.R k).send (t,8,tx)=((y.R k).core.send (t,8,tx)).pat (λp=>((y.R k).P p).rd) (λp=>((y.R k).P p).out) (y.R k).j8:=by rw[<-LP,wM]
   have X:=Wa hF.o k M (Q.frN λ_=>rfl);have V:jT (iH y) [] [(t,tx)] (iH (y.jB k ((y.R k).send (t,8,tx)))):=by
    rw[X];exact jT.one (mQ.send k t tx Y eh eh eh)
   exact V.lost (pF (hF.jB k (nu.send (y.R k) (t,8,tx))) Z).1
def mN(k:Nat):List (Nat×Nat):=(fW k).flatMap Ss
theorem Bs(k:Nat):mN (k+1)=mN k++Ss k:=by simp[mN,iu]
theorem pz:∀k,(mN k).Nodup/\(mN k).length=3*k/\∀x∈mN k,x.1<k
 |0=>⟨cY,rfl,λ_ h=>by simp[mN]at h⟩
 |k+1=>by
  obtain⟨a,b,c⟩:=pz k;rw[Bs];refine⟨bF.2 ⟨a,by simp[Ss],λx hx z Z e=> ?_⟩,by simp[b,Ss];omega,λx hx=> ?_⟩
  ·have Y:=c x hx;subst e;simp only[Ss,ij,ik,or_false]at Z;rcases Z with rfl|rfl|rfl<;>simp at Y
  ·rcases aw.1 hx with h|h
   ·have:=c x h;omega
   ·simp only[Ss,ij,ik,or_false]at h;rcases h with rfl|rfl|rfl<;>simp
theorem yT {y:iP} {D:Nat} (hF:jA y)(Z:j3 y D 0)(Y:D<=800000000):∀q,q<=y.n->jT (iH y) (mN q) [] (iH (y.ja q))
 |0,_=>jT.nil _
 |q+1,hq=>by
  have n6:=Z.n6;have X:=yT hF Z Y q eh;have V:=Ic (jA.ja hF q) (Z.ja Y q eh) eh q (by rw[(oH y q).1];omega);rw[Bs];exact X.trans V
theorem Cj {y:iP} {D:Nat} (hF:jA y)(Y:j3 y D 0)(Z:D<=890000000):∀q,q<=9->jT (iH y) [] [] (iH (y.jO q))
 |0,_=>jT.nil _
 |q+1,hq=>by
  have V:=Cj hF Y Z q eh;have f1:=jA.jO hF Y Z q eh;have k1:=Y.jO Z q eh;have Q:=uV f1 k1 eh (q:Int) 0 2000;have X:=uV (f1.deliver k1 (q:Int) 0 2000) (k1.deliver eh (q:Int) 0 2000) eh (q:Int) 1 2000;exact(V.trans Q).trans X
theorem Ff {y:iP} {D:Nat} (hF:jA y)(Z:j3 y D 0)(Y:D<=810000000):∀t,t<=12->jT (iH y) [] [] (iH (y.turns t))
 |0,_=>jT.nil _
 |t+1,ht=>(Ff hF Z Y t eh).trans (Cj (jA.turns hF Z Y t eh) (Z.turns Y t eh) eh y.nc Z.c9)
theorem yU(hF:jA y)(Z:j3 y D 0)(Y:D<=800000000):jT (iH y) (mN y.n) [] (iH y.round):=by
 have n6:=Z.n6;have h:=(yT hF Z Y y.n (Nat.le_refl _)).trans (Ff (hF.ja y.n) (Z.ja Y y.n n6) eh 12 (Nat.le_refl _));rw[aC]at h;exact h
def Jx(v:AV):Bool:=v.kind.toList==[115,101,110,100]
def sOf(n:Nat)(v:AV):List (Int×List UInt8):=if Jx v=true then zY n v.a v.b v.s.data.toList else []
theorem Jy {v:AV} (n:Nat) {l:List UInt8} (h:(v.kind.toList==l)=true)(hl:(l==[115,101,110,100])=false):sOf n v=[] :=by
 unfold sOf Jx;rw[dU]at h;rw[h,hl];rfl
theorem LY(hF:jA y)(Y:GN y)(Z:j3 y D 0)(X:D<=800000000)(v:AV):∃T,Sr T/\jT (iH y) T (sOf y.n v) (iH (tg y v)):=by
 unfold tg;split
 ·rename_i h
  rw[Jy y.n h eA];exact Sv hF Y Z _ _
 ·split
  ·rename_i h
   rw[Jy y.n h eA];by_cases hi:v.a<1 \/(y.n:Int)<v.a
   ·refine⟨[],Sr.nil,?_⟩;unfold iP.tick;rw[ai hi];exact jT.nil _
   ·have:=Ic hF Z eh (v.a-1).toNat eh;rw[show(((v.a-1).toNat:Nat):Int)+1=v.a by omega]at this;exact⟨_,⟨by simp[Ss],by simp[Ss]⟩,this⟩
  ·split
   ·rename_i h
    rw[Jy y.n h eA];exact⟨[],Sr.nil,uV hF Z eh _ _ _⟩
   ·split
    ·rename_i h
     rw[Jy y.n h eA];exact Jw hF Y Z _
    ·split
     ·rename_i h
      unfold sOf;rw[ai (show Jx v=true from h)];exact⟨[],Sr.nil,Sw hF Z eh _ _ _⟩
     ·rename_i h
      unfold sOf;rw[af (show¬Jx v=true from h)];split
      ·obtain⟨a,b,_⟩:=pz y.n;have:=Z.n6;exact⟨_,⟨a,by rw[b];omega⟩,yU hF Z X⟩
      ·exact⟨[],Sr.nil,jT.nil _⟩
def Sx(m:Nat):List (Nat×Nat):=(fW m).flatMap λc=>[(c,0),(c,1)]
theorem ql {m:Nat} {x:Nat×Nat}:x∈Sx m↔x.1<m/\x.2<2:=by
 obtain⟨c,d⟩:=x;unfold Sx;simp only[List.mem_flatMap,List.mem_range,ij,Prod.mk.injEq,ik,or_false];constructor
 ·rintro⟨b,Z,Y|Y⟩<;>omega
 ·rintro⟨Z,Y⟩;exact⟨c,Z,eh⟩
theorem xA:∀m,(Sx m).Nodup
 |0=>cY
 |m+1=>by
  have e:Sx (m+1)=Sx m++ [(m,0),(m,1)] :=by simp[Sx,iu]
  rw[e];refine bF.2 ⟨xA m,gY,λx hx z Z h=> ?_⟩;have Y:=(ql.1 hx).1;subst h;simp only[ij,ik,or_false]at Z;rcases Z with rfl|rfl<;>simp at Y
def sm {α:Type} (f:α->Nat)(l:List α):Nat:=(l.map f).sum
theorem vu {α:Type} {f g:α->Nat}:∀ {l:List α},(∀x∈l,f x<=g x)->sm f l<=sm g l
 |[],_=>Nat.le_refl _
 |x::l,h=>by
  have:=vu (l:=l) λy hy=>h y (by simp[hy]);have h1:=h x gY;simp only[sm,eN,iw]at*;omega
theorem Fg {α:Type} (f g:α->Nat):∀l:List α,sm (λx=>f x+g x) l=sm f l+sm g l
 |[] =>rfl
 |x::l=>by
  have:=Fg f g l;simp only[sm,eN,iw]at*;omega
theorem pP(f:α->Nat)(l m:List α):sm f (l++m)=sm f l+sm f m:=by simp[sm]
theorem Jz {α:Type} [DecidableEq α] (y:α)(k:Nat):∀ {l:List α},l.Nodup->sm (λx=>if x=y then k else 0) l=if y∈l then k else 0
 |[],_=>rfl
 |x::l,h=>by
  have Z:=br.1 h;have:=Jz y k Z.2;have e:sm (λx=>if x=y then k else 0) (x::l)=(if x=y then k else 0)+sm (λx=>if x=y then k else 0) l:=rfl;rw[e,this];by_cases hx:x=y
  ·subst hx;rw[ai rfl,af Z.1,ai gY];rfl
  ·rw[af hx];by_cases hy:y∈l
   ·rw[ai hy,ai (by simp[hy])];omega
   ·rw[af hy,af (by simp[hy,Ne.symm hx])]
theorem zZ [DecidableEq α] {f g:α->Nat} {y:α} {l:List α} (Y:l.Nodup)(hy:y∈l)(h:∀x∈l,f x+(if x=y then k else 0)<=g x):sm f l+k<=sm g l:=by
 have Z:=vu h;rw[Fg,Jz y k Y,ai hy]at Z;exact Z
structure tH(a:AN):Prop where
 n6:a.n<=6
 c9:a.nc<=9
 ds:∀c d c' d',c<a.nc->d<2->c'<a.nc->d'<2->a.e c d=a.e c' d'->c=c'/\d=d'
 en:∀c d,c<a.nc->d<2->(a.e c d).1<a.n/\(a.e c d).2<3
theorem tH.same {a b:AN} (h:tH a)(X:b.n=a.n)(Z:b.nc=a.nc)(Y:b.e=a.e):tH b:=
 ⟨by rw[X];exact h.n6,by rw[Z];exact h.c9,by rw[Z,Y];exact h.ds,by rw[X,Z,Y];exact h.en⟩
theorem j3.qP(h:j3 y D k):tH (iH y):=⟨h.n6,h.c9,h.ds,h.en⟩
theorem Ie(e:Nat×Nat->Nat×Nat)(i:Nat)(h:Nat->Nat):∀l:List (Nat×Nat),l.Nodup->(∀x∈l,(e x).2<3)->(∀x∈l,∀y∈l,e x=e y->x=y)->sm (λx=>if(e x).1=i then h (e x).2 else 0) l<=sm (λp=>if(i,p)∈l.map e then h p else 0) [0,1,2]
 |[],_,_,_=>Nat.zero_le _
 |x::l,hn,hp,hi=>by
  have X:=br.1 hn;have ih:=Ie e i h l X.2 (λy hy=>hp y (by simp[hy])) (λy hy z M=>hi y (by simp[hy]) z (by simp[M]));have J:sm (λx=>if(e x).1=i then h (e x).2 else 0) (x::l)=(if(e x).1=i then h (e x).2 else 0)+sm (λx=>if(e x).1=i then h (e x).2 else 0) l:=rfl;rw[J];by_cases hx:(e x).1=i
  ·rw[ai hx];have Q:(i,(e x).2)∉l.map e:=λZ=>by
    obtain⟨y,hy,Y⟩:=bJ.1 Z;have:=hi x gY y (by simp[hy]) (by rw[Y,<-hx]);exact X.1 (this▸hy)
   have h3:sm (λp=>if(i,p)∈l.map e then h p else 0) [0,1,2] +h (e x).2<=sm (λp=>if(i,p)∈(x::l).map e then h p else 0) [0,1,2] :=by
    refine zZ (y:=(e x).2) eA ?_ λp _=> ?_
    ·have:=hp x gY;simp only[ij,ik,or_false];omega
    ·by_cases V:p=(e x).2
     ·subst V;rw[af Q,ai rfl,ai (by simp[<-hx])];omega
     ·rw[af V];by_cases Z:(i,p)∈l.map e
      ·rw[ai Z,ai (by simp only[eN,ij];exact .inr Z)];omega
      ·rw[af Z];omega
   omega
  ·rw[af hx,Nat.zero_add];refine Nat.le_trans ih (vu λp _=> ?_);by_cases Z:(i,p)∈l.map e
   ·rw[ai Z,ai (by simp only[eN,ij];exact .inr Z)];exact Nat.le_refl _
   ·rw[af Z];exact Nat.zero_le _
def AN.W(a:AN)(w:k9->Nat):Nat:=sm (λx:Nat×Nat=>sm w (a.F x.1 x.2)) (Sx a.nc)
theorem adl {a b:AN} (h:wO a b)(w:k9->Nat):b.W w<=a.W w:=by
 have e:b.nc=a.nc:=by rw[h.1]
 unfold AN.W;rw[e];refine vu λx _=> ?_;obtain⟨m,Z⟩:=h.2 x.1 x.2;show sm w (b.F x.1 x.2)<=sm w (a.F x.1 x.2);rw[Z];have:=pP w ((a.F x.1 x.2).take m) ((a.F x.1 x.2).drop m);rw[cK]at this;omega
theorem adn {a:AN} (Y:tH a)(i:Nat)(s:iM)(w:k9->Nat):(a.op i s).W w<=a.W w+(sm w (jk (s.P 0))+sm w (jk (s.P 1))+sm w (jk (s.P 2))):=by
 have X:∀x∈Sx a.nc,sm w ((a.op i s).F x.1 x.2)=sm w (a.F x.1 x.2)+(if(a.e x.1 x.2).1=i then sm w (jk (s.P (a.e x.1 x.2).2))else 0):=λx hx=>by
  have V:=ql.1 hx;rw[vD];by_cases e:(a.e x.1 x.2).1=i
  ·rw[ai ⟨V,e⟩,ai e,pP]
  ·rw[af (λh=>e h.2),af e];rfl
 unfold AN.W;refine Nat.le_trans (vu (g:=λx:Nat×Nat=>sm w (a.F x.1 x.2)+(if(a.e x.1 x.2).1=i then sm w (jk (s.P (a.e x.1 x.2).2))else 0)) λx hx=>Nat.le_of_eq (X x hx)) ?_;rw[Fg];refine Nat.add_le_add_left ?_ _;refine Nat.le_trans (Ie (λx=>a.e x.1 x.2) i (λp=>sm w (jk (s.P p))) (Sx a.nc) (xA _) (λx hx=>(Y.en _ _ (ql.1 hx).1 (ql.1 hx).2).2) (λx hx z Z h=> ?_)) ?_
 ·have:=Y.ds _ _ _ _ (ql.1 hx).1 (ql.1 hx).2 (ql.1 Z).1 (ql.1 Z).2 h;exact aV this.1 this.2
 ·refine Nat.le_trans (vu (g:=λp=>sm w (jk (s.P p))) λp _=> ?_) ?_
  ·show(if _ then _ else 0)<=_;split
   ·exact Nat.le_refl _
   ·exact Nat.zero_le _
  ·show sm w (jk (s.P 0))+(sm w (jk (s.P 1))+(sm w (jk (s.P 2))+0))<=_;omega
theorem aaM {a:AN} (w:k9->Nat) {x:k9} {l:List k9} (hc:c<a.nc)(hd:d<2)(h:a.F c d=x::l):(a.lv c d l).W w+w x<=a.W w:=by
 unfold AN.W;refine zZ (y:=(c,d)) (xA _) (ql.2 ⟨hc,hd⟩) λy _=> ?_;show sm w (if y.1=c/\y.2=d then l else a.F y.1 y.2)+(if y=(c,d)then w x else 0)<=sm w (a.F y.1 y.2);by_cases e:y.1=c/\y.2=d
 ·rw[ai e,ai (aV e.1 e.2),e.1,e.2,h];show sm w l+w x<=w x+sm w l;omega
 ·rw[af e,af (λh=>e (by rw[h];exact⟨rfl,rfl⟩))];exact Nat.le_refl _
theorem Du(a:AN)(w:k9->Nat)(c d:Nat):(a.lv c d []).W w<=a.W w:=by
 unfold AN.W;refine vu λy _=> ?_;show sm w (if y.1=c/\y.2=d then []else a.F y.1 y.2)<=sm w (a.F y.1 y.2);split
 ·exact Nat.zero_le _
 ·exact Nat.le_refl _
theorem Ig {a:AN} (h:Norm a)(c:Nat)(up:Bool):Norm (a.iL c up):=by
 unfold AN.iL AN.nI;exact qV (qV (a:=(({a with iQ:=jU a.iQ c up}:AN).lv c 0 []).lv c 1 []) h _ _) _ _
theorem mQ.norm {a b:AN} (h:mQ a T S b)(Z:Norm a):Norm b:=by
 cases h with
 |lost h=>rw[h.1];exact Z
 |tick i p _ _=>exact qV Z _ _
 |pop c d x l _ _ _=>exact qV (a:=a.lv c d l) Z _ _
 |send i t tx _ _ _ _=>exact qV Z _ _
 |iL c _ _ _ _=>exact Ig Z c true
 |draw c _ _=>exact Ig Z c false
 |anew i m _ _=>
  intro j;show(jU a.R i _ j).core=jU a.R i _ j;by_cases e:j=i
  ·subst e;rw[iE];rfl
  ·rw[iC _ _ e];exact Z j
theorem jT.qP {a b:AN} (h:jT a T S b)(Z:tH a):tH b:=Z.same h.same.1 h.same.2.1 h.same.2.2.1
theorem jT.norm {a b:AN} {T:List (Nat×Nat)} {S:List (Int×List UInt8)} (h:jT a T S b)(Z:Norm a):Norm b:=by
 induction h with
 |nil=>exact Z
 |snoc _ s ih=>exact s.norm ih
