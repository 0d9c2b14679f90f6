import Derived.Test.YtieklnlbljejdaaGreatDoorQ16
open Option renaming none → ν
open List renaming append_nil → gK, range → fR, mem_cons → gW, not_mem_nil → gX, mem_singleton → gY
namespace Go.Proofs.YtieklnlbljejdaaGreatDoor
open Go.RowKit St
namespace Rt
variable {D c d:Nat} {S:List (Int×List UInt8)} {T U:List (Nat×Nat)} {up:Bool} {y:iI}
def jl.pt(p:jl)(rd:kc)(o:List UInt8):jl:={p with rd:=rd,out:=o++p.out}
def iE.pat(s:iE)(rd:Nat->kc)(os:Nat->List UInt8)(ib:List yn):iE:={s with P:=λp=>(s.P p).pt (rd p) (os p),jZ:=ib++s.jZ}
def iE.core(r:iE):iE:={r with P:=λp=>{r.P p with rd:=k9,out:=[] },jZ:=[] }
theorem Ko(s:iE)(rd:Nat->kc)(os:Nat->List UInt8)(ib:List yn):(s.pat rd os ib).core=s.core:=rfl
theorem vW(r:iE):r.core.pat (λp=>(r.P p).rd) (λp=>(r.P p).out) r.jZ=r:=by
 unfold iE.pat iE.core jl.pt;simp only[gK]
theorem Eb(p:jl)(rd:kc)(o:List UInt8)(c:UInt8)(s:List UInt8):(p.pt rd o).put c s=(p.put c s).pt rd o:=by
 unfold jl.put;have e:(p.pt rd o).L=p.L:=rfl;rw[e];split
 ·rfl
 ·split
  ·simp[jl.pt]
  ·rfl
theorem Hy(rd:kc)(o:List UInt8):∀(l:List kG) (p:jl),(p.pt rd o).say l=(p.say l).pt rd o
 |[],_=>rfl
 |q::r,p=>by
  show((if jJ q.1 q.2.1 q.2.2=0 then(p.pt rd o).put 76 (lR q.1 q.2.1 q.2.2)else p.pt rd o)).say r=((if jJ q.1 q.2.1 q.2.2=0 then p.put 76 (lR q.1 q.2.1 q.2.2)else p).say r).pt rd o;split
  ·rw[Eb,Hy rd o r]
  ·exact Hy rd o r p
theorem N3(rd:kc)(o:List UInt8)(L:LS)(l:List kG)(p:jl):({p.pt rd o with L:=L}:jl).say l=(({p with L:=L}:jl).say l).pt rd o:=Hy rd o l {p with L:=L}
theorem Gn(rd:kc)(o:List UInt8):∀(l:List (Int×PS)) (p:jl),(p.pt rd o).kh l=(p.kh l).pt rd o
 |[],_=>rfl
 |q::r,p=>by
  show((p.pt rd o).put 83 _).kh r=_;rw[Eb,Gn rd o r];rfl
theorem Xf(rd:kc)(o:List UInt8)(p:jl):(p.pt rd o).tick=p.tick.pt rd o:=N3 rd o _ _ p
theorem Qr(rd:kc)(o:List UInt8)(p:jl)(s:List UInt8):(p.pt rd o).packet s=(p.packet s).pt rd o:=by
 unfold jl.packet;simp only;split
 ·exact N3 rd o _ _ p
 ·rfl
section
variable (rd:Nat->kc) (os:Nat->List UInt8) (ib:List yn)
theorem tP(s:iE)(i:Nat)(q:jl):(s.pat rd os ib).iK i (q.pt (rd i) (os i))=(s.iK i q).pat rd os ib:=by
 unfold iE.iK iE.pat;congr 1
 funext p
 show kR _ i _ p=(kR s.P i q p).pt (rd p) (os p);by_cases e:p=i
 ·subst e;rw[jk,jk]
 ·rw[jh _ _ e,jh _ _ e]
theorem Au(s:iE)(n:Int):∀k,jX (s.pat rd os ib).P n k=jX s.P n k
 |0=>rfl
 |k+1=>by
  have ih:=Au s n k;unfold jX;rw[ih];rfl
theorem Ec(s:iE):jC (s.pat rd os ib)=jC s:=by
 unfold jC;congr 1
 funext j
 rw[Au];rfl
theorem Ee(s:iE)(q:Int):(s.pat rd os ib).behind q=(s.behind q).pat rd os ib:=by
 unfold iE.behind;rw[Ec];split<;>rfl
theorem MO(s:iE):(s.pat rd os ib).change=s.change.pat rd os ib:=by
 unfold iE.change;rw[Ec,Ee];show(if Dp s.K s.id=jC s then s.pat rd os ib else(s.behind (zX s.K s.id)).pat rd os ib)=_;split<;>rfl
theorem vX(s:iE)(i:Nat)(q:kN):(s.pat rd os ib).meet i q=(s.meet i q).pat rd os ib:=by
 have Z:(s.pat rd os ib).iK i {(s.pat rd os ib).P i with pe:=q}=(s.iK i {s.P i with pe:=q}).pat rd os ib:=tP rd os ib s i {s.P i with pe:=q};unfold iE.meet;simp only;rw[Z];have X:=MO rd os ib ({s.iK i {s.P i with pe:=q}with O:=λx=>if x=i then λ_=>ν else s.O x}:iE);show(if q.who=(s.P i).pe.who/\q.both=(s.P i).pe.both then _ else _)=_;split
 ·rfl
 ·have Y:({(s.iK i {s.P i with pe:=q}).pat rd os ib with O:=λx=>if x=i then λ_=>ν else((s.iK i {s.P i with pe:=q}).pat rd os ib).O x}:iE).change=(({s.iK i {s.P i with pe:=q}with O:=λx=>if x=i then λ_=>ν else s.O x}:iE).change).pat rd os ib:=X;rw[Y];split<;>rfl
theorem Kp(s:iE)(t:yn):(s.pat rd os ib).send t=(s.send t).pat rd os ib:=by
 unfold iE.send;have Z:(λh:HP=>jX (s.pat rd os ib).P h.uF (s.pat rd os ib).n)=λh:HP=>jX s.P h.uF s.n:=by
  funext h;exact Au rd os ib s h.uF s.n
 rw[Z];show(if t.1=s.id then _ else match (if 1<=t.2.1 then(zN (pj s) t.1).bind λh=>jX s.P h.uF s.n else none)with|none=>_|some i=>_)=_;split
 ·simp[iE.pat]
 ·cases (if 1<=t.2.1 then(zN (pj s) t.1).bind λh=>jX s.P h.uF s.n else ν)with
  |none=>rfl
  |some i=>
   show(s.pat rd os ib).iK i (((s.P i).pt (rd i) (os i)).put 77 _)=_;rw[Eb];exact tP rd os ib s i _
theorem Qs(s:iE)(i:Nat)(l:List UInt8):jd (s.pat rd os ib) i l=(jd s i l).pat rd os ib:=by
 unfold jd;simp only;show(if(St.il l).2.2.2≠0 \/(s.P i).pe.both=false then _ else if(St.il l).1=s.id/\0<newF s.K (St.il l).1 (St.il l).2.1 (St.il l).2.2.1 then _ else if 0<=newF s.K (St.il l).1 (St.il l).2.1 (St.il l).2.2.1 then _ else _)=_;split
 ·rfl
 ·split
  ·exact Ee rd os ib s _
  ·split
   ·obtain⟨x,hx⟩:∃x:iE,({s with K:=kY s.K (St.il l).1 (St.il l).2.1 (St.il l).2.2.1,O:=oq s.K s.O i (St.il l).1 (St.il l).2.1 (St.il l).2.2.1}:iE)=x:=⟨_,rfl⟩
    have Z:(x.pat rd os ib).iK i (((x.P i).pt (rd i) (os i)).put 65 (qC (St.il l).1 (St.il l).2.1 (St.il l).2.2.1))=(x.iK i ((x.P i).put 65 (qC (St.il l).1 (St.il l).2.1 (St.il l).2.2.1))).pat rd os ib:=by
     rw[Eb];exact tP rd os ib x i _
    rw[<-hx]at Z;exact Z
   ·rfl
theorem Us(s:iE)(i:Nat)(c:UInt8)(l:List UInt8):(s.pat rd os ib).take i c l=(s.take i c l).pat rd os ib:=by
 rw[lg,lg];have Z:jS (s.pat rd os ib) i c l=(jS s i c l).pat rd os ib:=by
  unfold jS;split
  ·show(s.pat rd os ib).iK i (((s.P i).pt (rd i) (os i)).packet l)=_;rw[Qr];exact tP rd os ib s i _
  ·rfl
 rw[Z];show(if((jS s i c l).P i).L.st≠9 then _ else _)=_;split
 ·exact vX rd os ib _ i _
 ·unfold lO;split
  ·split
   ·exact vX rd os ib _ i _
   ·rfl
  ·split
   ·exact Qs rd os ib _ i l
   ·split
    ·unfold kd;simp only;split<;>rfl
    ·split
     ·unfold qH;split
      ·exact Kp rd os ib _ _
      ·rfl
     ·rfl
theorem Qt(s:iE)(i:Nat)(x:List UInt8):jD (s.pat rd os ib) i x=(jD s i x).pat rd os ib:=by
 cases x with
 |nil=>rfl
 |cons c l=>exact Us rd os ib s i c l
theorem Av:∀(l:List (List UInt8)) (s:iE) (i:Nat),(s.pat rd os ib).takes i l=(s.takes i l).pat rd os ib
 |[],_,_=>rfl
 |x::l,s,i=>by
  show(jD (s.pat rd os ib) i x).takes i l=((jD s i x).takes i l).pat rd os ib;rw[Qt,Av l]
theorem Qu(s:iE)(i:Nat):(s.pat rd os ib).iL i=(s.iL i).pat rd os ib:=by
 rw[kP,kP];have Z:iT (s.pat rd os ib) i=(iT s i).pat rd os ib:=by
  show(s.pat rd os ib).iK i (((s.P i).pt (rd i) (os i)).tick)=_;rw[Xf];exact tP rd os ib s i _
 rw[Z];show(if((iT s i).P i).L.st≠9 then _ else _)=_;split
 ·exact vX rd os ib _ i _
 ·show lZ (((iT s i).pat rd os ib).meet i (iA ((iT s i).P i).pe)) i=_;rw[vX];obtain⟨x,hx⟩:=fW ((iT s i).meet i (iA ((iT s i).P i).pe));rw[hx];have Y:∀p q:jl,(if(x.P i).pe.both=true then p.pt (rd i) (os i)else q.pt (rd i) (os i))=(if(x.P i).pe.both=true then p else q).pt (rd i) (os i):=λp q=>by split<;>rfl
  show(x.pat rd os ib).iK i (if(x.P i).pe.both=true then(((x.P i).pt (rd i) (os i)).put 72 _).kh (kO (x.O i))else((x.P i).pt (rd i) (os i)).put 72 _)=_;rw[Eb,Gn,Y];exact tP rd os ib x i _
theorem Kq(s:iE)(i:Nat)(up:Bool)(Y:(kL (s.P i).L (if up=true then 0 else 1)).2.2=0):((s.pat rd os ib).iD i up).1=((s.iD i up).1).pat (jK rd i k9) os ib:=by
 obtain⟨E,Z⟩:=fW (kL (s.P i).L (if up=true then 0 else 1));rw[Z]at Y;have e:∀p:jl,p.L=(s.P i).L->p.iD up=(({p with L:=E.1,rd:=k9}:jl).say E.2.1,0):=λp Q=>by
  unfold jl.iD;rw[Q,Z];simp only;rw[ae (by simp[Y])];rfl
 unfold iE.iD;rw[e _ rfl,e ((s.pat rd os ib).P i) rfl];simp only;rw[ae gO,ae gO];have M:(({(s.pat rd os ib).P i with L:=E.1,rd:=k9}:jl).say E.2.1)=((({s.P i with L:=E.1,rd:=k9}:jl)).say E.2.1).pt k9 (os i):=
  Hy k9 (os i) _ ({s.P i with L:=E.1,rd:=k9}:jl)
 rw[M];obtain⟨q,X⟩:=fW ((({s.P i with L:=E.1,rd:=k9}:jl)).say E.2.1);rw[X];have V:(s.pat rd os ib).iK i (q.pt k9 (os i))=(s.iK i q).pat (jK rd i k9) os ib:=by
  unfold iE.iK iE.pat;congr 1
  funext p
  show kR _ i _ p=(kR s.P i q p).pt (jK rd i k9 p) (os p);by_cases e:p=i
  ·subst e;rw[jk,jk,iu]
  ·rw[jh _ _ e,jh _ _ e,iq _ _ e]
 rw[V,vX]
end
abbrev kM:=List UInt8
structure AN where
 n:Nat
 nc:Nat
 e:Nat->Nat->Nat×Nat
 ms:Nat->Nat->Int
 iR:Nat->Bool
 R:Nat->iE
 F:Nat->Nat->List kM
 ib:Nat->List yn
def si(y:iI)(c d:Nat):List kM:=(j9 (jM y c d) ((y.C c).on d)).1++je ((y.R ((y.C c).e d).1).P ((y.C c).e d).2)
def iz(y:iI):AN:=⟨y.n,y.nc,λc=>(y.C c).e,y.ms,λc=>(y.C c).iR,λi=>(y.R i).core,λc d=>if c<y.nc/\d<2 then si y c d else [],λi=>y.jZ i++(y.R i).jZ⟩
def AN.op(a:AN)(i:Nat)(s:iE):AN:=
 {a with R:=jK a.R i s.core,F:=λc d=>if(c<a.nc/\d<2)/\(a.e c d).1=i then a.F c d++je (s.P (a.e c d).2)else a.F c d,ib:=jK a.ib i (a.ib i++s.jZ)}
def AN.kZ(a:AN)(c d:Nat)(l:List kM):AN:={a with F:=λc' d'=>if c'=c/\d'=d then l else a.F c' d'}
def AN.pop(a:AN)(c d:Nat)(x:kM)(l:List kM):AN:=(a.kZ c d l).op (a.e c (1-d)).1 (jD (a.R (a.e c (1-d)).1) (a.e c (1-d)).2 x)
def AN.mY(a:AN)(c d:Nat)(up:Bool):AN:=a.op (a.e c d).1 ((a.R (a.e c d).1).iD (a.e c d).2 up).1
def AN.iD(a:AN)(c:Nat)(up:Bool):AN:=((({a with iR:=jK a.iR c up}:AN).kZ c 0 []).kZ c 1 []).mY c 0 up|>.mY c 1 up
def vY(a b:AN):Prop:=b={a with F:=b.F} /\∀c d,∃m,b.F c d=(a.F c d).take m
theorem vY.refl(a:AN):vY a a:=⟨rfl,λc d=>⟨(a.F c d).length,gO⟩⟩
theorem vY.trans {a b c:AN} (h:vY a b)(g:vY b c):vY a c:=by
 refine⟨?_,λx d=> ?_⟩
 ·rw[g.1,h.1]
 ·obtain⟨m,Y⟩:=h.2 x d;obtain⟨k,Z⟩:=g.2 x d;exact⟨min k m,by rw[Z,Y,List.take_take]⟩
inductive mc:AN->List (Nat×Nat)->List (Int×List UInt8)->AN->Prop
 |lost {a b:AN}:vY a b->mc a [] [] b
 |tick {a:AN} (i p:Nat):i<a.n->p<3->mc a [(i,p)] [] (a.op i ((a.R i).iL p))
 |pop {a:AN} (c d:Nat) (x:kM) (l:List kM):c<a.nc->d<2->a.F c d=x::l->mc a [] [] (a.pop c d x l)
 |send {a:AN} (i:Nat) (t:Int) (tx:List UInt8):i<a.n->1<=t->t<=6->tx.length<=20->mc a [] [(t,tx)] (a.op i ((a.R i).send (t,8,tx)))
 |iD {a:AN} (c:Nat):c<a.nc->a.iR c=false->a.F c 0=[]->a.F c 1=[]->mc a [a.e c 0,a.e c 1] [] (a.iD c true)
 |draw {a:AN} (c:Nat):c<a.nc->a.iR c=true->mc a [] [] (a.iD c false)
 |anew {a:AN} (i m:Nat):i<a.n->(∀c d,c<a.nc->d<2->(a.e c d).1=i->a.iR c=false/\a.F c 0=[] /\a.F c 1=[])->mc a [] [] {a with R:=jK a.R i (jE ((i:Int)+1) 3 (a.ms i)),ib:=jK a.ib i ((a.ib i).take m)}
inductive jL:AN->List (Nat×Nat)->List (Int×List UInt8)->AN->Prop
 |nil (a:AN):jL a [] [] a
 |snoc {a b c:AN} {T U:List (Nat×Nat)} {S V:List (Int×List UInt8)}:jL a T S b->mc b U V c->jL a (T++U) (S++V) c
theorem jL.one {a b:AN} (h:mc a T S b):jL a T S b:=jL.snoc (jL.nil a) h
theorem jL.trans {a b c:AN} {V:List (Int×List UInt8)} (h:jL a T S b)(g:jL b U V c):jL a (T++U) (S++V) c:=by
 induction g with
 |nil=>simpa using h
 |snoc _ s ih=>rw[<-aD,<-aD];exact ih.snoc s
theorem jL.lost {a b c:AN} {T:List (Nat×Nat)} {S:List (Int×List UInt8)} (h:jL a T S b)(g:vY b c):jL a T S c:=by
 have:=h.snoc (mc.lost g);simpa using this
theorem mc.same {a b:AN} (h:mc a T S b):b.n=a.n/\b.nc=a.nc/\b.e=a.e/\b.ms=a.ms:=by
 cases h with
 |lost h=>rw[h.1];exact⟨rfl,rfl,rfl,rfl⟩
 |_=>exact⟨rfl,rfl,rfl,rfl⟩
theorem jL.same {a b:AN} {T:List (Nat×Nat)} {S:List (Int×List UInt8)} (h:jL a T S b):b.n=a.n/\b.nc=a.nc/\b.e=a.e/\b.ms=a.ms:=by
 induction h with
 |nil=>exact⟨rfl,rfl,rfl,rfl⟩
 |snoc _ s ih=>
  obtain⟨Y,Z,V,X⟩:=s.same;exact⟨Y.trans ih.1,Z.trans ih.2.1,V.trans ih.2.2.1,X.trans ih.2.2.2⟩
theorem AN.ext' {a b:AN} (Q:a.n=b.n)(Z:a.nc=b.nc)(J:a.e=b.e)(M:a.ms=b.ms)(X:a.iR=b.iR)(V:a.R=b.R)(H:a.F=b.F)(Y:a.ib=b.ib):a=b:=by
 cases a;cases b;simp only at*;subst Q Z J M X V H Y;rfl
theorem zh {p:jl} {o:List UInt8} {ps:List kM} (Y:Frames o ps)(X:∃qs,Frames p.out qs)(rd:kc):je (p.pt rd o)=ps++je p/\∃qs,Frames (p.pt rd o).out qs:=by
 obtain⟨qs,Z⟩:=X;have h:Frames (p.pt rd o).out (ps++qs):=by
  refine⟨?_,λx hx=> ?_⟩
  ·show o++p.out=_;rw[Y.1,Z.1,bZ]
  ·rcases av.1 hx with e|e
   ·exact Y.2 x e
   ·exact Z.2 x e
 exact⟨by rw[mF h,mF Z],_,h⟩
theorem jj {p:jl} (h:p.out=[]):je p=[] :=by unfold je;rw[h];rfl
theorem Hz {p:jl} (h:∃ps,Frames p.out ps):Frames p.out (je p):=by
 obtain⟨ps,Z⟩:=h;rw[mF Z];exact Z
theorem HJ(hF:∀i p,∃ps,Frames ((y.R i).P p).out ps)(i:Nat) {s r:iE} (rd:Nat->kc)(Y:r=s.pat rd (λp=>((y.R i).P p).out) (y.R i).jZ)(M:∀c d,c<y.nc->d<2->((y.C c).e (1-d)).1=i->rd ((y.C c).e (1-d)).2=((y.R i).P ((y.C c).e (1-d)).2).rd \/(y.C c).on d=[])(hs:∀p,∃ps,Frames (s.P p).out ps):iz (y.jq i r)=(iz y).op i s:=by
 have X:∀j,(y.jq i r).R j=if j=i then r else y.R j:=λj=>rfl
 refine AN.ext' rfl rfl rfl rfl rfl ?_ ?_ ?_
 ·funext j
  show((y.jq i r).R j).core=jK _ i s.core j;rw[X];by_cases e:j=i
  ·subst e;rw[ag rfl,iu,Y,Ko]
  ·rw[ae e,iq _ _ e];rfl
 ·funext c d
  show(if c<y.nc/\d<2 then si (y.jq i r) c d else [])=if(c<y.nc/\d<2)/\((y.C c).e d).1=i then(if c<y.nc/\d<2 then si y c d else [])++je (s.P ((y.C c).e d).2)else if c<y.nc/\d<2 then si y c d else []
  by_cases hc:c<y.nc/\d<2
  ·rw[ag hc,ag hc];have hf:(j9 (jM (y.jq i r) c d) ((y.C c).on d)).1=(j9 (jM y c d) ((y.C c).on d)).1:=by
    have Z:jM (y.jq i r) c d=jM y c d \/(y.C c).on d=[] :=by
     show(((y.jq i r).R ((y.C c).e (1-d)).1).P ((y.C c).e (1-d)).2).rd=_ \/_;rw[X];by_cases e:((y.C c).e (1-d)).1=i
     ·rw[ag e,Y];unfold jM;rw[e];exact M c d hc.1 hc.2 e
     ·rw[ae e];exact .inl rfl
    rcases Z with Z|Z
    ·rw[Z]
    ·rw[Z];rfl
   unfold si;show(j9 (jM (y.jq i r) c d) ((y.C c).on d)).1++_=_;rw[hf];show(j9 (jM y c d) ((y.C c).on d)).1++je (((y.jq i r).R ((y.C c).e d).1).P ((y.C c).e d).2)=_;rw[X];by_cases e:((y.C c).e d).1=i
   ·rw[ag e,ag ⟨hc,e⟩,Y,e];obtain⟨ps,V⟩:=hF i ((y.C c).e d).2;have Q:=(zh V (hs ((y.C c).e d).2) (rd ((y.C c).e d).2)).1;show _++je ((s.P ((y.C c).e d).2).pt _ _)=_;rw[Q,mF V,aD]
   ·rw[ae e,ae (λh=>e h.2)]
  ·rw[ae hc,ae (λh=>hc h.1),ae hc]
 ·funext j
  show y.jZ j++((y.jq i r).R j).jZ=jK _ i _ j;rw[X];by_cases e:j=i
  ·subst e;rw[ag rfl,iu,Y];show y.jZ j++((y.R j).jZ++s.jZ)=(y.jZ j++(y.R j).jZ)++s.jZ;rw[aD]
  ·rw[ae e,iq _ _ e];rfl
theorem Ut(hF:∀i p,∃ps,Frames ((y.R i).P p).out ps)(i:Nat) {s r:iE} (Z:r=s.pat (λp=>((y.R i).P p).rd) (λp=>((y.R i).P p).out) (y.R i).jZ)(hs:∀p,∃ps,Frames (s.P p).out ps):iz (y.jq i r)=(iz y).op i s:=HJ hF i _ Z (λ_ _ _ _ _=>.inl rfl) hs
def Room(y:iI):Prop:=∀c d,c<y.nc->d<2->((y.R ((y.C c).e d).1).P ((y.C c).e d).2).out=[] \/((y.C c).iR=true/\((y.C c).on d).length+((y.R ((y.C c).e d).1).P ((y.C c).e d).2).out.length<=2000)
theorem Cv(y:iI)(c d x f:Nat):((y.kD c d).C x).on f=(if x=c/\f=d/\(y.C c).iR=true/\((y.C c).on d).length+((y.R ((y.C c).e d).1).P ((y.C c).e d).2).out.length<=2000 then(y.C c).on d++((y.R ((y.C c).e d).1).P ((y.C c).e d).2).out else(y.C x).on f):=by
 show((if x=c then(y.C c).put d _ else y.C x):pT).on f=_;by_cases ex:x=c
 ·rw[ag ex];subst ex;unfold pT.put;split
  ·rename_i h
   show jK (y.C x).on d _ f=_;by_cases ed:f=d
   ·subst ed;rw[iu,ag ⟨rfl,rfl,h⟩]
   ·rw[iq _ _ ed,ae (λq=>ed q.2.1)]
  ·rename_i h
   rw[ae (λq=>h q.2.2)]
 ·rw[ae ex,ae (λq=>ex q.1)]
theorem Kr(hF:jo y)(u:Ends y)(c d:Nat)(hc:c<y.nc)(hd:d<2):vY (iz y) (iz (y.kD c d))/\(Room y->iz (y.kD c d)=iz y/\Room (y.kD c d)):=by
 have Z:∀x,((y.kD c d).C x).e=(y.C x).e:=λx=>((mD y c d).2.2.2.2 x).1;have hi:∀x,((y.kD c d).C x).iR=(y.C x).iR:=λx=>((mD y c d).2.2.2.2 x).2;have hR:∀j,((y.kD c d).R j)=if j=((y.C c).e d).1 then(y.R j).out ((y.C c).e d).2 else y.R j:=λj=>by
  show jK y.R ((y.C c).e d).1 _ j=_;by_cases e:j=((y.C c).e d).1
  ·subst e;rw[iu,ag rfl]
  ·rw[iq _ _ e,ae e]
 have M:∀j,((y.kD c d).R j).core=(y.R j).core:=λj=>by
  rw[hR];split
  ·show iE.core (iE.iK _ _ _)=_;unfold iE.core iE.iK;congr 1
   funext p
   show({kR (y.R j).P ((y.C c).e d).2 {(y.R j).P ((y.C c).e d).2 with out:=[] } p with rd:=k9,out:=[] }:jl)=_;by_cases e:p=((y.C c).e d).2
   ·rw[e,jk]
   ·rw[jh _ _ e]
  ·rfl
 have V:∀j,((y.kD c d).R j).jZ=(y.R j).jZ:=λj=>by
  rw[hR];split<;>rfl
 have X:∀j p,((y.kD c d).R j).P p=if(y.C c).e d=(j,p)then {(y.R j).P p with out:=[] }else(y.R j).P p:=λj p=>Ai y c d j p
 have uh:∀x f,jM (y.kD c d) x f=jM y x f:=λx f=>by
  unfold jM;rw[Z,X];split<;>rfl
 have Uu:∀x f,x<y.nc->f<2->¬(x=c/\f=d)->si (y.kD c d) x f=si y x f:=λx f hx hf hn=>by
  unfold si;rw[uh,Z,Cv,ae (λq=>hn ⟨q.1,q.2.1⟩),X,ae (λq=>hn (u.ds x f c d hx hf hc hd q.symm))]
 have hq:=(hF.q c d hc hd).1;obtain⟨ps,J⟩:=hF.o ((y.C c).e d).1 ((y.C c).e d).2;have h0:je (((y.kD c d).R ((y.C c).e d).1).P ((y.C c).e d).2)=[] :=jj (by rw[X,ag rfl]);have YE:si (y.kD c d) c d=(if(y.C c).iR=true/\((y.C c).on d).length+((y.R ((y.C c).e d).1).P ((y.C c).e d).2).out.length<=2000 then si y c d else(j9 (jM y c d) ((y.C c).on d)).1):=by
  unfold si;rw[uh,Z,h0,aC,Cv];split
  ·rename_i h
   rw[ag h.2.2,qG,hq,mF J];rw[J.1,py ps J.2]
  ·rename_i h
   rw[ae (λq=>h ⟨rfl,rfl,q⟩)]
 have A:∀G:Nat->Nat->List kM,(∀x f,(if x<y.nc/\f<2 then si (y.kD c d) x f else [])=G x f)->iz (y.kD c d)={iz y with F:=G}:=λG hG=>by
  refine AN.ext' rfl rfl (funext Z) rfl (funext hi) (funext M) ?_ (funext λj=> ?_)
  ·funext x f;exact hG x f
  ·show y.jZ j++((y.kD c d).R j).jZ=_;rw[V];rfl
 refine⟨⟨?_,λx f=> ?_⟩,λH=>⟨?_,λx f hx hf=> ?_⟩⟩
 ·exact A _ λ_ _=>rfl
 ·show∃m,(if x<y.nc/\f<2 then si (y.kD c d) x f else [])=(if x<y.nc/\f<2 then si y x f else []).take m;split
  ·rename_i Y
   by_cases e:x=c/\f=d
   ·obtain⟨rfl,rfl⟩:=e;rw[YE];split
    ·exact⟨(si y x f).length,gO⟩
    ·exact⟨(j9 (jM y x f) ((y.C x).on f)).1.length,by unfold si;simp⟩
   ·rw[Uu x f Y.1 Y.2 e];exact⟨(si y x f).length,gO⟩
  ·exact⟨0,rfl⟩
 ·refine A (iz y).F λx f=> ?_;show _=if x<y.nc/\f<2 then si y x f else []
  split
  ·rename_i Y
   by_cases e:x=c/\f=d
   ·obtain⟨rfl,rfl⟩:=e;rw[YE];rcases H x f hc hd with Q|Q
    ·split
     ·rfl
     ·unfold si;rw[jj Q,aC]
    ·rw[ag Q]
   ·exact Uu x f Y.1 Y.2 e
  ·rfl
 ·rw[Z,X,hi,Cv];by_cases e:x=c/\f=d
  ·obtain⟨rfl,rfl⟩:=e;rw[ag rfl];exact .inl rfl
  ·rw[ae (λq=>e (u.ds x f c d hx hf hc hd q.symm)),ae (λq=>e ⟨q.1,q.2.1⟩)];exact H x f hx hf
theorem Ends.same {y':iI} (h:Ends y)(X:y'.n=y.n)(Y:y'.nc=y.nc)(Z:∀c,(y'.C c).e=(y.C c).e)(V:∀i,(y'.R i).n=(y.R i).n):Ends y':=
 ⟨λc d c' d'=>by rw[Y,Z,Z];exact h.ds c d c' d',λc d=>by rw[Y,Z];exact h.p3 c d,λi=>by rw[V,X];exact h.rn i,λc d=>by rw[Y,Z,X];exact h.en c d⟩
theorem Ends.kD {y:iI} (h:Ends y)(c d:Nat):Ends (y.kD c d):=h.same (mD y c d).1 (mD y c d).2.1 (λx=>((mD y c d).2.2.2.2 x).1) λj=>by
 show(jK y.R ((y.C c).e d).1 _ j).n=_;by_cases e:j=((y.C c).e d).1
 ·subst e;rw[iu];rfl
 ·rw[iq _ _ e]
theorem Ks {y:iI} (hF:jo y)(Z:Ends y):∀k,k<=y.nc->(Ends (y.jQ k)/\vY (iz y) (iz (y.jQ k)))/\(Room y->iz (y.jQ k)=iz y/\Room (y.jQ k))
 |0,_=>⟨⟨Z,vY.refl _⟩,λh=>⟨rfl,h⟩⟩
 |k+1,hk=>by
  obtain⟨⟨Y,l1⟩,r1⟩:=Ks hF Z k dU;have f1:=jo.jQ hF k dU;have n1:(y.jQ k).nc=y.nc:=(jU y k).2.1;obtain⟨l2,G⟩:=Kr f1 Y k 0 (by rw[n1];omega) dX;have X:=Y.kD k 0;have f2:=f1.kD k 0 (by rw[n1];omega);obtain⟨M,J⟩:=Kr f2 X k 1 (by show k<(y.jQ k).nc;rw[n1];omega) dX;refine⟨⟨X.kD k 1,l1.trans (l2.trans M)⟩,λh=> ?_⟩;obtain⟨q1,s1⟩:=r1 h;obtain⟨q2,H⟩:=G s1;obtain⟨Q,V⟩:=J H;exact⟨Q.trans (q2.trans q1),V⟩
theorem Kt(y:iI):∀k,iz (y.lW k)=iz y
 |0=>rfl
 |k+1=>by
  rw[<-Kt y k];obtain⟨z,Y⟩:=fW (y.lW k);show iz ((y.lW k).xj k)=iz (y.lW k);rw[Y];have Z:∀j,((z.xj k).R j).P=(z.R j).P:=λj=>by
   show(jK z.R k {z.R k with jZ:=[] } j).P=_;by_cases e:j=k
   ·subst e;rw[iu]
   ·rw[iq _ _ e]
  refine AN.ext' rfl rfl rfl rfl rfl (funext λj=> ?_) (funext λc=>funext λd=> ?_) (funext λj=> ?_)
  ·show(jK z.R k {z.R k with jZ:=[] } j).core=_;by_cases e:j=k
   ·subst e;rw[iu];rfl
   ·rw[iq _ _ e];rfl
  ·show(if c<z.nc/\d<2 then(j9 (((z.xj k).R _).P _).rd _).1++je (((z.xj k).R _).P _)else [])=_;rw[Z,Z];rfl
  ·show jK z.jZ k (z.jZ k++(z.R k).jZ) j++(jK z.R k {z.R k with jZ:=[] } j).jZ=z.jZ j++(z.R j).jZ;by_cases e:j=k
   ·subst e;rw[iu,iu];simp
   ·rw[iq _ _ e,iq _ _ e]
theorem oU(hF:jo y)(Z:Ends y):vY (iz y) (iz y.gather)/\(Room y->iz y.gather=iz y):=by
 obtain⟨⟨_,l⟩,r⟩:=Ks hF Z y.nc (Nat.le_refl _);unfold iI.gather;rw[Kt];exact⟨l,λh=>(r h).1⟩
theorem uR(a:AN)(i:Nat)(s:iE)(c d:Nat):(a.op i s).F c d=if(c<a.nc/\d<2)/\(a.e c d).1=i then a.F c d++je (s.P (a.e c d).2)else a.F c d:=rfl
theorem Qv(a:AN)(i:Nat)(s:iE):(a.op i s).e=a.e:=rfl
theorem aev(a:AN)(i:Nat)(s:iE):(a.op i s).nc=a.nc:=rfl
theorem rU(a:AN)(c d:Nat)(l:List kM)(x f:Nat):(a.kZ c d l).F x f=if x=c/\f=d then l else a.F x f:=rfl
theorem yb(a:AN)(c d:Nat)(l:List kM):(a.kZ c d l).e=a.e:=rfl
theorem Cw(a:AN)(c d:Nat)(l:List kM):(a.kZ c d l).nc=a.nc:=rfl
def Norm(a:AN):Prop:=∀i,(a.R i).core=a.R i
theorem vZ(y:iI):Norm (iz y):=λ_=>rfl
theorem qv {a:AN} (h:Norm a)(i:Nat)(s:iE):Norm (a.op i s):=λj=>by
 show(jK a.R i s.core j).core=jK a.R i s.core j;by_cases e:j=i
 ·subst e;rw[iu];rfl
 ·rw[iq _ _ e];exact h j
theorem Norm.out {a:AN} (h:Norm a)(i p:Nat):((a.R i).P p).out=[] :=by rw[<-h i];rfl
theorem Norm.jZ {a:AN} (h:Norm a)(i:Nat):(a.R i).jZ=[] :=by rw[<-h i];rfl
theorem mN.frN {r s:iE} (h:mN r s)(Z:∀p,(r.P p).out=[]):∀p,∃ps,Frames (s.P p).out ps:=λp=>by
 obtain⟨qs,Y⟩:=h.out p [] (by rw[Z p];exact Frames.nil);exact⟨_,Y⟩
theorem mN.jD(r:iE)(i:Nat)(x:kM):mN r (jD r i x):=by
 cases x with
 |nil=>exact mN.refl r
 |cons c s=>exact mN.take r i c s
theorem aex(a:AN)(i:Nat)(s t:iE)(rd:Nat->kc)(hs:∀p,∃ps,Frames (s.P p).out ps)(Z:∀p,∃ps,Frames (t.P p).out ps):(a.op i s).op i t=a.op i (t.pat rd (λp=>(s.P p).out) s.jZ):=by
 refine AN.ext' rfl rfl rfl rfl rfl (funext λj=> ?_) (funext λc=>funext λd=> ?_) (funext λj=> ?_)
 ·show jK (jK a.R i s.core) i t.core j=jK a.R i t.core j;by_cases e:j=i
  ·subst e;rw[iu,iu]
  ·rw[iq _ _ e,iq _ _ e,iq _ _ e]
 ·rw[uR,uR,uR,Qv,aev];by_cases e:(c<a.nc/\d<2)/\(a.e c d).1=i
  ·rw[ag e,ag e,ag e,aD];congr 1;exact(zh (Hz (hs _)) (Z _) _).1.symm
  ·rw[ae e,ae e,ae e]
 ·show jK (jK a.ib i (a.ib i++s.jZ)) i (jK a.ib i (a.ib i++s.jZ) i++t.jZ) j=jK a.ib i (a.ib i++(s.jZ++t.jZ)) j;by_cases e:j=i
  ·subst e;rw[iu,iu,iu,aD]
  ·rw[iq _ _ e,iq _ _ e,iq _ _ e]
inductive yc(c d:Nat):List kM->AN->AN->Prop
 |nil (a:AN):yc c d [] a a
 |cons {a b:AN} {x:kM} {l r:List kM}:c<a.nc->d<2->a.F c d=x::r->yc c d l (a.pop c d x r) b->yc c d (x::l) a b
theorem yc.path {l:List kM} {a b:AN} (h:yc c d l a b):jL a [] [] b:=by
 induction h with
 |nil a=>exact jL.nil a
 |cons Y Z X _ ih=>exact(jL.one (mc.pop _ _ _ _ Y Z X)).trans ih
theorem aa4:∀(l rest:List kM) (a:AN) (c d:Nat),Norm a->c<a.nc->d<2->a.F c d=l++rest->yc c d l a ((a.kZ c d rest).op (a.e c (1-d)).1 ((a.R (a.e c (1-d)).1).takes (a.e c (1-d)).2 l))
 |[],rest,a,c,d,hN,hc,hd,hF=>by
  have G:(a.kZ c d rest).op (a.e c (1-d)).1 ((a.R (a.e c (1-d)).1).takes (a.e c (1-d)).2 [])=a:=by
   refine AN.ext' rfl rfl rfl rfl rfl ?_ (funext λx=>funext λf=> ?_) ?_
   ·show jK a.R _ (a.R _).core=_;rw[hN];exact vG _ _
   ·show(if _/\_ then(if x=c/\f=d then rest else a.F x f)++je _ else if x=c/\f=d then rest else a.F x f)=_;have j:(if x=c/\f=d then rest else a.F x f)=a.F x f:=by
     split
     ·rename_i h;rw[h.1,h.2,hF];rfl
     ·rfl
    rw[j];split
    ·show _++je ((a.R _).P _)=_;rw[jj (hN.out _ _),aC]
    ·rfl
   ·show jK a.ib _ (a.ib _++(a.R _).jZ)=_;rw[hN.jZ,aC];exact vG _ _
  rw[G];exact yc.nil a
 |x::l,rest,a,c,d,hN,hc,hd,hF=>by
  obtain⟨i,hi⟩:=fW ((a.e c (1-d)).1);obtain⟨p,Q⟩:=fW ((a.e c (1-d)).2);have hs:=(mN.jD (a.R i) p x).frN (hN.out i);obtain⟨s,V⟩:=fW (jD (a.R i) p x);have J:a.pop c d x (l++rest)=(a.kZ c d (l++rest)).op i s:=by unfold AN.pop;rw[hi,Q,V]
  rw[V]at hs;have Y:Norm ((a.kZ c d (l++rest)).op i s):=qv (a:=a.kZ c d (l++rest)) hN i s;have A:(if c=c/\d=d then l++rest else a.F c d)=l++rest:=ag ⟨rfl,rfl⟩;have H:((a.kZ c d (l++rest)).op i s).F c d=l++(if(c<a.nc/\d<2)/\(a.e c d).1=i then rest++je (s.P (a.e c d).2)else rest):=by
   show(if(c<a.nc/\d<2)/\(a.e c d).1=i then(if c=c/\d=d then l++rest else a.F c d)++je (s.P (a.e c d).2)else(if c=c/\d=d then l++rest else a.F c d))=_;rw[A];split<;>simp
  have ih:=aa4 l _ _ c d Y hc hd H;have X:((a.kZ c d (l++rest)).op i s).R i=s.core:=iu _ _ _;have Z:=ih;have M:((a.kZ c d (l++rest)).op i s).e=a.e:=rfl;rw[M,hi,Q,X]at Z;have u:(((a.kZ c d (l++rest)).op i s).kZ c d (if(c<a.nc/\d<2)/\(a.e c d).1=i then rest++je (s.P (a.e c d).2)else rest))=(a.kZ c d rest).op i s:=by
   refine AN.ext' rfl rfl rfl rfl rfl rfl (funext λy=>funext λf=> ?_) rfl;rw[rU,uR,uR,rU,rU,yb,yb,Cw,Cw];by_cases e:y=c/\f=d
   ·rw[ag e,ag e,e.1,e.2]
   ·rw[ae e,ae e,ae e]
  rw[u,aex _ _ _ _ (λq=>(s.P q).rd) hs ((mN.takes l s.core p).frN λ_=>rfl),<-Av,vW]at Z;rw[hi,Q];show yc c d (x::l) a ((a.kZ c d rest).op i ((jD (a.R i) p x).takes p l));rw[V];exact yc.cons (r:=l++rest) hc hd hF (by rw[J];exact Z)
theorem Ef(hF:jo y)(u:Ends y)(c d k:Nat)(hc:c<y.nc)(hd:d<2):∃l rest,si y c d=l++rest/\l=(j9 (jM y c d) (((y.C c).on d).take k)).1/\iz (y.jg c d k)=((iz y).kZ c d rest).op ((y.C c).e (1-d)).1 (((y.R ((y.C c).e (1-d)).1).core).takes ((y.C c).e (1-d)).2 l):=by
 obtain⟨i,hi⟩:=fW (((y.C c).e (1-d)).1);obtain⟨p,V⟩:=fW (((y.C c).e (1-d)).2);obtain⟨A,hA⟩:=fW (j9 ((y.R i).P p).rd (((y.C c).on d).take k));have H:jM y c d=((y.R i).P p).rd:=by unfold jM;rw[hi,V]
 have M:(j9 (jM y c d) ((y.C c).on d)).1=A.1++(j9 A.2.2 (((y.C c).on d).drop k)).1:=by
  have:=qG (jM y c d) (((y.C c).on d).take k) (((y.C c).on d).drop k);rw[cB,H,hA]at this;rw[H,this]
 refine⟨A.1,(j9 A.2.2 (((y.C c).on d).drop k)).1++je ((y.R ((y.C c).e d).1).P ((y.C c).e d).2),?_,by rw[H,hA],?_⟩
 ·unfold si;rw[M,aD]
 rw[hi,V];have X:(y.R i).recv p (((y.C c).on d).take k)=(((y.R i).core).takes p A.1).pat (jK (λq=>((y.R i).P q).rd) p A.2.2) (λq=>((y.R i).P q).out) (y.R i).jZ:=by
  rw[<-Av];unfold iE.recv;simp only;rw[hA];congr 1;unfold iE.iK iE.pat iE.core jl.pt;simp only[gK];congr 1
  funext q
  by_cases e:q=p
  ·subst e;rw[jk,iu]
  ·rw[jh _ _ e,iq _ _ e]
 have hs:=(mN.takes A.1 (y.R i).core p).frN λ_=>rfl;obtain⟨s,Ri⟩:=fW (((y.R i).core).takes p A.1);rw[Ri]at X hs⊢;have Q:∀j,(y.jg c d k).R j=if j=i then(y.R i).recv p (((y.C c).on d).take k)else y.R j:=λj=>by
  unfold iI.jg;rw[hi,V];rfl
 have Y:∀x,((y.jg c d k).C x).e=(y.C x).e:=λx=>((qI y c d k).2.2.2 x).1;have yY:∀x e,((y.jg c d k).C x).on e=if x=c/\e=d then((y.C c).on d).drop k else(y.C x).on e:=λx e=>by
  show((if x=c then {y.C c with on:=jK (y.C c).on d (((y.C c).on d).drop k)}else y.C x):pT).on e=_;by_cases ex:x=c
  ·rw[ag ex];show jK (y.C c).on d _ e=_;by_cases ed:e=d
   ·rw[ed,iu,ag ⟨ex,rfl⟩]
   ·rw[iq _ _ ed,ae (λh=>ed h.2),ex]
  ·rw[ae ex,ae (λh=>ex h.1)]
 refine AN.ext' rfl rfl (funext Y) rfl (funext λx=>D9 y c d k x) (funext λj=> ?_) (funext λx=>funext λf=> ?_) (funext λj=> ?_)
 ·show((y.jg c d k).R j).core=jK _ i s.core j;rw[Q];by_cases e:j=i
  ·subst e;rw[ag rfl,iu,X,Ko]
  ·rw[ae e,iq _ _ e];rfl
 ·show(if x<y.nc/\f<2 then si (y.jg c d k) x f else [])=if(x<y.nc/\f<2)/\((y.C x).e f).1=i then(if x=c/\f=d then _ else if x<y.nc/\f<2 then si y x f else [])++je (s.P ((y.C x).e f).2)else if x=c/\f=d then _ else if x<y.nc/\f<2 then si y x f else []
  by_cases hx:x<y.nc/\f<2
  ·rw[ag hx];have hq:si (y.jg c d k) x f=(if x=c/\f=d then(j9 A.2.2 (((y.C c).on d).drop k)).1 else(j9 (jM y x f) ((y.C x).on f)).1)++(if((y.C x).e f).1=i then je ((y.R ((y.C x).e f).1).P ((y.C x).e f).2)++je (s.P ((y.C x).e f).2)else je ((y.R ((y.C x).e f).1).P ((y.C x).e f).2)):=by
    unfold si;congr 1
    ·unfold jM;rw[Y,Q,yY];by_cases e:x=c/\f=d
     ·rw[ag e,ag e,e.1,e.2,hi,ag rfl,X,V];have:((s.pat (jK (λq=>((y.R i).P q).rd) p A.2.2) (λq=>((y.R i).P q).out) (y.R i).jZ).P p).rd=A.2.2:=by
       show jK (λq=>((y.R i).P q).rd) p A.2.2 p=_;rw[iu]
      rw[this]
     ·rw[ae e,ae e];by_cases Z:((y.C x).e (1-f)).1=i
      ·have J:((y.C x).e (1-f)).2≠p:=λJ=>by
        have:=u.ds x (1-f) c (1-d) hx.1 dU hc dU (aR (Z.trans hi.symm) (J.trans V.symm));exact e ⟨this.1,dU⟩
       rw[ag Z,X,Z];have:((s.pat (jK (λq=>((y.R i).P q).rd) p A.2.2) (λq=>((y.R i).P q).out) (y.R i).jZ).P ((y.C x).e (1-f)).2).rd=((y.R i).P ((y.C x).e (1-f)).2).rd:=by
        show jK (λq=>((y.R i).P q).rd) p A.2.2 ((y.C x).e (1-f)).2=_;rw[iq _ _ J]
       rw[this]
      ·rw[ae Z]
    ·rw[Y,Q];by_cases Z:((y.C x).e f).1=i
     ·rw[ag Z,ag Z,X,Z];obtain⟨ps,G⟩:=hF.o i ((y.C x).e f).2;show je ((s.P ((y.C x).e f).2).pt _ _)=_;rw[(zh G (hs _) _).1,mF G]
     ·rw[ae Z,ae Z]
   rw[hq];by_cases e:x=c/\f=d
   ·rw[ag e,ag e,<-e.1,<-e.2];by_cases Z:((y.C x).e f).1=i
    ·rw[ag Z,ag ⟨hx,Z⟩,aD]
    ·rw[ae Z,ae (λh=>Z h.2)]
   ·rw[ae e,ae e,ag hx];unfold si;by_cases Z:((y.C x).e f).1=i
    ·rw[ag Z,ag ⟨hx,Z⟩,aD]
    ·rw[ae Z,ae (λh=>Z h.2)]
  ·rw[ae hx,ae (λh=>hx h.1),ae (λh=>hx ⟨by rw[h.1];exact hc,by rw[h.2];exact hd⟩),ae hx]
 ·show y.jZ j++((y.jg c d k).R j).jZ=jK _ i _ j;rw[Q];by_cases e:j=i
  ·subst e;rw[ag rfl,iu,X];show y.jZ j++((y.R j).jZ++s.jZ)=(y.jZ j++(y.R j).jZ)++s.jZ;rw[aD]
  ·rw[ae e,iq _ _ e];rfl
theorem Uv:((fR 10).all λs=>(kV s 1).1.all λc=>c==115||c==100)=true:=by decide+kernel
theorem Ku(yG:kG):∀(l:List UInt8) (s:LS),l.all (λc=>c==115||c==100)=true->xJ l s yG=[]
 |[],_,_=>rfl
 |c::r,s,h=>by
  rw[List.all_cons,Bool.and_eq_true]at h;show ET c s yG++xJ r _ yG=[]
  rw[Ku yG r _ h.2,aC];have Z:c=115 \/c=100:=by simpa using h.1
  rcases Z with rfl|rfl<;>rfl
theorem Kv {s:LS} (h:tO s.st=true):(kL s 1).2.1=[] :=by
 obtain⟨k,X,Y⟩:=Cu h;have Z:=(sG h).1;have e:kL s 1=r7 s 1 (0,0,[]):=rfl;rw[e]at Z⊢;have V:(ja s.st 1).2.2=0:=by
  by_cases g:(ja s.st 1).2.2=0
  ·exact g
  ·rw[vz _ g]at Z;exact absurd Z g
 rw[sP _ V];show xJ (ja s.st 1).1 _ _=[]
 rw[X,show ja (k:Int) 1=kV k 1 from mQ k 1 Y dX];exact Ku _ _ _ (aX.1 Uv k (aS.2 Y))
theorem H4(r:iE)(p:Nat)(up:Bool)(q:Nat)(Z:q≠p):((r.iD p up).1.P q).out=(r.P q).out:=by
 unfold iE.iD;simp only;split
 ·rfl
 ·rw[(mC _ p nobody).2.2.2];rw[jh _ _ Z];show(kR r.P p _ q).out=_;rw[jh _ _ Z]
theorem Eg {r:iE} {p:Nat} (h:tO (r.P p).L.st=true):((r.iD p false).1.P p).out=(r.P p).out:=by
 unfold iE.iD jl.iD;simp only[Bool.false_eq_true,if_false];rw[Kv h,(sG h).1];simp only[ne_eq,not_true_eq_false,if_false];rw[(mC _ p nobody).2.2.2,jk];show(kR r.P p _ p).out=_;rw[jk];rfl
theorem N4 {L:LS} (h:if(!up)=true then tO L.st=true else L.st=1):(kL L (if up=true then 0 else 1)).2.2=0:=by
 cases up
 ·exact(sG (by simpa using h)).1
 ·exact(Dj (by simpa using h)).1
theorem mN.YF {s:iE} {i:Nat} (hs:∀p,(s.P p).out=[])(X:(kL (s.P i).L (if up=true then 0 else 1)).2.2=0):∀p,∃ps,Frames ((s.iD i up).1.P p).out ps:=λp=>by
 have e:(s.P i).iD up=(({s.P i with L:=(kL (s.P i).L (if up=true then 0 else 1)).1,rd:=([],false,false)}:jl).say (kL (s.P i).L (if up=true then 0 else 1)).2.1,0):=by
  unfold jl.iD;simp only;rw[ae (by simp[X])]
 unfold iE.iD;rw[e];simp only;rw[ae gO];obtain⟨x,hx⟩:=fW (({s.P i with L:=(kL (s.P i).L (if up=true then 0 else 1)).1,rd:=([],false,false)}:jl).say (kL (s.P i).L (if up=true then 0 else 1)).2.1);have Y:ry {s.P i with L:=(kL (s.P i).L (if up=true then 0 else 1)).1,rd:=([],false,false)} x:=by rw[<-hx];exact ry.say _ _
 rw[hx,(mC _ i nobody).2.2.2];by_cases Z:p=i
 ·subst Z;rw[jk];show∃ps,Frames (kR s.P p x p).out ps;rw[jk];obtain⟨qs,V⟩:=Y.out [] (by show Frames (s.P p).out [];rw[hs];exact Frames.nil);exact⟨_,V⟩
 ·rw[jh _ _ Z];show∃ps,Frames (kR s.P i x p).out ps;rw[jh _ _ Z,hs];exact⟨[],Frames.nil⟩
theorem Qy(hF:∀i p,∃ps,Frames ((y.R i).P p).out ps)(hG:GN y)(hE:Ends y)(c:Nat)(up:Bool)(hc:c<y.nc)(hu:(y.C c).iR= !up)(ho:∀d,d<2->((y.R ((y.C c).e d).1).P ((y.C c).e d).2).out=[]):iz (y.jP c up)=(iz y).iD c up/\(∀i p,(∀d,d<2->(y.C c).e d≠(i,p))->(((y.jP c up).R i).P p).out=((y.R i).P p).out)/\(up=false->∀d,d<2->(((y.jP c up).R ((y.C c).e d).1).P ((y.C c).e d).2).out=[]):=by
 have e0:=hG.ends c 0 hc dX;have e1:=hG.ends c 1 hc dX;have o0:=ho 0 dX;have o1:=ho 1 dX;rw[hu]at e0 e1;have jm:(y.C c).e 0≠(y.C c).e 1:=λh=>by
  have:=(hE.ds c 0 c 1 hc dX hc dX h).2;omega
 obtain⟨z,M⟩:=fW (y.kX c {y.C c with iR:=up,on:=λ_=>[] });have X:∀x,z.C x=if x=c then {y.C c with iR:=up,on:=λ_=>[] }else y.C x:=λx=>by rw[<-M];rfl
 have H:∀x,(z.C x).e=(y.C x).e:=λx=>by rw[X];split<;>simp_all
 have Y:z.R=y.R:=by rw[<-M];rfl
 have Xg:z.nc=y.nc:=by rw[<-M];rfl
 have aey:∀d,(z.C c).on d=[] :=λd=>by rw[X,ag rfl]
 have od:iz z=(({iz y with iR:=jK (iz y).iR c up}:AN).kZ c 0 []).kZ c 1 [] :=by
  refine AN.ext' (by rw[<-M];rfl) Xg (funext H) (by rw[<-M];rfl) (funext λx=> ?_) (funext λj=> ?_) (funext λx=>funext λf=> ?_) (by rw[<-M];rfl)
  ·show(z.C x).iR=jK _ c up x;rw[X];by_cases e:x=c
   ·subst e;rw[ag rfl,iu]
   ·rw[ae e,iq _ _ e];rfl
  ·show(z.R j).core=(y.R j).core;rw[Y]
  ·show(if x<z.nc/\f<2 then si z x f else [])=if x=c/\f=1 then []else if x=c/\f=0 then []else if x<y.nc/\f<2 then si y x f else []
   rw[Xg];by_cases V:x<y.nc/\f<2
   ·rw[ag V,ag V];by_cases e:x=c
    ·subst e;have:si z x f=[] :=by
      unfold si;rw[aey,H,Y,jj (ho f V.2)];rfl
     rw[this];split
     ·rfl
     ·split
      ·rfl
      ·omega
    ·rw[ae (λh=>e h.1),ae (λh=>e h.1)];unfold si jM;rw[X,ae e,Y]
   ·rw[ae V,ae (λh=>V ⟨by rw[h.1];exact hc,dU⟩),ae (λh=>V ⟨by rw[h.1];exact hc,dU⟩),ae V]
 obtain⟨i,hi⟩:=fW (((y.C c).e 0).1);obtain⟨p,J⟩:=fW (((y.C c).e 0).2);obtain⟨j,Q⟩:=fW (((y.C c).e 1).1);obtain⟨q,G⟩:=fW (((y.C c).e 1).2);rw[hi,J]at e0 o0;rw[Q,G]at e1 o1;have hpq:i=j->p≠q:=λh1 h2=>jm (aR (by rw[hi,Q,h1]) (by rw[J,G,h2]));have d0:=N4 e0.st;have d1:=N4 e1.st;have k1:((z.R i).iD p up).1=(((z.R i).core.iD p up).1).pat (jK (λs=>((z.R i).P s).rd) p k9) (λs=>((z.R i).P s).out) (z.R i).jZ:=by
  have:=Kq (λs=>((z.R i).P s).rd) (λs=>((z.R i).P s).out) (z.R i).jZ (z.R i).core p up (by rw[Y];exact d0);rw[vW]at this;exact this
 have f1:∀s,∃ps,Frames (((z.R i).core.iD p up).1.P s).out ps:=mN.YF (s:=(z.R i).core) (λ_=>rfl) (by rw[Y];exact d0);have YD:∀(w:iI),w.nc=y.nc->(∀x,(w.C x)=z.C x)->∀d0:Nat,d0<2->∀x f,x<w.nc->f<2->((w.C x).e (1-f)).1=((y.C c).e d0).1->jK (λs=>((w.R ((y.C c).e d0).1).P s).rd) ((y.C c).e d0).2 k9 ((w.C x).e (1-f)).2=((w.R ((y.C c).e d0).1).P ((w.C x).e (1-f)).2).rd \/(w.C x).on f=[] :=λw hw hwC d0 hd0 x f hx hf Xe=>by
  by_cases e:((w.C x).e (1-f)).2=((y.C c).e d0).2
  ·refine .inr ?_;rw[hwC,H]at Xe e;have:=hE.ds x (1-f) c d0 (by rw[<-hw];exact hx) dU hc hd0 (aR Xe e);rw[hwC,this.1];exact aey f
  ·rw[iq _ _ e];exact .inl rfl
 have a1:=HJ (y:=z) (by rw[Y];exact hF) i _ k1 (by have:=YD z Xg (λ_=>rfl) 0 dX;rw[hi,J]at this;exact this) f1;obtain⟨Z,mK⟩:=fW (z.jq i ((z.R i).iD p up).1);have A:∀x,Z.C x=z.C x:=λx=>by rw[<-mK];rfl
 have aa7:∀k,Z.R k=if k=i then((z.R i).iD p up).1 else z.R k:=λk=>by rw[<-mK];rfl
 have Xh:∀k s,¬(k=i/\s=p)->((Z.R k).P s).L=((y.R k).P s).L/\((Z.R k).P s).out=((y.R k).P s).out:=λk s h=>by
  rw[aa7];by_cases e:k=i
  ·rw[ag e,e,Y];have hs:s≠p:=λh2=>h ⟨e,h2⟩;exact⟨((wG (up:=up) p (by simpa using e0)).2.2 s hs).1,H4 _ _ _ _ hs⟩
  ·rw[ae e,Y];exact⟨rfl,rfl⟩
 have L1:=Xh j q (λh=>hpq h.1.symm h.2.symm);have k2:((Z.R j).iD q up).1=(((Z.R j).core.iD q up).1).pat (jK (λs=>((Z.R j).P s).rd) q k9) (λs=>((Z.R j).P s).out) (Z.R j).jZ:=by
  have:=Kq (λs=>((Z.R j).P s).rd) (λs=>((Z.R j).P s).out) (Z.R j).jZ (Z.R j).core q up (by show(kL ((Z.R j).P q).L _).2.2=0;rw[L1.1];exact d1);rw[vW]at this;exact this
 have f2:∀s,∃ps,Frames (((Z.R j).core.iD q up).1.P s).out ps:=mN.YF (s:=(Z.R j).core) (λ_=>rfl) (by show(kL ((Z.R j).P q).L _).2.2=0;rw[L1.1];exact d1);have aiX:∀k s,∃ps,Frames ((Z.R k).P s).out ps:=λk s=>by
  by_cases e:k=i/\s=p
  ·rw[aa7,ag e.1,k1,e.2];obtain⟨ps,tW⟩:=hF i p;have:=(zh tW (f1 p) (jK (λs=>((z.R i).P s).rd) p k9 p)).2;rw[<-Y]at this;exact this
  ·rw[(Xh k s e).2];exact hF k s
 have a2:=HJ (y:=Z) aiX j _ k2 (by have:=YD Z (by rw[<-mK];exact Xg) A 1 dX;rw[Q,G]at this;exact this) f2;have sL:y.jP c up=Z.jq j ((Z.R j).iD q up).1:=by
  unfold iI.jP;rw[M];have t1:z.mB c 0 up=Z:=by unfold iI.mB;rw[H,hi,J,mK]
  rw[t1];unfold iI.mB;rw[A,H,Q,G]
 have u:∀k,(y.jP c up).R k=if k=j then((Z.R j).iD q up).1 else Z.R k:=λk=>by rw[sL];rfl
 refine⟨?_,λk s hks=> ?_,λhup d hd=> ?_⟩
 ·rw[sL,a2,<-mK,a1];unfold AN.iD;rw[<-od];have t1:(iz z).mY c 0 up=(iz z).op i ((z.R i).core.iD p up).1:=by
   have ez:(iz z).e c=(y.C c).e:=H c;unfold AN.mY;rw[ez,hi,J];rfl
  rw[t1,<-a1,mK];have ez:(iz Z).e c=(y.C c).e:=by show(Z.C c).e=_;rw[A,H]
  unfold AN.mY;rw[ez,Q,G];rfl
 ·have h0:¬(k=i/\s=p):=λh=>hks 0 dX (aR (hi.trans h.1.symm) (J.trans h.2.symm));have h1:¬(k=j/\s=q):=λh=>hks 1 dX (aR (Q.trans h.1.symm) (G.trans h.2.symm));rw[u];by_cases e:k=j
  ·rw[ag e,H4 _ _ _ _ (λh=>h1 ⟨e,h⟩),<-e];exact(Xh k s h0).2
  ·rw[ae e];exact(Xh k s h0).2
 ·subst hup;have u0:tO ((y.R i).P p).L.st=true:=by simpa using e0.st
  have u1:tO ((y.R j).P q).L.st=true:=by simpa using e1.st
  have E9:d=0 \/d=1:=dU;have hA:((Z.R i).P p).out=[] :=by
   rw[aa7,ag rfl,Eg (by rw[Y];exact u0),Y];exact o0
  rcases E9 with rfl|rfl
  ·rw[hi,J,u];by_cases e:i=j
   ·rw[ag e,H4 _ _ _ _ (hpq e),<-e];exact hA
   ·rw[ae e];exact hA
  ·rw[Q,G,u,ag rfl,Eg (by rw[L1.1];exact u1),L1.2];exact o1
theorem jT.Ux(h:jT y D 0):∀c d,c<y.nc->d<2->((y.R ((y.C c).e d).1).P ((y.C c).e d).2).out=[] :=λc d hc hd=>by
 obtain⟨Y,Z⟩:=h.en c d hc hd;exact aH (by have:=(h.fit _ Y).2 _ Z;omega)
theorem Cx(Y:GN y)(hc:c<y.nc)(hi:(y.C c).iR=false)(Z:∀d,d<2->((y.R ((y.C c).e d).1).P ((y.C c).e d).2).out=[])(hd:d<2):(iz y).F c d=[] :=by
 show(if c<y.nc/\d<2 then si y c d else [])=[]
 rw[ag ⟨hc,hd⟩];unfold si;rw[Y.off c d hc hd hi,jj (Z d hd)];rfl
def mO(y:iI)(l:List Nat):List (Nat×Nat):=l.flatMap λc=>[(y.C c).e 0,(y.C c).e 1]
theorem uz(up:Bool):∀(l:List Nat) {y:iI},jo y->GN y->Ends y->l.Nodup->(∀c∈l,c<y.nc/\(y.C c).iR= !up)->(∀c∈l,∀d,d<2->((y.R ((y.C c).e d).1).P ((y.C c).e d).2).out=[])->
 jL (iz y) (if up=true then mO y l else []) [] (iz (y.jB up l))/\(up=false->(∀c d,c<y.nc->d<2->((y.R ((y.C c).e d).1).P ((y.C c).e d).2).out=[])->∀c d,c<y.nc->d<2->(((y.jB up l).R ((y.C c).e d).1).P ((y.C c).e d).2).out=[])
 |[],y,_,_,_,_,_,_=>⟨by cases up<;>exact jL.nil _,λ_ h=>h⟩
 |c::l,y,hF,hG,hE,wH,hm,ho=>by
  obtain⟨hc,hi⟩:=hm c gO;have Z:=ho c gO;obtain⟨a1,G,u⟩:=Qy hF.o hG hE c up hc hi Z;obtain⟨s1,J,_,_,Y⟩:=oS y c up;have Qw:=hF.jP hG hE c up hc hi;have Q:=hG.jP hE c up hc hi;have M:=hE.jP c up;have X:=bP.1 wH;have j:∀x∈l,x≠c:=λx hx e=>X.1 (e▸hx);have tu:jL (iz y) (if up=true then [(y.C c).e 0,(y.C c).e 1]else []) [] (iz (y.jP c up)):=by
   rw[a1];cases up
   ·exact jL.one (mc.draw c hc (show(y.C c).iR=true by simpa using hi))
   ·exact jL.one (mc.iD c hc (show(y.C c).iR=false by simpa using hi) (Cx hG hc (by simpa using hi) Z dX) (Cx hG hc (by simpa using hi) Z dX))
  obtain⟨y1,H⟩:=fW (y.jP c up);rw[H]at G u J Y Qw Q M tu;obtain⟨p1,p2⟩:=uz up l (y:=y1) Qw Q M X.2 (λx hx=>⟨by rw[J];exact(hm x (by simp[hx])).1,by rw[(Y x).2,ae (j x hx)];exact(hm x (by simp[hx])).2⟩) (λx hx d hd=>by
   rw[(Y x).1];rw[G _ _ (λd' A h=>(j x hx) (hE.ds x d c d' (hm x (by simp[hx])).1 hd hc A h.symm).1)];exact ho x (by simp[hx]) d hd)
  have hP:mO y1 l=mO y l:=by unfold mO;congr 1;funext x;rw[(Y x).1]
  refine⟨?_,λV m9 x d hx hd=> ?_⟩
  ·have:=tu.trans p1;rw[hP]at this;show jL _ _ _ (iz ((y.jP c up).jB up l));rw[H];cases up
   ·simpa using this
   ·simpa[mO]using this
  ·show(((y.jP c up).jB up l).R _|>.P _).out=[]
   rw[H];have:=p2 V (λx d hx hd=>by
    rw[(Y x).1];have uQ:x<y.nc:=by rw[<-J];exact hx
    by_cases e:x=c
    ·subst e;exact u V d hd
    ·rw[G _ _ (λd' A h=>e (hE.ds x d c d' uQ hd hc A h.symm).1)];exact m9 x d uQ hd) x d (by rw[J];exact hx) hd
   rw[(Y x).1]at this;exact this
structure Qz(T:List (Nat×Nat)):Prop where
 nd:T.Nodup
 len:T.length<=18
theorem Qz.nil:Qz [] :=⟨cY,gO⟩
theorem wa {y:iI} (Y:Ends y):∀l:List Nat,l.Nodup->(∀c∈l,c<y.nc)->(mO y l).Nodup/\(mO y l).length=2*l.length
 |[],_,_=>⟨by simp[mO],rfl⟩
 |c::l,wH,hm=>by
  have X:=bP.1 wH;obtain⟨a,b⟩:=wa Y l X.2 λx hx=>hm x (by simp[hx]);have hc:=hm c gO;have e:mO y (c::l)=(y.C c).e 0::(y.C c).e 1::mO y l:=by simp[mO]
  have Q:∀d,d<2->(y.C c).e d∉mO y l:=λd hd hx=>by
   obtain⟨x,Z,V⟩:=aV.1 hx;have M:=hm x (by simp[Z]);have:(∃f,f<2/\(y.C c).e d=(y.C x).e f):=by
    simp only[gW,gX,or_false]at V;rcases V with h|h
    ·exact⟨0,dX,h⟩
    ·exact⟨1,dX,h⟩
   obtain⟨f,hf,h⟩:=this;exact X.1 ((Y.ds c d x f hc hd M hf h).1▸Z)
  refine⟨?_,by rw[e];simp only[List.length_cons,b];omega⟩;rw[e,bP,bP];refine⟨λhx=> ?_,Q 1 dX,a⟩;rcases aQ.1 hx with h|h
  ·have:=(Y.ds c 0 c 1 hc dX hc dX h).2;omega
  ·exact Q 0 dX h
inductive wW:List (Nat×Nat)->AN->AN->Prop
 |nil (a:AN):wW [] a a
 |snoc {T:List (Nat×Nat)} {a b:AN} (i p:Nat):wW T a b->i<b.n->p<3->wW (T++ [(i,p)]) a (b.op i ((b.R i).iL p))
theorem wW.path {a b:AN} (h:wW T a b):jL a T [] b:=by
 induction h with
 |nil a=>exact jL.nil a
 |snoc i p _ hi Z ih=>have:=ih.snoc (mc.tick i p hi Z);simpa using this
theorem wW.trans {a b c:AN} (h:wW T a b)(g:wW U b c):wW (T++U) a c:=by
 induction g with
 |nil=>simpa using h
 |snoc i p _ hi Z ih=>rw[<-aD];exact(ih h).snoc i p hi Z
theorem Bm {y:iI} (hF:jo y)(k:Nat)(M:k<y.n):∀j,j<=3->wW ((fR j).map λp=>(k,p)) (iz y) (iz (y.jq k ((y.R k).iN j)))
 |0,_=>by
  have e:y.jq k ((y.R k).iN 0)=y:=by
   show y.jq k (y.R k)=y;unfold iI.jq;rw[vG]
  rw[e];exact wW.nil _
 |j+1,hj=>by
  have X:=Bm hF k M j dU;have V:=hF.jq k (mN.iN (y.R k) j);obtain⟨z,Z⟩:=fW (y.jq k ((y.R k).iN j));rw[Z]at X V;have Y:z.R k=(y.R k).iN j:=by rw[<-Z];exact iu _ _ _
  have e:y.jq k ((y.R k).iN (j+1))=z.jq k ((z.R k).iL j):=by
   rw[Y,<-Z];show({y with R:=_}:iI)={y with R:=jK (jK y.R k _) k _}
   congr 1
   funext x
   by_cases ex:x=k
   ·subst ex;rw[iu,iu];rfl
   ·rw[iq _ _ ex,iq _ _ ex,iq _ _ ex]
  have Q:(z.R k).iL j=((z.R k).core.iL j).pat (λp=>((z.R k).P p).rd) (λp=>((z.R k).P p).out) (z.R k).jZ:=by
   rw[<-Qu,vW]
  rw[e,Ut V.o k Q ((mN.iL (z.R k).core j).frN λ_=>rfl),cy,cu];have Qd:z.n=y.n:=by rw[<-Z];rfl
  exact X.snoc k j (by show k<z.n;omega) dU
def QA(k:Nat):List (Nat×Nat):=[(k,0),(k,1),(k,2)]
theorem Eh(hF:jo y)(Y:jT y D 0)(hD:D<=900000000)(k:Nat)(Z:k<y.n):wW (QA k) (iz y) (iz (y.jq k (y.R k).tick))/\Ends (y.jq k (y.R k).tick)/\jo (y.jq k (y.R k).tick):=by
 have h:=Bm hF k Z 3 (Nat.le_refl _);have e:(y.R k).tick=(y.R k).iN 3:=by unfold iE.tick;rw[(Y.rn k Z).1]
 rw[<-e]at h;exact⟨h,(Y.iT dU Z).nZ,hF.jq k (mN.iN _ _)⟩
theorem Gp(hF:jo y)(V:jT y D 0)(Y:D<=900000000)(k:Nat)(X:k<y.n):jL (iz y) (QA k) [] (iz (y.tick ((k:Int)+1)).1):=by
 obtain⟨h,Z,f1⟩:=Eh hF V Y k X;unfold iI.tick;rw[ae dU];rw[show((k:Int)+1-1).toNat=k by omega];exact h.path.lost (oU f1 Z).1
theorem uA(hF:jo y)(X:jT y D 0)(hD:D<=900000000)(i d m:Int):jL (iz y) [] [] (iz (y.deliver i d m).1):=by
 unfold iI.deliver;split
 ·exact jL.nil _
 ·rename_i h
  have hc:i.toNat<y.nc:=dU;have hd:d.toNat<2:=dU;obtain⟨k,J⟩:=fW (min m.toNat ((y.C i.toNat).on d.toNat).length);rw[J];have Y:=X.nZ;obtain⟨l,rest,M,_,V⟩:=Ef hF Y i.toNat d.toNat k hc hd;have Z:(iz y).F i.toNat d.toNat=l++rest:=by
   show(if i.toNat<y.nc/\d.toNat<2 then si y i.toNat d.toNat else [])=_;rw[ag ⟨hc,hd⟩,M]
  have Q:=(aa4 l rest (iz y) i.toNat d.toNat (vZ y) hc hd Z).path;have:jL (iz y) [] [] (iz (y.jg i.toNat d.toNat k)):=by rw[V];exact Q
  exact this.lost (oU (hF.jg Y _ _ _ hc hd) (X.jg dU hc hd).nZ).1
theorem QB(hF:jo y)(X:GN y)(V:jT y D 0)(i:Int)(up:Bool):∃T,Qz T/\jL (iz y) T [] (iz (y.iD i up).1):=by
 unfold iI.iD;split
 ·exact⟨[],Qz.nil,jL.nil _⟩
 ·split
  ·exact⟨[],Qz.nil,jL.nil _⟩
  ·rename_i h lL
   have hc:i.toNat<y.nc:=dU;have hi:(y.C i.toNat).iR= !up:=by cases hv:(y.C i.toNat).iR<;>cases up<;>simp_all
   have Y:=V.nZ;have M:=(uz up [i.toNat] hF X Y gO (λc Z=>by simp only[gY]at Z;subst Z;exact⟨hc,hi⟩) (λc Z d hd=>by simp only[gY]at Z;subst Z;exact V.Ux _ d hc hd)).1;have Q:=wa Y [i.toNat] gO (λc Z=>by simp only[gY]at Z;subst Z;exact hc);refine⟨_,?_,M.lost (oU (hF.jP X Y _ _ hc hi) (Y.jP _ _)).1⟩;split
   ·exact⟨Q.1,by rw[Q.2];simp⟩
   ·exact Qz.nil
theorem H5(hF:jo y)(hG:GN y)(iF:jT y D 0)(i:Int):∃T,Qz T/\jL (iz y) T [] (iz (y.restart i).1):=by
 unfold iI.restart;split
 ·exact⟨[],Qz.nil,jL.nil _⟩
 ·rename_i hi
  obtain⟨k,hk⟩:=fW ((i-1).toNat);have hik:i=(k:Int)+1:=dU;have Cg:k<y.n:=dU;simp only;rw[hk];obtain⟨l,hl⟩:=fW (y.k7 k);rw[hl];have u:∀c,c∈l↔c<y.nc/\(y.C c).iR=true/\(((y.C c).e 0).1=k \/((y.C c).e 1).1=k):=λc=>by
   rw[<-hl];unfold iI.k7;simp[List.mem_filter]
  have hll:l.length<=9:=by rw[<-hl];exact Nat.le_trans (x6 y k) iF.c9
  have J:l.Nodup:=by
   rw[<-hl];exact dh cX bQ
  have wZ:∀c∈l,c<y.nc/\(y.C c).iR= !false:=λc hc=>⟨((u c).1 hc).1,((u c).1 hc).2.1⟩
  have hE:=iF.nZ;obtain⟨a,b,d⟩:=GN.jB false l hG hE J wZ;have f1:=jo.jB false l hF hG hE J wZ;obtain⟨p1,o1⟩:=uz false l hF hG hE J wZ (λc hc d hd=>iF.Ux c d (wZ c hc).1 hd);have o1:=o1 rfl iF.Ux;obtain⟨s1,s2,s3,s4,s5⟩:=mI false l y;have hpo:∀z:iI,(∀x,(z.C x).e=(y.C x).e)->mO z l=mO y l:=λz hz=>by unfold mO;congr 1;funext x;rw[hz]
  obtain⟨Z,Ba⟩:=fW (y.jB false l);rw[Ba]at a b d s1 s2 s3 s4 s5 f1 p1 o1⊢;have ML:∀c e,c<Z.nc->e<2->((Z.C c).e e).1=k->(Z.C c).iR=false:=λc e hc Q heq=>by
   have jN:c<y.nc:=by rw[s2]at hc;exact hc
   rw[d c];by_cases hm:c∈l
   ·rw[ag hm]
   ·rw[ae hm];by_cases lL:(y.C c).iR=true
    ·exfalso;rw[s5 c]at heq;refine hm ((u c).2 ⟨jN,lL,?_⟩);have:e=0 \/e=1:=dU;rcases this with rfl|rfl
     ·exact .inl heq
     ·exact .inr heq
    ·simpa using lL
  have V:∀c d,c<Z.nc->d<2->((Z.R ((Z.C c).e d).1).P ((Z.C c).e d).2).out=[] :=λc d hc hd=>by
   rw[s5 c];exact o1 c d (by rw[<-s2];exact hc) hd
  have f2:=f1.anew a k i (y.ms k) ML;have a2:GN (Z.jq k (jE i 3 (y.ms k))):=by
   refine a.jq k _ (λc e hc Q heq _=> ?_);rw[ML c e hc Q heq];have hI:=qg i (y.ms k) ((Z.C c).e e).2;exact⟨by simpa using hI.st,λe=>absurd (by rw[hI.pe];rfl) e⟩
  have b2:Ends (Z.jq k (jE i 3 (y.ms k))):=⟨b.ds,b.p3,λj=>by
   show(jK Z.R k _ j).n=3 \/Z.n<=j;by_cases e:j=k
   ·rw[e,iu];exact .inl rfl
   ·rw[iq _ _ e];exact b.rn j,b.en⟩
  have EF:jL (iz Z) [] [] (iz (Z.jq k (jE i 3 (y.ms k)))):=by
   have jY:=mc.anew (a:=iz Z) k (Z.jZ k).length (by show k<Z.n;omega) (λc e hc Q heq=>by
    have h1:=ML c e hc Q heq;exact⟨h1,Cx a hc h1 (λd hd=>V c d hc hd) dX,Cx a hc h1 (λd hd=>V c d hc hd) dX⟩)
   have heq:iz (Z.jq k (jE i 3 (y.ms k)))={iz Z with R:=jK (iz Z).R k (jE ((k:Int)+1) 3 ((iz Z).ms k)),ib:=jK (iz Z).ib k (((iz Z).ib k).take (Z.jZ k).length)}:=by
    refine AN.ext' rfl rfl rfl rfl rfl (funext λj=> ?_) (funext λc=>funext λe=> ?_) (funext λj=> ?_)
    ·show(jK Z.R k _ j).core=jK _ k (jE ((k:Int)+1) 3 (Z.ms k)) j;by_cases Y:j=k
     ·rw[Y,iu,iu,hik,s3];rfl
     ·rw[iq _ _ Y,iq _ _ Y];rfl
    ·show(if c<Z.nc/\e<2 then si (Z.jq k (jE i 3 (y.ms k))) c e else [])=if c<Z.nc/\e<2 then si Z c e else []
     split
     ·rename_i Cb
      obtain⟨hc,Q⟩:=Cb;have hP:∀p,(((Z.jq k (jE i 3 (y.ms k))).R k).P p).out=[] :=λp=>by
       show((jK Z.R k _ k).P p).out=[]
       rw[iu];rfl
      have hO:je (((Z.jq k (jE i 3 (y.ms k))).R ((Z.C c).e e).1).P ((Z.C c).e e).2)=je ((Z.R ((Z.C c).e e).1).P ((Z.C c).e e).2):=by
       by_cases A:((Z.C c).e e).1=k
       ·rw[jj (V c e hc Q),A,jj (hP _)]
       ·show je ((jK Z.R k _ _).P _)=_;rw[iq _ _ A]
      show(j9 (jM (Z.jq k (jE i 3 (y.ms k))) c e) ((Z.C c).on e)).1++je (((Z.jq k (jE i 3 (y.ms k))).R ((Z.C c).e e).1).P ((Z.C c).e e).2)=_;rw[hO];congr 1;by_cases A:((Z.C c).e (1-e)).1=k
      ·have h1:=ML c (1-e) hc dU A;rw[a.off c e hc Q h1];rfl
      ·have hR:jM (Z.jq k (jE i 3 (y.ms k))) c e=jM Z c e:=by
        show((jK Z.R k _ ((Z.C c).e (1-e)).1).P ((Z.C c).e (1-e)).2).rd=_;rw[iq _ _ A];rfl
       rw[hR]
     ·rfl
    ·show Z.jZ j++(jK Z.R k (jE i 3 (y.ms k)) j).jZ=jK _ k ((Z.jZ k++(Z.R k).jZ).take (Z.jZ k).length) j;by_cases Y:j=k
     ·rw[Y,iu,iu,List.take_left];show Z.jZ k++ [] =_;rw[aC]
     ·rw[iq _ _ Y,iq _ _ Y];rfl
   rw[heq];exact jL.one jY
  obtain⟨H,X⟩:=fW (Z.jq k (jE i 3 (y.ms k)));have M:H.C=Z.C:=by rw[<-X];rfl
  have G:H.nc=Z.nc:=by rw[<-X];rfl
  rw[X]at f2 a2 b2 EF⊢;have GQ:∀c∈l,c<H.nc/\(H.C c).iR= !true:=λc hc=>⟨by rw[G,s2];exact((u c).1 hc).1,by rw[M,d c,ag hc];rfl⟩
  have iZ:∀j p,((H.R j).P p).out=[] \/((H.R j).P p).out=((Z.R j).P p).out:=λj p=>by
   rw[<-X];show((jK Z.R k _ j).P p).out=[] \/((jK Z.R k _ j).P p).out=_;by_cases Y:j=k
   ·rw[Y,iu];exact .inl rfl
   ·rw[iq _ _ Y];exact .inr rfl
  have p2:=(uz true l f2 a2 b2 J GQ (λc hc d hd=>by
   rw[M];rcases iZ ((Z.C c).e d).1 ((Z.C c).e d).2 with h|h
   ·exact h
   ·rw[h];exact V c d (by rw[<-G];exact(GQ c hc).1) hd)).1
  have g2:=GN.jB true l a2 b2 J GQ;have f3:=jo.jB true l f2 a2 b2 J GQ;have m9:=((p1.trans EF).trans p2).lost (oU f3 g2.2.1).1;rw[hpo H (λx=>by rw[M,s5 x])]at m9;have hn:=wa hE l J (λc hc=>((u c).1 hc).1);exact⟨mO y l,⟨hn.1,by rw[hn.2];omega⟩,by simpa using m9⟩
def zi(n:Nat)(f t:Int)(tx:List UInt8):List (Int×List UInt8):=if(1<=f/\f<=(n:Int))/\(1<=t/\t<=6)/\tx.length<=20 then [(t,tx)]else []
theorem QC(hF:jo y)(J:jT y D 0)(hD:D<=900000000)(f t:Int)(tx:List UInt8):jL (iz y) [] (zi y.n f t tx) (iz (y.send f t tx).1):=by
 unfold iI.send;split
 ·unfold zi;rw[ae dU];exact jL.nil _
 ·rename_i h
  obtain⟨k,H⟩:=fW ((f-1).toNat);have Y:k<y.n:=dU;rw[H];by_cases hv:t<1 \/6<t \/20<tx.length
  ·have e:j2 (y.R k) t tx=(y.R k,1):=by unfold j2;rw[ag hv]
   rw[e,ag gO];unfold zi;rw[ae dU];exact jL.nil _
  ·have e:j2 (y.R k) t tx=((y.R k).send (t,8,tx),0):=by unfold j2;rw[ae hv]
   have Z:=(J.T6 dU Y t tx).nZ;rw[e]at Z;rw[e,ae gO];unfold zi;rw[ag dU];have Q:=mN.send (y.R k).core (t,8,tx);have V:(y.R k).send (t,8,tx)=((y.R k).core.send (t,8,tx)).pat (λp=>((y.R k).P p).rd) (λp=>((y.R k).P p).out) (y.R k).jZ:=by rw[<-Kp,vW]
   have M:=Ut hF.o k V (Q.frN λ_=>rfl);have X:jL (iz y) [] [(t,tx)] (iz (y.jq k ((y.R k).send (t,8,tx)))):=by
    rw[M];exact jL.one (mc.send k t tx Y dU dU dU)
   exact X.lost (oU (hF.jq k (mN.send (y.R k) (t,8,tx))) Z).1
def l8(k:Nat):List (Nat×Nat):=(fR k).flatMap QA
theorem Aw(k:Nat):l8 (k+1)=l8 k++QA k:=by simp[l8,List.range_succ]
theorem oh:∀k,(l8 k).Nodup/\(l8 k).length=3*k/\∀x∈l8 k,x.1<k
 |0=>⟨cY,rfl,λ_ h=>by simp[l8]at h⟩
 |k+1=>by
  obtain⟨a,b,c⟩:=oh k;rw[Aw];refine⟨bE.2 ⟨a,by simp[QA],λx hx z Z e=> ?_⟩,by simp[b,QA];omega,λx hx=> ?_⟩
  ·have Y:=c x hx;subst e;simp only[QA,gW,gX,or_false]at Z;rcases Z with rfl|rfl|rfl<;>simp at Y
  ·rcases av.1 hx with h|h
   ·have:=c x h;omega
   ·simp only[QA,gW,gX,or_false]at h;rcases h with rfl|rfl|rfl<;>simp
theorem ye {y:iI} {D:Nat} (hF:jo y)(Z:jT y D 0)(Y:D<=800000000):∀q,q<=y.n->jL (iz y) (l8 q) [] (iz (y.iN q))
 |0,_=>jL.nil _
 |q+1,hq=>by
  have n6:=Z.n6;have V:=ye hF Z Y q dU;have X:=Gp (jo.iN hF q) (Z.iN Y q dU) dU q (by rw[(nY y q).1];omega);rw[Aw];exact V.trans X
theorem Bn {y:iI} {D:Nat} (hF:jo y)(Z:jT y D 0)(Y:D<=890000000):∀q,q<=9->jL (iz y) [] [] (iz (y.jF q))
 |0,_=>jL.nil _
 |q+1,hq=>by
  have V:=Bn hF Z Y q dU;have f1:=jo.jF hF Z Y q dU;have k1:=Z.jF Y q dU;have X:=uA f1 k1 dU (q:Int) 0 2000;have Q:=uA (f1.deliver k1 (q:Int) 0 2000) (k1.deliver dU (q:Int) 0 2000) dU (q:Int) 1 2000;exact(V.trans X).trans Q
theorem Ei {y:iI} {D:Nat} (hF:jo y)(Z:jT y D 0)(Y:D<=810000000):∀t,t<=12->jL (iz y) [] [] (iz (y.turns t))
 |0,_=>jL.nil _
 |t+1,ht=>(Ei hF Z Y t dU).trans (Bn (jo.turns hF Z Y t dU) (Z.turns Y t dU) dU y.nc Z.c9)
theorem yf(hF:jo y)(Z:jT y D 0)(Y:D<=800000000):jL (iz y) (l8 y.n) [] (iz y.round):=by
 have n6:=Z.n6;have h:=(ye hF Z Y y.n (Nat.le_refl _)).trans (Ei (hF.iN y.n) (Z.iN Y y.n n6) dU 12 (Nat.le_refl _));rw[aC]at h;exact h
def H6(v:AV):Bool:=v.kind.toList==[115,101,110,100]
def sOf(n:Nat)(v:AV):List (Int×List UInt8):=if H6 v=true then zi n v.a v.b v.s.data.toList else []
theorem H7 {v:AV} (n:Nat) {l:List UInt8} (h:(v.kind.toList==l)=true)(hl:(l==[115,101,110,100])=false):sOf n v=[] :=by
 unfold sOf H6;rw[dN]at h;rw[h,hl];rfl
theorem Kw(hF:jo y)(Y:GN y)(Z:jT y D 0)(X:D<=800000000)(v:AV):∃T,Qz T/\jL (iz y) T (sOf y.n v) (iz (sg y v)):=by
 unfold sg;split
 ·rename_i h
  rw[H7 y.n h dX];exact QB hF Y Z _ _
 ·split
  ·rename_i h
   rw[H7 y.n h dX];by_cases hi:v.a<1 \/(y.n:Int)<v.a
   ·refine⟨[],Qz.nil,?_⟩;unfold iI.tick;rw[ag hi];exact jL.nil _
   ·have:=Gp hF Z dU (v.a-1).toNat dU;rw[show(((v.a-1).toNat:Nat):Int)+1=v.a by omega]at this;exact⟨_,⟨by simp[QA],by simp[QA]⟩,this⟩
  ·split
   ·rename_i h
    rw[H7 y.n h dX];exact⟨[],Qz.nil,uA hF Z dU _ _ _⟩
   ·split
    ·rename_i h
     rw[H7 y.n h dX];exact H5 hF Y Z _
    ·split
     ·rename_i h
      unfold sOf;rw[ag (show H6 v=true from h)];exact⟨[],Qz.nil,QC hF Z dU _ _ _⟩
     ·rename_i h
      unfold sOf;rw[ae (show¬H6 v=true from h)];split
      ·obtain⟨a,b,_⟩:=oh y.n;have:=Z.n6;exact⟨_,⟨a,by rw[b];omega⟩,yf hF Z X⟩
      ·exact⟨[],Qz.nil,jL.nil _⟩
