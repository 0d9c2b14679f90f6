import Derived.Test.YtieklnlbljejdaaGreatDoorM21
open Option renaming none → ν, some → μ
open List renaming range → fW
namespace Go.Proofs.YtieklnlbljejdaaGreatDoor
open Go.RowKit St
namespace Rt
variable {A:Nat->AN} {C:Nat->Prop} {D J N c d k x z:Nat} {K:Int->Option PS} {S:List (Int×List UInt8)} {T:List (Nat×Nat)} {a b m:AN} {cm:Nat->Int} {l:List k9} {o q:PS} {r:iM} {v y:Int}
theorem ahg(r:iM)(i:Nat)(s:List UInt8)(y:Int):(ji r i s).K y=r.K y \/((il s).2.2.2=0/\(r.P i).pe.both=true/\(il s).1=y/\0<newF r.K y (il s).2.1 (il s).2.2.1/\(y=r.id \/(ji r i s).K y=μ ((il s).2.1,(il s).2.2.1))):=by
 unfold ji;simp only;split
 ·exact .inl rfl
 ·rename_i h
  have Z:(il s).2.2.2=0/\(r.P i).pe.both=true:=by
   refine⟨eh,?_⟩;cases hb:(r.P i).pe.both
   ·exact absurd (.inr hb) h
   ·rfl
  split
  ·rename_i Y
   by_cases e:y=r.id
   ·exact .inr ⟨Z.1,Z.2,by rw[e];exact Y.1,by rw[e,<-Y.1];exact Y.2,.inl e⟩
   ·left;unfold iM.behind;split
    ·show(if y=r.id then _ else _)=_;rw[af e]
    ·rfl
  ·have X:∀K:Int->Option PS,K=lr r.K (il s).1 (il s).2.1 (il s).2.2.1->K y=r.K y \/((il s).2.2.2=0/\(r.P i).pe.both=true/\(il s).1=y/\0<newF r.K y (il s).2.1 (il s).2.2.1/\(y=r.id \/K y=μ ((il s).2.1,(il s).2.2.1))):=λK V=>by
    rw[V];unfold lr;split
    ·rename_i g
     by_cases e:y=(il s).1
     ·right;refine⟨Z.1,Z.2,e.symm,by rw[e];exact g,.inr ?_⟩;show(if y=(il s).1 then _ else _)=_;rw[ai e]
     ·left;show(if y=(il s).1 then _ else _)=_;rw[af e]
    ·exact .inl rfl
   split
   ·exact X _ rfl
   ·exact X _ rfl
theorem adF(Q:ln r)(i:Nat)(s:List UInt8)(U:(il s).2.2.2=0)(hb:(r.P i).pe.both=true)(hs:(il s).2.1<1000000):yc (ji r i s).K (il s).1 (il s).2.1 (il s).2.2.1:=by
 have Y:=(xF Q i s).1.k;unfold ji at Y⊢;simp only at Y⊢;rw[af (by rw[hb];simp;exact U)]at Y⊢;by_cases Z:(il s).1=r.id/\0<newF r.K (il s).1 (il s).2.1 (il s).2.2.1
 ·rw[ai Z];unfold iM.behind;rw[ai hs];refine⟨((il s).2.1+1,jx r),?_,?_⟩
  ·show(if(il s).1=r.id then _ else _)=_;rw[ai Z.1]
  ·unfold lS;have:lW ((il s).2.1+1) (il s).2.1=1:=by unfold lW;rw[af eh,ai eh]
   rw[ai (by rw[this];decide)];show 0<=lW ((il s).2.1+1) (il s).2.1;rw[this];decide
 ·rw[af Z];have V:yc (lr r.K (il s).1 (il s).2.1 (il s).2.2.1) (il s).1 (il s).2.1 (il s).2.2.1:=by
   unfold lr;by_cases g:0<newF r.K (il s).1 (il s).2.1 (il s).2.2.1
   ·rw[ai g];exact⟨_,by show(if(il s).1=(il s).1 then μ ((il s).2.1,(il s).2.2.1)else _)=_;rw[ai rfl],by rw[n8];exact Int.le_refl _⟩
   ·rw[af g];cases X:r.K (il s).1 with
    |none=>unfold newF at g;rw[X]at g;exact absurd (by decide:(0:Int)<1) g
    |some q=>
     rw[n9 X]at g;exact⟨q,X,by rw[ub];omega⟩
  split
  ·exact V
  ·exact V
theorem vI.keep(P:AN->Prop)(h:vI m b)(U:Ak N k T m)(H:N<1000000)(E:k<=126)(M:∀c d,c<m.nc->d<2->m.e c d∈T)(Q:P m)(step:∀(a:AN) (c d:Nat) (x:k9) (l:List k9),Ak N k T a->(a.n=m.n/\a.nc=m.nc/\a.e=m.e/\a.iQ=m.iQ)->c<a.nc->d<2->a.F c d=x::l->P a->P (a.pop c d x l)):Ak N k T b/\P b/\(b.n=m.n/\b.nc=m.nc/\b.e=m.e/\b.iQ=m.iQ):=by
 induction h with
 |nil=>exact⟨U,Q,rfl,rfl,rfl,rfl⟩
 |snoc c d x l p hc hd hF ih=>
  obtain⟨s1,G,X,Y,Z,V⟩:=ih;refine⟨(s1.pop H E (λc d hc hd=>by rw[Z];exact M c d (by rw[<-Y];exact hc) hd) hc hd hF).1,step _ c d x l s1 ⟨X,Y,Z,V⟩ hc hd hF G,X,Y,Z,V⟩
theorem Ak.FD(h:Ak N k T a)(V:N<1000000)(U:k<=126)(X:∀c d,c<a.nc->d<2->a.e c d∈T) {x:k9} (hc:c<a.nc)(hd:d<2)(hF:a.F c d=x::l)(j:Nat):pv (a.R j).K ((a.pop c d x l).R j).K:=by
 obtain⟨_,Z,Y,_⟩:=h.pop V U X hc hd hF;obtain⟨B,Q⟩:=h.env.i.own;by_cases e:j=rX a c (1-d)
 ·rw[e,Y];have M:=(Q.r _ (h.env.i.qP.en c (1-d) hc eh).1).2.1;unfold knM;split
  ·exact(xF M _ _).1.k
  ·exact pv.refl _
 ·rw[(Z j e).1];exact pv.refl _
theorem Ak.WC(h:Ak N k T a)(hc:c<a.nc)(hd:d<2)(hb:((a.R (rX a c d)).P (a.e c d).2).pe.both=true):a.iQ c=true/\rX a c d≠rX a c (1-d):=by
 have Z:(mK a c d).both=true:=hb;cases hi:a.iQ c
 ·rw[(h.pn c d hc hd (.inl hi)).2]at Z;exact absurd Z gY
 ·refine⟨rfl,λe=> ?_⟩;rw[(h.pn c d hc hd (.inr e)).2]at Z;exact absurd Z gY
theorem Ak.news(h:Ak N k T a)(H:N<1000000)(hk:k<=126)(M:∀c d,c<a.nc->d<2->a.e c d∈T) {x:k9} (hc:c<a.nc)(hd:d<2)(hF:a.F c d=x::l)(j:Nat)(y:Int):((a.pop c d x l).R j).K y=(a.R j).K y \/(j=rX a c (1-d)/\a.iQ c=true/\rX a c d≠rX a c (1-d)/\∃q:PS,yc (a.R (rX a c d)).K y q.1 q.2/\0<newF (a.R j).K y q.1 q.2/\(y=(j:Int)+1 \/((a.pop c d x l).R j).K y=μ q)):=by
 obtain⟨_,U,Q,_⟩:=h.pop H hk M hc hd hF;obtain⟨B,hB⟩:=h.env.i.own;have E:=h.env.i.qP.en c (1-d) hc eh;by_cases e:j=rX a c (1-d)
 ·rw[e,Q];cases x with
  |nil=>exact .inl rfl
  |cons u s=>
   by_cases Y:u=83
   ·subst Y;show(ji (a.R (rX a c (1-d))) (a.e c (1-d)).2 s).K y=_ \/_;rcases ahg (a.R (rX a c (1-d))) (a.e c (1-d)).2 s y with g|⟨g1,G,g3,g4,Z⟩
    ·exact .inl g
    ·right;obtain⟨i1,V⟩:=h.WC hc (show 1-d<2 by omega) G;have X:=((h.env.i.fl.kn c d hc hd (83::s) (by rw[hF];simp)).1).1 s (.inl rfl) g1;rw[g3]at X;refine⟨rfl,i1,?_,((il s).2.1,(il s).2.2.1),X,g4,?_⟩
     ·rw[show 1-(1-d)=d by omega]at V;exact λz=>V z.symm
     ·rcases Z with Z|Z
      ·left;rw[Z];exact(hB.r _ E.1).2.2.2.1
      ·exact .inr Z
   ·left;rw[Iq _ _ s Y]
 ·rw[(U j e).1];exact .inl rfl
structure FF(N k:Nat)(a m b:AN):Prop where
 s:Ak N k [] a
 t:xN (mN a.n) a m
 p:vI m b
 l:N+8*(mN a.n).length<1000000
 k1:k<=126
 ms:Ak (N+8*(mN a.n).length) k (mN a.n) m
 ko:∀j,(m.R j).K=(a.R j).K/\(m.R j).O=(a.R j).O
 mf:∀c d,c<a.nc->d<2->∃l,m.F c d=a.F c d++l/\(a.iQ c=true->rX a c d≠rX a c (1-d)->l=Kz (rX a c d+1) (rX a c (1-d)+1)::(lE ((a.R (a.e c d).1).O (a.e c d).2)).flatMap Dv)/\(a.iQ c=false->l=[])/\(a.iQ c=true->rX a c d=rX a c (1-d)->l=[Kz (rX a c d+1) 0])
 all:∀c d,c<m.nc->d<2->m.e c d∈mN a.n
 me:m.n=a.n/\m.nc=a.nc/\m.e=a.e/\m.iQ=a.iQ
theorem SL(Z:tH a)(c d:Nat)(hc:c<a.nc)(hd:d<2):a.e c d∈mN a.n:=by
 obtain⟨Y,e2⟩:=Z.en c d hc hd;unfold mN;refine aT.2 ⟨(a.e c d).1,aQ.2 Y,?_⟩;unfold Ss;have:(a.e c d).2=0 \/(a.e c d).2=1 \/(a.e c d).2=2:=eh;rcases this with e|e|e
 ·rw[show a.e c d=((a.e c d).1,0)from aV rfl e];simp
 ·rw[show a.e c d=((a.e c d).1,1)from aV rfl e];simp
 ·rw[show a.e c d=((a.e c d).1,2)from aV rfl e];simp
theorem FF.of(s:Ak N k [] a)(t:xN (mN a.n) a m)(p:vI m b)(l:N+8*(mN a.n).length<1000000)(H:k<=126):FF N k a m b:=by
 obtain⟨nd,_,_⟩:=pz a.n;obtain⟨V,U,X⟩:=s.tks t nd l;have Z:=t.path.same;have Y:=SL s.env.i.qP;refine⟨s,t,p,l,H,V,U,λc d hc hd=> ?_,λc d hc hd=> ?_,⟨Z.1,Z.2.1,Z.2.2.1,t.len⟩⟩
 ·obtain⟨l,Q,_,M⟩:=X c d hc hd;obtain⟨b1,b2,b3⟩:=M (Y c d hc hd);exact⟨l,Q,b1,b2,b3⟩
 ·rw[Z.2.2.1];exact Y c d (by rw[<-Z.2.1];exact hc) hd
theorem FF.keep {N k:Nat} {a m b:AN} (h:FF N k a m b)(P:AN->Prop)(V:P m)(step:∀(z:AN) (c d:Nat) (x:k9) (l:List k9),Ak (N+8*(mN a.n).length) k (mN a.n) z->(z.n=a.n/\z.nc=a.nc/\z.e=a.e/\z.iQ=a.iQ)->(∀c d,c<z.nc->d<2->z.e c d∈mN a.n)->c<z.nc->d<2->z.F c d=x::l->P z->P (z.pop c d x l)):Ak (N+8*(mN a.n).length) k (mN a.n) b/\P b/\(b.n=a.n/\b.nc=a.nc/\b.e=a.e/\b.iQ=a.iQ):=by
 obtain⟨g1,Q,G,H,Y,X⟩:=h.p.keep P h.ms h.l h.k1 h.all V λz c d x l U Z hc hd hF M=>step z c d x l U ⟨Z.1.trans h.me.1,Z.2.1.trans h.me.2.1,Z.2.2.1.trans h.me.2.2.1,Z.2.2.2.trans h.me.2.2.2⟩ (λc d hc hd=>by rw[Z.2.2.1];exact h.all c d (by rw[<-Z.2.1];exact hc) hd) hc hd hF M;exact⟨g1,Q,G.trans h.me.1,H.trans h.me.2.1,Y.trans h.me.2.2.1,X.trans h.me.2.2.2⟩
theorem FF.sta(h:FF N k a m b)(Q:∀c d,c<a.nc->d<2->a.F c d=[])(Z:∀c d,c<a.nc->d<2->b.F c d=[]):Ak (N+8*(mN a.n).length) k [] b:=by
 obtain⟨s1,_,e1,X,U,M⟩:=h.keep (λ_=>True) trivial λ_ _ _ _ _ _ _ _ _ _ _ _=>trivial;obtain⟨_,hh⟩:=Cv h.t h.p h.s.env h.l h.k1 Q Z;have Y:∀c d,rX b c d=rX a c d:=λc d=>by unfold rX;rw[U]
 refine⟨s1.env,λc d hc hd hi hl=> ?_,s1.pn,λc d hc hd _ _ x hx=> ?_,s1.id⟩
 ·rw[X]at hc;rw[M]at hi;rw[Y,Y]at hl;have Z:=hh c d hc hd hi;have hb:=h.s.pb c (1-d) hc eh hi (by rw[show 1-(1-d)=d by omega];exact λz=>hl z.symm);rw[show 1-(1-d)=d by omega,af gY]at hb;obtain⟨q1,_,_⟩:=qY (q:=mK a c (1-d)) eh;rw[q1,hb.1]at Z;have V:¬((rX a c (1-d):Int)+1=(rX a c d:Int)+1):=eh;have Z:mK b c d=jg ((rX a c d:Int)+1) ((rX a c (1-d):Int)+1) ((rX a c d:Int)+1):=Z;unfold jg at Z;rw[af V]at Z;rw[Z,Y];refine⟨rfl,gY,?_⟩;rw[af gY];exact Int.le_refl _
 ·rw[X]at hc;rw[Z c d hc hd]at hx;simp at hx
theorem FF.mono(h:FF N k a m b)(j:Nat):pv (a.R j).K (b.R j).K:=by
 obtain⟨_,g,_⟩:=h.keep (λz=>pv (a.R j).K (z.R j).K) (by rw[(h.ko j).1];exact pv.refl _) λz c d x l X _ Y hc hd hF Z=>Z.trans (X.FD h.l h.k1 Y hc hd hF j);exact g
theorem Mh {F:Int->Option PS} (hy:1<=y/\y<=6)(h:F y=μ q):(y,q)∈lE F:=by
 unfold lE;refine cD.2 ⟨(y-1).toNat,aQ.2 eh,?_⟩;have e:(((y-1).toNat:Nat):Int)+1=y:=eh;rw[e,h];rfl
theorem JQ(h:oy y q.1 q.2=0):Dv (y,q)=[83::rb y q.1 q.2] :=by
 unfold Dv;have:=Dy h;rw[ai (by show(rb y q.1 q.2).length+1<=60;omega)]
theorem FF.spread(h:FF N k a m b)(h1:∀c d,c<a.nc->d<2->b.F c d=[])(hc:c<a.nc)(hd:d<2)(hi:a.iQ c=true)(hl:rX a c d≠rX a c (1-d))(V:(a.R (rX a c d)).K y=μ q):yc (b.R (rX a c (1-d))).K y q.1 q.2:=by
 obtain⟨B,hB⟩:=h.s.env.i.own;obtain⟨C,hC⟩:=h.ms.env.i.own;have Aq:=h.s.env.i.qP.en c d hc hd;have U:=hB.r _ Aq.1;have hm:yc (m.R (rX a c (1-d))).K y q.1 q.2 \/ ∃x∈m.F c d,∃s,x=83::s/\(il s).2.2.2=0/\(il s).1=y/\0<=lS (il s).2.1 (il s).2.2.1 q.1 q.2:=by
  cases j:(a.R (rX a c d)).O (a.e c d).2 y with
  |none=>
   left;rw[(h.ko _).1];exact h.s.env.i.fl.o c d hc hd (h.s.pb c d hc hd hi hl).2.1 y q V j
  |some u=>
   right;have hu:=U.1.tie _ _ _ j;have G:u=q:=by
    have e:(a.R (rX a c d)).K y=μ u:=hu;rw[V]at e;exact(Option.some.inj e).symm
   subst G;obtain⟨l,f1,f2,_⟩:=h.mf c d hc hd;have hv:=U.1.val y u V;have hy:=U.2.1.Po y (by rw[show(a.R (a.e c d).1).K y=μ u from V];rfl);refine⟨83::rb y u.1 u.2,?_,_,rfl,?_⟩
   ·rw[f1,f2 hi hl];refine aw.2 (.inr (aP.2 (.inr (aT.2 ⟨(y,u),Mh hy j,?_⟩))));rw[JQ hv];simp
   ·rw[nO _ _ _ hv];exact⟨rfl,rfl,by rw[n8];exact Int.le_refl _⟩
 obtain⟨_,g,e1,e2,e3,e4⟩:=h.keep (λz=>yc (z.R (rX a c (1-d))).K y q.1 q.2 \/ ∃x∈z.F c d,∃s,x=83::s/\(il s).2.2.2=0/\(il s).1=y/\0<=lS (il s).2.1 (il s).2.2.1 q.1 q.2) hm λz c' d' x l Y E hT jX kf hF hP=>by
  have hmono:=Y.FD h.l h.k1 hT jX kf hF;rcases hP with g|⟨w,w1,s,Q,X,M,w5⟩
  ·exact .inl (g.mono (hmono _))
  ·have Z:c<z.nc:=by rw[E.2.1];exact hc
   obtain⟨em,f⟩:=(Y.env.pop h.l h.k1 jX kf hF).2.2 c d Z hd;by_cases e:c=c'/\d=d'
   ·obtain⟨z1,z2⟩:=e;subst z1 z2;rw[ai ⟨rfl,rfl⟩]at f;rw[hF]at w1;rcases aP.1 w1 with v|v
    ·left;have hx:x=83::s:=by rw[<-v];exact Q
     obtain⟨_,_,g2,_⟩:=Y.pop h.l h.k1 hT Z hd hF;obtain⟨D,H⟩:=Y.env.i.own;have Av:∀d,rX z c d=rX a c d:=λd=>by unfold rX;rw[E.2.2.1]
     rw[<-Av,g2,hx];have iN:=(H.r _ (Y.env.i.qP.en c (1-d) Z eh).1).2.1;have hb:=(Y.pb c (1-d) Z eh (by rw[E.2.2.2];exact hi) (by rw[Av,Av,show 1-(1-d)=d by omega];exact λw=>hl w.symm)).2.1;have hle:=H.f c d Z hd x (by rw[hF];simp) s hx X;have kB:=H.b;have:=h.l;have hk:=adF iN (z.e c (1-d)).2 s X hb eh;rw[M]at hk;exact hk.trans w5
    ·right;exact⟨w,by rw[f];simp[v],s,Q,X,M,w5⟩
   ·right;rw[af e]at f;exact⟨w,by rw[f];simp[w1],s,Q,X,M,w5⟩
 rcases g with g|⟨x,hx,_⟩
 ·exact g
 ·rw[h1 c d hc hd]at hx;simp at hx
def Cl(a:AN)(C:Nat->Prop):Prop:=∀c d,c<a.nc->d<2->a.iQ c=true->rX a c d≠rX a c (1-d)->C (rX a c d)->C (rX a c (1-d))
def Bd(C:Nat->Prop)(y:Int)(a0 a:AN):Prop:=∀x,C x->∀q:PS,(a.R x).K y=μ q->(∃x0,C x0/\yc (a0.R x0).K y q.1 q.2) \/ ∃i,C i/\(i:Int)+1=y/\yc (a.R i).K y q.1 q.2
theorem FF.bd(h:FF N k a m b)(hC:Cl a C) {a0:AN} (hB:Bd C y a0 a):Bd C y a0 b:=by
 have hm:Bd C y a0 m:=λx hx q Z=>by
  rw[(h.ko x).1]at Z;rcases hB x hx q Z with g|⟨i,g1,X,U⟩
  ·exact .inl g
  ·exact .inr ⟨i,g1,X,by rw[(h.ko i).1];exact U⟩
 obtain⟨_,g,_⟩:=h.keep (Bd C y a0) hm λz c d x l hz G hT hc hd hF hP=>by
  have hmono:=hz.FD h.l h.k1 hT hc hd hF;have V:∀q:PS,((∃x0,C x0/\yc (a0.R x0).K y q.1 q.2) \/ ∃i,C i/\(i:Int)+1=y/\yc (z.R i).K y q.1 q.2)->(∃x0,C x0/\yc (a0.R x0).K y q.1 q.2) \/ ∃i,C i/\(i:Int)+1=y/\yc ((z.pop c d x l).R i).K y q.1 q.2:=λq Z=>by
   rcases Z with g|⟨i,g1,X,U⟩
   ·exact .inl g
   ·exact .inr ⟨i,g1,X,U.mono (hmono i)⟩
  intro j E q Z;rcases hz.news h.l h.k1 hT hc hd hF j y with g|⟨g1,X,U,u,⟨v,v1,v2⟩,g5,Y⟩
  ·rw[g]at Z;exact V q (hP j E q Z)
  ·have Q:∀d,rX z c d=rX a c d:=λd=>by unfold rX;rw[G.2.2.1]
   rcases Y with Y|Y
   ·exact .inr ⟨j,E,Y.symm,uB Z⟩
   ·rw[Y]at Z;injection Z with Z
    subst Z;have H:C (rX z c d):=by
     have:=hC c (1-d) (by rw[<-G.2.1];exact hc) eh (by rw[<-G.2.2.2];exact X) (by rw[<-Q,<-Q,show 1-(1-d)=d by omega];exact λw=>U w.symm);rw[<-Q,<-Q,show 1-(1-d)=d by omega]at this;exact this (by rw[<-g1];exact E)
    refine V u ?_;rcases hP _ H v v1 with⟨x0,w1,M⟩|⟨i,w1,M,w3⟩
    ·exact .inl ⟨x0,w1,M.trans v2⟩
    ·exact .inr ⟨i,w1,M,w3.trans v2⟩
 exact g
def Bo(C:Nat->Prop)(i:Nat)(o:PS)(a:AN):Prop:=(a.R i).K ((i:Int)+1)=μ o/\∀x,C x->∀q:PS,(a.R x).K ((i:Int)+1)=μ q->0<=lS o.1 o.2 q.1 q.2
theorem JR {u:PS} (h:K y=μ o)(g:0<=lS o.1 o.2 u.1 u.2):¬0<newF K y u.1 u.2:=by
 rw[n9 h,ub];omega
theorem FF.bo(h:FF N k a m b)(hC:Cl a C) {i:Nat} (hi:C i)(E:Bo C i o a):Bo C i o b:=by
 have hm:Bo C i o m:=⟨by rw[(h.ko i).1];exact E.1,λx hx q Z=>E.2 x hx q (by rw[<-(h.ko x).1];exact Z)⟩
 obtain⟨_,g,_⟩:=h.keep (Bo C i o) hm λz c d x l hz H hT hc hd hF V=>by
  have X:∀d,rX z c d=rX a c d:=λd=>by unfold rX;rw[H.2.2.1]
  have key:∀j,C j->((z.pop c d x l).R j).K ((i:Int)+1)=(z.R j).K ((i:Int)+1) \/(j≠i/\∃u:PS,((z.pop c d x l).R j).K ((i:Int)+1)=μ u/\0<=lS o.1 o.2 u.1 u.2):=λj U=>by
   rcases hz.news h.l h.k1 hT hc hd hF j ((i:Int)+1)with g|⟨g1,Q,g3,u,⟨v,v1,v2⟩,g5,Y⟩
   ·exact .inl g
   ·have M:C (rX z c d):=by
     have:=hC c (1-d) (by rw[<-H.2.1];exact hc) eh (by rw[<-H.2.2.2];exact Q) (by rw[<-X,<-X,show 1-(1-d)=d by omega];exact λw=>g3 w.symm);rw[<-X,<-X,show 1-(1-d)=d by omega]at this;exact this (by rw[<-g1];exact U)
    have G:0<=lS o.1 o.2 u.1 u.2:=(yj (V.2 _ M v v1) v2).1;by_cases e:j=i
    ·subst e;exact absurd g5 (JR V.1 G)
    ·right;refine⟨e,u,?_,G⟩;rcases Y with Y|Y
     ·exact absurd eh e
     ·exact Y
  refine⟨?_,λj U q Z=> ?_⟩
  ·rcases key i hi with g|g
   ·rw[g];exact V.1
   ·exact absurd rfl g.1
  ·rcases key j U with g|⟨_,u,g1,Q⟩
   ·rw[g]at Z;exact V.2 j U q Z
   ·rw[g1]at Z;injection Z with Z;rw[<-Z];exact Q
 exact g
def Be(C:Nat->Prop)(y:Int)(v:Option PS)(a:AN):Prop:=∀x,C x->(a.R x).K y=v
theorem FF.be(h:FF N k a m b)(hC:Cl a C) {v:Option PS} (E:Be C y v a):Be C y v b:=by
 have hm:Be C y v m:=λx hx=>by rw[(h.ko x).1];exact E x hx
 obtain⟨_,g,_⟩:=h.keep (Be C y v) hm λz c d x l H V M hc hd hF Y=>by
  have Z:∀d,rX z c d=rX a c d:=λd=>by unfold rX;rw[V.2.2.1]
  intro j U;rcases H.news h.l h.k1 M hc hd hF j y with g|⟨g1,G,g3,u,⟨w,v1,v2⟩,Q,g6⟩
  ·rw[g];exact Y j U
  ·have X:C (rX z c d):=by
    have:=hC c (1-d) (by rw[<-V.2.1];exact hc) eh (by rw[<-V.2.2.2];exact G) (by rw[<-Z,<-Z,show 1-(1-d)=d by omega];exact λw=>g3 w.symm);rw[<-Z,<-Z,show 1-(1-d)=d by omega]at this;exact this (by rw[<-g1];exact U)
   rw[Y _ X]at v1;exact absurd Q (JR (by rw[Y j U];exact v1) v2)
 exact g
def Adj(a:AN)(x z:Nat):Prop:=∃c d,c<a.nc/\d<2/\a.iQ c=true/\rX a c d=x/\rX a c (1-d)=z/\x≠z
theorem Adj.symm {a:AN} {x z:Nat} (h:Adj a x z):Adj a z x:=by
 obtain⟨c,d,Y,h2,Z,U,V,X⟩:=h;exact⟨c,1-d,Y,eh,Z,V,by rw[show 1-(1-d)=d by omega];exact U,X.symm⟩
inductive Way(a:AN):Nat->Nat->Nat->Prop
 |here (x:Nat):Way a 0 x x
 |stay {k x z:Nat}:Way a k x z->Way a (k+1) x z
 |go {k x w z:Nat}:Way a k x w->Adj a w z->Way a (k+1) x z
def oq(a:AN)(x z:Nat):Prop:=∃k,Way a k x z
theorem oq.trans {w:Nat} (h:oq a x w)(g:oq a w z):oq a x z:=by
 obtain⟨k,g⟩:=g
 induction g with
 |here=>exact h
 |stay _ ih=>exact ih h
 |go _ s ih=>obtain⟨j,Z⟩:=ih h;exact⟨j+1,Z.go s⟩
theorem oq.adj(h:Adj a x z):oq a x z:=⟨1,(Way.here x).go h⟩
theorem oq.symm {a:AN} {x z:Nat} (h:oq a x z):oq a z x:=by
 obtain⟨k,g⟩:=h
 induction g with
 |here=>exact⟨0,Way.here _⟩
 |stay _ ih=>exact ih
 |go _ s ih=>exact(oq.adj s.symm).trans ih
theorem Way.lt(Z:tH a)(h:Way a k x z)(hx:x<a.n):z<a.n:=by
 induction h with
 |here=>exact hx
 |stay _ ih=>exact ih hx
 |go _ s _=>
  obtain⟨c,d,Y,h2,_,_,X,_⟩:=s;rw[<-X];exact(Z.en c (1-d) Y eh).1
theorem Way.more {a:AN} {k x z:Nat} (h:Way a k x z):∀j,Way a (k+j) x z
 |0=>h
 |j+1=>(Way.more h j).stay
open Classical in
noncomputable def Ot (a:AN) (x k:Nat):Nat:=sm (λz=>if Way a k x z then 1 else 0) (fW a.n)
theorem yX {a:AN} (Z:tH a) {x k:Nat} (hx:x<a.n)(h:∀z,z<a.n->Way a (k+1) x z->Way a k x z):∀j z,Way a (k+j) x z->Way a k x z
 |0,_,g=>g
 |j+1,z,g=>by
  have Y:=g.lt Z hx;cases g with
  |stay g=>exact yX Z hx h j z g
  |go g s=>exact h z Y ((yX Z hx h j _ g).go s)
theorem Zx(n:Nat):sm (λ_:Nat=>1) (fW n)=n:=by
 unfold sm
 induction n with
 |zero=>rfl
 |succ n ih=>rw[bZ,cU,List.sum_append,ih];rfl
open Classical in
theorem Zy(X:tH a)(hx:x<a.n)(h:oq a x z):Way a 6 x z:=by
 obtain⟨m,U⟩:=h;have key:∀k,k+1<=Ot a x k \/ ∃j,j<k/\∀z,z<a.n->Way a (j+1) x z->Way a j x z:=λk=>by
  induction k with
  |zero=>
   left;have:=zZ (f:=λ_:Nat=>0) (g:=λz=>if Way a 0 x z then 1 else 0) (y:=x) (k:=1) bX (aQ.2 hx) λz _=>by
    by_cases e:z=x
    ·subst e;rw[ai rfl,ai (Way.here z)];exact Nat.le_refl _
    ·rw[af e];exact Nat.zero_le _
   show 0+1<=Ot a x 0;unfold Ot;omega
  |succ k ih=>
   rcases ih with g|⟨j,Q,Y⟩
   ·by_cases hc:∀z,z<a.n->Way a (k+1) x z->Way a k x z
    ·exact .inr ⟨k,eh,hc⟩
    ·left;have:∃z,z<a.n/\Way a (k+1) x z/\¬Way a k x z:=by
      by_cases hh:∃z,z<a.n/\Way a (k+1) x z/\¬Way a k x z
      ·exact hh
      ·exact absurd (λz H Z=>by
        by_cases V:Way a k x z
        ·exact V
        ·exact absurd ⟨z,H,Z,V⟩ hh) hc
     obtain⟨z,G,E,M⟩:=this;have:=zZ (f:=λz=>if Way a k x z then 1 else 0) (g:=λz=>if Way a (k+1) x z then 1 else 0) (y:=z) (k:=1) bX (aQ.2 G) λw _=>by
      by_cases e:w=z
      ·subst e;rw[ai rfl,ai E,af M];exact Nat.le_refl _
      ·rw[af e];by_cases Z:Way a k x w
       ·rw[ai Z,ai Z.stay];exact Nat.le_refl _
       ·rw[af Z];exact Nat.zero_le _
     show k+1+1<=Ot a x (k+1);unfold Ot at g⊢;omega
   ·exact .inr ⟨j,eh,Y⟩
 rcases key 6 with g|⟨j,Q,Y⟩
 ·exfalso;have:Ot a x 6<=a.n:=by
   unfold Ot;refine Nat.le_trans (vu (g:=λ_=>1) λz _=> ?_) (Nat.le_of_eq (Zx a.n));split
   ·exact Nat.le_refl _
   ·exact Nat.zero_le _
  have:=X.n6;omega
 ·have u:Way a j x z:=by
   by_cases hjm:j<=m
   ·have:=yX X hx Y (m-j) z (by rw[show j+(m-j)=m by omega];exact U);exact this
   ·have:=U.more (j-m);rw[show m+(j-m)=j by omega]at this;exact this
  have:=u.more (6-j);rw[show j+(6-j)=6 by omega]at this;exact this
structure Run(k J:Nat)(A:Nat->AN):Prop where
 r:∀j,j<J->∃N m,FF N k (A j) m (A (j+1))
 z:∀j,j<=J->∀c d,c<(A j).nc->d<2->(A j).F c d=[]
theorem FF.same(h:FF N k a m b):b.n=a.n/\b.nc=a.nc/\b.e=a.e/\b.iQ=a.iQ:=(h.keep (λ_=>True) trivial λ_ _ _ _ _ _ _ _ _ _ _ _=>trivial).2.2
theorem Run.same {k J:Nat} {A:Nat->AN} (h:Run k J A):∀j,j<=J->(A j).n=(A 0).n/\(A j).nc=(A 0).nc/\(A j).e=(A 0).e/\(A j).iQ=(A 0).iQ
 |0,_=>⟨rfl,rfl,rfl,rfl⟩
 |j+1,hj=>by
  obtain⟨N,m,V⟩:=h.r j eh;obtain⟨Z,U,Y,X⟩:=Run.same h j eh;obtain⟨b1,b2,b3,b4⟩:=V.same;exact⟨b1.trans Z,b2.trans U,b3.trans Y,b4.trans X⟩
theorem Run.spread {k J:Nat} {A:Nat->AN} (h:Run k J A) {i x z:Nat} (hw:Way (A 0) i x z):∀j,j+i<=J->∀(y:Int) (q:PS),((A j).R x).K y=μ q->yc ((A (j+i)).R z).K y q.1 q.2:=by
 induction hw with
 |here=>intro j _ y q Z;exact uB Z
 | @stay i x z _ ih=>
   intro j hj y q Z;obtain⟨N,m,X⟩:=h.r (j+i) eh;exact(ih j eh y q Z).mono (X.mono z)
 | @go i x w z _ s ih=>
   intro j hj y q Z;obtain⟨u,u1,u2⟩:=ih j eh y q Z;obtain⟨N,m,X⟩:=h.r (j+i) eh;obtain⟨e1,e2,G,e4⟩:=h.same (j+i) eh;obtain⟨c,d,M,E,Q,U,V,h6⟩:=s;have Y:∀d,rX (A (j+i)) c d=rX (A 0) c d:=λd=>by unfold rX;rw[G]
   have:=X.spread (λc' d' jX H=>h.z (j+i+1) eh c' d' (by rw[X.same.2.1];exact jX) H) (c:=c) (d:=d) (by rw[e2];exact M) E (by rw[e4];exact Q) (by rw[Y,Y,U,V];exact h6) (y:=y) (q:=u) (by rw[Y,U];exact u1);rw[Y,V]at this;exact this.trans u2
theorem Run.cl(h:Run k J A)(x:Nat) {j:Nat} (X:j<=J):Cl (A j) (oq (A 0) x):=λc d hc hd hi hl hC=>by
 obtain⟨e1,V,Y,U⟩:=h.same j X;have Z:∀d,rX (A j) c d=rX (A 0) c d:=λd=>by unfold rX;rw[Y]
 rw[Z,Z]at hl;rw[Z]at hC⊢;exact hC.trans (oq.adj ⟨c,d,by rw[<-V];exact hc,hd,by rw[<-U];exact hi,rfl,rfl,hl⟩)
theorem WD {L:Int->Option PS} {p:PS} (Y:K y=μ p)(X:L y=μ q)(Z:yc L y p.1 p.2)(U:yc K y q.1 q.2):p=q:=by
 obtain⟨u,u1,u2⟩:=Z;obtain⟨v,v1,v2⟩:=U;rw[X]at u1;rw[Y]at v1;injection u1 with u1
 injection v1 with v1
 subst u1 v1;rw[ub]at v2;have V:lS q.1 q.2 p.1 p.2=0:=eh;have:=Ax.1 V;exact aV this.1.symm this.2.symm
theorem Run.equal(h:Run k J A)(hJ:12<=J) {x0:Nat} (hx0:x0<(A 0).n)(y:Int):∃v,Be (oq (A 0) x0) y v (A 12):=by
 obtain⟨N0,m0,r0⟩:=h.r 0 eh;have xe:=r0.s.env.i.qP;have kB:∀x,oq (A 0) x0 x->x<(A 0).n:=λx hx=>by obtain⟨k,V⟩:=hx;exact V.lt xe hx0
 have M:∀x z,oq (A 0) x0 x->oq (A 0) x0 z->Way (A 0) 6 x z:=λx z hx hz=>Zy xe (kB x hx) (hx.symm.trans hz);have bd:∀j,j<=6->Bd (oq (A 0) x0) y (A 0) (A j):=λj=>by
  induction j with
  |zero=>intro _ x hx q Z;exact .inl ⟨x,hx,uB Z⟩
  |succ j ih=>
   intro hj;obtain⟨N,m,Y⟩:=h.r j eh;exact Y.bd (h.cl x0 eh) (ih eh)
 have b6:=bd 6 (Nat.le_refl _);have be:∀j i v,Be (oq (A 0) x0) y v (A j)->j+i<=J->Be (oq (A 0) x0) y v (A (j+i)):=λj i v hv=>by
  induction i with
  |zero=>intro _;exact hv
  |succ i ih=>
   intro hi;obtain⟨N,m,Y⟩:=h.r (j+i) eh;exact Y.be (h.cl x0 eh) (ih eh)
 by_cases jl:∃i,oq (A 0) x0 i/\(i:Int)+1=y
 ·obtain⟨i,hi,hy⟩:=jl;subst hy;obtain⟨N6,m6,r6⟩:=h.r 6 eh;obtain⟨B,hB⟩:=r6.s.env.i.own;obtain⟨H,_,_,_⟩:=h.same 6 eh;have Gl:=hB.r i (by rw[H];exact kB i hi);obtain⟨o,X,_⟩:=Gl.2.1.own;rw[Gl.2.2.2.1]at X;have o6:Bo (oq (A 0) x0) i o (A 6):=by
   refine⟨X,λx hx q Z=> ?_⟩;have V:yc ((A 6).R i).K ((i:Int)+1) q.1 q.2:=by
    rcases b6 x hx q Z with⟨x1,g1,u,u1,u2⟩|⟨i',g1,g2,g3⟩
    ·have:=h.spread (M x1 i g1 hi) 0 eh ((i:Int)+1) u u1;exact this.trans u2
    ·have:i'=i:=eh;subst this;exact g3
   obtain⟨u,u1,u2⟩:=V;rw[X]at u1;injection u1 with u1;rw[u1];exact u2
  have bo:∀j,j<=6->Bo (oq (A 0) x0) i o (A (6+j)):=λj=>by
   induction j with
   |zero=>intro _;exact o6
   |succ j ih=>
    intro hj;obtain⟨N,m,Y⟩:=h.r (6+j) eh;exact Y.bo (h.cl x0 eh) hi (ih eh)
  have E:=bo 6 (Nat.le_refl _);refine⟨μ o,λx hx=> ?_⟩;obtain⟨u,u1,u2⟩:=h.spread (M i x hi hx) 6 eh ((i:Int)+1) o X;have U:=E.2 x hx u u1;rw[u1];congr 1;rw[ub]at U;have h0:lS u.1 u.2 o.1 o.2=0:=eh;have:=Ax.1 h0;exact aV this.1 this.2
 ·have left:∀x,oq (A 0) x0 x->∀q:PS,((A 6).R x).K y=μ q->∃x1,oq (A 0) x0 x1/\yc ((A 0).R x1).K y q.1 q.2:=λx hx q Z=>by
   rcases b6 x hx q Z with g|⟨i,g1,g2,_⟩
   ·exact g
   ·exact absurd ⟨i,g1,g2⟩ jl
  have up:∀x z,oq (A 0) x0 x->oq (A 0) x0 z->∀q:PS,((A 6).R x).K y=μ q->yc ((A 6).R z).K y q.1 q.2:=λx z hx hz q Z=>by
   obtain⟨x1,g1,u,u1,u2⟩:=left x hx q Z;exact(h.spread (M x1 z g1 hz) 0 eh y u u1).trans u2
  have G:oq (A 0) x0 x0:=⟨0,Way.here _⟩
  refine⟨((A 6).R x0).K y,be 6 6 _ (λx hx=> ?_) eh⟩;cases Q:((A 6).R x0).K y with
  |none=>
   cases H:((A 6).R x).K y with
   |none=>rfl
   |some q=>
    obtain⟨u,u1,_⟩:=up x x0 hx G q H;rw[Q]at u1;exact absurd u1 gY
  |some p=>
   obtain⟨q,q1,q2⟩:=up x0 x G hx p Q;rw[q1];congr 1;exact(WD Q q1 ⟨q,q1,q2⟩ (up x x0 hx G q q1)).symm
def EqA(a:AN):Prop:=∀c d,c<a.nc->d<2->a.iQ c=true->rX a c d≠rX a c (1-d)->(a.R (rX a c d)).K=(a.R (rX a c (1-d))).K
def OwN(a:AN):Prop:=∀c d,c<a.nc->d<2->a.iQ c=true->rX a c d≠rX a c (1-d)->∀y,(a.R (rX a c d)).O (a.e c d).2 y=ν
theorem Run.eqA(h:Run k J A)(Y:12<=J):EqA (A 12):=λc d hc hd hi hl=>by
 obtain⟨e1,X,V,Q⟩:=h.same 12 Y;obtain⟨N0,m0,U⟩:=h.r 0 eh;have Z:∀d,rX (A 12) c d=rX (A 0) c d:=λd=>by unfold rX;rw[V]
 have hx:rX (A 12) c d<(A 0).n:=by rw[Z];exact(U.s.env.i.qP.en c d (by rw[<-X];exact hc) hd).1
 funext y
 obtain⟨v,hv⟩:=h.equal Y hx y;rw[hv _ ⟨0,Way.here _⟩];rw[hv (rX (A 12) c (1-d)) (oq.adj ⟨c,d,by rw[<-X];exact hc,hd,by rw[<-Q];exact hi,(Z d).symm,(Z (1-d)).symm,hl⟩)]
theorem ahj(i:Nat)(s:List UInt8)(h:(il s).2.2.2=0->(r.P i).pe.both=true->r.K (il s).1=μ ((il s).2.1,(il s).2.2.1))(j:Nat)(y:Int)(Z:r.O j y=ν):(ji r i s).O j y=ν:=by
 unfold ji;simp only;split
 ·exact Z
 ·rename_i g
  have V:(il s).2.2.2=0:=eh;have hb:(r.P i).pe.both=true:=by
   cases hb:(r.P i).pe.both
   ·exact absurd (.inr hb) g
   ·rfl
  have U:=h V hb;have Y:newF r.K (il s).1 (il s).2.1 (il s).2.2.1=0:=by rw[n9 U];exact n8 _ _
  rw[Y];rw[af gY];have X:oR r.K r.O i (il s).1 (il s).2.1 (il s).2.2.1 j y=ν:=by
   unfold oR;rw[Y,af eA,af eA];split
   ·rename_i e
    show(if y=(il s).1 then ν else r.O i y)=ν;split
    ·rfl
    ·rw[<-e];exact Z
   ·exact Z
  split
  ·exact X
  ·exact X
theorem Zz(Z:J2 r)(i:Nat)(s:List UInt8)(Y:(il s).2.2.2=0)(hb:(r.P i).pe.both=true)(X:(r.P i).L.st=9)(H:r.K (il s).1=μ ((il s).2.1,(il s).2.2.1)):jk ((jM r i (83::s)).P i)=[65::rb (il s).1 (il s).2.1 (il s).2.2.1] :=by
 have U:jM r i (83::s)=ji r i s:=by
  show r.take i 83 s=_;rw[lJ,uz i s eA,af (by rw[X];simp)];unfold mA;rw[af eA,ai rfl]
 rw[U];have Q:newF r.K (il s).1 (il s).2.1 (il s).2.2.1=0:=by rw[n9 H];exact n8 _ _
 unfold ji;simp only;rw[af (by rw[hb];simp;exact Y),Q,af gY,ai eA,kN,ai rfl];have hv:oy (il s).1 (il s).2.1 (il s).2.2.1=0:=pO (by rw[<-Y]);have hlen:=Dy hv;obtain⟨z,M⟩:∃z:iM,({r with K:=lr r.K (il s).1 (il s).2.1 (il s).2.2.1,O:=oR r.K r.O i (il s).1 (il s).2.1 (il s).2.2.1}:iM)=z:=⟨_,rfl⟩
 have hzP:z.P i=r.P i:=by rw[<-M]
 have V:=uy (p:=r.P i) (Z.fr i) 65 (rb (il s).1 (il s).2.1 (il s).2.2.1);rw[af (by rw[X];simp;omega),jz (Z i)]at V;exact V
def FE(a:AN):Prop:=∀c d,c<a.nc->d<2->a.iQ c=true->rX a c d≠rX a c (1-d)->∀x∈a.F c d,∀s,(x=83::s \/x=65::s)->(il s).2.2.2=0->(a.R (rX a c d)).K (il s).1=μ ((il s).2.1,(il s).2.2.1)
theorem FF.paid(h:FF N k a m b)(h0:∀c d,c<a.nc->d<2->a.F c d=[])(h1:∀c d,c<a.nc->d<2->b.F c d=[])(MO:EqA a):(∀j,(b.R j).K=(a.R j).K)/\EqA b/\OwN b:=by
 obtain⟨B,hB⟩:=h.s.env.i.own;have H:∀c d,rX m c d=rX a c d:=λc d=>by unfold rX;rw[h.me.2.2.1]
 have adH:∀ {y:Int} {q:PS},oy y q.1 q.2=0->il (rb y q.1 q.2)=(y,q.1,q.2,0):=λhv=>nO _ _ _ hv
 let P:AN->Prop:=λz=>((∀j,(z.R j).K=(a.R j).K)/\FE z)/\∀c d,c<a.nc->d<2->a.iQ c=true->rX a c d≠rX a c (1-d)->∀y,(z.R (rX a c d)).O (a.e c d).2 y=ν \/ ∃q:PS,(a.R (rX a c d)).K y=μ q/\(83::rb y q.1 q.2∈z.F c d \/65::rb y q.1 q.2∈z.F c (1-d))
 have hm:P m:=by
  refine⟨⟨λj=>(h.ko j).1,λc d hc hd hi hl x hx s hs Z=> ?_⟩,λc d hc hd hi hl y=> ?_⟩
  ·rw[h.me.2.1]at hc;rw[h.me.2.2.2]at hi;rw[H,H]at hl;obtain⟨l,f1,f2,_⟩:=h.mf c d hc hd;rw[f1,h0 c d hc hd,bW,f2 hi hl]at hx;rw[H,(h.ko _).1];have U:=hB.r _ (h.s.env.i.qP.en c d hc hd).1;rcases aP.1 hx with g|g
   ·rw[g]at hs;rcases hs with e|e<;>exact absurd (aD e).1 eA
   ·obtain⟨q,q1,q2⟩:=aT.1 g;have Y:=U.1.tie _ _ _ (xC q1);have hv:=U.1.val _ _ Y;have q2:x∈Dv (q.1,q.2):=q2;rw[JQ hv]at q2;have vC:=au.1 q2;have hs':s=rb q.1 q.2.1 q.2.2:=by
     rw[vC]at hs;rcases hs with e|e
     ·exact(aD e).2.symm
     ·exact absurd (aD e).1 eA
    rw[hs',adH hv];exact Y
  ·rw[(h.ko _).2];cases hO:(a.R (rX a c d)).O (a.e c d).2 y with
   |none=>exact .inl rfl
   |some q=>
    right;have U:=hB.r _ (h.s.env.i.qP.en c d hc hd).1;have Y:=U.1.tie _ _ _ hO;have hv:=U.1.val _ _ Y;have hy:=U.2.1.Po y (by rw[Y];rfl);obtain⟨l,f1,f2,_⟩:=h.mf c d hc hd;refine⟨q,Y,.inl ?_⟩;rw[f1,f2 hi hl];refine aw.2 (.inr (aP.2 (.inr (aT.2 ⟨(y,q),Mh hy hO,?_⟩))));rw[JQ hv];simp
 obtain⟨_,⟨⟨g1,_⟩,g3⟩,e1,e2,e3,e4⟩:=h.keep P hm λz c d x l Z G hT hc hd hF hP=>by
  obtain⟨⟨p1,p2⟩,p3⟩:=hP;have X:∀c d,rX z c d=rX a c d:=λc d=>by unfold rX;rw[G.2.2.1]
  obtain⟨_,k1,k2,k3⟩:=Z.pop h.l h.k1 hT hc hd hF;obtain⟨D,hD⟩:=Z.env.i.own;have RU:=Z.env.i.nrm;have Wu:x∈z.F c d:=by rw[hF];simp
  have ahk:z.iQ c=true->rX z c d≠rX z c (1-d)->(z.R (rX z c d)).K=(z.R (rX z c (1-d))).K:=λhi hl=>by
   rw[p1,p1,X,X];exact MO c d (by rw[<-G.2.1];exact hc) hd (by rw[<-G.2.2.2];exact hi) (by rw[<-X,<-X];exact hl)
  have Y:∀j,((z.pop c d x l).R j).K=(z.R j).K:=λj=>by
   funext y
   rcases Z.news h.l h.k1 hT hc hd hF j y with g|⟨g1,g2,g3,u,⟨v,v1,v2⟩,g5,_⟩
   ·exact g
   ·rw[ahk g2 g3,<-g1]at v1;exact absurd g5 (JR v1 v2)
  have JT:∀c' d',c'<z.nc->d'<2->∃em,(z.pop c d x l).F c' d'=(if c'=c/\d'=d then l else z.F c' d')++em:=(Z.env.pop h.l h.k1 hc hd hF).2.2;have kr:∀s,x=83::s->(il s).2.2.2=0->((z.R (rX z c (1-d))).P (z.e c (1-d)).2).pe.both=true->(z.iQ c=true/\rX z c d≠rX z c (1-d))/\(z.R (rX z c (1-d))).K (il s).1=μ ((il s).2.1,(il s).2.2.1):=λs hs mO hb=>by
   obtain⟨i1,i2⟩:=Z.WC hc (show 1-d<2 by omega) hb;rw[show 1-(1-d)=d by omega]at i2;refine⟨⟨i1,λw=>i2 w.symm⟩,?_⟩;rw[<-ahk i1 λw=>i2 w.symm];exact p2 c d hc hd i1 (λw=>i2 w.symm) x Wu s (.inl hs) mO
  have hO:∀j p y,(z.R j).O p y=ν->((z.pop c d x l).R j).O p y=ν:=λj p y Q=>by
   by_cases e:j=rX z c (1-d)
   ·rw[e]at Q⊢;rw[k3];cases x with
    |nil=>exact Q
    |cons u s=>
     by_cases h83:u=83
     ·subst h83;exact ahj (z.e c (1-d)).2 s (λa1 a2=>(kr s rfl a1 a2).2) p y Q
     ·by_cases h65:u=65
      ·subst h65;show(kD (z.R (rX z c (1-d))) (z.e c (1-d)).2 s).O p y=ν;unfold kD;simp only;split
       ·show(if _ then yC _ _ else _) y=ν;split
        ·rename_i g
         show(if y=_ then ν else _)=ν;split
         ·rfl
         ·rw[<-g.1];exact Q
        ·exact Q
       ·exact Q
      ·rw[Ir _ _ s h83 h65];exact Q
   ·rw[(k1 j e).2];exact Q
  refine⟨⟨λj=>(Y j).trans (p1 j),λc' d' jX V E Xw w hw s hs mO=> ?_⟩,λc' d' jX V E Xw y=> ?_⟩
  ·
   have SM:c'<z.nc:=jX;have ahl:rX z c' d'≠rX z c' (1-d'):=Xw;show((z.pop c d x l).R (rX z c' d')).K _=_;rw[Y];have Cw:∀v,v∈(z.lv c d l).F c' d'->v∈z.F c' d':=λv hv=>by
    rw[sO]at hv;split at hv
    ·rename_i e;rw[e.1,e.2,hF];simp[hv]
    ·exact hv
   obtain⟨m1,_⟩:=qo (RU.emp (z.e c (1-d)).1) (z.e c (1-d)).2 x;unfold AN.pop at hw;rw[vD]at hw;split at hw
   ·rename_i ahm
    rcases aw.1 hw with u|u
    ·exact p2 c' d' SM V E ahl w (Cw w u) s hs mO
    ·cases m1 ((z.lv c d l).e c' d').2 with
     |none h=>rw[h]at u;simp at u
     |link s' _ _ _ h=>rw[h]at u;obtain⟨v,hv⟩:=rO u;rw[hv]at hs;rcases hs with e|e<;>exact absurd (aD e).1 eA
     |JA u1 u2 s' _ _ _ _ h=>rw[h]at u;rw[au.1 u]at hs;rcases hs with e|e<;>exact absurd (aD e).1 eA
     |heard s' vC hp' _ S1 qk _ _ h=>
      rw[h]at u;have hw':=au.1 u;have hv:oy (il s').1 (il s').2.1 (il s').2.2.1=0:=pO (by rw[<-S1]);have Tl:s=rb (il s').1 (il s').2.1 (il s').2.2.1:=by
       rw[hw']at hs;rcases hs with e|e
       ·exact absurd (aD e).1 eA
       ·exact(aD e).2.symm
      rw[Tl,nO _ _ _ hv];have zU:=Z.env.i.qP.ds c' d' c (1-d) SM V hc eh (aV ahm.2 hp');rw[zU.1,zU.2];exact(kr s' vC S1 qk).2
   ·exact p2 c' d' SM V E ahl w (Cw w hw) s hs mO
  ·
   rcases p3 c' d' jX V E Xw y with g|⟨q,q1,q2⟩
   ·exact .inl (hO _ _ _ g)
   ·have SM:c'<z.nc:=by rw[G.2.1];exact jX
    have U:=hB.r _ (h.s.env.i.qP.en c' d' jX V).1;have hv:=U.1.val y q q1;have hzX:(z.R (rX z c' d')).K y=μ q:=by rw[p1,X];exact q1
    have hzZ:(z.R (rX z c' (1-d'))).K y=μ q:=by rw[p1,X,<-MO c' d' jX V E Xw];exact q1
    rcases q2 with q2|q2
    ·by_cases e:c'=c/\d'=d
     ·obtain⟨z1,z2⟩:=e;subst z1 z2;rw[hF]at q2;rcases aP.1 q2 with v|v
      ·right;refine⟨q,q1,.inr ?_⟩;have oP:=Z.pb c' (1-d') hc eh (by rw[G.2.2.2];exact E) (by rw[X,X,show 1-(1-d')=d' by omega];exact λw=>Xw w.symm);have h9:((z.R (z.e c' (1-d')).1).P (z.e c' (1-d')).2).L.st=9:=Z.env.o c' (1-d') hc eh (by rw[G.2.2.2];exact E);have hp:=nO _ _ _ hv;have Vk:=Zz (RU.emp (z.e c' (1-d')).1) (z.e c' (1-d')).2 (rb y q.1 q.2) (by rw[hp]) oP.2.1 h9 (by rw[hp];exact hzZ);rw[hp]at Vk;rw[<-v];unfold AN.pop;rw[vD,yR,ai ⟨⟨hc,eh⟩,rfl⟩,Vk];simp
      ·right;obtain⟨em,f⟩:=JT c' d' hc hd;rw[ai ⟨rfl,rfl⟩]at f;exact⟨q,q1,.inl (by rw[f];simp[v])⟩
     ·right;obtain⟨em,f⟩:=JT c' d' SM V;rw[af e]at f;exact⟨q,q1,.inl (by rw[f];simp[q2])⟩
    ·by_cases e:c'=c/\1-d'=d
     ·obtain⟨z1,z2⟩:=e;subst z1;have GJ:1-d=d':=eh;rw[z2,hF]at q2;rcases aP.1 q2 with v|v
      ·left;have hX:rX a c' d'=rX z c' (1-d):=by rw[X,GJ]
       rw[hX,k3,<-v];show(kD (z.R (rX z c' (1-d))) (z.e c' (1-d)).2 (rb y q.1 q.2)).O (a.e c' d').2 y=ν;have hp:=nO _ _ _ hv;unfold kD;simp only;rw[hp];simp only;rw[ai trivial];have hK0:newF (z.R (rX z c' (1-d))).K y q.1 q.2=0:=by rw[GJ,n9 hzX];exact n8 _ _
       show(if(a.e c' d').2=(z.e c' (1-d)).2/\0<=newF (z.R (rX z c' (1-d))).K y q.1 q.2 then yC ((z.R (rX z c' (1-d))).O (z.e c' (1-d)).2) y else _) y=ν;rw[ai ⟨by rw[G.2.2.1,GJ],by rw[hK0];exact Int.le_refl _⟩];show(if y=y then ν else _)=ν;rw[ai rfl]
      ·right;obtain⟨em,f⟩:=JT c' (1-d') hc eh;rw[ai ⟨rfl,z2⟩]at f;exact⟨q,q1,.inr (by rw[f];simp[v])⟩
     ·right;obtain⟨em,f⟩:=JT c' (1-d') SM eh;rw[af e]at f;exact⟨q,q1,.inr (by rw[f];simp[q2])⟩
 have M:∀c d,rX b c d=rX a c d:=λc d=>by unfold rX;rw[e3]
 refine⟨g1,λc d hc hd hi hl=> ?_,λc d hc hd hi hl y=> ?_⟩
 ·rw[g1,g1,M,M];exact MO c d (by rw[<-e2];exact hc) hd (by rw[<-e4];exact hi) (by rw[<-M,<-M];exact hl)
 ·have:=g3 c d (by rw[<-e2];exact hc) hd (by rw[<-e4];exact hi) (by rw[<-M,<-M];exact hl) y;rw[M,e3];rcases this with g|⟨q,_,g|g⟩
  ·exact g
  ·rw[h1 c d (by rw[<-e2];exact hc) hd]at g;simp at g
  ·rw[h1 c (1-d) (by rw[<-e2];exact hc) eh]at g;simp at g
structure Fl(D N k:Nat)(y:iP):Prop where
 ok:j3 y D 0
 g:GN y
 f:jA y
 e:Env N k (iH y)
 s:Still y
theorem Fl.st {y:iP} (h:Fl D N k y):St D N k y:=⟨h.ok,h.g,h.f,h.e.i⟩
theorem Fl.nil {y:iP} (h:Fl D N k y)(c d:Nat)(hc:c<(iH y).nc)(hd:d<2):(iH y).F c d=[] :=h.s.f c d hc hd
theorem Fl.round {D N k:Nat} {y:iP} (h:Fl D N k y)(Z:D<=800000000)(M:N+144<1000000)(G:k+1<=126):∃m,xN (mN (iH y).n) (iH y) m/\vI m (iH y.round)/\Fl (D+1300000) (N+144) k y.round/\∀c d,c<y.nc->d<2->(y.C c).iQ=true->mK (iH y.round) c d=jg ((rX (iH y) c d:Int)+1) ((rX (iH y) c (1-d):Int)+1) (iI (mK (iH y) c (1-d))).who:=by
 obtain⟨m,V,U,X⟩:=h.st.light h.s Z M G;obtain⟨_,len,_⟩:=pz y.n;have n6:=h.ok.n6;have hl:N+8*(mN (iH y).n).length<1000000:=by show N+8*(mN y.n).length<_;rw[len];omega
 have Q:∀c d,c<(iH y).nc->d<2->(iH y.round).F c d=[] :=λc d hc hd=>X.f c d (by rw[(kJ y).2.1];exact hc) hd;obtain⟨Y,H⟩:=Cv (a:=iH y) V U h.e hl eh h.nil Q;refine⟨m,V,U,⟨h.ok.round Z,h.g.round h.ok Z,h.f.round h.ok Z,⟨Y.i.mono (by show N+8*(mN y.n).length<=_;rw[len];omega) λ_=>Nat.le_refl _,Y.o,Y.nl⟩,X⟩,λc d hc hd hi=>H c d hc hd hi⟩
theorem St.fl {y:iP} (h:St D N k y)(hD:D<=780000000)(hN:N+20*144<1000000)(G:k+8<=126):Fl (D+1300000*7) (N+144*7) (k+7) (l5 y 7):=by
 have V:=h.opens eh eh G 6 (Nat.le_refl _);simp only[Nat.reduceAdd,Nat.reduceSub]at V;obtain⟨Z,Y,X⟩:=V;obtain⟨H,U,_,Q⟩:=xG y 7;obtain⟨z,M⟩:=gg (l5 y 7);rw[M]at Z Y X H U Q⊢;exact⟨Z.ok,Z.g,Z.f,⟨Z.i,λc d hc hd hi=>(X c (by rw[<-U];exact hc) (by rw[<-(Q c).2];exact hi)).open hd,λc d hc hd x hx=>by rw[Y.f c d hc hd]at hx;simp at hx⟩,Y⟩
structure Fs(D N k:Nat)(y:iP):Prop where
 ok:j3 y D 0
 g:GN y
 f:jA y
 s:Ak N k [] (iH y)
 z:Still y
theorem Fs.fl {y:iP} (h:Fs D N k y):Fl D N k y:=⟨h.ok,h.g,h.f,h.s.env,h.z⟩
theorem Fl.two {y:iP} (h:Fl D N k y)(hD:D<=790000000)(hN:N+3*144<1000000)(j:k+1<=126):Fs (D+1300000*2) (N+144*2) k (l5 y 2):=by
 obtain⟨_,_,_,h1,p1⟩:=h.round eh eh j;obtain⟨_,_,_,Z,p2⟩:=h1.round eh eh j;obtain⟨s1,s2,_,U⟩:=kJ y;obtain⟨t1,t2,_,t4⟩:=kJ y.round;have k8:∀c d,rX (iH y.round) c d=rX (iH y) c d:=λc d=>by show((y.round.C c).e d).1=_;rw[(U c).1];rfl
 have Y:∀c d,rX (iH y.round.round) c d=rX (iH y) c d:=λc d=>by show((y.round.round.C c).e d).1=_;rw[(t4 c).1,(U c).1];rfl
 have E:(iH y.round.round).nc=y.nc:=t2.trans s2;have QQ:∀c,(iH y.round.round).iQ c=(y.C c).iQ:=λc=>((t4 c).2).trans (U c).2;obtain⟨X,hX⟩:=Z.e.i.lk;obtain⟨B,hB⟩:=Z.e.i.own;have H:∀c d,c<(iH y.round.round).nc->d<2->(mK (iH y.round.round) c d).who=0->(mK (iH y.round.round) c d).both=false:=λc d hc hd Q=>by
  have Aq:=Z.e.i.qP.en c d hc hd;have u:=hB.r _ Aq.1;have G:=u.2.1.pe ((iH y.round.round).e c d).2 (by rw[u.2.2.2.2];exact Aq.2);cases hb:(mK (iH y.round.round) c d).both
  ·rfl
  ·have:=G.both hb;unfold mK at Q;omega
 have V:∀c d,c<y.nc->d<2->(y.C c).iQ=true->mK (iH y.round.round) c d=jg ((rX (iH y) c d:Int)+1) ((rX (iH y) c (1-d):Int)+1) (iI (jg ((rX (iH y) c (1-d):Int)+1) ((rX (iH y) c d:Int)+1) (iI (mK (iH y) c d)).who)).who:=λc d hc hd hi=>by
  rw[p2 c d (by rw[s2];exact hc) hd (by rw[(U c).2];exact hi),p1 c (1-d) hc eh hi,k8,k8,show 1-(1-d)=d by omega]
 refine⟨Z.ok.mono eh (Nat.le_refl _),Z.g,Z.f,⟨⟨Z.e.i.mono eh λ_=>Nat.le_refl _,Z.e.o,Z.e.nl⟩,λc d hc hd hi hl=> ?_,λc d hc hd Am=> ?_,λc d hc hd _ _ x hx=> ?_,λi p hi G ll=> ?_⟩,Z.s⟩
 ·rw[show(iH (l5 y 2))=iH y.round.round from rfl]at*;rw[Y,Y]at hl;rw[V c d (by rw[<-E];exact hc) hd (by rw[<-QQ];exact hi),Y];have ju:¬((rX (iH y) c (1-d):Int)+1=(rX (iH y) c d:Int)+1):=eh;have M:¬((rX (iH y) c d:Int)+1=(rX (iH y) c (1-d):Int)+1):=eh;unfold jg;rw[af ju,af M];unfold iI;rw[af (by show¬(4:Int)<=1;decide)];refine⟨rfl,gY,?_⟩;rw[af gY];exact Int.le_refl _
 ·rw[show(iH (l5 y 2))=iH y.round.round from rfl]at*;have Q:(mK (iH y.round.round) c d).who=0:=by
   cases hi:(iH y.round.round).iQ c
   ·by_cases g:(mK (iH y.round.round) c d).who=0
    ·exact g
    ·have:=Z.e.i.fl.gate c d hc hd g;have:=(hX.dn c hc hi d hd).2.1;omega
   ·have hl:rX (iH y) c d=rX (iH y) c (1-d):=by
     rcases Am with g|g
     ·rw[hi]at g;exact absurd g gY
     ·rw[Y,Y]at g;exact g
    rw[V c d (by rw[<-E];exact hc) hd (by rw[<-QQ];exact hi)];unfold jg;rw[ai (by rw[hl])];rfl
  exact⟨Q,H c d hc hd Q⟩
 ·rw[show(iH (l5 y 2))=iH y.round.round from rfl]at*;rw[Z.s.f c d hc hd]at hx;simp at hx
 ·have:=Z.ok.idle i p hi G λc d hc hd=>ll c d hc hd;have V:((y.round.round.R i).P p).pe=nobody:=this.pe;exact⟨this.st,by show((y.round.round.R i).P p).pe.who=0;rw[V];rfl,by show((y.round.round.R i).P p).pe.both=false;rw[V];rfl⟩
theorem Fs.round {D N k:Nat} {y:iP} (h:Fs D N k y)(U:D<=800000000)(Q:N+144<1000000)(M:k+1<=126):∃m,FF N k (iH y) m (iH y.round)/\Fs (D+1300000) (N+144) k y.round:=by
 obtain⟨m,X,V,Z,_⟩:=h.fl.round U Q M;obtain⟨_,len,_⟩:=pz y.n;have n6:=h.ok.n6;have hl:N+8*(mN (iH y).n).length<1000000:=by show N+8*(mN y.n).length<_;rw[len];omega
 have Y:=FF.of h.s X V hl eh;have hs:=Y.sta h.fl.nil λc d hc hd=>Z.nil c d (by show c<y.round.nc;rw[(kJ y).2.1];exact hc) hd;refine⟨m,Y,Z.ok,Z.g,Z.f,?_,Z.s⟩;have H:N+8*(mN (iH y).n).length<=N+144:=by show N+8*(mN y.n).length<=_;rw[len];omega
 exact⟨⟨hs.env.i.mono H λ_=>Nat.le_refl _,hs.env.o,hs.env.nl⟩,hs.pb,hs.pn,hs.hh,hs.id⟩
theorem Al(y:iP)(i:Nat):∀j,l5 y (i+j)=l5 (l5 y i) j
 |0=>rfl
 |j+1=>by show(l5 y (i+j)).round=(l5 (l5 y i) j).round;rw[Al y i j]
theorem Fs.many {D N k:Nat} {y:iP} (h:Fs D N k y)(Y:k+1<=126):∀j,D+1300000*j<=800000000->N+144*(j+1)<1000000->Fs (D+1300000*j) (N+144*j) k (l5 y j)
 |0,_,_=>h
 |j+1,hD,hN=>by
  have X:=h.many Y j eh eh;obtain⟨m,_,Z⟩:=X.round eh eh Y;have V:D+1300000*j+1300000=D+1300000*(j+1):=eh;have U:N+144*j+144=N+144*(j+1):=eh;rw[V,U]at Z;exact Z
structure Fin(D N k:Nat)(y:iP):Prop where
 s:Fs D N k y
 e:EqA (iH y)
 o:OwN (iH y)
theorem Fin.round {D N k:Nat} {y:iP} (h:Fin D N k y)(Y:D<=800000000)(X:N+144<1000000)(Q:k+1<=126):Fin (D+1300000) (N+144) k y.round/\∀j,((iH y.round).R j).K=((iH y).R j).K:=by
 obtain⟨m,U,Z⟩:=h.s.round Y X Q;obtain⟨V,M,p3⟩:=U.paid h.s.fl.nil (λc d hc hd=>Z.fl.nil c d (by show c<y.round.nc;rw[(kJ y).2.1];exact hc) hd) h.e;exact⟨⟨Z,M,p3⟩,V⟩
theorem Fs.fin {y:iP} (h:Fs D N k y)(X:k+1<=126)(hD:D+1300000*14<=800000000)(hN:N+144*15<1000000):Fin (D+1300000*13) (N+144*13) k (l5 y 13):=by
 have run:Run k 12 λj=>iH (l5 y j):=by
  refine⟨λj u=> ?_,λj u c d hc hd=> ?_⟩
  ·obtain⟨m,U,_⟩:=(h.many X j eh eh).round eh eh X;exact⟨_,m,U⟩
  ·exact(h.many X j eh eh).fl.nil c d hc hd
 have Y:=h.many X 12 eh eh;have heq:=run.eqA (Nat.le_refl _);have Q:l5 y 13=(l5 y 12).round:=rfl;have V:EqA (iH (l5 y 12)):=heq;rw[Q];obtain⟨z,M⟩:=gg (l5 y 12);rw[M]at Y V⊢;obtain⟨m,U,Z⟩:=Y.round eh eh X;obtain⟨_,G,p3⟩:=U.paid Y.fl.nil (λc d hc hd=>Z.fl.nil c d (by show c<z.round.nc;rw[(kJ z).2.1];exact hc) hd) V;have H:D+1300000*12+1300000=D+1300000*13:=eh;have E:N+144*12+144=N+144*13:=eh;rw[H,E]at Z;exact⟨Z,G,p3⟩
theorem Fin.many {D N k:Nat} {y:iP} (h:Fin D N k y)(Y:k+1<=126):∀j,D+1300000*j<=800000000->N+144*(j+1)<1000000->Fin (D+1300000*j) (N+144*j) k (l5 y j)/\∀i,((iH (l5 y j)).R i).K=((iH y).R i).K
 |0,_,_=>⟨h,λ_=>rfl⟩
 |j+1,hD,hN=>by
  obtain⟨X,k1⟩:=h.many Y j eh eh;obtain⟨Z,k2⟩:=X.round eh eh Y;have V:D+1300000*j+1300000=D+1300000*(j+1):=eh;have U:N+144*j+144=N+144*(j+1):=eh;rw[V,U]at Z;exact⟨Z,λi=>(k2 i).trans (k1 i)⟩
theorem St.settled {y:iP} (h:St D N k y)(hD:D<=600000000)(hN:N+50*144<1000000)(Q:k+8<=126):Fin (D+1300000*45) (N+144*45) (k+7) (l5 y 45):=by
 have U:=h.fl eh eh Q;have X:=U.two eh eh eh;have Y:=X.fin eh eh eh;have Z:=(Y.many eh 23 eh eh).1;rw[show l5 (l5 (l5 (l5 y 7) 2) 13) 23=l5 y 45 by rw[<-Al,<-Al,<-Al]]at Z;have V:D+1300000*7+1300000*2+1300000*13+1300000*23=D+1300000*45:=eh;have M:N+144*7+144*2+144*13+144*23=N+144*45:=eh;rw[V,M]at Z;exact Z
theorem SN {many:Nat} {L:List oV} (Z:j3 (jQ many L) D 0):St D 2 0 (jQ many L):=by
 have E:∀i,i<many->(1:Int)<=(i:Int)+1/\(i:Int)+1<=6:=λi hi=>by have:=Z.n6;have:(jQ many L).n=many:=rfl;omega
 have X:∀i p,i<many->p<3->1<=pg L i p/\pg L i p<=20:=λi p hi hp=>Z.ms i p hi hp;have hF:∀c d,(iH (jQ many L)).F c d=[] :=λc d=>by
  show(if c<L.length/\d<2 then tT (jQ many L) c d else [])=[]
  split
  ·rfl
  ·rfl
 have hRr:∀i,(iH (jQ many L)).R i=jN ((i:Int)+1) 3 (pg L i):=λi=>rfl;have U:∀c d,mK (iH (jQ many L)) c d=nobody:=λc d=>rfl;have H:∀(i:Nat) (x:Int) (q:PS),(jN ((i:Int)+1) 3 (pg L i)).K x=μ q->x=(i:Int)+1/\q=(1,[]):=λi x q h=>by
  have Y:(if x=(i:Int)+1 then μ ((1:Int),([] :List jE))else ν)=μ q:=h;split at Y
  ·rename_i e;injection Y with Y;exact⟨e,Y.symm⟩
  ·exact absurd Y gY
 have j:∀i,i<many->Own (jN ((i:Int)+1) 3 (pg L i)):=λi hi=>by
  refine⟨λp x q h=>h,λx q h=> ?_,?_⟩
  ·obtain⟨Q,V⟩:=H i x q h;rw[Q,V];have:=E i hi;unfold oy;rw[af eh,af gY];rfl
  ·have Q:CS (jN ((i:Int)+1) 3 (pg L i)).K (jN ((i:Int)+1) 3 (pg L i)).id=[] :=by
    show(match (if(i:Int)+1=(i:Int)+1 then some ((1:Int),([] :List jE))else none)with|none=>[] |some q=>q.2)=_;rw[ai rfl]
   rw[Q];have V:∀n k,jP (jN ((i:Int)+1) 3 (pg L i)).P n k=ν:=λn k=>by
    induction k with
    |zero=>rfl
    |succ k ih=>unfold jP;rw[af (λh=>absurd h.1 (show¬false=true by simp)),ih]
   unfold jx;simp only[V,Option.map_none];rfl
 refine⟨Z,E7 many L,Oh many L,Z.qP,wP _,⟨1,λi hi=>⟨j i hi,zQ (E i hi) (X i · hi),λx q h=> ?_,rfl,rfl⟩,λc d _ _ x hx=> ?_,?_,Nat.le_refl _,X⟩,⟨λ_ _ _=>false,λc hc hi=> ?_,λc hc hi d hd=> ?_⟩,?_⟩
 ·obtain⟨_,V⟩:=H i x q h;rw[V];exact Int.le_refl _
 ·rw[hF]at hx;simp at hx
 ·have w0:(iH (jQ many L)).W sw=0:=by
   unfold AN.W;rw[sQ (g:=λ_=>0) λx _=>by show sm sw ((iH (jQ many L)).F x.1 x.2)=0;rw[hF];rfl];generalize Sx (iH (jQ many L)).nc=m
   induction m with
   |nil=>rfl
   |cons x l ih=>simpa[sm]using ih
  have c0:sm (λi=>qW ((iH (jQ many L)).R i)) (fW (iH (jQ many L)).n)=0:=by
   rw[sQ (g:=λ_=>0) λi _=>by rfl];generalize fW (iH (jQ many L)).n=m
   induction m with
   |nil=>rfl
   |cons x l ih=>simpa[sm]using ih
  omega
 ·exact absurd (show false=true from hi) gY
 ·have G:=Z.en c d hc hd;have M:=Z.n6;obtain⟨z1,z2,u⟩:=Md (i:=((iH (jQ many L)).e c d).1) (p:=((iH (jQ many L)).e c d).2) (Nat.lt_of_lt_of_le G.1 M) G.2 (pg L ((iH (jQ many L)).e c d).1);have hl:j0 (iH (jQ many L)) c d=(Hl ((((iH (jQ many L)).e c d).1:Int)+1) (pg L ((iH (jQ many L)).e c d).1) ((iH (jQ many L)).e c d).2).L:=rfl;rw[hl];exact⟨z1,z2,by rw[u];exact Int.natCast_nonneg _,hF c d⟩
 ·refine⟨λc d _ _ h=>absurd (by rw[U];rfl) h,λc d _ _ h=>absurd (by rw[U];rfl) h,λc d _ _ x hx=> ?_,λc d _ _ h=> ?_⟩
  ·rw[hF]at hx;simp at hx
  ·rw[U]at h;exact absurd h (by simp[nobody])
def kR(r s:iM):Prop:=∀p,(s.P p).m=(r.P p).m
theorem kR.trans {r s t:iM} (h:kR r s)(g:kR s t):kR r t:=λp=>(g p).trans (h p)
theorem kR.meet(r:iM)(i:Nat)(q:lD):kR r (r.meet i q):=λp=>(kc r i q p).2.2.1
theorem kR.iU(r:iM)(i:Nat)(q:jw)(h:q.m=(r.P i).m):kR r (r.iU i q):=λp=>by
 rw[kN];split
 ·rename_i e;rw[e,h]
 ·rfl
theorem kR.state(r:iM)(i:Nat)(s:List UInt8):kR r (ji r i s):=by
 unfold ji;simp only;split
 ·exact λ_=>rfl
 ·split
  ·unfold iM.behind;split<;>exact λ_=>rfl
  ·split
   ·exact λp=>(kR.iU _ i _ (r8 _ _ _).1) p
   ·exact λ_=>rfl
theorem kR.heard(r:iM)(i:Nat)(s:List UInt8):kR r (kD r i s):=by
 unfold kD;simp only;split<;>exact λ_=>rfl
theorem kR.send(r:iM)(t:za):kR r (r.send t):=λp=>((np r t).2.2.2.2 p).1
theorem kR.link(h:J2 r)(i:Nat)(c:UInt8)(s:List UInt8):kR r (j1 r i c s):=λp=>((z8 h i c s).2.2.1 p).2.1
theorem kR.jM {r:iM} (h:J2 r)(i:Nat)(x:k9):kR r (jM r i x):=by
 cases x with
 |nil=>exact λ_=>rfl
 |cons c s=>
  show kR r (r.take i c s);rw[lJ];refine(kR.link h i c s).trans ?_;split
  ·exact kR.meet _ _ _
  ·unfold mA;split
   ·split
    ·exact kR.meet _ _ _
    ·exact λ_=>rfl
   ·split
    ·exact kR.state _ _ _
    ·split
     ·exact kR.heard _ _ _
     ·split
      ·unfold ru
       first
        |(split
          ·exact kR.send _ _
          ·exact λ_=>rfl)
        |exact kR.send _ _
      ·exact λ_=>rfl
theorem kR.iV(r:iM)(i:Nat):kR r (r.iV i):=by
 rw[k7];have Z:kR r (jb r i):=λp=>(lR r i p).1;split
 ·exact Z.trans (kR.meet _ _ _)
 ·exact(Z.trans (kR.meet _ _ _)).trans λp=>((pG _ i).2.2.2.2 p).1
theorem kR.iL(r:iM)(i:Nat)(up:Bool):kR r (r.iL i up).1:=by
 unfold iM.iL;simp only;split
 ·exact λ_=>rfl
 ·refine(kR.iU r i _ ?_).trans (kR.meet _ _ _);unfold jw.iL;simp only;by_cases e:(kY (r.P i).L (if up=true then 0 else 1)).2.2≠0
  ·rw[ai e]
  ·rw[af e,(wD _ _).1]
def DA(a:AN):Prop:=∀i p,i<a.n->((a.R i).P p).m=a.ms i p
theorem DA.op {a:AN} (h:DA a)(i:Nat) {s:iM} (hs:kR (a.R i) s):DA (a.op i s):=λj p Z=>by
 show(((a.op i s).R j).P p).m=a.ms j p;rw[JJ];split
 ·rename_i e
  subst e;exact(hs p).trans (h j p Z)
 ·exact h j p Z
theorem DA.nI {a:AN} (h:DA a)(c d:Nat)(up:Bool):DA (a.nI c d up):=h.op _ (kR.iL _ _ _)
theorem DA.step(s:mQ a T S b)(Y:Norm a)(h:DA a):DA b:=by
 cases s with
 |lost hl=>
  obtain⟨e,_⟩:=hl;rw[e];exact h
 |tick i p hi hp=>exact h.op i (kR.iV _ _)
 |pop c d x l hc hd hF=>exact DA.op (a:=a.lv c d l) h _ (kR.jM (Y.emp _) _ _)
 |send i t tx hi Z h6 hl=>exact h.op i (kR.send _ _)
 |iL c hc hi h0 Z=>exact DA.nI (DA.nI h c 0 true) c 1 true
 |draw c hc hi=>exact DA.nI (DA.nI h c 0 false) c 1 false
 |anew i m hi hx=>
  intro j p X;show((jU a.R i (jN ((i:Int)+1) 3 (a.ms i)) j).P p).m=a.ms j p;by_cases e:j=i
  ·subst e;rw[iE];rfl
  ·rw[iC _ _ e];exact h j p X
theorem DA.path(s:jT a T S b)(Z:Norm a)(h:DA a):DA b:=by
 induction s with
 |nil=>exact h
 |snoc p q ih=>exact DA.step q (p.norm Z) ih
theorem WE(many:Nat)(L:List oV):DA (iH (jQ many L)):=λ_ _ _=>rfl
def InS(S:Nat->Prop)(H:Nat->HP):Prop:=∀x,x<7->(H x).far≠0->S x
theorem SP {C D:kV} {S:Nat->Prop} (Q:∀x y,x<7->y<7->S x->C x y≠0->S y)(h:∀x y,x<7->y<7->S x->C x y=D x y)(r:Nat) {b n:Nat} (hb:b<7)(V:n<7) {H:Nat->HP} (Z:InS S H):oZ C r b n H=oZ D r b n H/\InS S (oZ C r b n H):=by
 unfold oZ;by_cases Y:(H b).far=0
 ·rw[ai (.inl Y),ai (.inl Y)];exact⟨rfl,Z⟩
 ·have X:=Z b hb Y;rw[<-h b n hb V X];refine⟨rfl,?_⟩;split
  ·exact Z
  ·rename_i e
   split
   ·intro x hx hf;simp only[rh]at hf;split at hf
    ·rename_i M
     rw[M];exact Q b n hb V X (λU=>e (.inr (.inl U)))
    ·exact Z x hx hf
   ·exact Z
theorem Mi {C D:kV} {S:Nat->Prop} (Y:∀x y,x<7->y<7->S x->C x y≠0->S y)(h:∀x y,x<7->y<7->S x->C x y=D x y)(r:Nat) {b:Nat} (hb:b<7) {H:Nat->HP} (Z:InS S H):∀n,n<=7->pC C r b H n=pC D r b H n/\InS S (pC C r b H n)
 |0,_=>⟨rfl,Z⟩
 |n+1,hn=>by
  obtain⟨e,hi⟩:=Mi Y h r hb Z n eh;obtain⟨V,X⟩:=SP Y h r hb (show n<7 by omega) hi;refine⟨?_,X⟩;show oZ C r b n (pC C r b H n)=oZ D r b n (pC D r b H n);rw[<-e,V]
theorem P6 {C D:kV} {S:Nat->Prop} (Y:∀x y,x<7->y<7->S x->C x y≠0->S y)(h:∀x y,x<7->y<7->S x->C x y=D x y)(r:Nat) {H:Nat->HP} (Z:InS S H):∀b,b<=7->CM C r H b=CM D r H b/\InS S (CM C r H b)
 |0,_=>⟨rfl,Z⟩
 |b+1,hb=>by
  obtain⟨e,hi⟩:=P6 Y h r Z b eh;obtain⟨V,X⟩:=Mi Y h r (show b<7 by omega) hi 7 (Nat.le_refl _);refine⟨?_,X⟩;show pC C r b (CM C r H b) 7=pC D r b (CM D r H b) 7;rw[<-e,V]
theorem Cy {C D:kV} {S:Nat->Prop} (Y:∀x y,x<7->y<7->S x->C x y≠0->S y)(h:∀x y,x<7->y<7->S x->C x y=D x y) {r:Nat} (X:r<7)(Z:S r):∀k,jv C r k=jv D r k/\InS S (jv C r k)
 |0=>by
  refine⟨?_,?_⟩
  ·funext x
   show lz C r 7 x=lz D r 7 x;unfold lz;by_cases hx:x<7
   ·rw[h r x X hx Z]
   ·rw[af (λe=>hx e.1),af (λe=>hx e.1)]
  ·intro x hx hf;refine Y r x X hx Z λe=>hf ?_;show(lz C r 7 x).far=0;unfold lz;rw[af (by rw[e];exact λV=>absurd V.2 eA)];rfl
 |k+1=>by
  obtain⟨e,hi⟩:=Cy Y h X Z k;obtain⟨V,U⟩:=P6 Y h r hi 7 (Nat.le_refl _);refine⟨?_,U⟩;show CM C r (jv C r k) 7=CM D r (jv D r k) 7;rw[<-e,V]
theorem SQ {C D:kV} {S:Nat->Prop} (Z:∀x y,x<7->y<7->S x->C x y≠0->S y)(h:∀x y,x<7->y<7->S x->C x y=D x y) {r:Nat} (V:r<7)(Y:S r):qb (kK C) r=qb (kK D) r:=by
 unfold qb;have X:∀x y,x<7->y<7->S x->kK C x y=kK D x y:=λx y hx hy hs=>by
  unfold kK;rw[<-h x y hx hy hs];by_cases e:C x y=0
  ·rw[e];simp
  ·rw[<-h y x hy hx (Z x y hx hy hs e)]
 rw[(Cy (λx y hx hy hs hc=>Z x y hx hy hs (λe=>hc (by unfold kK;rw[e];simp))) X V Y 6).1]
def Least(S:Int->Prop)(v:Int):Prop:=(v=0/\∀m,¬S m) \/(S v/\∀m,S m->v<=m)
theorem Least.uniq {S Z:Int->Prop} {w:Int} (h:Least S v)(g:Least Z w)(e:∀m,S m↔Z m):v=w:=by
 rcases h with⟨Y,V⟩|⟨Y,V⟩
 ·rcases g with⟨g1,_⟩|⟨g1,_⟩
  ·rw[Y,g1]
  ·exact absurd ((e w).2 g1) (V w)
 ·rcases g with⟨_,X⟩|⟨g1,X⟩
  ·exact absurd ((e v).1 Y) (X v)
  ·have:=V w ((e w).2 g1);have:=X v ((e v).1 Y);omega
theorem Least.pos {S:Int->Prop} (h:Least S v)(Y:∀m,S m->1<=m):(0<v↔∃m,S m)/\0<=v:=by
 rcases h with⟨Z,X⟩|⟨Z,X⟩
 ·exact⟨⟨λe=>eh,λ⟨m,V⟩=>absurd V (X m)⟩,eh⟩
 ·exact⟨⟨λ_=>⟨v,Z⟩,λ_=>by have:=Y v Z;omega⟩,by have:=Y v Z;omega⟩
def vy(P:Nat->jw)(n:Int)(k:Nat):Int:=match jP P n k with|none=>0|some b=>(P b).m
theorem FG(P:Nat->jw)(n:Int):∀k,Least (λm=>∃p,p<k/\(P p).pe.both=true/\(P p).pe.who=n/\(P p).m=m) (vy P n k)/\(jP P n k=ν->∀p,p<k->¬((P p).pe.both=true/\(P p).pe.who=n))
 |0=>⟨.inl ⟨rfl,λm ⟨p,Q,_⟩=>absurd Q eh⟩,λ_ p Q=>absurd Q eh⟩
 |k+1=>by
  obtain⟨ih,ih2⟩:=FG P n k;by_cases hb:BZ P n k
  ·have e:=xt hb;refine⟨?_,λV=>by rw[e]at V;exact absurd V gY⟩;have ev:vy P n (k+1)=(P k).m:=by unfold vy;rw[e]
   rw[ev];refine .inr ⟨⟨k,eh,hb.1,hb.2.1,rfl⟩,?_⟩;rintro m ⟨p,Q,Z,Y,rfl⟩;by_cases M:p=k
   ·rw[M];exact Int.le_refl _
   ·have u:p<k:=eh;have U:=hb.2.2;unfold vy at ih;cases H:jP P n k with
    |none=>exact absurd ⟨Z,Y⟩ (ih2 H p u)
    |some b=>
     rw[H]at U ih;simp only[decide_eq_true_eq]at U;simp only at ih;rcases ih with⟨_,X⟩|⟨_,X⟩
     ·exact absurd ⟨p,u,Z,Y,rfl⟩ (X _)
     ·have:=X _ ⟨p,u,Z,Y,rfl⟩;omega
  ·have e:=wq hb;have ev:vy P n (k+1)=vy P n k:=by unfold vy;rw[e]
   rw[ev,e];have key:jP P n k=ν->¬((P k).pe.both=true/\(P k).pe.who=n):=λV G=>hb ⟨G.1,G.2,by rw[V]⟩;refine⟨?_,λV p Q=> ?_⟩
   ·rcases ih with⟨i1,X⟩|⟨⟨p,i1,i3,i4,i5⟩,X⟩
    ·have hn:jP P n k=ν:=by
      cases H:jP P n k with
      |none=>rfl
      |some b=>
       have:=oA H;exact absurd ⟨b,this.1,this.2.1,this.2.2,rfl⟩ (X _)
     refine .inl ⟨i1,?_⟩;rintro m ⟨p,Q,Z,Y,U⟩;by_cases M:p=k
     ·subst M;exact key hn ⟨Z,Y⟩
     ·exact X m ⟨p,eh,Z,Y,U⟩
    ·refine .inr ⟨⟨p,eh,i3,i4,i5⟩,?_⟩;rintro m ⟨q,H,Z,Y,U⟩;by_cases E:q=k
     ·subst E;have j:¬(match jP P n q with|none=>true|some b=>decide ((P q).m<(P b).m))=true:=λG=>hb ⟨Z,Y,G⟩;unfold vy;cases h:jP P n q with
      |none=>exact absurd ⟨Z,Y⟩ (key h)
      |some b=>
       rw[h]at j;simp only[decide_eq_true_eq]at j;simp only;omega
     ·exact X m ⟨q,eh,Z,Y,U⟩
   ·by_cases M:p=k
    ·subst M;exact key V
    ·exact ih2 V p eh
theorem WG(P:Nat->jw)(n:Int)(k:Nat)(Y:∀p,p<k->1<=(P p).m)(j:Int):((jP P n k).map λb=>(j,(P b).m))=if 0<vy P n k then μ (j,vy P n k)else ν:=by
 unfold vy;cases Z:jP P n k with
 |none=>simp
 |some b=>
  have:=Y b (oA Z).1;simp only[Option.map_some];rw[ai eh]
def Jn(iQ:Nat->Bool)(e:Nat->Nat->Nat×Nat)(x z c:Nat):Prop:=iQ c=true/\x≠z/\(((e c 0).1=x/\(e c 1).1=z) \/((e c 0).1=z/\(e c 1).1=x))
instance(iQ:Nat->Bool)(e:Nat->Nat->Nat×Nat)(x z c:Nat):Decidable (Jn iQ e x z c):=by unfold Jn;infer_instance
def Iu(iQ:Nat->Bool)(e:Nat->Nat->Nat×Nat)(cm:Nat->Int)(x z:Nat):Nat->Int
 |0=>0
 |k+1=>if Jn iQ e x z k/\(Iu iQ e cm x z k=0 \/cm k<Iu iQ e cm x z k)then cm k else Iu iQ e cm x z k
theorem uD(iQ:Nat->Bool)(e:Nat->Nat->Nat×Nat)(cm:Nat->Int)(x z:Nat):∀k,(∀c,c<k->1<=cm c)->Least (λm=>∃c,c<k/\Jn iQ e x z c/\cm c=m) (Iu iQ e cm x z k)
 |0,_=>.inl ⟨rfl,λm ⟨p,H,_⟩=>absurd H eh⟩
 |k+1,h=>by
  have ih:=uD iQ e cm x z k (λc hc=>h c eh);have hk:=h k eh;show Least _ (if Jn iQ e x z k/\(Iu iQ e cm x z k=0 \/cm k<Iu iQ e cm x z k)then cm k else Iu iQ e cm x z k);generalize Iu iQ e cm x z k=v at ih⊢;by_cases V:Jn iQ e x z k
  ·by_cases hv:v=0 \/cm k<v
   ·rw[ai ⟨V,hv⟩];refine .inr ⟨⟨k,eh,V,rfl⟩,?_⟩;rintro m ⟨c,hc,Y,rfl⟩;by_cases Z:c=k
    ·rw[Z];exact Int.le_refl _
    ·rcases ih with⟨_,X⟩|⟨⟨c2,i1,U,Q⟩,X⟩
     ·exact absurd ⟨c,eh,Y,rfl⟩ (X _)
     ·have:=X _ ⟨c,eh,Y,rfl⟩;have:=h c2 eh;omega
   ·rw[af (λZ=>hv Z.2)];rcases ih with⟨i1,X⟩|⟨⟨c2,i1,U,Q⟩,X⟩
    ·exact absurd (.inl i1) hv
    ·refine .inr ⟨⟨c2,eh,U,Q⟩,?_⟩;rintro m ⟨c,hc,Y,rfl⟩;by_cases Z:c=k
     ·rw[Z];omega
     ·exact X _ ⟨c,eh,Y,rfl⟩
  ·rw[af (λZ=>V Z.1)];rcases ih with⟨i1,X⟩|⟨⟨c2,i1,U,Q⟩,X⟩
   ·refine .inl ⟨i1,?_⟩;rintro m ⟨c,hc,Y,M⟩;by_cases Z:c=k
    ·subst Z;exact V Y
    ·exact X m ⟨c,eh,Y,M⟩
   ·refine .inr ⟨⟨c2,eh,U,Q⟩,?_⟩;rintro m ⟨c,hc,Y,rfl⟩;by_cases Z:c=k
    ·subst Z;exact absurd Y V
    ·exact X _ ⟨c,eh,Y,rfl⟩
def Iv(a:AN)(cm:Nat->Int)(x:Nat):List jE:=(fW a.n).filterMap λz=>if 0<Iu a.iQ a.e cm x z a.nc then μ ((z:Int)+1,Iu a.iQ a.e cm x z a.nc)else ν
def Iw(a:AN)(cm:Nat->Int):Int->Option PS:=λx=>if 1<=x/\x<=(a.n:Int)then μ (1,Iv a cm (x-1).toNat)else ν
def CmA(a:AN)(cm:Nat->Int):Prop:=∀c d,c<a.nc->d<2->a.ms (a.e c d).1 (a.e c d).2=cm c
theorem adJ(a:AN)(i p:Nat):(∃c d,c<a.nc/\d<2/\a.e c d=(i,p)) \/ ∀c d,c<a.nc->d<2->a.e c d≠(i,p):=by
 by_cases h:∃c d,c<a.nc/\d<2/\a.e c d=(i,p)
 ·exact .inl h
 ·exact .inr λc d hc hd e=>h ⟨c,d,hc,hd,e⟩
theorem FH {α:Type} (f:Nat->Option α)(n m:Nat)(h:∀j,n<=j->f j=ν)(hn:n<=m):(fW m).filterMap f=(fW n).filterMap f:=by
 obtain⟨k,rfl⟩:∃k,m=n+k:=⟨m-n,eh⟩
 rw[List.range_add,bI];have:(List.map (λx=>n+x) (fW k)).filterMap f=[] :=by
  rw[cV];intro j Z;obtain⟨i,_,rfl⟩:=bJ.1 Z;exact h _ eh
 rw[this,aC]
theorem ahp(h:d<2):d=0 \/d=1:=eh
theorem Jn.adj(hc:c<a.nc)(h:Jn a.iQ a.e x z c):Adj a x z:=by
 obtain⟨Y,X,Z|Z⟩:=h
 ·exact⟨c,0,hc,eh,Y,Z.1,Z.2,X⟩
 ·exact⟨c,1,hc,eh,Y,Z.2,Z.1,X⟩
theorem Jn.of(hd:d<2)(hi:a.iQ c=true)(hx:rX a c d≠rX a c (1-d)):Jn a.iQ a.e (rX a c d) (rX a c (1-d)) c:=by
 refine⟨hi,hx,?_⟩;rcases ahp hd with rfl|rfl
 ·exact .inl ⟨rfl,rfl⟩
 ·exact .inr ⟨rfl,rfl⟩
theorem Ak.joins(h:Ak N k [] a)(j:tH a)(u:DA a)(hC:CmA a cm)(hx:x<a.n)(z:Nat)(m:Int):
 (∃p,p<3/\((a.R x).P p).pe.both=true/\((a.R x).P p).pe.who=(z:Int)+1/\((a.R x).P p).m=m)↔∃c,c<a.nc/\Jn a.iQ a.e x z c/\cm c=m:=by
 constructor
 ·rintro⟨p,hp,G,h2,h3⟩;rcases adJ a x p with⟨c,d,hc,hd,Q⟩|hn
  ·have E:mK a c d=((a.R x).P p).pe:=by unfold mK;rw[Q]
   have U:rX a c d=x:=by unfold rX;rw[Q]
   by_cases hl:a.iQ c=false \/rX a c d=rX a c (1-d)
   ·have:=(h.pn c d hc hd hl).2;rw[E,G]at this;exact absurd this eA
   ·have hi:a.iQ c=true:=by
     cases e:a.iQ c with
     |true=>rfl
     |false=>exact absurd (.inl e) hl
    have H:rX a c d≠rX a c (1-d):=λe=>hl (.inr e);have hw:=(h.pb c d hc hd hi H).1;rw[E,h2]at hw;have hz:rX a c (1-d)=z:=eh;refine⟨c,hc,?_,?_⟩
    ·have:=Jn.of hd hi H;rw[U,hz]at this;exact this
    ·rw[<-hC c d hc hd,Q,<-h3];exact(u x p hx).symm
  ·have:=(h.id x p hx hp hn).2.2;rw[G]at this;exact absurd this eA
 ·rintro⟨c,hc,M,rfl⟩;have key:∀d,d<2->rX a c d=x->rX a c (1-d)=z->∃p,p<3/\((a.R x).P p).pe.both=true/\((a.R x).P p).pe.who=(z:Int)+1/\((a.R x).P p).m=cm c:=by
   intro d hd Z Y;have V:=h.pb c d hc hd M.1 (by rw[Z,Y];exact M.2.1);unfold mK at V;have X:(a.e c d).1=x:=Z;refine⟨(a.e c d).2,(j.en c d hc hd).2,?_,?_,?_⟩
   ·rw[<-X];exact V.2.1
   ·rw[<-X,V.1,Y]
   ·rw[<-X,u _ _ (j.en c d hc hd).1,hC c d hc hd]
  rcases M.2.2 with⟨Z,Y⟩|⟨Z,Y⟩
  ·exact key 0 eh Z Y
  ·exact key 1 eh Y Z
theorem yY(h:Ak N k [] a)(Q:DA a)(hC:CmA a cm)(hx:x<a.n):Iv a cm x=jx (a.R x):=by
 have Z:=h.env.i.qP;obtain⟨B,X⟩:=h.env.i.own;obtain⟨ahq,U,_,pT,H⟩:=X.r x hx;have Y:∀c,c<a.nc->1<=cm c:=λc hc=>by
  rw[<-hC c 0 hc eh];exact(X.ms _ _ (Z.en c 0 hc eh).1 (Z.en c 0 hc eh).2).1
 have key:∀z,Iu a.iQ a.e cm x z a.nc=vy (a.R x).P ((z:Int)+1) 3:=λz=>
  (uD a.iQ a.e cm x z a.nc Y).uniq (FG _ _ 3).1 λm=>(h.joins Z Q hC hx z m).symm
 unfold Iv jx;rw[H];have E:(fW 6).filterMap (λ(j:Nat)=>(jP (a.R x).P ((j:Int)+1) 3).map λb=>((j:Int)+1,((a.R x).P b).m))=(fW 6).filterMap λz=>if 0<Iu a.iQ a.e cm x z a.nc then μ ((z:Int)+1,Iu a.iQ a.e cm x z a.nc)else ν:=by
  congr 1
  funext j
  rw[key j,WG _ _ _ (λp V=>(U.m p eh).1)]
 rw[E,FH _ a.n 6 _ Z.n6];intro j hj;have V:=(uD a.iQ a.e cm x j a.nc Y).pos (by rintro m ⟨c,hc,_,rfl⟩;exact Y c hc);rw[af];intro e;obtain⟨m,c,hc,G,_⟩:=V.1.1 e;have a0:=(Z.en c 0 hc eh).1;have a1:=(Z.en c 1 hc eh).1;rcases G.2.2 with⟨M,u⟩|⟨M,u⟩
 ·omega
 ·omega
theorem oq.ind(P:Nat->Prop)(Z:P x)(hs:∀w z,P w->Adj a w z->P z)(h:oq a x z):P z:=by
 obtain⟨k,w⟩:=h
 induction w with
 |here=>exact Z
 |stay _ ih=>exact ih Z
 |go _ g ih=>exact hs _ _ (ih Z) g
theorem EqA.conn(h:EqA a)(hc:oq a x z):(a.R z).K=(a.R x).K:=by
 refine oq.ind (λz=>(a.R z).K=(a.R x).K) rfl ?_ hc;rintro w v e ⟨c,d,V,U,X,Y,Z,Q⟩;have:=h c d V U X (by rw[Y,Z];exact Q);rw[Y,Z]at this;rw[<-this,e]
theorem FI(h:K (x:Int)=μ q)(y:Nat):xV K x y=gAt q.2 y:=by
 unfold xV gAt;rw[h]
theorem ZA {es:List jE} {y:Nat} (h:gAt es y≠0):∃m,((y:Int),m)∈es:=by
 unfold gAt at h;cases hf:es.find? λe=>e.1==(y:Int)with
 |none=>rw[hf]at h;exact absurd rfl h
 |some e=>
  have Y:=List.find?_some hf;have X:=List.mem_of_find?_eq_some hf;refine⟨e.2,?_⟩;have Z:e.1=(y:Int):=by simpa using Y
  rw[<-Z];exact X
theorem SS(h:Ak N k [] a)(hE:EqA a)(u:DA a)(hC:CmA a cm)(hx:x<a.n):mc (a.R x)=qb (kK (xV (Iw a cm))) (x+1):=by
 have X:=h.env.i.qP;have hn6:=X.n6;obtain⟨B,M⟩:=h.env.i.own;have U:∀i,i<a.n->oq a x i->∀y,xV (a.R x).K (i+1) y=gAt (jx (a.R i)) y/\xV (Iw a cm) (i+1) y=gAt (jx (a.R i)) y:=by
  intro i hi hc y;obtain⟨Q,iN,_,pT,hn⟩:=M.r i hi;obtain⟨q,hq,_⟩:=iN.own;have Z:=Q.own;have e1:((i+1:Nat):Int)=(a.R i).id:=by rw[pT];push_cast;rfl
  constructor
  ·rw[<-hE.conn hc];have:(a.R i).K ((i+1:Nat):Int)=μ q:=by rw[e1];exact hq
   rw[FI this];unfold CS at Z;rw[hq]at Z;simp only at Z;rw[Z]
  ·have:Iw a cm ((i+1:Nat):Int)=μ (1,jx (a.R i)):=by
    unfold Iw;rw[ai ⟨eh,eh⟩];have:(((i+1:Nat):Int)-1).toNat=i:=eh;rw[this,yY h u hC hi]
   rw[FI this]
 unfold mc;have Y:(a.R x).id.toNat=x+1:=by rw[(M.r x hx).2.2.2.1];omega
 rw[Y];refine SQ (S:=λy=>∃i,i<a.n/\y=i+1/\oq a x i) ?_ ?_ eh ⟨x,hx,rfl,0,.here x⟩
 ·rintro s y hs hy ⟨i,hi,rfl,hc⟩ E;rw[(U i hi hc y).1,<-yY h u hC hi]at E;obtain⟨m,G⟩:=ZA E;unfold Iv at G;obtain⟨z,hz,H⟩:=cD.1 G;have Pk:z<a.n:=aQ.1 hz;split at H
  ·rename_i e
   have j:∀c,c<a.nc->1<=cm c:=λc hc=>by
    rw[<-hC c 0 hc eh];exact(M.ms _ _ (X.en c 0 hc eh).1 (X.en c 0 hc eh).2).1
   obtain⟨m2,c,hcc,hj,_⟩:=((uD a.iQ a.e cm i z a.nc j).pos (by rintro m ⟨c,hc,_,rfl⟩;exact j c hc)).1.1 e;have V:y=z+1:=by
    have:=congrArg (λo=>o.map Prod.fst) H;simp only[Option.map_some,Option.some.injEq]at this;omega
   exact⟨z,Pk,V,hc.trans (oq.adj (hj.adj hcc))⟩
  ·exact absurd H gY
 ·rintro s y hs hy ⟨i,hi,rfl,hc⟩;rw[(U i hi hc y).1,(U i hi hc y).2]
