import Derived.Test.YtieklnlbljejdaaGreatDoorT31
open Option renaming none → ν
namespace Go.Proofs.YtieklnlbljejdaaGreatDoor
open Go.RowKit St
namespace Rt
variable {T:List (Nat×Nat)} {a b:AN} {c d d' i p:Nat} {l:List mb} {t:Nat×Nat->Nat} {x:mb}
def lq(a:AN)(c d:Nat):LS:=((a.R (a.e c d).1).P (a.e c d).2).L
def gP(x:Nat×Nat):Int:=8*((x.1:Int)+1)+(x.2:Int)+1
theorem zJ(Z:yf a)(hc:c<a.nc)(hd:d<2):1<=gP (a.e c d)/\gP (a.e c d)<=255:=by
 have:=Z.en c d hc hd;have:=Z.n6;unfold gP;omega
theorem acO(Z:yf a)(hc:c<a.nc)(hd:d<2)(Y:d'<2)(h:d≠d'):gP (a.e c d)≠gP (a.e c d'):=by
 have h1:=Z.en c d hc hd;have h2:=Z.en c d' hc Y;intro e;unfold gP at e;have:a.e c d=a.e c d':=bn dP dP;exact h (Z.ds _ _ _ _ hc hd hc Y this).2
abbrev Marks:=Nat->Nat->Int->Bool
structure sY(X:Marks)(t:Nat×Nat->Nat)(a:AN):Prop where
 up:∀c,c<a.nc->a.jr c=true->Pair (X c 0) (X c 1) (t (a.e c 0)+t (a.e c 1)) (gP (a.e c 0)) (gP (a.e c 1)) (lq a c 0) (lq a c 1) (a.F c 0) (a.F c 1)
 dn:∀c,c<a.nc->a.jr c=false->∀d,d<2->LI (gP (a.e c d)) (lq a c d)/\(lq a c d).st=1/\(lq a c d).ow<=((t (a.e c 0)+t (a.e c 1):Nat):Int)/\a.F c d=[]
theorem sY.vu {X:Marks} (h:sY X t a)(hc:c<a.nc)(hd:d<2)(hi:a.jr c=true):Pair (X c d) (X c (1-d)) (t (a.e c 0)+t (a.e c 1)) (gP (a.e c d)) (gP (a.e c (1-d))) (lq a c d) (lq a c (1-d)) (a.F c d) (a.F c (1-d)):=by
 have:d=0 \/d=1:=dP;rcases this with rfl|rfl
 ·exact h.up c hc hi
 ·exact(h.up c hc hi).symm
theorem sY.Sj {X:Marks} (h:sY X t a)(hc:c<a.nc)(hd:d<2)(hx:x∈a.F c d):a.jr c=true:=by
 cases hi:a.jr c
 ·have:=(h.dn c hc hi d hd).2.2.2;rw[this]at hx;simp at hx
 ·rfl
theorem IQ {X:Marks} {t:Nat} {g:Nat->Int} {L:Nat->LS} {F:Nat->List mb} (hd:d<2)(h:Pair (X 0 d) (X 0 (1-d)) t (g d) (g (1-d)) (L d) (L (1-d)) (F d) (F (1-d))):Pair (X 0 0) (X 0 1) t (g 0) (g 1) (L 0) (L 1) (F 0) (F 1):=by
 have:d=0 \/d=1:=dP;rcases this with rfl|rfl
 ·exact h
 ·exact h.symm
theorem sY.LR {X X':Marks} {u:Nat×Nat->Nat} (h:sY X t a)(Y:∀x,t x<=u x)(V:b.e=a.e)(hc:c<a.nc)(hi:b.jr c=a.jr c)(U:∀d,d<2->X' c d=X c d)(Z:∀d,d<2->lq b c d=lq a c d)(hF:∀d,d<2->b.F c d=a.F c d):(b.jr c=true->Pair (X' c 0) (X' c 1) (u (b.e c 0)+u (b.e c 1)) (gP (b.e c 0)) (gP (b.e c 1)) (lq b c 0) (lq b c 1) (b.F c 0) (b.F c 1))/\(b.jr c=false->∀d,d<2->LI (gP (b.e c d)) (lq b c d)/\(lq b c d).st=1/\(lq b c d).ow<=((u (b.e c 0)+u (b.e c 1):Nat):Int)/\b.F c d=[]):=by
 have t0:=Y (a.e c 0);have t1:=Y (a.e c 1);refine⟨λhb=> ?_,λhb d hd=> ?_⟩
 ·rw[V,U 0 dS,U 1 dS,Z 0 dS,Z 1 dS,hF 0 dS,hF 1 dS];exact(h.up c hc (by rw[<-hi];exact hb)).mono dP
 ·rw[V,Z d hd,hF d hd];obtain⟨S,Q,a3,M⟩:=h.dn c hc (by rw[<-hi];exact hb) d hd;exact⟨S,Q,dP,M⟩
theorem IU(a:AN)(i:Nat)(s:iy)(c d:Nat):lq (a.op i s) c d=if(a.e c d).1=i then(s.P (a.e c d).2).L else lq a c d:=by
 unfold lq;show((jy a.R i s.core (a.e c d).1).P (a.e c d).2).L=_;by_cases e:(a.e c d).1=i
 ·rw[e,ij,ag rfl];rfl
 ·rw[gW _ _ e,ae e]
theorem En {X Y:Int->Bool} {F:List mb} (h:∀k∈ids 1 F,Y k=X k):∀y∈F,AG Y y=AG X y/\qQ Y y=qQ X y:=λy hy=>by
 unfold AG qQ;cases e:Dg 1 y with
 |none=>exact⟨rfl,rfl⟩
 |some i=>constructor<;>simp only[h i (FF hy e)]
theorem sY.quiet {X:Marks} (h:sY X t a)(i:Nat)(s:iy)(U:∀p,(s.P p).L=((a.R i).P p).L)(E:∀p,je (s.P p)=[] \/((s.P p).L.st=9/\∀y∈je (s.P p),xW y)):sY X t (a.op i s):=by
 have l1:∀c d,lq (a.op i s) c d=lq a c d:=λc d=>by
  rw[IU];split
  ·rename_i e;rw[U,<-e];rfl
  ·rfl
 have f1:∀c d,∃Z,(a.op i s).F c d=a.F c d++Z/\(Z=[] \/((lq a c d).st=9/\∀y∈Z,xW y)):=λc d=>by
  rw[yR];split
  ·rename_i e
   refine⟨_,rfl,?_⟩;rcases E (a.e c d).2 with g|⟨g1,V⟩
   ·exact .inl g
   ·right;rw[U]at g1;unfold lq;rw[e.2];exact⟨g1,V⟩
  ·exact⟨[],gN,.inl rfl⟩
 refine⟨λc hc hi=> ?_,λc hc hi d hd=> ?_⟩
 ·have p:=h.up c hc hi;rw[l1,l1];obtain⟨H,S,b0⟩:=f1 c 0;obtain⟨G,Y,b1⟩:=f1 c 1;rw[S,Y];have D:∀y∈H,xW y:=by
   rcases b0 with b|b;· rw[b];exact λ_ h=>by simp at h
   ·exact b.2
  have n1:∀y∈G,xW y:=by
   rcases b1 with b|b;· rw[b];exact λ_ h=>by simp at h
   ·exact b.2
  exact((p.more D).symm.more n1).symm
 ·obtain⟨Y,Q,M,J⟩:=h.dn c hc hi d hd;rw[l1];obtain⟨Z,g1,V⟩:=f1 c d;refine⟨Y,Q,M,?_⟩;rw[g1,J];rcases V with g|g
  ·rw[g];rfl
  ·have:=g.1;omega
theorem CB(i p:Nat)(s:iy)(h:∀q,q≠p->(s.P q).L=((a.R i).P q).L/\je (s.P q)=[])(c d:Nat):(a.e c d≠(i,p)->lq (a.op i s) c d=lq a c d/\(a.op i s).F c d=a.F c d)/\(a.e c d=(i,p)->c<a.nc->d<2->lq (a.op i s) c d=(s.P p).L/\(a.op i s).F c d=a.F c d++je (s.P p)):=by
 refine⟨λU=> ?_,λX hc hd=> ?_⟩
 ·rw[IU,yR];by_cases e:(a.e c d).1=i
  ·have V:(a.e c d).2≠p:=λZ=>U (bn e Z);obtain⟨g1,Y⟩:=h _ V;rw[ag e,g1,Y,aL];refine⟨?_,by split<;>rfl⟩;unfold lq;rw[e]
  ·rw[ae e,ae (λz=>e z.2)];exact⟨rfl,rfl⟩
 ·rw[IU,yR,X,ag rfl,ag ⟨⟨hc,hd⟩,rfl⟩];exact⟨rfl,rfl⟩
def pP(t:Nat×Nat->Nat)(T:List (Nat×Nat))(x:Nat×Nat):Nat:=t x+T.count x
def CM(X:Marks)(c d:Nat)(Y:Int->Bool):Marks:=λc' d'=>if c'=c/\d'=d then Y else X c' d'
theorem pQ(X:Marks)(c d:Nat)(Y:Int->Bool):CM X c d Y c d=Y:=ag ⟨rfl,rfl⟩
theorem lr(X:Marks) {c':Nat} (Y:Int->Bool)(h:¬(c'=c/\d'=d)):CM X c d Y c' d'=X c' d':=ae h
theorem xZ(c:UInt8)(s:List UInt8)(h:c≠76):xW (c::s):=λk u e=>by rw[<-(aK e).1];exact h
def Z5(r:iy)(p:Nat):List mb:=if(jB (r.P p).L).1.st=9 then(72::[jQ r.id,jQ (iH (r.P p).pe).who])::(if(iH (r.P p).pe).both=true then(lU (((iT r p).meet p (iH (r.P p).pe)).O p)).flatMap R6 else [])else []
theorem Sk(r:iy)(p:Nat):∀y∈Z5 r p,xW y:=λy hy=>by
 unfold Z5 at hy;split at hy
 ·rcases a7.1 hy with g|g
  ·rw[g];exact xZ 72 _ dS
  ·split at g
   ·obtain⟨q,_,Z⟩:=br.1 g;unfold R6 at Z;split at Z
    ·rw[ax.1 Z];exact xZ 83 _ dS
    ·simp at Z
   ·simp at g
 ·simp at hy
theorem KO(r:iy)(p q:Nat):((r.iV p).P q).L=if q=p then(jB (r.P p).L).1 else(r.P q).L:=by
 have Z:((iT r p).P q).L=if q=p then(jB (r.P p).L).1 else(r.P q).L:=by
  unfold iT;rw[kx];split
  ·rename_i e;rw[uE]
  ·rfl
 rw[kO];split
 ·rw[(j4 _ _ _ _).2.1];exact Z
 ·rw[((qO _ _).2.2.2.2 q).2.2,(j4 _ _ _ _).2.1];exact Z
structure KP(X Y:Marks)(a b:AN)(c d:Nat)(l em:List mb):Prop where
 f:b.F c d=l++em
 o:∀y∈l,AG (Y c d) y=AG (X c d) y/\qQ (Y c d) y=qQ (X c d) y
theorem sY.tick {X:Marks} {t:Nat×Nat->Nat} {a:AN} (A:yf a)(hN:Norm a)(h:sY X t a) {i p:Nat} (ht:∀x,t x<=126):∃Y,sY Y (pP t [(i,p)]) (a.op i ((a.R i).iV p))/\∀c d,c<a.nc->d<2->(a.e c d≠(i,p)->KP X Y a (a.op i ((a.R i).iV p)) c d (a.F c d) [])/\(a.e c d=(i,p)->∃em,(em=[] \/em=[nV (gP (a.e c d)) ((lq a c d).ow+1)])/\KP X Y a (a.op i ((a.R i).iV p)) c d (a.F c d) (em++Z5 (a.R i) p)):=by
 obtain⟨e1,e2⟩:=AF (hN.emp i) p;have S:=CB (a:=a) i p ((a.R i).iV p) λq hq=>⟨by rw[KO,ae hq],e1 q hq⟩
 have Z6:(((a.R i).iV p).P p).L=(jB ((a.R i).P p).L).1:=by rw[KO,ag rfl]
 have H:∀x,t x<=pP t [(i,p)] x:=λx=>Nat.le_add_right _ _;by_cases hex:∃c d,c<a.nc/\d<2/\a.e c d=(i,p)
 ·obtain⟨c,d,hc,hd,G⟩:=hex;have qd:lq a c d=((a.R i).P p).L:=by unfold lq;rw[G]
  have hu:∀c' d',c'<a.nc->d'<2->¬(c'=c/\d'=d)->a.e c' d'≠(i,p):=λc' d' U V E e=>E (A.ds _ _ _ _ U V hc hd (e.trans G.symm));cases hi:a.jr c
  ·obtain⟨l1,l2,l3,l4⟩:=h.dn c hc hi d hd;have xH:=Mi (zJ A hc hd) l1;have u:jB (lq a c d)=(lq a c d,[]):=by
    rcases xH.or with g|g
    ·exact bn (g.2.2.2.1 (.inl l2)) g.1
    ·omega
   rw[qd]at u l2;have em0:je (((a.R i).iV p).P p)=[] :=by
    rw[e2,u,ae (by rw[l2];decide)];rfl
   have tk0:Z5 (a.R i) p=[] :=by unfold Z5;rw[u,ae (by rw[l2];decide)]
   have D:∀c' d',lq (a.op i ((a.R i).iV p)) c' d'=lq a c' d'/\(a.op i ((a.R i).iV p)).F c' d'=a.F c' d':=λc' d'=>by
    by_cases J:a.e c' d'=(i,p)
    ·rw[IU,yR,J,ag rfl,Z6,u];refine⟨by unfold lq;rw[J],?_⟩;split
     ·rw[em0,aL]
     ·rfl
    ·exact(S c' d').1 J
   refine⟨X,⟨λc' U M=> ?_,λc' U M=> ?_⟩,λc' d' U V=>⟨λ_=>⟨by rw[(D c' d').2];simp,λ_ _=>⟨rfl,rfl⟩⟩,λ_=>⟨[],.inl rfl,by rw[(D c' d').2,tk0];simp,λ_ _=>⟨rfl,rfl⟩⟩⟩⟩
   ·exact(h.LR (X':=X) (b:=a.op i ((a.R i).iV p)) H rfl U rfl (λ_ _=>rfl) (λd _=>(D c' d).1) (λd _=>(D c' d).2)).1 M
   ·exact(h.LR (X':=X) (b:=a.op i ((a.R i).iV p)) H rfl U rfl (λ_ _=>rfl) (λd _=>(D c' d).1) (λd _=>(D c' d).2)).2 M
  ·have pr:=h.vu hc hd hi;have OW:t (a.e c 0)+t (a.e c 1)+1<=255:=by have:=ht (a.e c 0);have:=ht (a.e c 1);omega
   obtain⟨Z,q1,q2,q3⟩:=pr.tick (zJ A hc hd) OW;have q1:=q1.more (Sk (a.R i) p);obtain⟨f1,f2⟩:=(S c d).2 G hc hd;rw[e2]at f2;have f2:(a.op i ((a.R i).iV p)).F c d=a.F c d++(jB (lq a c d)).2.flatMap rA++Z5 (a.R i) p:=by
    rw[f2,qd,az];rfl
   rw[Z6,<-qd]at f1;have Dd:a.e c (1-d)≠(i,p):=hu c (1-d) hc dP dP;obtain⟨k1,k2⟩:=(S c (1-d)).1 Dd;have agU:pP t [(i,p)] (a.e c 0)+pP t [(i,p)] (a.e c 1)=t (a.e c 0)+t (a.e c 1)+1:=by
    have c1:([(i,p)] :List (Nat×Nat)).count (a.e c d)=1:=by rw[G];simp
    have c2:([(i,p)] :List (Nat×Nat)).count (a.e c (1-d))=0:=List.count_eq_zero.2 (by simp[Dd]);have:d=0 \/d=1:=dP;unfold pP;rcases this with rfl|rfl
    ·rw[c1,show([(i,p)] :List (Nat×Nat)).count (a.e c 1)=0 from c2];omega
    ·rw[c1,show([(i,p)] :List (Nat×Nat)).count (a.e c 0)=0 from c2];omega
   refine⟨CM X c d Z,⟨λc' U M=> ?_,λc' U M=> ?_⟩,λc' d' U V=>⟨λE=> ?_,λJ=> ?_⟩⟩
   ·by_cases hcc:c'=c
    ·subst hcc;show Pair _ _ (pP t [(i,p)] (a.e c' 0)+pP t [(i,p)] (a.e c' 1)) (gP (a.e c' 0)) (gP (a.e c' 1)) _ _ _ _;rw[agU];refine IQ (X:=λ_ d'=>CM X c' d Z c' d') (g:=λd'=>gP (a.e c' d')) (L:=λd'=>lq (a.op i ((a.R i).iV p)) c' d') (F:=λd'=>(a.op i ((a.R i).iV p)).F c' d') hd ?_;show Pair (CM X c' d Z c' d) (CM X c' d Z c' (1-d)) _ _ _ _ _ _ _;rw[pQ,lr X Z dP,f1,f2,k1,k2];exact q1
    ·have Q:∀d',d'<2->a.e c' d'≠(i,p):=λd' V=>hu c' d' U V λz=>hcc z.1;exact(h.LR (X':=CM X c d Z) (b:=a.op i ((a.R i).iV p)) H rfl U rfl (λd' _=>lr X Z λz=>hcc z.1) (λd' V=>((S c' d').1 (Q d' V)).1) (λd' V=>((S c' d').1 (Q d' V)).2)).1 M
   ·have hcc:c'≠c:=λz=>by subst z;have:a.jr c'=false:=M;rw[hi]at this;exact absurd this gN
    have Q:∀d',d'<2->a.e c' d'≠(i,p):=λd' V=>hu c' d' U V λz=>hcc z.1;exact(h.LR (X':=CM X c d Z) (b:=a.op i ((a.R i).iV p)) H rfl U rfl (λd' _=>lr X Z λz=>hcc z.1) (λd' V=>((S c' d').1 (Q d' V)).1) (λd' V=>((S c' d').1 (Q d' V)).2)).2 M
   ·have j:¬(c'=c/\d'=d):=λz=>E (by rw[z.1,z.2];exact G);exact⟨by rw[((S c' d').1 E).2];simp,λ_ _=>by rw[lr X Z j];exact⟨rfl,rfl⟩⟩
   ·have j:=A.ds _ _ _ _ U V hc hd (J.trans G.symm);obtain⟨z1,z2⟩:=j;subst z1 z2;exact⟨_,q3,by rw[f2,az],λy hy=>by rw[pQ];exact En q2 y hy⟩
 ·have Q:∀c d,c<a.nc->d<2->a.e c d≠(i,p):=λc d hc hd e=>hex ⟨c,d,hc,hd,e⟩;refine⟨X,⟨λc hc hi=> ?_,λc hc hi=> ?_⟩,λc d hc hd=>⟨λE=>⟨by rw[((S c d).1 E).2];simp,λ_ _=>⟨rfl,rfl⟩⟩,λJ=>absurd J (Q c d hc hd)⟩⟩
  ·exact(h.LR (X':=X) (b:=a.op i ((a.R i).iV p)) H rfl hc rfl (λ_ _=>rfl) (λd hd=>((S c d).1 (Q c d hc hd)).1) (λd hd=>((S c d).1 (Q c d hc hd)).2)).1 hi
  ·exact(h.LR (X':=X) (b:=a.op i ((a.R i).iV p)) H rfl hc rfl (λ_ _=>rfl) (λd hd=>((S c d).1 (Q c d hc hd)).1) (λd hd=>((S c d).1 (Q c d hc hd)).2)).2 hi
theorem FI(r:iy)(i:Nat) {c:UInt8} (s:List UInt8)(hc:c≠76)(p:Nat):((r.take i c s).P p).L=(r.P p).L:=by
 rw[lK,Cv i s hc];split
 ·exact(j4 _ _ _ _).2.1
 ·exact(KB r i c s p).1
theorem AH(r:iy)(i:Nat)(s:List UInt8)(p:Nat):((r.take i 76 s).P p).L=((jH r i 76 s).P p).L/\((r.take i 76 s).P p).out=((jH r i 76 s).P p).out:=by
 rw[lK];split
 ·exact⟨(j4 _ _ _ _).2.1,(j4 _ _ _ _).1⟩
 ·unfold l9;rw[ae dS,ae dS,ae dS,ae dS];exact⟨rfl,rfl⟩
theorem yX {r:iy} (h:Df r i x p l)(hx:xW x)(X Y:Int->Bool):(l=[] \/((r.P p).L.st=9/\∀y∈l,xW y))/\(∀y∈l,AG Y y+1<=AG X x)/\(sm (qQ Y) l<=(if p=i then qQ X x else 0)):=by
 have Z:∀(c:UInt8) (s:List UInt8),c≠76->Dg 1 (c::s)=ν:=λc s h=>Em 1 s h;cases h with
 |none h=>rw[h];exact⟨.inl rfl,λ_ h=>by simp at h,Nat.zero_le _⟩
 |link s h _ _ _=>exact absurd rfl (hx 76 s h)
 |heard s hs U V _ _ _ _ h=>
  have d1:AG X x=2/\qQ X x=2:=by rw[hs];unfold AG qQ;rw[Z 83 s dS];exact⟨rfl,rfl⟩
  have d2:∀u,AG Y (65::u)=1/\qQ Y (65::u)=1:=λu=>by unfold AG qQ;rw[Z 65 u dS];exact⟨rfl,rfl⟩
  rw[h];refine⟨.inr ⟨by rw[U];exact V,λy hy=>by rw[ax.1 hy];exact xZ 65 _ dS⟩,λy hy=>by rw[ax.1 hy,(d2 _).1,d1.1];exact Nat.le_refl _,?_⟩;rw[ag U,d1.2];show qQ Y _+0<=2;rw[(d2 _).2];decide
 |R8 a b s hs V h1 _ h=>
  have d1:AG X x=b.toNat+1:=by rw[hs];unfold AG;rw[Z 77 _ dS];rfl
  have d2:AG Y (77::a::jQ ((b.toNat:Int)-1)::s)=b.toNat:=by
   unfold AG;rw[Z 77 _ dS];show(jQ ((b.toNat:Int)-1)).toNat+1=_;have:=np ((b.toNat:Int)-1) dP (by have:=b.toNat_lt;omega);omega
  have S:qQ Y (77::a::jQ ((b.toNat:Int)-1)::s)=0:=by unfold qQ;rw[Z 77 _ dS];rfl
  rw[h];refine⟨.inr ⟨V,λy hy=>by rw[ax.1 hy];exact xZ 77 _ dS⟩,λy hy=>by rw[ax.1 hy,d2,d1];exact Nat.le_refl _,?_⟩;show qQ Y _+0<=_;rw[S];exact Nat.zero_le _
def wc(X:Marks)(a:AN)(c:Nat):Nat:=sm (qQ (X c 0)) (a.F c 0)+sm (qQ (X c 1)) (a.F c 1)
theorem CC {α:Type} {f g:α->Nat} {l:List α} (h:∀x∈l,f x=g x):sm f l=sm g l:=by
 refine Nat.le_antisymm (uI λx hx=>Nat.le_of_eq (h x hx)) (uI λx hx=>Nat.le_of_eq (h x hx).symm)
theorem KP.w {X Y:Marks} {em:List mb} (h:KP X Y a b c d l em):sm (qQ (Y c d)) (b.F c d)=sm (qQ (X c d)) l+sm (qQ (Y c d)) em:=by
 rw[h.f,r9,CC λy hy=>(h.o y hy).2]
theorem U6 {X:Marks} (h:sY X t a)(hc:c<a.nc)(hd:d<2)(hF:a.F c d=x::l):sY X t (a.lM c d l):=by
 refine⟨λc' Y hi=> ?_,λc' Y hi d' Q=> ?_⟩
 ·have p:=h.up c' Y hi;have hs:∀d',((a.lM c d l).F c' d').Sublist (a.F c' d'):=λd'=>by
   rw[wJ];split
   ·rename_i e;rw[e.1,e.2,hF];exact bE _ _
   ·exact List.Sublist.refl _
  exact p.sub (hs 0) (hs 1)
 ·obtain⟨V,U,S,Z⟩:=h.dn c' Y hi d' Q;refine⟨V,U,S,?_⟩;rw[wJ,ae]
  ·exact Z
  ·rintro⟨rfl,rfl⟩;rw[hF]at Z;exact absurd Z gN
theorem Mn {P:Prop} [Decidable P] {k:Nat} (hd:d<2) {s e f:Nat->Nat} (V:∀d',d'<2->e d'<=if P/\d'=1-d then k else 0)(hs:∀d',d'<2->s d'+(if P/\d'=d then k else 0)<=f d'):s 0+e 0+(s 1+e 1)<=f 0+f 1:=by
 have Z:=V 0 dS;have Y:=V 1 dS;have b0:=hs 0 dS;have b1:=hs 1 dS;have U:d=0 \/d=1:=dP;by_cases X:P
 ·rcases U with rfl|rfl<;>simp[X]at Z Y b0 b1<;>omega
 ·simp[X]at Z Y b0 b1;omega
structure YX(X Y:Marks)(a b:AN)(c d:Nat)(x:mb)(l:List mb):Prop where
 fl:∀c' d',c'<a.nc->d'<2->∃em,KP X Y a b c' d' (if c'=c/\d'=d then l else a.F c' d') em/\(∀y∈em,AG (Y c' d') y+1<=AG (X c d) x)
 w:∀c',c'<a.nc->wc Y b c'<=wc X a c'
theorem sY.pop {X:Marks} {t:Nat×Nat->Nat} {a:AN} (hB:yf a)(hN:Norm a)(h:sY X t a)(ht:∀x,t x<=127) {c d:Nat} {x:mb} {l:List mb} (hc:c<a.nc)(hd:d<2)(hF:a.F c d=x::l):∃Y,sY Y t (a.pop c d x l)/\YX X Y a (a.pop c d x l) c d x l:=by
 have hi:=h.Sj hc hd (x:=x) (by rw[hF];simp);have A:=(h.vu hc hd hi).symm;have VH:=U6 h hc hd hF;obtain⟨r,hr⟩:=fP (a.R (a.e c (1-d)).1);obtain⟨i,H⟩:=fP ((a.e c (1-d)).1);obtain⟨p,tj⟩:=fP ((a.e c (1-d)).2);have VC:a.e c (1-d)=(i,p):=bn H tj;have Q:a.pop c d x l=(a.lM c d l).op i (jT r p x):=by unfold AN.pop;rw[hr,H,tj]
 have Nj:a.R i=r:=by rw[<-H];exact hr
 have Z4:Jc r:=by rw[<-Nj];exact hN.emp i
 obtain⟨ZG,_⟩:=xS Z4 p x;have qd:lq a c (1-d)=(r.P p).L:=by unfold lq;rw[VC,Nj]
 have hif:∀c' d',(a.lM c d l).F c' d'=if c'=c/\d'=d then l else a.F c' d':=λ_ _=>rfl
 by_cases hx:xW x
 ·
  have hL:∀q,((jT r p x).P q).L=(r.P q).L:=λq=>by
   cases x with
   |nil=>rfl
   |cons k s=>exact FI r p s (hx k s rfl) q
  have hq:=λq=>yX (ZG q) hx (X c d) (λ_=>false);have hl:=VH.quiet i (jT r p x) (λq=>by rw[hL];show(r.P q).L=((a.R i).P q).L;rw[Nj]) λq=>by
   rcases(hq q).1 with g|⟨g1,g2⟩
   ·exact .inl g
   ·exact .inr ⟨by rw[hL];exact g1,g2⟩
  have S:∀c' d',c'<a.nc->d'<2->KP X X a (a.pop c d x l) c' d' (if c'=c/\d'=d then l else a.F c' d') (if(a.e c' d').1=i then je ((jT r p x).P (a.e c' d').2)else []):=λc' d' V U=>by
   refine⟨?_,λ_ _=>⟨rfl,rfl⟩⟩;rw[Q,yR,KH,Fq,hif];by_cases e:(a.e c' d').1=i
   ·rw[ag ⟨⟨V,U⟩,e⟩,ag e]
   ·rw[ae (λz=>e z.2),ae e,aL]
  refine⟨X,by rw[Q];exact hl,λc' d' V U=>⟨_,S c' d' V U,λy hy=> ?_⟩,λc' V=> ?_⟩
  ·split at hy
   ·exact(yX (ZG (a.e c' d').2) hx (X c d) (X c' d')).2.1 y hy
   ·simp at hy
  ·have w0:=(S c' 0 V dS).w;have w1:=(S c' 1 V dS).w;have hE:∀d',d'<2->sm (qQ (X c' d')) (if(a.e c' d').1=i then je ((jT r p x).P (a.e c' d').2)else [])<=if c'=c/\d'=1-d then qQ (X c d) x else 0:=λd' U=>by
    by_cases e:(a.e c' d').1=i
    ·rw[ag e];have:=(yX (ZG (a.e c' d').2) hx (X c d) (X c' d')).2.2;by_cases j:(a.e c' d').2=p
     ·rw[ag j]at this;have:=hB.ds c' d' c (1-d) V U hc dP (by rw[VC];exact bn e j);rw[ag this];assumption
     ·rw[ae j]at this;omega
    ·rw[ae e];exact Nat.zero_le _
   have hI:∀d',d'<2->sm (qQ (X c' d')) (if c'=c/\d'=d then l else a.F c' d')+(if c'=c/\d'=d then qQ (X c d) x else 0)<=sm (qQ (X c' d')) (a.F c' d'):=λd' U=>by
    by_cases e:c'=c/\d'=d
    ·rw[ag e,ag e,e.1,e.2,hF];show _<=qQ (X c d) x+sm (qQ (X c d)) l;omega
    ·rw[ae e,ae e];exact Nat.le_refl _
   unfold wc;rw[w0,w1];exact Mn hd (s:=λd'=>sm (qQ (X c' d')) (if c'=c/\d'=d then l else a.F c' d')) (f:=λd'=>sm (qQ (X c' d')) (a.F c' d')) hE hI
 ·
  have acP:(∃id,0<=id/\id<=255/\x=nV (gP (a.e c d)) id) \/(∃id,0<=id/\id<=255/\x=qP (gP (a.e c (1-d))) id):=by
   rcases A.g x (by rw[hF];simp)with g|g|g
   ·exact absurd g hx
   ·exact .inl g
   ·exact .inr g
  have gd:=zJ hB hc hd;have M:=zJ hB hc (show 1-d<2 by omega);obtain⟨q,s,Vn,uo,hPL⟩:∃(q:kr) (s:List UInt8),x=76::s/\iF s=(q.1,q.2.1,q.2.2,0)/\∃Z,U4 (X c (1-d)) Z (X c d) (t (a.e c 0)+t (a.e c 1)) (gP (a.e c (1-d))) (gP (a.e c d)) (jD (lq a c (1-d)) q).1 (lq a c d) (a.F c (1-d)) l ((jD (lq a c (1-d)) q).2.1.flatMap rA) x:=by
   rw[hF]at A;rcases acP with⟨id,i1,i2,E⟩|⟨id,i1,i2,E⟩
   ·rw[E]at A;obtain⟨Z,hZ⟩:=A.req M gd (acO hB hc hd dP dP) (by have:=ht (a.e c 0);have:=ht (a.e c 1);omega) ⟨i1,i2⟩;exact⟨(1,id,nW (gP (a.e c d))),_,E,FE (.inl rfl) ⟨i1,i2⟩ gd,Z,by rw[E];exact hZ⟩
   ·rw[E]at A;have hZ:=A.ack M ⟨i1,i2⟩;exact⟨(2,id,nW (gP (a.e c (1-d)))),_,E,FE (.inr rfl) ⟨i1,i2⟩ M,X c (1-d),by rw[E];exact hZ⟩
  obtain⟨Z,pp⟩:=hPL;obtain⟨k1,_,k3,_⟩:=AB Z4 p 76 s;rw[uo]at k1 k3;have oP:=CB (a:=a.lM c d l) i p (jT r p x) λu hu=>by
   rw[Vn];show((r.take p 76 s).P u).L=((a.R i).P u).L/\je ((r.take p 76 s).P u)=[]
   rw[(AH r p s u).1,nF (AH r p s u).2,k1,ae (λz=>hu z.1),(k3 u).2.2,ae (λz=>hu z.1),Nj];exact⟨rfl,rfl⟩
  have Z6:((jT r p x).P p).L=(jD (lq a c (1-d)) q).1/\je ((jT r p x).P p)=(jD (lq a c (1-d)) q).2.1.flatMap rA:=by
   rw[Vn,qd];show((r.take p 76 s).P p).L=_/\je ((r.take p 76 s).P p)=_;rw[(AH r p s p).1,nF (AH r p s p).2,k1,ag ⟨rfl,rfl,rfl⟩,(k3 p).2.2,ag ⟨rfl,rfl,rfl⟩];exact⟨rfl,rfl⟩
  obtain⟨em,agX⟩:=fP ((jD (lq a c (1-d)) q).2.1.flatMap rA);obtain⟨L',hL'⟩:∃L',(jD (lq a c (1-d)) q).1=L':=⟨_,rfl⟩
  rw[agX,hL']at pp Z6;have hu:∀c' d',c'<a.nc->d'<2->¬(c'=c/\d'=1-d)->a.e c' d'≠(i,p):=λc' d' V U jq e=>jq (hB.ds _ _ _ _ V U hc dP (e.trans VC.symm));have hb:∀c' d',c'<a.nc->d'<2->¬(c'=c/\d'=1-d)->lq (a.pop c d x l) c' d'=lq a c' d'/\(a.pop c d x l).F c' d'=if c'=c/\d'=d then l else a.F c' d':=λc' d' V U jq=>by
   rw[Q];exact(oP c' d').1 (hu c' d' V U jq)
  have jV:lq (a.pop c d x l) c (1-d)=L'/\(a.pop c d x l).F c (1-d)=a.F c (1-d)++em:=by
   rw[Q];obtain⟨z1,z2⟩:=(oP c (1-d)).2 VC hc (by show 1-d<2;omega);rw[z1,z2,Z6.1,Z6.2,hif,ae dP];exact⟨rfl,rfl⟩
  have S6:=hb c d hc hd dP;rw[ag ⟨rfl,rfl⟩]at S6;have rJ:(a.pop c d x l).nc=a.nc:=by rw[Q];rfl
  have J:(a.pop c d x l).e=a.e:=by rw[Q];rfl
  have oE:(a.pop c d x l).jr=a.jr:=by rw[Q];rfl
  have S:∀c' d',c'<a.nc->d'<2->KP X (CM X c (1-d) Z) a (a.pop c d x l) c' d' (if c'=c/\d'=d then l else a.F c' d') (if c'=c/\d'=1-d then em else []):=λc' d' V U=>by
   by_cases e:c'=c/\d'=1-d
   ·rw[ag e,ae dP];obtain⟨e1,j⟩:=e;subst e1 j;exact⟨jV.2,λy hy=>by rw[pQ];exact En pp.old y hy⟩
   ·rw[ae e];exact⟨by rw[(hb c' d' V U e).2,aL],λy hy=>by rw[lr X Z e];exact⟨rfl,rfl⟩⟩
  refine⟨CM X c (1-d) Z,⟨λc' V D=> ?_,λc' V D=> ?_⟩,λc' d' V U=>⟨_,S c' d' V U,λy hy=> ?_⟩,λc' V=> ?_⟩
  ·rw[rJ]at V;by_cases hcc:c'=c
   ·subst hcc;rw[J];refine IQ (X:=λ_ d'=>CM X c' (1-d) Z c' d') (g:=λd'=>gP (a.e c' d')) (L:=λd'=>lq (a.pop c' d x l) c' d') (F:=λd'=>(a.pop c' d x l).F c' d') (d:=1-d) dP ?_;show Pair (CM X c' (1-d) Z c' (1-d)) (CM X c' (1-d) Z c' (1-(1-d))) _ _ _ _ _ _ _;rw[show 1-(1-d)=d by omega,pQ,lr X Z dP,jV.1,jV.2,S6.1,S6.2];exact pp.p
   ·rw[oE]at D;have G:∀d',¬(c'=c/\d'=1-d):=λ_ z=>hcc z.1;refine(h.LR (X':=CM X c (1-d) Z) (b:=a.pop c d x l) (u:=t) (λ_=>Nat.le_refl _) J V (by rw[oE]) (λd' _=>lr X Z (G d')) (λd' U=>(hb c' d' V U (G d')).1) (λd' U=> ?_)).1 (by rw[oE];exact D);rw[(hb c' d' V U (G d')).2,ae (λz=>hcc z.1)]
  ·rw[rJ]at V;have hcc:c'≠c:=λz=>by subst z;rw[oE,hi]at D;exact absurd D gN
   have G:∀d',¬(c'=c/\d'=1-d):=λ_ z=>hcc z.1;refine(h.LR (X':=CM X c (1-d) Z) (b:=a.pop c d x l) (u:=t) (λ_=>Nat.le_refl _) J V (by rw[oE]) (λd' _=>lr X Z (G d')) (λd' U=>(hb c' d' V U (G d')).1) (λd' U=> ?_)).2 D;rw[(hb c' d' V U (G d')).2,ae (λz=>hcc z.1)]
  ·split at hy
   ·rename_i e
    rw[e.1,e.2,pQ];exact pp.dp y hy
   ·simp at hy
  ·have w0:=(S c' 0 V dS).w;have w1:=(S c' 1 V dS).w;have alB:=pp.wg;unfold wc;rw[w0,w1];refine Mn (P:=c'=c) (k:=qQ (X c d) x) hd (s:=λd'=>sm (qQ (X c' d')) (if c'=c/\d'=d then l else a.F c' d')) (e:=λd'=>sm (qQ (CM X c (1-d) Z c' d')) (if c'=c/\d'=1-d then em else [])) (f:=λd'=>sm (qQ (X c' d')) (a.F c' d')) (λd' _=> ?_) λd' _=> ?_
   ·by_cases e:c'=c/\d'=1-d
    ·simp only[if_pos e];rw[e.1,e.2,pQ];omega
    ·simp only[if_neg e];exact Nat.le_refl _
   ·by_cases e:c'=c/\d'=d
    ·simp only[if_pos e];rw[e.1,e.2,hF];show _<=qQ (X c d) x+sm (qQ (X c d)) l;omega
    ·simp only[if_neg e];exact Nat.le_refl _
theorem uL(J:yf a)(H:Norm a)(hc:c<a.nc)(hd:d<2)(up:Bool)(h:(ko (lq a c d) (if up=true then 0 else 1)).2.2=0):∀c' d',c'<a.nc->d'<2->(¬(c'=c/\d'=d)->lq (a.mI c d up) c' d'=lq a c' d'/\(a.mI c d up).F c' d'=a.F c' d')/\(c'=c/\d'=d->lq (a.mI c d up) c' d'=(ko (lq a c d) (if up=true then 0 else 1)).1/\(a.mI c d up).F c' d'=a.F c d++(ko (lq a c d) (if up=true then 0 else 1)).2.1.flatMap rA):=λc' d' V X=>by
 obtain⟨S,Q,M⟩:=Fz (H.emp (a.e c d).1) (a.e c d).2 up h;have Z:∀q,(((a.R (a.e c d).1).iw (a.e c d).2 up).1.P q).L=if q=(a.e c d).2 then(ko (lq a c d) (if up=true then 0 else 1)).1 else((a.R (a.e c d).1).P q).L:=λq=>by
  rw[M,(j4 _ _ _ _).2.1,kx];split
  ·rw[Ch];rfl
  ·rfl
 have U:=CB (a:=a) (a.e c d).1 (a.e c d).2 _ (λq Y=>⟨by rw[Z,ae Y],S q Y⟩) c' d';refine⟨λE=>U.1 λe=>E (J.ds _ _ _ _ V X hc hd e),λG=> ?_⟩;obtain⟨D,A⟩:=G;subst D A;have:=U.2 rfl V X;rw[Z,ag rfl,Q]at this;exact this
theorem CD(E:yf a)(D:Norm a)(hc:c<a.nc)(up:Bool)(h:∀d,d<2->(ko (lq a c d) (if up=true then 0 else 1)).2.2=0):(∀c' d',c'<a.nc->d'<2->c'≠c->lq (a.iw c up) c' d'=lq a c' d'/\(a.iw c up).F c' d'=a.F c' d')/\∀d,d<2->lq (a.iw c up) c d=(ko (lq a c d) (if up=true then 0 else 1)).1/\(a.iw c up).F c d=(ko (lq a c d) (if up=true then 0 else 1)).2.1.flatMap rA:=by
 obtain⟨b,hb⟩:=fP ((({a with jr:=jy a.jr c up}:AN).lM c 0 []).lM c 1 []);have M:yf b:=E.same (by rw[<-hb];rfl) (by rw[<-hb];rfl) (by rw[<-hb];rfl);have J:Norm b:=by rw[<-hb];exact D
 have X:c<b.nc:=by rw[<-hb];exact hc
 have V:∀c' d',lq b c' d'=lq a c' d':=λc' d'=>by rw[<-hb];rfl
 have Z:∀c' d',b.F c' d'=if c'=c/\d'=1 then []else if c'=c/\d'=0 then []else a.F c' d':=λc' d'=>by rw[<-hb];rfl
 have A:a.iw c up=(b.mI c 0 up).mI c 1 up:=by unfold AN.iw;rw[hb]
 have f0:=uL M J X (by decide:0<2) up (by rw[V];exact h 0 dS);have y:yf (b.mI c 0 up):=M.same rfl rfl rfl;have Y:=(f0 c 1 X dS).1 dP;have f1:=uL (a:=b.mI c 0 up) y (qt J _ _) X (by decide:1<2) up (by rw[Y.1,V];exact h 1 dS);have U:b.nc=a.nc:=by rw[<-hb];rfl
 rw[A];refine⟨λc' d' G H S=> ?_,λd hd=> ?_⟩
 ·have g0:=(f0 c' d' (by rw[U];exact G) H).1 (λz=>S z.1);have g1:=(f1 c' d' (by show c'<b.nc;rw[U];exact G) H).1 (λz=>S z.1);rw[g1.1,g1.2,g0.1,g0.2,V,Z,ae (λz=>S z.1),ae (λz=>S z.1)];exact⟨rfl,rfl⟩
 ·have:d=0 \/d=1:=dP;rcases this with rfl|rfl
  ·have g1:=(f1 c 0 X dS).1 dP;have g0:=(f0 c 0 X dS).2 ⟨rfl,rfl⟩;have Q:b.F c 0=[] :=by rw[Z];simp
   rw[g1.1,g1.2,g0.1,g0.2,V,Q];exact⟨rfl,rfl⟩
  ·have g1:=(f1 c 1 X dS).2 ⟨rfl,rfl⟩;have Q:b.F c 1=[] :=by rw[Z];simp
   rw[g1.1,g1.2,Y.1,Y.2,V,Q];exact⟨rfl,rfl⟩
theorem sd(a:AN)(c:Nat)(up:Bool)(c':Nat):(a.iw c up).jr c'=if c'=c then up else a.jr c':=rfl
theorem sY.iw {X:Marks} {t:Nat×Nat->Nat} {a:AN} (V:yf a)(j:Norm a)(h:sY X t a)(J:∀x,t x<=126) {c:Nat} (hc:c<a.nc)(hi:a.jr c=false):sY (CM (CM X c 0 λ_=>false) c 1 λ_=>false) (pP t [a.e c 0,a.e c 1]) (a.iw c true):=by
 have Z:=h.dn c hc hi;have hu:=λd hd=>Wr (zJ V hc hd) (Z d hd).1 (Z d hd).2.1;obtain⟨f1,f2⟩:=CD V j hc true λd hd=>(Bo (Z d hd).2.1).1;have Q:∀x,t x<=pP t [a.e c 0,a.e c 1] x:=λx=>Nat.le_add_right _ _;have H:a.e c 0≠a.e c 1:=λe=>by have:=(V.ds _ _ _ _ hc dS hc dS e).2;omega
 refine⟨λc' Y U=> ?_,λc' Y U=> ?_⟩
 ·by_cases e:c'=c
  ·subst e;have M:∀d,d<2->CM (CM X c' 0 λ_=>false) c' 1 (λ_=>false) c' d=λ_=>false:=λd hd=>by
    have:d=0 \/d=1:=dP;rcases this with rfl|rfl
    ·rw[lr _ _ dP,pQ]
    ·rw[pQ]
   have hF:∀d,d<2->(a.iw c' true).F c' d=[nV (gP (a.e c' d)) (lq (a.iw c' true) c' d).ow] /\LI (gP (a.e c' d)) (lq (a.iw c' true) c' d)/\(lq (a.iw c' true) c' d).st=6/\(lq (a.iw c' true) c' d).ow=(lq a c' d).ow+1:=λd hd=>by
    obtain⟨u1,u2,u3,u4,u5⟩:=hu d hd;obtain⟨g1,u⟩:=f2 d hd;have hw:=(Z d hd).2.2.1;have ho:=(Z d hd).1.k.o1;have hb:(lq a c' d).ow+1<=255:=by have:=J (a.e c' 0);have:=J (a.e c' 1);omega
    have y:((lq a c' d).ow+1) %256=(lq a c' d).ow+1:=dP;rw[y]at u2 u3;rw[g1,u];simp only[if_true];refine⟨?_,u1,u4,u3⟩;rw[u2,u3];show rA _++ [] =_;rw[Mj (.inl rfl) ⟨dP,hb⟩ (zJ V hc hd)];rfl
   obtain⟨G,E,D,A⟩:=hF 0 dS;obtain⟨b1,b2,b3,b4⟩:=hF 1 dS;show Pair _ _ (pP t [a.e c' 0,a.e c' 1] (a.e c' 0)+pP t [a.e c' 0,a.e c' 1] (a.e c' 1)) (gP (a.e c' 0)) (gP (a.e c' 1)) _ _ _ _;rw[M 0 dS,M 1 dS,G,b1];have c0:pP t [a.e c' 0,a.e c' 1] (a.e c' 0)=t (a.e c' 0)+1:=by unfold pP;simp[Ne.symm H]
   have c1:pP t [a.e c' 0,a.e c' 1] (a.e c' 1)=t (a.e c' 1)+1:=by unfold pP;simp[H]
   have w0:=(Z 0 dS).2.2.1;have w1:=(Z 1 dS).2.2.1;refine Pair.new (zJ V hc dS) (zJ V hc dS) E b2 D b3 ?_ ?_
   ·rw[A,c0,c1];omega
   ·rw[b4,c0,c1];omega
  ·have S:(a.iw c true).jr c'=a.jr c':=by rw[sd,ae e]
   exact(h.LR (b:=a.iw c true) Q rfl Y S (λd _=>by rw[lr _ _ (λz=>e z.1),lr _ _ (λz=>e z.1)]) (λd hd=>(f1 c' d Y hd e).1) (λd hd=>(f1 c' d Y hd e).2)).1 U
 ·have e:c'≠c:=λz=>by rw[sd,ag z]at U;exact absurd U gN
  have S:(a.iw c true).jr c'=a.jr c':=by rw[sd,ae e]
  exact(h.LR (X':=CM (CM X c 0 λ_=>false) c 1 λ_=>false) (b:=a.iw c true) Q rfl Y S (λd _=>by rw[lr _ _ (λz=>e z.1),lr _ _ (λz=>e z.1)]) (λd hd=>(f1 c' d Y hd e).1) (λd hd=>(f1 c' d Y hd e).2)).2 U
theorem sY.draw {X:Marks} (M:yf a)(J:Norm a)(h:sY X t a)(hc:c<a.nc)(hi:a.jr c=true):sY X t (a.iw c false):=by
 have S:∀d,d<2->r7 (lq a c d).st=true:=λd hd=>by
  have p:=h.vu hc hd hi;have:=p.lu;have:=p.l.st;unfold r7;simp only[Bool.or_eq_true,beq_iff_eq,Bool.and_eq_true,decide_eq_true_eq];omega
 obtain⟨f1,f2⟩:=CD M J hc false λd hd=>(ry (S d hd)).1;refine⟨λc' Z Y=> ?_,λc' Z Y=> ?_⟩
 ·have e:c'≠c:=λz=>by rw[sd,ag z]at Y;exact absurd Y gN
  have V:(a.iw c false).jr c'=a.jr c':=by rw[sd,ae e]
  exact(h.LR (X':=X) (b:=a.iw c false) (u:=t) (λ_=>Nat.le_refl _) rfl Z V (λd _=>rfl) (λd hd=>(f1 c' d Z hd e).1) (λd hd=>(f1 c' d Z hd e).2)).1 Y
 ·by_cases e:c'=c
  ·subst e;intro d hd;have p:=h.vu hc hd hi;obtain⟨d1,d2,Q⟩:=U0 p.l p.lu;obtain⟨g1,U⟩:=f2 d hd;simp only[Bool.false_eq_true,if_false]at g1 U;rw[g1,U,IA (S d hd),Q];refine⟨d1,d2,?_,rfl⟩;have:=p.d.KM;show _<=((t (a.e c' 0)+t (a.e c' 1):Nat):Int)
   omega
  ·have V:(a.iw c false).jr c'=a.jr c':=by rw[sd,ae e]
   exact(h.LR (X':=X) (b:=a.iw c false) (u:=t) (λ_=>Nat.le_refl _) rfl Z V (λd _=>rfl) (λd hd=>(f1 c' d Z hd e).1) (λd hd=>(f1 c' d Z hd e).2)).2 Y
theorem IV(hi:i<6)(hp:p<3)(m:Nat->Int):LI (gP (i,p)) (DI ((i:Int)+1) m p).L/\(DI ((i:Int)+1) m p).L.st=1/\(DI ((i:Int)+1) m p).L.ow=0:=by
 have e:gP (i,p)=8*((i:Int)+1)+(p:Int)+1:=rfl;have hb:0<=gP (i,p)/\gP (i,p)<=255:=by rw[e];omega
 refine⟨⟨rfl,rfl,rfl,rfl,λh=>absurd h (by show¬(6:Int)<=1;decide),.inl rfl,⟨by show vq 1 0 0=true;decide,by show(0:Int)<=0;decide,by show(0:Int)<=255;decide,hb.1,hb.2,hb.1,hb.2⟩⟩,rfl,rfl⟩
theorem sY.lost {X:Marks} (h:sY X t a)(hl:wI a b):sY X t b:=by
 have hs:∀c d,(b.F c d).Sublist (a.F c d):=λc d=>by
  obtain⟨m,H⟩:=hl.2 c d;rw[H];exact List.take_sublist _ _
 have Y:b.nc=a.nc:=by rw[hl.1]
 have V:b.jr=a.jr:=by rw[hl.1]
 have U:b.e=a.e:=by rw[hl.1]
 have Z:∀c d,lq b c d=lq a c d:=λc d=>by rw[hl.1];rfl
 refine⟨λc hc hi=> ?_,λc hc hi d hd=> ?_⟩
 ·rw[U,Z,Z];exact(h.up c (by rw[<-Y];exact hc) (by rw[<-V];exact hi)).sub (hs c 0) (hs c 1)
 ·obtain⟨S,Q,M,J⟩:=h.dn c (by rw[<-Y];exact hc) (by rw[<-V];exact hi) d hd;rw[U,Z];refine⟨S,Q,M,?_⟩;have:=hs c d;rw[J]at this;exact List.sublist_nil.1 this
theorem sY.send {X:Marks} {t:Nat×Nat->Nat} {a:AN} (V:Norm a)(h:sY X t a)(i:Nat)(m:wT):sY X t (a.op i ((a.R i).send m)):=by
 obtain⟨_,_,_,_,Z⟩:=oj (a.R i) m;obtain⟨j,g1,Y⟩:=AE (V.emp i) m;refine h.quiet i _ (λp=>(Z p).2.2) λp=> ?_;by_cases e:p=j
 ·subst e;rcases Y with g|⟨g,f⟩
  ·exact .inl g
  ·exact .inr ⟨by rw[(Z p).2.2];exact g.1,λy hy=>by rw[f]at hy;rw[ax.1 hy];exact xZ 77 _ dS⟩
 ·exact .inl (g1 p e)
theorem sY.anew {X:Marks} (J:yf a)(h:sY X t a)(i m:Nat)(hd:∀c d,c<a.nc->d<2->(a.e c d).1=i->a.jr c=false/\a.F c 0=[] /\a.F c 1=[]):sY X t {a with R:=jy a.R i (jt ((i:Int)+1) 3 (a.ms i)),ib:=jy a.ib i ((a.ib i).take m)}:=by
 obtain⟨b,hb⟩:=fP (({a with R:=jy a.R i (jt ((i:Int)+1) 3 (a.ms i)),ib:=jy a.ib i ((a.ib i).take m)}:AN));have Y:∀c d,(a.e c d).1≠i->lq b c d=lq a c d:=λc d e=>by
  rw[<-hb];show((jy a.R i _ (a.e c d).1).P _).L=_;rw[gW _ _ e];rfl
 rw[hb];have U:b.nc=a.nc:=by rw[<-hb]
 have S:b.jr=a.jr:=by rw[<-hb]
 have Q:b.e=a.e:=by rw[<-hb]
 have M:b.F=a.F:=by rw[<-hb]
 refine⟨λc hc hi=> ?_,λc hc hi d Z=> ?_⟩
 ·rw[U]at hc;rw[S]at hi;have H:∀d,d<2->(a.e c d).1≠i:=λd Z e=>by rw[(hd c d hc Z e).1]at hi;exact absurd hi gN
  rw[Q,M,Y c 0 (H 0 dS),Y c 1 (H 1 dS)];exact h.up c hc hi
 ·rw[U]at hc;rw[S]at hi;obtain⟨G,E,D,V⟩:=h.dn c hc hi d Z;rw[Q,M];by_cases e:(a.e c d).1=i
  ·have y:=J.en c d hc Z;have hl:lq b c d=(DI ((i:Int)+1) (a.ms i) (a.e c d).2).L:=by
    rw[<-hb];show((jy a.R i _ (a.e c d).1).P _).L=_;rw[e,ij];rfl
   obtain⟨u,j,z3⟩:=IV (i:=i) (p:=(a.e c d).2) (by have:=J.n6;omega) y.2 (a.ms i);rw[hl];have A:a.e c d=(i,(a.e c d).2):=bn e rfl;rw[A];exact⟨u,j,by rw[z3];omega,V⟩
  ·rw[Y c d e];exact⟨G,E,D,V⟩
theorem sg(t:Nat×Nat->Nat):pP t [] =t:=by funext x;simp[pP]
theorem IW(t:Nat×Nat->Nat)(T U:List (Nat×Nat)):pP t (T++U)=pP (pP t T) U:=by
 funext x;unfold pP;rw[List.count_append];omega
theorem mc.links {S:List (Int×List UInt8)} (s:mc a T S b)(Z:yf a)(V:Norm a) {X:Marks} (h:sY X t a)(Q:∀x,t x<=126):∃Y,sY Y (pP t T) b:=by
 cases s with
 |lost hl=>exact⟨X,by rw[sg];exact h.lost hl⟩
 |tick i p _ _=>obtain⟨Y,U,_⟩:=h.tick Z V (i:=i) (p:=p) Q;exact⟨Y,U⟩
 |pop c d x l hc hd hF=>obtain⟨Y,U,_⟩:=h.pop Z V (λx=>by have:=Q x;omega) hc hd hF;exact⟨Y,by rw[sg];exact U⟩
 |send i m tx _ _ _ _=>exact⟨X,by rw[sg];exact h.send V i _⟩
 |iw c hc hi _ _=>exact⟨_,h.iw Z V Q hc hi⟩
 |draw c hc hi=>exact⟨X,by rw[sg];exact h.draw Z V hc hi⟩
 |anew i m hi hd=>exact⟨X,by rw[sg];exact h.anew Z i m hd⟩
theorem sY.mono {X:Marks} {t u:Nat×Nat->Nat} {a:AN} (h:sY X t a)(Z:∀x,t x<=u x):sY X u a:=
 ⟨λc hc hi=>(h.up c hc hi).mono (by have:=Z (a.e c 0);have:=Z (a.e c 1);omega),λc hc hi d hd=>by
  obtain⟨Y,V,a3,U⟩:=h.dn c hc hi d hd;exact⟨Y,V,by have:=Z (a.e c 0);have:=Z (a.e c 1);omega,U⟩⟩
theorem IX(h:T.Nodup)(k:Nat)(x:Nat×Nat):pP (λ_=>k) T x<=k+1:=by
 have:=List.nodup_iff_count.1 h x;show k+T.count x<=k+1;omega
