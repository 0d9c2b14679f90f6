import Derived.Test.YtieklnlbljejdaaGreatDoorW15
import Derived.Test.YtieklnlbljejdaaGreatDoorW16
open Go.Value renaming int → ι, slice → σ, pointer → π, tuple → τ, nilIface → η
open Go.IntKind renaming i64 → κ
open Go.Ending renaming returned → ρ
open Go.Obj renaming cells → γ
open Option renaming none → ν, some → μ
open List renaming range → gg
open Go renaming World → dY, Calls → eZ, Addr → dX
open Go.Proofs.Tryz renaming prog → e7
open Go.RowKit renaming intOf → fa
open Go.Value renaming ownBlock → eu, int → eB
open Go.IntKind renaming i64 → fJ
set_option maxRecDepth 100000
set_option maxHeartbeats 8000000
namespace Go.Proofs.YtieklnlbljejdaaGreatDoor
open Go.RowKit St
namespace Rt
variable {C:kT} {D N Ng c d i k m n nc sc x:Nat} {Es:Nat->List jH} {L:List oQ} {S:List (Int×List UInt8)} {T:List (Nat×Nat)} {W W' W2 w w0 wr:World} {X:Nat->Prop} {b:AN} {f:Nat->Option jH} {iT:Nat->Bool} {many v:Int} {out:List SV} {r:iO} {sb:Option Addr} {y z:iP}
def kV(r s:iO):Prop:=∀p,(s.P p).m=(r.P p).m
theorem kV.trans {r s t:iO} (h:kV r s)(g:kV s t):kV r t:=λp=>(g p).trans (h p)
theorem kV.meet(r:iO)(i:Nat)(q:lr):kV r (r.meet i q):=λp=>(j9 r i q p).2.2.1
theorem kV.iU(r:iO)(i:Nat)(q:jy)(h:q.m=(r.P i).m):kV r (r.iU i q):=λp=>by
 rw[kK];split
 ·rename_i e;rw[e,h]
 ·rfl
theorem kV.state(r:iO)(i:Nat)(s:List UInt8):kV r (jm r i s):=by
 unfold jm;simp only;split
 ·exact λ_=>rfl
 ·split
  ·unfold iO.behind;split<;>exact λ_=>rfl
  ·split
   ·exact λp=>(kV.iU _ i _ (sv _ _ _).1) p
   ·exact λ_=>rfl
theorem kV.heard(r:iO)(i:Nat)(s:List UInt8):kV r (kF r i s):=by
 unfold kF;simp only;split<;>exact λ_=>rfl
theorem kV.send(r:iO)(t:zi):kV r (r.send t):=λp=>((nu r t).2.2.2.2 p).1
theorem kV.link(h:Kh r)(i:Nat)(c:UInt8)(s:List UInt8):kV r (j4 r i c s):=λp=>((Af h i c s).2.2.1 p).2.1
theorem kV.jP {r:iO} (h:Kh r)(i:Nat)(x:lv):kV r (jP r i x):=by
 cases x with
 |nil=>exact λ_=>rfl
 |cons c s=>
  show kV r (r.take i c s);rw[lP];refine(kV.link h i c s).trans ?_;split
  ·exact kV.meet _ _ _
  ·unfold mF;split
   ·split
    ·exact kV.meet _ _ _
    ·exact λ_=>rfl
   ·split
    ·exact kV.state _ _ _
    ·split
     ·exact kV.heard _ _ _
     ·split
      ·unfold rC
       first
        |(split
          ·exact kV.send _ _
          ·exact λ_=>rfl)
        |exact kV.send _ _
      ·exact λ_=>rfl
theorem kV.iY(r:iO)(i:Nat):kV r (r.iY i):=by
 rw[ld];have Z:kV r (jd r i):=λp=>(lZ r i p).1;split
 ·exact Z.trans (kV.meet _ _ _)
 ·exact(Z.trans (kV.meet _ _ _)).trans λp=>((pN _ i).2.2.2.2 p).1
theorem kV.iL(r:iO)(i:Nat)(up:Bool):kV r (r.iL i up).1:=by
 unfold iO.iL;simp only;split
 ·exact λ_=>rfl
 ·refine(kV.iU r i _ ?_).trans (kV.meet _ _ _);unfold jy.iL;simp only;by_cases e:(k8 (r.P i).L (if up=true then 0 else 1)).2.2≠0
  ·rw[ai e]
  ·rw[af e,(vF _ _).1]
def DN(a:AN):Prop:=∀i p,i<a.n->((a.R i).P p).m=a.ms i p
theorem DN.op {a:AN} (h:DN a)(i:Nat) {s:iO} (hs:kV (a.R i) s):DN (a.op i s):=λj p Z=>by
 show(((a.op i s).R j).P p).m=a.ms j p;rw[JX];split
 ·rename_i e
  subst e;exact(hs p).trans (h j p Z)
 ·exact h j p Z
theorem DN.nK {a:AN} (h:DN a)(c d:Nat)(up:Bool):DN (a.nK c d up):=h.op _ (kV.iL _ _ _)
theorem DN.step {a:AN} (s:mW a T S b)(Y:Norm a)(h:DN a):DN b:=by
 cases s with
 |lost hl=>
  obtain⟨e,_⟩:=hl;rw[e];exact h
 |tick i p hi hp=>exact h.op i (kV.iY _ _)
 |pop c d x l hc hd hF=>exact DN.op (a:=a.lH c d l) h _ (kV.jP (Y.emp _) _ _)
 |send i t tx hi Z h6 hl=>exact h.op i (kV.send _ _)
 |iL c hc hi h0 Z=>exact DN.nK (DN.nK h c 0 true) c 1 true
 |draw c hc hi=>exact DN.nK (DN.nK h c 0 false) c 1 false
 |anew i m hi hx=>
  intro j p V;show((jW a.R i (jO ((i:Int)+1) 3 (a.ms i)) j).P p).m=a.ms j p;by_cases e:j=i
  ·subst e;rw[iF];rfl
  ·rw[iE _ _ e];exact h j p V
theorem DN.path {a:AN} (s:jV a T S b)(Z:Norm a)(h:DN a):DN b:=by
 induction s with
 |nil=>exact h
 |snoc p q ih=>exact DN.step q (p.norm Z) ih
theorem Xd(many:Nat)(L:List oQ):DN (iJ (jS many L)):=λ_ _ _=>rfl
def InS(S:Nat->Prop)(H:Nat->HP):Prop:=∀x,x<7->(H x).far≠0->S x
theorem Tn {D:kT} {S:Nat->Prop} (J:∀x y,x<7->y<7->S x->C x y≠0->S y)(h:∀x y,x<7->y<7->S x->C x y=D x y)(r:Nat) {b:Nat} (hb:b<7)(U:n<7) {H:Nat->HP} (Z:InS S H):oj C r b n H=oj D r b n H/\InS S (oj C r b n H):=by
 unfold oj;by_cases Y:(H b).far=0
 ·rw[ai (.inl Y),ai (.inl Y)];exact⟨rfl,Z⟩
 ·have V:=Z b hb Y;rw[<-h b n hb U V];refine⟨rfl,?_⟩;split
  ·exact Z
  ·rename_i e
   split
   ·intro x hx hf;simp only[rA]at hf;split at hf
    ·rename_i Q
     rw[Q];exact J b n hb U V (λM=>e (.inr (.inl M)))
    ·exact Z x hx hf
   ·exact Z
theorem Mz {C D:kT} {S:Nat->Prop} (Y:∀x y,x<7->y<7->S x->C x y≠0->S y)(h:∀x y,x<7->y<7->S x->C x y=D x y)(r:Nat) {b:Nat} (hb:b<7) {H:Nat->HP} (Z:InS S H):∀n,n<=7->oS C r b H n=oS D r b H n/\InS S (oS C r b H n)
 |0,_=>⟨rfl,Z⟩
 |n+1,hn=>by
  obtain⟨e,hi⟩:=Mz Y h r hb Z n eh;obtain⟨U,V⟩:=Tn Y h r hb (show n<7 by omega) hi;refine⟨?_,V⟩;show oj C r b n (oS C r b H n)=oj D r b n (oS D r b H n);rw[<-e,U]
theorem Qs {C D:kT} {S:Nat->Prop} (Y:∀x y,x<7->y<7->S x->C x y≠0->S y)(h:∀x y,x<7->y<7->S x->C x y=D x y)(r:Nat) {H:Nat->HP} (Z:InS S H):∀b,b<=7->AB C r H b=AB D r H b/\InS S (AB C r H b)
 |0,_=>⟨rfl,Z⟩
 |b+1,hb=>by
  obtain⟨e,hi⟩:=Qs Y h r Z b eh;obtain⟨U,V⟩:=Mz Y h r (show b<7 by omega) hi 7 (Nat.le_refl _);refine⟨?_,V⟩;show oS C r b (AB C r H b) 7=oS D r b (AB D r H b) 7;rw[<-e,U]
theorem CM {C D:kT} {S:Nat->Prop} (U:∀x y,x<7->y<7->S x->C x y≠0->S y)(h:∀x y,x<7->y<7->S x->C x y=D x y) {r:Nat} (V:r<7)(Y:S r):∀k,jl C r k=jl D r k/\InS S (jl C r k)
 |0=>by
  refine⟨?_,?_⟩
  ·funext x
   show kY C r 7 x=kY D r 7 x;unfold kY;by_cases hx:x<7
   ·rw[h r x V hx Y]
   ·rw[af (λe=>hx e.1),af (λe=>hx e.1)]
  ·intro x hx hf;refine U r x V hx Y λe=>hf ?_;show(kY C r 7 x).far=0;unfold kY;rw[af (by rw[e];exact λZ=>absurd Z.2 eA)];rfl
 |k+1=>by
  obtain⟨e,hi⟩:=CM U h V Y k;obtain⟨Z,Q⟩:=Qs U h r hi 7 (Nat.le_refl _);refine⟨?_,Q⟩;show AB C r (jl C r k) 7=AB D r (jl D r k) 7;rw[<-e,Z]
theorem Tp {D:kT} {S:Nat->Prop} (Z:∀x y,x<7->y<7->S x->C x y≠0->S y)(h:∀x y,x<7->y<7->S x->C x y=D x y) {r:Nat} (U:r<7)(V:S r):pw (kL C) r=pw (kL D) r:=by
 unfold pw;have Y:∀x y,x<7->y<7->S x->kL C x y=kL D x y:=λx y hx hy hs=>by
  unfold kL;rw[<-h x y hx hy hs];by_cases e:C x y=0
  ·rw[e];simp
  ·rw[<-h y x hy hx (Z x y hx hy hs e)]
 rw[(CM (λx y hx hy hs hc=>Z x y hx hy hs (λe=>hc (by unfold kL;rw[e];simp))) Y U V 6).1]
def Least(S:Int->Prop)(v:Int):Prop:=(v=0/\∀m,¬S m) \/(S v/\∀m,S m->v<=m)
theorem Least.uniq {S Z:Int->Prop} {w:Int} (h:Least S v)(g:Least Z w)(e:∀m,S m↔Z m):v=w:=by
 rcases h with⟨Y,U⟩|⟨Y,U⟩
 ·rcases g with⟨g1,_⟩|⟨g1,_⟩
  ·rw[Y,g1]
  ·exact absurd ((e w).2 g1) (U w)
 ·rcases g with⟨_,V⟩|⟨g1,V⟩
  ·exact absurd ((e v).1 Y) (V v)
  ·have:=U w ((e w).2 g1);have:=V v ((e v).1 Y);omega
theorem Least.pos {S:Int->Prop} (h:Least S v)(V:∀m,S m->1<=m):(0<v↔∃m,S m)/\0<=v:=by
 rcases h with⟨Z,Y⟩|⟨Z,Y⟩
 ·exact⟨⟨λe=>eh,λ⟨m,U⟩=>absurd U (Y m)⟩,eh⟩
 ·exact⟨⟨λ_=>⟨v,Z⟩,λ_=>by have:=V v Z;omega⟩,by have:=V v Z;omega⟩
def vJ(P:Nat->jy)(n:Int)(k:Nat):Int:=match jR P n k with|none=>0|some b=>(P b).m
theorem FV(P:Nat->jy)(n:Int):∀k,Least (λm=>∃p,p<k/\(P p).pe.both=true/\(P p).pe.who=n/\(P p).m=m) (vJ P n k)/\(jR P n k=ν->∀p,p<k->¬((P p).pe.both=true/\(P p).pe.who=n))
 |0=>⟨.inl ⟨rfl,λm ⟨p,M,_⟩=>absurd M eh⟩,λ_ p M=>absurd M eh⟩
 |k+1=>by
  obtain⟨ih,ih2⟩:=FV P n k;by_cases hb:Ch P n k
  ·have e:=xE hb;refine⟨?_,λU=>by rw[e]at U;exact absurd U gZ⟩;have ev:vJ P n (k+1)=(P k).m:=by unfold vJ;rw[e]
   rw[ev];refine .inr ⟨⟨k,eh,hb.1,hb.2.1,rfl⟩,?_⟩;rintro m ⟨p,M,Z,Y,rfl⟩;by_cases J:p=k
   ·rw[J];exact Int.le_refl _
   ·have A:p<k:=eh;have Q:=hb.2.2;unfold vJ at ih;cases H:jR P n k with
    |none=>exact absurd ⟨Z,Y⟩ (ih2 H p A)
    |some b=>
     rw[H]at Q ih;simp only[decide_eq_true_eq]at Q;simp only at ih;rcases ih with⟨_,V⟩|⟨_,V⟩
     ·exact absurd ⟨p,A,Z,Y,rfl⟩ (V _)
     ·have:=V _ ⟨p,A,Z,Y,rfl⟩;omega
  ·have e:=wF hb;have ev:vJ P n (k+1)=vJ P n k:=by unfold vJ;rw[e]
   rw[ev,e];have key:jR P n k=ν->¬((P k).pe.both=true/\(P k).pe.who=n):=λU G=>hb ⟨G.1,G.2,by rw[U]⟩;refine⟨?_,λU p M=> ?_⟩
   ·rcases ih with⟨i1,V⟩|⟨⟨p,i1,i3,i4,i5⟩,V⟩
    ·have h:jR P n k=ν:=by
      cases H:jR P n k with
      |none=>rfl
      |some b=>
       have:=oE H;exact absurd ⟨b,this.1,this.2.1,this.2.2,rfl⟩ (V _)
     refine .inl ⟨i1,?_⟩;rintro m ⟨p,M,Z,Y,Q⟩;by_cases J:p=k
     ·subst J;exact key h ⟨Z,Y⟩
     ·exact V m ⟨p,eh,Z,Y,Q⟩
    ·refine .inr ⟨⟨p,eh,i3,i4,i5⟩,?_⟩;rintro m ⟨q,H,Z,Y,Q⟩;by_cases E:q=k
     ·subst E;have j:¬(match jR P n q with|none=>true|some b=>decide ((P q).m<(P b).m))=true:=λG=>hb ⟨Z,Y,G⟩;unfold vJ;cases u:jR P n q with
      |none=>exact absurd ⟨Z,Y⟩ (key u)
      |some b=>
       rw[u]at j;simp only[decide_eq_true_eq]at j;simp only;omega
     ·exact V m ⟨q,eh,Z,Y,Q⟩
   ·by_cases J:p=k
    ·subst J;exact key U
    ·exact ih2 U p eh
theorem Xe(P:Nat->jy)(n:Int)(k:Nat)(Z:∀p,p<k->1<=(P p).m)(j:Int):((jR P n k).map λb=>(j,(P b).m))=if 0<vJ P n k then μ (j,vJ P n k)else ν:=by
 unfold vJ;cases Y:jR P n k with
 |none=>simp
 |some b=>
  have:=Z b (oE Y).1;simp only[Option.map_some];rw[ai eh]
def Jn(iT:Nat->Bool)(e:Nat->Nat->Nat×Nat)(x z c:Nat):Prop:=iT c=true/\x≠z/\(((e c 0).1=x/\(e c 1).1=z) \/((e c 0).1=z/\(e c 1).1=x))
instance(iT:Nat->Bool)(e:Nat->Nat->Nat×Nat)(x z c:Nat):Decidable (Jn iT e x z c):=by unfold Jn;infer_instance
def Gg(iT:Nat->Bool)(e:Nat->Nat->Nat×Nat)(cm:Nat->Int)(x z:Nat):Nat->Int
 |0=>0
 |k+1=>if Jn iT e x z k/\(Gg iT e cm x z k=0 \/cm k<Gg iT e cm x z k)then cm k else Gg iT e cm x z k
theorem uN(iT:Nat->Bool)(e:Nat->Nat->Nat×Nat)(cm:Nat->Int)(x z:Nat):∀k,(∀c,c<k->1<=cm c)->Least (λm=>∃c,c<k/\Jn iT e x z c/\cm c=m) (Gg iT e cm x z k)
 |0,_=>.inl ⟨rfl,λm ⟨p,H,_⟩=>absurd H eh⟩
 |k+1,h=>by
  have ih:=uN iT e cm x z k (λc hc=>h c eh);have hk:=h k eh;show Least _ (if Jn iT e x z k/\(Gg iT e cm x z k=0 \/cm k<Gg iT e cm x z k)then cm k else Gg iT e cm x z k);generalize Gg iT e cm x z k=v at ih⊢;by_cases U:Jn iT e x z k
  ·by_cases hv:v=0 \/cm k<v
   ·rw[ai ⟨U,hv⟩];refine .inr ⟨⟨k,eh,U,rfl⟩,?_⟩;rintro m ⟨c,hc,Y,rfl⟩;by_cases Z:c=k
    ·rw[Z];exact Int.le_refl _
    ·rcases ih with⟨_,V⟩|⟨⟨c2,i1,Q,M⟩,V⟩
     ·exact absurd ⟨c,eh,Y,rfl⟩ (V _)
     ·have:=V _ ⟨c,eh,Y,rfl⟩;have:=h c2 eh;omega
   ·rw[af (λZ=>hv Z.2)];rcases ih with⟨i1,V⟩|⟨⟨c2,i1,Q,M⟩,V⟩
    ·exact absurd (.inl i1) hv
    ·refine .inr ⟨⟨c2,eh,Q,M⟩,?_⟩;rintro m ⟨c,hc,Y,rfl⟩;by_cases Z:c=k
     ·rw[Z];omega
     ·exact V _ ⟨c,eh,Y,rfl⟩
  ·rw[af (λZ=>U Z.1)];rcases ih with⟨i1,V⟩|⟨⟨c2,i1,Q,M⟩,V⟩
   ·refine .inl ⟨i1,?_⟩;rintro m ⟨c,hc,Y,J⟩;by_cases Z:c=k
    ·subst Z;exact U Y
    ·exact V m ⟨c,eh,Y,J⟩
   ·refine .inr ⟨⟨c2,eh,Q,M⟩,?_⟩;rintro m ⟨c,hc,Y,rfl⟩;by_cases Z:c=k
    ·subst Z;exact absurd Y U
    ·exact V _ ⟨c,eh,Y,rfl⟩
def IP(a:AN)(cm:Nat->Int)(x:Nat):List jH:=(gg a.n).filterMap λz=>if 0<Gg a.iT a.e cm x z a.nc then μ ((z:Int)+1,Gg a.iT a.e cm x z a.nc)else ν
def IQ(a:AN)(cm:Nat->Int):Int->Option PS:=λx=>if 1<=x/\x<=(a.n:Int)then μ (1,IP a cm (x-1).toNat)else ν
def CmA(a:AN)(cm:Nat->Int):Prop:=∀c d,c<a.nc->d<2->a.ms (a.e c d).1 (a.e c d).2=cm c
theorem aef(a:AN)(i p:Nat):(∃c d,c<a.nc/\d<2/\a.e c d=(i,p)) \/ ∀c d,c<a.nc->d<2->a.e c d≠(i,p):=by
 by_cases h:∃c d,c<a.nc/\d<2/\a.e c d=(i,p)
 ·exact .inl h
 ·exact .inr λc d hc hd e=>h ⟨c,d,hc,hd,e⟩
theorem FX {α:Type} (f:Nat->Option α)(n m:Nat)(h:∀j,n<=j->f j=ν)(hn:n<=m):(gg m).filterMap f=(gg n).filterMap f:=by
 obtain⟨k,rfl⟩:∃k,m=n+k:=⟨m-n,eh⟩
 rw[List.range_add,bG];have:(List.map (λx=>n+x) (gg k)).filterMap f=[] :=by
  rw[cT];intro j Z;obtain⟨i,_,rfl⟩:=bH.1 Z;exact h _ eh
 rw[this,aB]
theorem aia(h:d<2):d=0 \/d=1:=eh
theorem Jn.adj {a:AN} {z:Nat} (hc:c<a.nc)(h:Jn a.iT a.e x z c):Adj a x z:=by
 obtain⟨Y,V,Z|Z⟩:=h
 ·exact⟨c,0,hc,eh,Y,Z.1,Z.2,V⟩
 ·exact⟨c,1,hc,eh,Y,Z.2,Z.1,V⟩
theorem Jn.of {a:AN} (hd:d<2)(hi:a.iT c=true)(hx:rX a c d≠rX a c (1-d)):Jn a.iT a.e (rX a c d) (rX a c (1-d)) c:=by
 refine⟨hi,hx,?_⟩;rcases aia hd with rfl|rfl
 ·exact .inl ⟨rfl,rfl⟩
 ·exact .inr ⟨rfl,rfl⟩
theorem Au.joins {a:AN} (h:Au N k [] a)(G:tP a)(E:DN a) {cm:Nat->Int} (hC:CmA a cm)(hx:x<a.n)(z:Nat)(m:Int):
 (∃p,p<3/\((a.R x).P p).pe.both=true/\((a.R x).P p).pe.who=(z:Int)+1/\((a.R x).P p).m=m)↔∃c,c<a.nc/\Jn a.iT a.e x z c/\cm c=m:=by
 constructor
 ·rintro⟨p,hp,H,j,h3⟩;rcases aef a x p with⟨c,d,hc,hd,U⟩|hn
  ·have u:mR a c d=((a.R x).P p).pe:=by unfold mR;rw[U]
   have J:rX a c d=x:=by unfold rX;rw[U]
   by_cases hl:a.iT c=false \/rX a c d=rX a c (1-d)
   ·have:=(h.pn c d hc hd hl).2;rw[u,H]at this;exact absurd this eA
   ·have hi:a.iT c=true:=by
     cases e:a.iT c with
     |true=>rfl
     |false=>exact absurd (.inl e) hl
    have A:rX a c d≠rX a c (1-d):=λe=>hl (.inr e);have hw:=(h.pb c d hc hd hi A).1;rw[u,j]at hw;have hz:rX a c (1-d)=z:=eh;refine⟨c,hc,?_,?_⟩
    ·have:=Jn.of hd hi A;rw[J,hz]at this;exact this
    ·rw[<-hC c d hc hd,U,<-h3];exact(E x p hx).symm
  ·have:=(h.id x p hx hp hn).2.2;rw[H]at this;exact absurd this eA
 ·rintro⟨c,hc,Q,rfl⟩;have key:∀d,d<2->rX a c d=x->rX a c (1-d)=z->∃p,p<3/\((a.R x).P p).pe.both=true/\((a.R x).P p).pe.who=(z:Int)+1/\((a.R x).P p).m=cm c:=by
   intro d hd Z Y;have M:=h.pb c d hc hd Q.1 (by rw[Z,Y];exact Q.2.1);unfold mR at M;have V:(a.e c d).1=x:=Z;refine⟨(a.e c d).2,(G.en c d hc hd).2,?_,?_,?_⟩
   ·rw[<-V];exact M.2.1
   ·rw[<-V,M.1,Y]
   ·rw[<-V,E _ _ (G.en c d hc hd).1,hC c d hc hd]
  rcases Q.2.2 with⟨Z,Y⟩|⟨Z,Y⟩
  ·exact key 0 eh Z Y
  ·exact key 1 eh Y Z
theorem zf {a:AN} (h:Au N k [] a)(G:DN a) {cm:Nat->Int} (hC:CmA a cm)(hx:x<a.n):IP a cm x=jz (a.R x):=by
 have Z:=h.env.i.qU;obtain⟨B,V⟩:=h.env.i.own;obtain⟨aib,A,_,pZ,E⟩:=V.r x hx;have Y:∀c,c<a.nc->1<=cm c:=λc hc=>by
  rw[<-hC c 0 hc eh];exact(V.ms _ _ (Z.en c 0 hc eh).1 (Z.en c 0 hc eh).2).1
 have key:∀z,Gg a.iT a.e cm x z a.nc=vJ (a.R x).P ((z:Int)+1) 3:=λz=>
  (uN a.iT a.e cm x z a.nc Y).uniq (FV _ _ 3).1 λm=>(h.joins Z G hC hx z m).symm
 unfold IP jz;rw[E];have H:(gg 6).filterMap (λ(j:Nat)=>(jR (a.R x).P ((j:Int)+1) 3).map λb=>((j:Int)+1,((a.R x).P b).m))=(gg 6).filterMap λz=>if 0<Gg a.iT a.e cm x z a.nc then μ ((z:Int)+1,Gg a.iT a.e cm x z a.nc)else ν:=by
  congr 1
  funext j
  rw[key j,Xe _ _ _ (λp U=>(A.m p eh).1)]
 rw[H,FX _ a.n 6 _ Z.n6];intro j hj;have U:=(uN a.iT a.e cm x j a.nc Y).pos (by rintro m ⟨c,hc,_,rfl⟩;exact Y c hc);rw[af];intro e;obtain⟨m,c,hc,Q,_⟩:=U.1.1 e;have a0:=(Z.en c 0 hc eh).1;have a1:=(Z.en c 1 hc eh).1;rcases Q.2.2 with⟨M,J⟩|⟨M,J⟩
 ·omega
 ·omega
theorem oy.ind {a:AN} (P:Nat->Prop)(Z:P x)(hs:∀w z,P w->Adj a w z->P z) {z:Nat} (h:oy a x z):P z:=by
 obtain⟨k,w⟩:=h
 induction w with
 |here=>exact Z
 |stay _ ih=>exact ih Z
 |go _ g ih=>exact hs _ _ (ih Z) g
theorem EqA.conn {a:AN} (h:EqA a) {z:Nat} (hc:oy a x z):(a.R z).K=(a.R x).K:=by
 refine oy.ind (λz=>(a.R z).K=(a.R x).K) rfl ?_ hc;rintro w v e ⟨c,d,V,U,Q,Z,Y,M⟩;have:=h c d V U Q (by rw[Z,Y];exact M);rw[Z,Y]at this;rw[<-this,e]
theorem FY {K:Int->Option PS} {q:PS} (h:K (x:Int)=μ q)(y:Nat):uC K x y=gAt q.2 y:=by
 unfold uC gAt;rw[h]
theorem Z6 {es:List jH} {y:Nat} (h:gAt es y≠0):∃m,((y:Int),m)∈es:=by
 unfold gAt at h;cases hf:es.find? λe=>e.1==(y:Int)with
 |none=>rw[hf]at h;exact absurd rfl h
 |some e=>
  have Z:=List.find?_some hf;have Y:=List.mem_of_find?_eq_some hf;refine⟨e.2,?_⟩;have V:e.1=(y:Int):=by simpa using Z
  rw[<-V];exact Y
theorem Tq {a:AN} (h:Au N k [] a)(hE:EqA a)(E:DN a) {cm:Nat->Int} (hC:CmA a cm)(hx:x<a.n):la (a.R x)=pw (kL (uC (IQ a cm))) (x+1):=by
 have U:=h.env.i.qU;have hn6:=U.n6;obtain⟨B,Q⟩:=h.env.i.own;have J:∀i,i<a.n->oy a x i->∀y,uC (a.R x).K (i+1) y=gAt (jz (a.R i)) y/\uC (IQ a cm) (i+1) y=gAt (jz (a.R i)) y:=by
  intro i hi hc y;obtain⟨Y,iQ,_,pZ,hn⟩:=Q.r i hi;obtain⟨q,u,_⟩:=iQ.own;have Z:=Y.own;have e1:((i+1:Nat):Int)=(a.R i).id:=by rw[pZ];push_cast;rfl
  constructor
  ·rw[<-hE.conn hc];have:(a.R i).K ((i+1:Nat):Int)=μ q:=by rw[e1];exact u
   rw[FY this];unfold C5 at Z;rw[u]at Z;simp only at Z;rw[Z]
  ·have:IQ a cm ((i+1:Nat):Int)=μ (1,jz (a.R i)):=by
    unfold IQ;rw[ai ⟨eh,eh⟩];have:(((i+1:Nat):Int)-1).toNat=i:=eh;rw[this,zf h E hC hi]
   rw[FY this]
 unfold la;have V:(a.R x).id.toNat=x+1:=by rw[(Q.r x hx).2.2.2.1];omega
 rw[V];refine Tp (S:=λy=>∃i,i<a.n/\y=i+1/\oy a x i) ?_ ?_ eh ⟨x,hx,rfl,0,.here x⟩
 ·rintro s y hs hy ⟨i,hi,rfl,hc⟩ j;rw[(J i hi hc y).1,<-zf h E hC hi]at j;obtain⟨m,A⟩:=Z6 j;unfold IP at A;obtain⟨z,hz,H⟩:=cB.1 A;have P2:z<a.n:=aP.1 hz;split at H
  ·rename_i e
   have G:∀c,c<a.nc->1<=cm c:=λc hc=>by
    rw[<-hC c 0 hc eh];exact(Q.ms _ _ (U.en c 0 hc eh).1 (U.en c 0 hc eh).2).1
   obtain⟨m2,c,hcc,hj,_⟩:=((uN a.iT a.e cm i z a.nc G).pos (by rintro m ⟨c,hc,_,rfl⟩;exact G c hc)).1.1 e;have M:y=z+1:=by
    have:=congrArg (λo=>o.map Prod.fst) H;simp only[Option.map_some,Option.some.injEq]at this;omega
   exact⟨z,P2,M,hc.trans (oy.adj (hj.adj hcc))⟩
  ·exact absurd H gZ
 ·rintro s y hs hy ⟨i,hi,rfl,hc⟩;rw[(J i hi hc y).1,(J i hi hc y).2]
theorem CN(r:iO):jz r.core=jz r:=oU rfl λ_=>⟨rfl,rfl,rfl⟩
theorem FZ:∀ {E:List (Int×Int×Int)} {x:Int×Int×Int},(nJ E).Nodup->x∈E->kS E x.1 x.2.1=μ x.2.2
 |[],_,_,hx=>absurd hx gZ
 |y::E,x,hn,hx=>by
  have Z:(nJ E).Nodup/\(y.1,y.2.1)∉nJ E:=by
   have:(nJ (y::E))=(y.1,y.2.1)::nJ E:=rfl;rw[this,bq]at hn;exact⟨hn.2,hn.1⟩
  show(if y.1=x.1/\y.2.1=x.2.1 then μ y.2.2 else kS E x.1 x.2.1)=μ x.2.2;rcases aO.1 hx with e|h
  ·rw[e,ai ⟨rfl,rfl⟩]
  ·rw[af]
   ·exact FZ Z.1 h
   ·rintro⟨Y,V⟩;refine Z.2 ?_;rw[Y,V];exact List.mem_map_of_mem (f:=λx:Int×Int×Int=>(x.1,x.2.1)) h
def IU(L:List oQ)(c:Nat):Int:=(L.getD c ⟨1,0,1,0,1⟩).m
theorem mD.cm(h:mD many L)(c d:Nat)(hc:c<L.length):pz L ((mO L c).e d).1 ((mO L c).e d).2=IU L c:=by
 have V:L[c] ∈L:=aF hc;obtain⟨_,Q,M⟩:=h.c _ V;have k1:=m8 Q;have k2:=m8 M;have U:IU L c=L[c].m:=by
  unfold IU;rw[aJ,ay hc];rfl
 rw[U,tN L c d hc];unfold pz;have m1:(L[c].a,L[c].pa,L[c].m)∈kx L:=by
  unfold kx;exact aT.2 ⟨L[c],V,gZ⟩
 have m2:(L[c].b,L[c].pb,L[c].m)∈kx L:=by
  unfold kx;exact aT.2 ⟨L[c],V,gZ⟩
 split
 ·have:=FZ h.nd m1;have Z:(((L[c].a-1).toNat:Nat):Int)+1=L[c].a:=eh;have Y:((L[c].pa.toNat:Nat):Int)=L[c].pa:=eh;simp only;rw[Z,Y];simp only at this;rw[this];rfl
 ·have:=FZ h.nd m2;have Z:(((L[c].b-1).toNat:Nat):Int)+1=L[c].b:=eh;have Y:((L[c].pb.toNat:Nat):Int)=L[c].pb:=eh;simp only;rw[Z,Y];simp only at this;rw[this];rfl
structure Wh(m:Nat)(L:List oQ)(D N k:Nat)(y:iP):Prop where
 s:St D N k y
 ma:DN (iJ y)
 n:y.n=m
 nc:y.nc=L.length
 e:∀x,(y.C x).e=(mO L x).e
 ms:y.ms=pz L
theorem Wh.new(h:mD many L):Wh many.toNat L D 2 0 (jS many.toNat L):=
 ⟨Tf ((z9 h).mono (Nat.zero_le _) (Nat.le_refl _)),Xd _ _,rfl,rfl,λ_=>rfl,rfl⟩
theorem Wh.Qt {D' N' k':Nat} {y':iP} (h:Wh m L D N k y)(hs:St D' N' k' y')(p:jV (iJ y) T S (iJ y')):Wh m L D' N' k' y':=by
 obtain⟨Z,Y,V,U⟩:=p.same;exact⟨hs,h.ma.path p (wZ y),Z.trans h.n,Y.trans h.nc,λx=>(ch V x).trans (h.e x),U.trans h.ms⟩
theorem Wh.act {m:Nat} {L:List oQ} {D N k:Nat} {y:iP} (h:Wh m L D N k y)(Z:D<=800000000)(Y:N+144<1000000)(V:k+1<=126)(v:AV):Wh m L (D+1300000) (N+144) (k+1) (sj y v):=by
 obtain⟨T,_,p⟩:=Mg h.s.f h.s.g h.s.ok Z v;exact h.Qt (h.s.act Z Y V v) p
theorem Wh.Xf {m:Nat} {L:List oQ} {D N k:Nat} {y:iP} (V:Nat->AV)(h:Wh m L D N k y):∀i,D+1300000*i<=800000000->N+144*(i+1)<1000000->k+i+1<=126->Wh m L (D+1300000*i) (N+144*i) (k+i) (qI y V i)
 |0,_,_,_=>h
 |i+1,hD,hN,hk=>by
  have ih:=Wh.Xf V h i eh eh eh;have:=ih.act eh eh eh (V i);have Z:D+1300000*(i+1)=D+1300000*i+1300000:=eh;have Y:N+144*(i+1)=N+144*i+144:=eh;rw[Z,Y];exact this
theorem IV {D:Nat} (y:iP):∀j,(∀i,i<j->∃Z,Z<=D/\j5 (lQ y i) Z 0/\jE (lQ y i))->D<=800000000->∃T,jV (iJ y) T [] (iJ (lQ y j))
 |0,_,_=>⟨[],.nil _⟩
 |j+1,h,hD=>by
  obtain⟨T,p⟩:=IV y j (λi hi=>h i eh) hD;obtain⟨Z,h1,Y,V⟩:=h j eh;have q:=za V Y eh;exact⟨_,p.trans q⟩
theorem St.Xg {D N k:Nat} {y:iP} (h:St D N k y):∀i,D+1300000*i<=800000000->j5 (lQ y i) (D+1300000*i) 0/\jE (lQ y i)
 |0,_=>⟨h.ok,h.f⟩
 |i+1,hD=>by
  obtain⟨Z,V⟩:=St.Xg h i eh;have n6:=Z.n6;have Y:D+1300000*(i+1)=D+1300000*i+1300000:=eh;rw[Y];exact⟨Z.round eh,V.round Z eh⟩
structure pE(m:Nat)(L:List oQ)(iT:Nat->Bool)(D N k:Nat)(z:iP):Prop where
 f:Fin D N k z
 ma:DN (iJ z)
 n:z.n=m
 nc:z.nc=L.length
 e:∀x,(z.C x).e=(mO L x).e
 ms:z.ms=pz L
 iT:∀x,(z.C x).iT=iT x
theorem Fin.st {D N k:Nat} {y:iP} (h:Fin D N k y):St D N k y:=h.s.fl.st
theorem Wh.settled {m:Nat} {L:List oQ} {D N k:Nat} {y:iP} (h:Wh m L D N k y)(V:D<=600000000)(U:N+50*144<1000000)(Q:k+8<=126):pE m L (λx=>(y.C x).iT) (D+1300000*45) (N+144*45) (k+7) (lQ y 45):=by
 have hf:=h.s.settled V U Q;have M:=h.s.Xg;obtain⟨T,p⟩:=IV (D:=D+1300000*45) y 45 (λi hi=>⟨D+1300000*i,eh,M i eh⟩) eh;have Z:=h.Qt hf.st p;obtain⟨_,_,_,Y⟩:=xP y 45;exact⟨hf,Z.ma,Z.n,Z.nc,Z.e,Z.ms,λx=>(Y x).2⟩
theorem pE.wh(h:pE m L iT D N k z):Wh m L D N k z:=⟨h.f.st,h.ma,h.n,h.nc,h.e,h.ms⟩
def oO(m:Nat)(L:List oQ)(iT:Nat->Bool)(x:Nat):List jH:=(gg m).filterMap λz=>if 0<Gg iT (λc=>(mO L c).e) (IU L) x z L.length then μ ((z:Int)+1,Gg iT (λc=>(mO L c).e) (IU L) x z L.length)else ν
def ti(m:Nat)(L:List oQ)(iT:Nat->Bool):Int->Option PS:=λx=>if 1<=x/\x<=(m:Int)then μ (1,oO m L iT (x-1).toNat)else ν
theorem pE.a(h:pE m L iT D N k z):(iJ z).n=m/\(iJ z).nc=L.length/\(iJ z).e=(λc=>(mO L c).e)/\(iJ z).iT=iT/\(iJ z).ms=pz L:=
 ⟨h.n,h.nc,funext h.e,funext h.iT,h.ms⟩
theorem pE.cm {many:Int} {m:Nat} {L:List oQ} {iT:Nat->Bool} {D N k:Nat} {z:iP} (h:pE m L iT D N k z)(hc:mD many L):CmA (iJ z) (IU L):=by
 obtain⟨a1,Z,Y,a4,V⟩:=h.a;intro c d hcc hd;rw[Y,V];exact hc.cm c d (by rw[Z]at hcc;exact hcc)
theorem pE.aic(h:pE m L iT D N k z)(hc:mD many L)(hx:x<m):oO m L iT x=jz (z.R x):=by
 have e:=zf h.f.s.s h.ma (h.cm hc) (x:=x) (by rw[h.a.1];exact hx);obtain⟨Z,Y,V,U,a5⟩:=h.a;unfold IP at e;rw[Z,Y,V,U]at e;exact e.trans (CN (z.R x))
theorem pE.Xh(h:pE m L iT D N k z)(hc:mD many L)(hx:x<m):la (z.R x)=pw (kL (uC (ti m L iT))) (x+1):=by
 have e:=Tq h.f.s.s h.f.e h.ma (h.cm hc) (x:=x) (by rw[h.a.1];exact hx);obtain⟨Z,Y,V,U,a5⟩:=h.a;have Q:IQ (iJ z) (IU L)=ti m L iT:=by
  funext y
  unfold IQ IP ti oO;rw[Z,Y,V,U]
 rw[Q]at e;exact e
theorem vT.round {w0:dY} {N:Nat} {X:Nat->Prop} {m nc i:Nat} {n:iP} {W:dY} (h:vT w0 N X m nc i n W)(M:jh w0)(hi:i<=300):
 eZ e7 54 #[π (μ ⟨N,0,ν⟩)] W λe w'=>e=ρ (τ #[])/\vT w0 N X m nc (i+1) n.round w'/\∀b,X b->w'.heap[b]? =W.heap[b]? :=by
 obtain⟨hA,V,Y,G,hc⟩:=h;obtain⟨s1,A,_,_⟩:=kM n;refine(hA.call (E:=λe=>e=ρ (τ #[])) (n':=n.round) s1 λy Q U=> ?_).mono ?_
 ·rw[<-U];exact Bu y n (1300000*i) W Q (hA.tab M) Y eh
 ·rintro e w' ⟨H,Z,J⟩;exact⟨H,⟨Z,V.round Y eh,(Y.round eh).mono eh (Nat.le_refl _),s1.trans G,A.trans hc⟩,J⟩
theorem F8(h:vT w0 N X m nc i y W)(G:jh w0)(hi:i<=200):
 eZ e7 44 #[π (μ ⟨N,0,ν⟩)] W λe w'=>e=ρ (τ #[])/\vT w0 N X m nc (i+45) (lQ y 45) w'/\∀b,X b->w'.heap[b]? =W.heap[b]? :=by
 have J:∀k V,k<45->(vT w0 N X m nc (i+k) (lQ y k) V/\∀b,X b->V.heap[b]? =W.heap[b]?)->eZ e7 54 #[π (μ ⟨N,0,ν⟩)] V λe w'=>e=ρ (τ #[])/\(vT w0 N X m nc (i+(k+1)) (lQ y (k+1)) w'/\∀b,X b->w'.heap[b]? =W.heap[b]?):=by
  rintro k V hk ⟨hA,hX⟩;refine(hA.round G eh).mono ?_;rintro e w' ⟨he,h1,h2⟩;exact⟨he,h1,λb hb=>(h2 b hb).trans (hX b hb)⟩
 obtain⟨Q,Y⟩:∃Q:Nat->dY->Prop,Q=λk V=>vT w0 N X m nc (i+k) (lQ y k) V/\∀b,X b->V.heap[b]? =W.heap[b]? :=⟨_,rfl⟩
 have Z:∀k V,k<45->Q k V->eZ e7 54 #[π (μ ⟨N,0,ν⟩)] V λe w'=>e=ρ (τ #[])/\Q (k+1) w':=by
  rw[Y];exact J
 have H:Q 0 W:=by rw[Y];exact⟨h,λ_ _=>rfl⟩
 have E:∀V,Q 45 V->vT w0 N X m nc (i+45) (lQ y 45) V/\∀b,X b->V.heap[b]? =W.heap[b]? :=λV hv=>by rw[Y]at hv;exact hv
 have HR:Hid _:=Z;have u:Hid _:=E;have A:Hid (Q 0 W):=H;clear J Z H E h G Y
 go_in
 go_wp2
 go_loopw [2] (λx wr=>∃k:Nat,k<=45/\x=ι κ k/\Q k wr) (λx _=>45-(fa x).toNat)
 case atStart=>exact⟨0,Nat.zero_le _,rfl,A.out⟩
 case round=>
  obtain⟨k,hk,rfl,U⟩:=hrel;obtain⟨V,rfl⟩:∃V,V=wr:=⟨_,rfl⟩
  by_cases kD:k<45
  ·have nS:(k:Int)<45:=eh;have Z:=HR.out k V kD U;clear U;go_wp2_with(fail);refine Z.mono ?_;rintro e w3 ⟨rfl,hA3⟩;have M:Hid (Q (k+1) w3):=hA3;clear Z hA3
   go_wp2
   go_roundw
   case rel=>exact⟨k+1,eh,by go_num,M.out⟩
   case measure=>simp[fa];omega
  ·have xZ:¬(k:Int)<45:=eh;obtain rfl:k=45:=eh;have j:Hid (Q 45 V):=U;clear U
   go_wp2
   first|go_end0|refine iM rfl rfl ?_
   exact⟨rfl,u.out V j.out⟩
theorem vT.aeg(h:vT w0 N X m nc i y W)(hx:x<m):
 ∃R,(∀V,eE W V->eZ e7 40 #[π (μ ⟨N,0,ν⟩),ι κ ((x:Int)+1)] V λe w'=>e=ρ (τ #[π (μ ⟨R,0,ν⟩),η])/\V=w')/\∀V,eE W V->eZ e7 64 #[π (μ ⟨R,0,ν⟩)] V λe Q=>∃b c,e=ρ (σ b (la (y.R x)).length c)/\HsN V Q b (la (y.R x)).length (la (y.R x))/\eE V Q:=by
 obtain⟨⟨⟨z,U,M,ha,hxx⟩,iN⟩,hG,J,Y,hc⟩:=h;refine⟨(z.z x).R,λV Z=> ?_,λV Z=> ?_⟩
 ·rw[<-M];exact yT z y x V (U.below Z) (by rw[Y];exact hx)
 ·exact Bk (z.z x) (y.R x) V ((U.below Z).rt x (by rw[Y];exact hx)) (J.ok x (by rw[Y];exact hx)).PE
theorem BO(h:vT w0 N X m nc i y W)(hx:x<m)(V:dY)(M:eE W V):
 eZ e7 47 #[π (μ ⟨N,0,ν⟩),ι κ ((x:Int)+1)] V λe Z=>∃b c,e=ρ (σ b (la (y.R x)).length c)/\HsN V Z b (la (y.R x)).length (la (y.R x))/\eE V Z:=by
 obtain⟨R,Y,U⟩:=h.aeg hx;have k1:=Y V M;have k2:=U V M;clear Y U h;generalize la (y.R x)=L at k2⊢
 go_in
 go_wp2_with(fail);refine k1.mono ?_;rintro e w1 ⟨rfl,rfl⟩;clear k1;go_wp2_with(fail);refine k2.mono ?_;rintro e Z ⟨b,c,rfl,Q,hb⟩;have HH:Hid _:=Q;have J:Hid _:=hb;clear k2 Q hb
 go_wp2
 go_ret;exact⟨b,c,rfl,HH.out,J.out⟩
structure Xi(w wr:dY)(v:Value)(x:Nat)(out:List SV)(Es:Nat->List jH):Prop where
 len:out.length=x
 row:Row wr 3 v x (Lf out)
 own:∀j,v.ownBlock=μ j->w.heap.size<=j
 el:∀j,j<x->∃s,out[j]? =μ s/\s.own=(j:Int)+1/\s.seq=1/\jg wr s.a s.n (Es j)/\kN s.a s.cap/\s.n<=maxLen/\∀b,eu (σ s.a s.n s.cap)=μ b->w.heap.size<=b/\b<wr.heap.size/\v.ownBlock≠μ b
 nU:eE w wr
theorem Xi.below {w wr W':dY} {v:Value} {x:Nat} {out:List SV} {Es:Nat->List jH} (h:Xi w wr v x out Es)(hb:eE wr W'):Xi w W' v x out Es:=by
 refine⟨h.len,h.row.below hb,h.own,λj G=> ?_,gu h.nU hb⟩;obtain⟨s,V,U,Q,M,J,H,Z⟩:=h.el j G;exact⟨s,V,U,Q,M.below hb,J,H,λb Y=>⟨(Z b Y).1,Nat.lt_of_lt_of_le (Z b Y).2.1 hb.size,(Z b Y).2.2⟩⟩
theorem Xi.step {v v':Value} {s:SV} (h:Xi w W v x out Es)(J:∀j,v.ownBlock=μ j->j<wr.heap.size)(G:W.grownBy W' v.ownBlock)
 (hr:Row W' 3 v' (x+1) (Lf out++ [ι κ s.own,ι κ s.seq,σ s.a s.n s.cap])) (hv:∀g,v'.ownBlock=μ g->v.ownBlock=μ g \/W.heap.size<=g)
 (h1:s.own=(x:Int)+1) (Q:s.seq=1) (ho:jg W s.a s.n (Es x)) (hn:kN s.a s.cap) (hm:s.n<=maxLen) (hb:∀b,eu (σ s.a s.n s.cap)=μ b->w.heap.size<=b/\wr.heap.size<=b/\b<W.heap.size):Xi w W' v' (x+1) (out++ [s]) Es:=by
 have H:∀i,i<W.heap.size->v.ownBlock≠μ i->W'.heap[i]? =W.heap[i]? :=λi hi Q=>G.block i hi (λe=>Q e.symm);refine⟨by rw[az,h.len];rfl,?_,?_,λj E=> ?_,h.nU.grown G h.nU.size h.own⟩
 ·rw[Lg];exact hr
 ·intro j E;rcases hv j E with e|e
  ·exact h.own j e
  ·exact Nat.le_trans h.nU.size e
 ·by_cases e:j=x
  ·subst e;refine⟨s,by rw[bu (by rw[h.len];exact Nat.le_refl _),h.len,Nat.sub_self];rfl,h1,Q,?_,hn,hm,λb M=> ?_⟩
   ·refine ho.kept (cap:=s.cap) λk V=>H k (hb k V).2.2 (λZ=> ?_);have:=J k Z;have:=(hb k V).2.1;omega
   ·obtain⟨c1,c2,c3⟩:=hb b M;refine⟨c1,Nat.lt_of_lt_of_le c3 G.size,λZ=> ?_⟩;rcases hv b Z with Y|Y
    ·have:=J b Y;omega
    ·omega
  ·obtain⟨t,A,u,a3,a4,a5,a6,U⟩:=h.el j eh;refine⟨t,by rw[bE (by rw[h.len];omega)];exact A,u,a3,?_,a5,a6,λb M=> ?_⟩
   ·exact a4.kept (cap:=t.cap) λk V=>H k (U k V).2.1 (U k V).2.2
   ·obtain⟨c1,c2,c3⟩:=U b M;refine⟨c1,Nat.lt_of_lt_of_le c2 G.size,λZ=> ?_⟩;rcases hv b Z with Y|Y
    ·exact c3 Y
    ·omega
def Qu(w:dY)(m:Nat)(Es:Nat->List jH)(e:Ending)(w':dY):Prop:=
 ∃b c S,e=ρ (σ b m c)/\uv w' b m S Es/\(∀j,j<m->(S j).own=(j:Int)+1/\(S j).seq=1)/\eE w w'
theorem Xi.done {ao:Option dX} {cp:Nat} (h:Xi w wr (σ ao n cp) m out Es):n=m/\Qu w m Es (ρ (σ ao n cp)) wr:=by
 have E:n=m:=by
  rcases h.row.2 with⟨e,G⟩|⟨g,cap,e,_⟩
  ·simp at e;omega
  ·simp at e;omega
 refine⟨E,ao,cp,λj=>out.getD j SV.zero,by rw[E],⟨?_,λj V=> ?_⟩,λj V=> ?_,h.nU⟩
 ·rcases h.row.2 with⟨e,G⟩|⟨g,cap,e,_,_,_,hc,_⟩
  ·exact .inl G
  ·refine .inr ⟨g,0,by simp at e;exact e.1,λj V=> ?_⟩;obtain⟨s,Z,_⟩:=h.el j V;obtain⟨b1,b2,b3⟩:=Jo out j s Z;have Y:out.getD j SV.zero=s:=by rw[aJ,Z];rfl
   rw[Y,Nat.zero_add];exact⟨hc _ _ b1,hc _ _ b2,hc _ _ b3⟩
 ·obtain⟨s,Z,U,Q,M,J,H,A⟩:=h.el j V;have Y:out.getD j SV.zero=s:=by rw[aJ,Z];rfl
  rw[Y];exact⟨M,J,H⟩
 ·obtain⟨s,Z,U,Q,M,J,H,A⟩:=h.el j V;have Y:out.getD j SV.zero=s:=by rw[aJ,Z];rfl
  refine⟨?_,?_⟩
  ·show(out.getD j SV.zero).own=_;rw[Y,U]
  ·show(out.getD j SV.zero).seq=_;rw[Y,Q]
theorem Xj(h:mD many L)(iT:Nat->Bool)(x z k:Nat)(Q:k<L.length):Jn iT (λc=>(mO L c).e) x z k↔iT k=true/\x≠z/\((L[k].a=(x:Int)+1/\L[k].b=(z:Int)+1) \/(L[k].a=(z:Int)+1/\L[k].b=(x:Int)+1)):=by
 obtain⟨_,M,J⟩:=h.c _ (aF Q);have k1:=m8 M;have k2:=m8 J;unfold Jn;simp only;rw[tN L k 0 Q,tN L k 1 Q,ai rfl,af eA];simp only;constructor
 ·rintro⟨Z,Y,⟨V,U⟩|⟨V,U⟩⟩
  ·exact⟨Z,Y,.inl ⟨eh,eh⟩⟩
  ·exact⟨Z,Y,.inr ⟨eh,eh⟩⟩
 ·rintro⟨Z,Y,⟨V,U⟩|⟨V,U⟩⟩
  ·exact⟨Z,Y,.inl ⟨eh,eh⟩⟩
  ·exact⟨Z,Y,.inr ⟨eh,eh⟩⟩
theorem Xk(h:f k=ν):(gg (k+1)).filterMap f=(gg k).filterMap f:=by
 rw[bX,bG];simp[h]
theorem Xl {o:jH} (h:f k=μ o):(gg (k+1)).filterMap f=(gg k).filterMap f++ [o] :=by
 rw[bX,bG];simp[h]
theorem aeh(f:Nat->Option jH):∀k,((gg k).filterMap f).length<=k:=λk=>by
 have:=dH f (gg k)
 rwa [dy]at this
theorem Xm(m:Nat)(a:Option dX)(n cap g:Nat)(L:List oQ)(iT:Nat->Bool)(w:dY)(hL:zZ w a L)(hl:L.length=n)(hc:mD (m:Int) L)(hi:qz w g 0 n (λk=>.bool (iT k))):
 eZ e7 45 #[ι κ (m:Int),σ a n cap,σ (μ ⟨g,0,ν⟩) n n] w λe w'=>Qu w m (oO m L iT) e w':=by
 obtain⟨i0,Pv,oB,np,mI⟩:=aX infoState;obtain⟨i9,hi9,amU,amV,amW⟩:=aX zr;have hm6:=hc.m;have hn9:=hc.l;rw[hl]at hn9;have Xn:∀W k,eE w W->(hk:k<n)->∃A B M:Int,∃b off,a=μ ⟨b,off,ν⟩/\(∃pa pb:Int,W.cell? ⟨b,off+k*5,ν⟩=μ (ι κ A)/\W.cell? ⟨b,off+k*5+1,ν⟩=μ (ι κ pa)/\W.cell? ⟨b,off+k*5+2,ν⟩=μ (ι κ B)/\W.cell? ⟨b,off+k*5+3,ν⟩=μ (ι κ pb)/\W.cell? ⟨b,off+k*5+4,ν⟩=μ (ι κ M))/\W.cell? ⟨g,k,ν⟩=μ (.bool (iT k))/\∀x z,Gg iT (λc=>(mO L c).e) (IU L) x z (k+1)=if(iT k=true/\x≠z/\((A=(x:Int)+1/\B=(z:Int)+1) \/(A=(z:Int)+1/\B=(x:Int)+1)))/\(Gg iT (λc=>(mO L c).e) (IU L) x z k=0 \/M<Gg iT (λc=>(mO L c).e) (IU L) x z k)then M else Gg iT (λc=>(mO L c).e) (IU L) x z k:=by
  intro W k hW hk;have rO:k<L.length:=eh;obtain⟨b,off,Dr,c0,c1,c2,c3,c4⟩:=(hL.below hW) k rO;have hci:=((hi.below eh hW).cell k hk)
  rw[Nat.zero_add]at hci;refine⟨L[k].a,L[k].b,L[k].m,b,off,Dr,⟨_,_,c0,c1,c2,c3,c4⟩,hci,λx z=> ?_⟩;show(if Jn iT (λc=>(mO L c).e) x z k/\_ then IU L k else _)=_;have Gi:IU L k=L[k].m:=by
   unfold IU;rw[aJ,ay rO];rfl
  rw[Gi];refine ite_congr (propext ⟨λh=>⟨(Xj hc iT x z k rO).1 h.1,h.2⟩,λh=>⟨(Xj hc iT x z k rO).2 h.1,h.2⟩⟩) (λ_=>rfl) (λ_=>rfl)
 obtain⟨ls,hls⟩:∃ls:Nat->Nat->Nat->Int,ls=Gg iT (λc=>(mO L c).e) (IU L):=⟨_,rfl⟩
 obtain⟨F,hF⟩:∃F:Nat->Nat->Option jH,F=λx z=>if 0<ls x z n then μ ((z:Int)+1,ls x z n)else ν:=⟨_,rfl⟩
 obtain⟨Es,hEs⟩:∃Es:Nat->List jH,Es=oO m L iT:=⟨_,rfl⟩
 have hE2:∀x,Es x=(gg m).filterMap (F x):=λx=>by rw[hEs,hF,hls,<-hl];rfl
 have aie:∀x z,ls x z 0=0:=λx z=>by rw[hls];rfl
 have qw:∀x z,0<=ls x z n:=λx z=>by
  rw[hls,<-hl];refine((uN iT _ (IU L) x z L.length ?_).pos ?_).2
  all_goals
   have hp:∀c,c<L.length->1<=IU L c:=λc hcc=>by
    unfold IU;rw[aJ,ay hcc];exact(hc.c _ (aF hcc)).1.1
   first
    |exact hp
    |(rintro m ⟨c,hcc,_,rfl⟩;exact hp c hcc)
 rw[<-hEs];simp only[<-hls]at Xn;have HRd:Hid _:=Xn;have HE2:Hid _:=hE2;have HF:Hid _:=hF;have HLS:Hid _:=aie;have amY:Hid _:=qw;clear Xn hE2 hF aie qw hls hEs hL hc hi hl
 go_in
 go_wp2
 go_loopw [7,8] (λv i wr=>∃(x:Nat) (ao:Option dX) (k cp:Nat) (out:List SV),x<=m/\v=σ ao k cp/\i=ι κ ((x:Int)+1)/\Xi w wr (σ ao k cp) x out Es) (λ_ i _=>m+1-(fa i).toNat)
 case atStart=>exact⟨0,ν,0,0,[],Nat.zero_le _,rfl,rfl,⟨rfl,Row.nil w 3,λj hj=>m9 hj,λj hj=>absurd hj eh,au _ _⟩⟩
 case round=>
  obtain⟨x,ao,k0,cp,out,hx,rfl,rfl,hI⟩:=hrel;obtain⟨W1,rfl⟩:∃W1,W1=wr:=⟨_,rfl⟩
  have HI:Hid _:=hI;clear hI;by_cases WN:x<m
  case neg=>
   have xZ:¬(x:Int)+1<=(m:Int):=eh;obtain rfl:x=m:=eh;obtain⟨rfl,hP⟩:=HI.out.done;have HP:Hid (Qu w k0 Es (ρ (σ ao k0 cp)) W1):=hP;clear hP;go_wp2_with(fail);refine aE (v:=σ ao k0 cp) (by simp[results,Tryz.results45,go_sem]) rfl ?_;exact HP.out
  case pos=>
   have kD:(x:Int)+1<=(m:Int):=eh;obtain⟨W2,ny⟩:=gq (W1.alloc (γ #[ι κ ((x:Int)+1),ι κ 1,σ ν 0 0] 40));have UM:Hid _:=ny;obtain⟨S,hS⟩:=gq (W1.heap.size);have HS:Hid _:=hS;have AA:Hid (iZ W2 S #[ι κ ((x:Int)+1),ι κ 1,σ ν 0 0] 40/\eE W1 W2):=by
    rw[<-ny,<-hS];exact⟨iZ.new W1 _ _,gY _ _⟩
   clear ny hS;go_wp2_with(fail)
   try rw[UM.out]
   try rw[HS.out]
   go_wp2
   go_loopw [10] (λi wr=>∃(z:Nat) (J:Option dX) (Z H:Nat),z<=m/\i=ι κ ((z:Int)+1)/\iZ wr S #[ι κ ((x:Int)+1),ι κ 1,σ J Z H] 40/\Row wr 2 (σ J Z H) Z (iV ((gg z).filterMap (F x)))/\(∀j,eu (σ J Z H)=μ j->S<j)/\eE W1 wr) (λi _=>m+1-(fa i).toNat)
   case atStart=>exact⟨0,ν,0,0,Nat.zero_le _,rfl,AA.out.1,by simpa[iV]using Row.nil W2 2,λj hj=>by simp[eu]at hj,AA.out.2⟩
   case round=>
    obtain⟨z,J,Z,H,hz,rfl,qe,iX,jq,iN⟩:=hrel;obtain⟨W3,rfl⟩:∃W3,W3=wr:=⟨_,rfl⟩
    have HBl:Hid (iZ W3 S #[ι κ ((x:Int)+1),ι κ 1,σ J Z H] 40):=qe;have En:Hid (Row W3 2 (σ J Z H) Z (iV ((gg z).filterMap (F x)))):=iX;have A6:Hid _:=jq;have Z7:Hid _:=iN;have hke:Z<=z:=by
     have E:=iX.1;rw[ln]at E;have:=aeh (F x) z;omega
    clear qe iX jq iN;by_cases hzm:z<m
    case neg=>
     have xZ:¬(z:Int)+1<=(m:Int):=eh;obtain rfl:z=m:=eh;have c0:W3.cell? ⟨S,0,ν⟩=μ (ι κ ((x:Int)+1)):=HBl.out.cell 0;have c1:W3.cell? ⟨S,1,ν⟩=μ (ι κ 1):=HBl.out.cell 1;have c2:W3.cell? ⟨S,2,ν⟩=μ (σ J Z H):=HBl.out.cell 2;have fz0:=HBl.out.frozen 0;have sl:=HBl.out.lt;have sM:Row W3 3 (σ ao k0 cp) x (Lf out):=HI.out.row.below Z7.out;have Hr:x=k0:=by
      rcases sM.2 with⟨e,h0⟩|⟨g,cap,e,_⟩
      ·simp at e;omega
      ·simp at e;omega
     subst Hr;go_wp2_with(at_builtin;go_must(refine iI _ rfl (.tmp 91) (.tmp 93) 91 rfl 40 i0 (.agg #[ι κ 0,ι κ 0,σ ν 0 0]) 3 40 Tryz.underlying91 Pv oB np mI rfl eA (σ ao x cp) x (Lf out) rfl (sM.alloc _) _ 1 1 [ι κ ((x:Int)+1),ι κ 1,σ J Z H] rfl rfl eA (Ce _ _ _ _ _ _ gZ) (Vc _ _ _ _ _) (by unfold maxLen;omega) eh ?_));intro g' jv w9 hr9 hg9 MA;have kj:Xi w w9 (σ (μ ⟨g',0,ν⟩) (x+1) jv) (x+1) (out++ [⟨(x:Int)+1,1,J,Z,H⟩]) Es:=by
      have u:eE W3 (W3.alloc (γ #[ι κ ((x:Int)+1),ι κ 1,σ J Z H] 40)):=gY _ _;refine Xi.step (s:=⟨(x:Int)+1,1,J,Z,H⟩) (wr:=W1) ((HI.out.below Z7.out).below u) (λj hj=>HI.out.row.lt j hj) hg9 hr9 ?_ rfl rfl ?_ ?_ ?_ ?_
      ·intro g hg;have:g'=g:=by simpa[eu]using hg
       subst this;rcases MA with e|e
       ·exact .inl e
       ·exact .inr (Nat.le_trans (Nat.le_of_eq gZ) e)
      ·have:=En.out.opts;rw[<-HE2.out x]at this;exact this.below u
      ·intro e;rcases En.out.2 with⟨e2,_⟩|⟨g,cap,e2,_⟩
       ·simp at e2;exact e2.2.2
       ·simp only[Value.slice.injEq]at e2;rw[e2.1]at e;exact absurd e gZ
      ·show Z<=maxLen;unfold maxLen;omega
      ·intro b hb;have E:=A6.out b hb;have h2:=En.out.lt b hb;have h3:=HI.out.nU.size;have h4:=HS.out;exact⟨eh,eh,Nat.lt_of_lt_of_le h2 u.size⟩
     have Y:Hid _:=kj;clear kj hr9 hg9 MA
     go_wp2
     go_roundw
     case rel=>exact⟨x+1,_,_,jv,_,eh,rfl,by go_num,Y.out⟩
     case measure=>simp[fa];omega
    case pos=>
     have hzl:(z:Int)+1<=(m:Int):=eh;have HW3:Hid (eE w W3):=gu HI.out.nU Z7.out
     go_wp2
     go_loopw [11,12] (λl i wr=>∃k:Nat,k<=n/\l=ι κ (ls x z k)/\i=ι κ k/\eE W3 wr) (λ_ i _=>n-(fa i).toNat)
     case atStart=>exact⟨0,Nat.zero_le _,by rw[HLS.out],rfl,au _ _⟩
     case round=>
      obtain⟨k,hk,rfl,rfl,R8⟩:=hrel;obtain⟨W4,rfl⟩:∃W4,W4=wr:=⟨_,rfl⟩
      have HB4:Hid _:=R8;clear R8;by_cases AY:k<n
      case pos=>
       have afF:(k:Int)<(n:Int):=eh;have Hr:(0:Int)<=(k:Int):=eh;obtain⟨A,B,M,b,off,rfl,⟨pa,pb,c0,c1,c2,c3,c4⟩,ci,kj⟩:=HRd.out W4 k (gu HW3.out HB4.out) AY;have bl:=ag _ _ c0;have gl:=ag _ _ ci;have Y:Hid (ls x z (k+1)=if(iT k=true/\x≠z/\((A=(x:Int)+1/\B=(z:Int)+1) \/(A=(z:Int)+1/\B=(x:Int)+1)))/\(ls x z k=0 \/M<ls x z k)then M else ls x z k):=kj x z;clear kj;have u:=λo=>gY W4 o;obtain⟨l1,I1⟩:=gq (ls x z (k+1));have Xo:Hid _:=I1;rw[I1]at Y;clear I1;obtain⟨U,vY⟩:=gq (ls x z k);rw[vY]at Y⊢;clear vY;have NC:Hid (∀o,eE W3 (W4.alloc o)):=λo=>gu HB4.out (u o);clear u;cases V:iT k
       case false=>
        rw[V]at ci;have Q:Hid (l1=U):=by show _=_;rw[Y.out,af (λh=>by obtain⟨⟨q1,q2,q3⟩,q4⟩:=h;first|exact absurd q1 eA|exact absurd (V.symm.trans q1) eA|omega)]
        clear Y
        go_wp2
        go_roundw
        case rel=>exact⟨k+1,eh,by rw[Xo.out,Q.out],by go_num,NC.out _⟩
        case measure=>simp[fa];omega
       case true=>
        rw[V]at ci;by_cases G:x≠z
        case neg=>
         have Wt:(z:Int)+1=(x:Int)+1:=eh;have Q:Hid (l1=U):=by show _=_;rw[Y.out,af (λh=>by obtain⟨⟨q1,q2,q3⟩,q4⟩:=h;first|exact absurd q1 eA|exact absurd (V.symm.trans q1) eA|omega)]
         clear Y
         go_wp2
         go_roundw
         case rel=>exact⟨k+1,eh,by rw[Xo.out,Q.out],by go_num,NC.out _⟩
         case measure=>simp[fa];omega
        case pos=>
         have Wt:¬(z:Int)+1=(x:Int)+1:=eh;by_cases E:A=(x:Int)+1
         case pos=>
          by_cases h2:B=(z:Int)+1
          case pos=>
           by_cases F9:U=0
           case pos=>
            have Q:Hid (l1=M):=by show _=_;rw[Y.out,ai (by first|exact⟨⟨V,G,.inl ⟨E,h2⟩⟩,.inl F9⟩|exact⟨⟨V,G,.inl ⟨E,h2⟩⟩,.inr CR⟩|exact⟨⟨V,G,.inr ⟨h3,h4⟩⟩,.inl F9⟩|exact⟨⟨V,G,.inr ⟨h3,h4⟩⟩,.inr CR⟩)]
            clear Y
            go_wp2
            go_roundw
            case rel=>exact⟨k+1,eh,by rw[Xo.out,Q.out],by go_num,NC.out _⟩
            case measure=>simp[fa];omega
           case neg=>
            have mI:(U==0)=false:=by simpa using F9
            have P2:((z:Int)+1 !=(x:Int)+1)=true:=by simp;omega
            by_cases CR:M<U
            case pos=>
             have Q:Hid (l1=M):=by show _=_;rw[Y.out,ai (by first|exact⟨⟨V,G,.inl ⟨E,h2⟩⟩,.inl F9⟩|exact⟨⟨V,G,.inl ⟨E,h2⟩⟩,.inr CR⟩|exact⟨⟨V,G,.inr ⟨h3,h4⟩⟩,.inl F9⟩|exact⟨⟨V,G,.inr ⟨h3,h4⟩⟩,.inr CR⟩)]
             clear Y
             go_wp2
             go_roundw
             case rel=>exact⟨k+1,eh,by rw[Xo.out,Q.out],by go_num,NC.out _⟩
             case measure=>simp[fa];omega
            case neg=>
             have amZ:decide (M<U)=false:=by simpa using CR
             have Q:Hid (l1=U):=by show _=_;rw[Y.out,af (λh=>by obtain⟨⟨q1,q2,q3⟩,q4⟩:=h;first|exact absurd q1 eA|exact absurd (V.symm.trans q1) eA|omega)]
             clear Y
             go_wp2
             go_roundw
             case rel=>exact⟨k+1,eh,by rw[Xo.out,Q.out],by go_num,NC.out _⟩
             case measure=>simp[fa];omega
          case neg=>
           have h3:¬A=(z:Int)+1:=eh;have Q:Hid (l1=U):=by show _=_;rw[Y.out,af (λh=>by obtain⟨⟨q1,q2,q3⟩,q4⟩:=h;first|exact absurd q1 eA|exact absurd (V.symm.trans q1) eA|omega)]
           clear Y
           go_wp2
           go_roundw
           case rel=>exact⟨k+1,eh,by rw[Xo.out,Q.out],by go_num,NC.out _⟩
           case measure=>simp[fa];omega
         case neg=>
          by_cases h3:A=(z:Int)+1
          case pos=>
           by_cases h4:B=(x:Int)+1
           case pos=>
            by_cases F9:U=0
            case pos=>
             have Q:Hid (l1=M):=by show _=_;rw[Y.out,ai (by first|exact⟨⟨V,G,.inl ⟨E,h2⟩⟩,.inl F9⟩|exact⟨⟨V,G,.inl ⟨E,h2⟩⟩,.inr CR⟩|exact⟨⟨V,G,.inr ⟨h3,h4⟩⟩,.inl F9⟩|exact⟨⟨V,G,.inr ⟨h3,h4⟩⟩,.inr CR⟩)]
             clear Y
             go_wp2
             go_roundw
             case rel=>exact⟨k+1,eh,by rw[Xo.out,Q.out],by go_num,NC.out _⟩
             case measure=>simp[fa];omega
            case neg=>
             have mI:(U==0)=false:=by simpa using F9
             have P2:((z:Int)+1 !=(x:Int)+1)=true:=by simp;omega
             by_cases CR:M<U
             case pos=>
              have Q:Hid (l1=M):=by show _=_;rw[Y.out,ai (by first|exact⟨⟨V,G,.inl ⟨E,h2⟩⟩,.inl F9⟩|exact⟨⟨V,G,.inl ⟨E,h2⟩⟩,.inr CR⟩|exact⟨⟨V,G,.inr ⟨h3,h4⟩⟩,.inl F9⟩|exact⟨⟨V,G,.inr ⟨h3,h4⟩⟩,.inr CR⟩)]
              clear Y
              go_wp2
              go_roundw
              case rel=>exact⟨k+1,eh,by rw[Xo.out,Q.out],by go_num,NC.out _⟩
              case measure=>simp[fa];omega
             case neg=>
              have amZ:decide (M<U)=false:=by simpa using CR
              have Q:Hid (l1=U):=by show _=_;rw[Y.out,af (λh=>by obtain⟨⟨q1,q2,q3⟩,q4⟩:=h;first|exact absurd q1 eA|exact absurd (V.symm.trans q1) eA|omega)]
              clear Y
              go_wp2
              go_roundw
              case rel=>exact⟨k+1,eh,by rw[Xo.out,Q.out],by go_num,NC.out _⟩
              case measure=>simp[fa];omega
           case neg=>
            have Q:Hid (l1=U):=by show _=_;rw[Y.out,af (λh=>by obtain⟨⟨q1,q2,q3⟩,q4⟩:=h;first|exact absurd q1 eA|exact absurd (V.symm.trans q1) eA|omega)]
            clear Y
            go_wp2
            go_roundw
            case rel=>exact⟨k+1,eh,by rw[Xo.out,Q.out],by go_num,NC.out _⟩
            case measure=>simp[fa];omega
          case neg=>
           have Q:Hid (l1=U):=by show _=_;rw[Y.out,af (λh=>by obtain⟨⟨q1,q2,q3⟩,q4⟩:=h;first|exact absurd q1 eA|exact absurd (V.symm.trans q1) eA|omega)]
           clear Y
           go_wp2
           go_roundw
           case rel=>exact⟨k+1,eh,by rw[Xo.out,Q.out],by go_num,NC.out _⟩
           case measure=>simp[fa];omega
      case neg=>
       have xZ:¬(k:Int)<(n:Int):=eh;obtain rfl:k=n:=eh;have hp:=amY.out x z;have OU:iZ W4 S #[ι κ ((x:Int)+1),ι κ 1,σ J Z H] 40:=HBl.out.below HB4.out;have Qv:=En.out.below HB4.out;have am0:Hid (iZ W4 S #[ι κ ((x:Int)+1),ι κ 1,σ J Z H] 40):=OU;have Xp:Hid (eE W1 W4):=gu Z7.out HB4.out;have HFx:Hid (F x z=if 0<ls x z k then μ ((z:Int)+1,ls x z k)else ν):=by show _=_;rw[HF.out]
       generalize ls x z k=U at HFx hp⊢;by_cases hl:U=0
       ·subst hl;have HN:Hid ((gg (z+1)).filterMap (F x)=(gg z).filterMap (F x)):=Xk (by rw[HFx.out];rfl);have aif:Hid (Row W4 2 (σ J Z H) Z (iV ((gg z).filterMap (F x)))):=Qv;clear Qv OU
        go_wp2
        go_roundw
        case rel=>exact⟨z+1,J,Z,H,eh,by go_num,am0.out,by rw[HN.out];exact aif.out,A6.out,Xp.out⟩
        case measure=>simp[fa];omega
       ·have I1:0<U:=eh;have HN:Hid ((gg (z+1)).filterMap (F x)=(gg z).filterMap (F x)++ [((z:Int)+1,U)]):=Xl (by rw[HFx.out,ai I1]);have c2:W4.cell? ⟨S,2,ν⟩=μ (σ J Z H):=OU.cell 2;have f2:=OU.frozen 2;have sl:=OU.lt;go_wp2_with(at_builtin;go_must(refine iI _ rfl (.tmp 84) (.tmp 88) 38 rfl 123 i9 (.agg #[ι κ 0,ι κ 0]) 2 16 Tryz.underlying38 hi9 amU amV amW rfl eA (σ J Z H) Z (iV ((gg z).filterMap (F x))) rfl (Qv.alloc _) _ 1 1 [ι κ ((z:Int)+1),ι κ U] rfl rfl eA (nj _ _ _ _ _ gZ) (lR _ _ _ _) (by unfold maxLen;omega) eh ?_));intro g' jv w9 hr9 hg9 MA;rw[show [eB .i64 ((z:Int)+1),eB .i64 U] =[eB .i64 (((z:Int)+1,U):jH).1,eB .i64 (((z:Int)+1,U):jH).2]from rfl,<-mE,<-HN.out]at hr9;have u:=gY W4 (γ #[ι κ ((z:Int)+1),ι κ U] 123);have hS9:¬eu (σ J Z H)=μ S:=λe=>absurd (A6.out S e) eh;have Xq:iZ w9 S #[ι κ ((x:Int)+1),ι κ 1,σ J Z H] 40:=by
         have E:=OU.below u;unfold iZ at E⊢;rw[hg9.block S (Nat.lt_of_lt_of_le sl u.size) (λe=>hS9 e.symm)];exact E
        have hSW:=HS.out;have abz:eE W1 w9:=(gu Xp.out u).grown hg9 (Nat.le_trans Xp.out.size u.size) (λj hj=>by have:=A6.out j hj;omega);have hgn:S<g':=by
         rcases MA with e|e
         ·exact A6.out g' e
         ·have:=u.size;omega
        have Ga:=Xq.set 2 (σ (μ ⟨g',0,ν⟩) (Z+1) jv);have am2:Hid (iZ (w9.setCell ⟨S,2,ν⟩ (σ (μ ⟨g',0,ν⟩) (Z+1) jv)) S #[ι κ ((x:Int)+1),ι κ 1,σ (μ ⟨g',0,ν⟩) (Z+1) jv] 40):=Ga;have aih:Hid (Row (w9.setCell ⟨S,2,ν⟩ (σ (μ ⟨g',0,ν⟩) (Z+1) jv)) 2 (σ (μ ⟨g',0,ν⟩) (Z+1) jv) (Z+1) (iV ((gg (z+1)).filterMap (F x)))):=by
         refine hr9.keep gZ λj hj=> ?_;have:g'=j:=by simpa[eu]using hj
         exact ak _ _ _ _ (by show j≠S;omega)
        have aii:Hid (eE W1 (w9.setCell ⟨S,2,ν⟩ (σ (μ ⟨g',0,ν⟩) (Z+1) jv))):=abz.setCell (p:=⟨S,2,ν⟩) (by show W1.heap.size<=S;omega) _;have d2:w9.cell? ⟨S,2,ν⟩=μ (σ J Z H):=Xq.cell 2;have e2:=Xq.frozen 2;have sl9:=Xq.lt;clear hr9 hg9 MA Ga abz Xq u Qv OU hS9
        go_wp2
        go_roundw
        case rel=>exact⟨z+1,_,Z+1,jv,eh,by go_num,am2.out,aih.out,λj hj=>kH (B:=S+1) hgn hj,aii.out⟩
        case measure=>simp[fa];omega
theorem IW(C:kT)(r:Nat):(pw C r).length<=7:=rB _ _
theorem pE.lists(h:pE m L iT D N k z)(hc:mD (m:Int) L) {S:Nat->SV} (Y:∀j,j<m->(S j).own=(j:Int)+1/\(S j).seq=1):sQ (ti m L iT) m S (oO m L iT):=by
 have hm:=hc.m;refine⟨λj Z=>⟨?_,?_⟩,λj Z=> ?_,λk hk hs=> ?_,λi j hij Z=> ?_⟩
 ·rw[(Y j Z).1];unfold sJ;omega
 ·rw[(Y j Z).1,(Y j Z).2];unfold ti;rw[ai ⟨eh,eh⟩];have:((j:Int)+1-1).toNat=j:=eh;rw[this]
 ·rw[(Y j Z).1,(Y j Z).2,h.aic hc Z];obtain⟨B,V⟩:=h.f.s.s.env.i.own;obtain⟨_,U,_,Q,_⟩:=V.r j (by rw[h.a.1];exact Z);have:=zN U (seq:=1) ⟨eh,eh⟩;rw[Q]at this;exact(congrArg _ (CN (z.R j)).symm).trans this
 ·unfold ti at hs;split at hs
  ·rename_i e
   exact⟨(k-1).toNat,eh,by rw[(Y (k-1).toNat eh).1];omega⟩
  ·exact absurd hs gZ
 ·rw[(Y i eh).1,(Y j Z).1];omega
structure Tr(W:dY)(N m:Nat)(sb:Option dX)(sc:Nat)(H:Nat->List HP):Prop where
 a:∀x,x<m->∀V,eE W V->eZ e7 47 #[π (μ ⟨N,0,ν⟩),ι κ ((x:Int)+1)] V λe w2=>∃b c,e=ρ (σ b (H x).length c)/\Gs w2 b (H x).length (H x)/\eE V w2
 b:∀x,x<m->∀V,eE W V->eZ e7 48 #[σ sb m sc,ι κ ((x:Int)+1)] V λe w2=>∃b c,e=ρ (σ b (H x).length c)/\Gs w2 b (H x).length (H x)/\eE V w2
 n:∀x,(H x).length<=1000
theorem Tr.of {S:Nat->SV} (hA:vT w0 Ng X m nc i z W)(h:pE m L iT D N k z)(hc:mD (m:Int) L)(hb:eE W W2)(H:∀j,j<m->(S j).own=(j:Int)+1/\(S j).seq=1)(G:uv W2 sb m S (oO m L iT)):Tr W2 Ng m sb sc λx=>la (z.R x):=by
 have hm:=hc.m;refine⟨λx hx V Z=>(BO hA hx V (gu hb Z)).mono λe w2 ⟨b,c,U,Q,M⟩=>⟨b,c,U,Q.r,M⟩,λx hx V Z=> ?_,λx=>Nat.le_trans (IW _ _) eh⟩;have hl:=h.lists hc H;have hh:=Tm sb m sc S (oO m L iT) (x+1) V (G.below Z) eh hl.ok eh eh;have J:XO (ti m L iT):=λy hy=>by
  unfold ti at hy;split at hy
  ·omega
  ·exact absurd hy gZ
 rw[sQ.grid hl J,<-h.Xh hc hx]at hh;have Y:((x+1:Nat):Int)=(x:Int)+1:=eh;rw[Y]at hh;exact hh
theorem OV(hc:mD (m:Int) L)(V:Nat->AV) {n2:Nat} (h40:n2<=40):pE m L (λx=>((qI (jS m L) V n2).C x).iT) (1300000*n2+1300000*45) (2+144*n2+144*45) (n2+7) (lQ (qI (jS m L) V n2) 45):=by
 have Y:Wh m L 0 2 0 (jS m L):=by
  have:=Wh.new hc (D:=0);rw[Int.toNat_natCast]at this;exact this
 have Z:=Y.Xf V n2 eh eh eh;rw[Nat.zero_add,Nat.zero_add]at Z;exact Z.settled eh eh eh
theorem vT.still {w0:dY} {N:Nat} {X:Nat->Prop} {m nc i:Nat} {y:iP} {W W':dY} (h:vT w0 N X m nc i y W)(hb:eE W W'):vT w0 N X m nc i y W':=⟨h.1.still hb,h.2⟩
theorem vT.beside(h:vT w0 N X m nc i y W)(Y:∀k,X k->w0.heap.size<=k)(hb:eE W W')(Z:Nat->Prop)(V:∀k,Z k->W.heap.size<=k/\k<W'.heap.size):vT w0 N (λb=>X b \/Z b) m nc i y W':=
 ⟨h.1.write hb.size (λk U _=>hb.block k U) Y hb.os hb.tape hb.output Z V,h.2⟩
theorem vT.restart {w0:dY} {N:Nat} {X:Nat->Prop} {m nc i:Nat} {n:iP} {W:dY} (h:vT w0 N X m nc i n W)(M:jh w0)(hi:i<=300)(c:Int):
 eZ e7 62 #[π (μ ⟨N,0,ν⟩),ι κ c] W λe w'=>e=ρ (jk (n.restart c).2)/\vT w0 N X m nc (i+1) (n.restart c).1 w'/\∀b,X b->w'.heap[b]? =W.heap[b]? :=by
 obtain⟨hA,V,Y,G,hc⟩:=h;obtain⟨s1,A,_,_⟩:=Aa n c;refine(hA.call (E:=λe=>e=ρ (jk (n.restart c).2)) (n':=(n.restart c).1) s1 λy Q U=> ?_).mono ?_
 ·rw[<-U];exact Cv y n (1300000*i) c W Q (hA.tab M) Y eh
 ·rintro e w' ⟨H,Z,J⟩;exact⟨H,⟨Z,(V.restart Y c).1,(Y.restart eh c).mono eh (Nat.le_refl _),s1.trans G,A.trans hc⟩,J⟩
theorem OW(y:iP)(hk:k<y.n):(y.restart ((k:Int)+1)).2=0:=by
 unfold iP.restart;rw[af eh]
theorem vT.Xr(h:vT w0 N X m nc i y W)(hx:x<m):
 ∃R,(∀V,eE W V->eZ e7 40 #[π (μ ⟨N,0,ν⟩),ι κ ((x:Int)+1)] V λe w'=>e=ρ (τ #[π (μ ⟨R,0,ν⟩),η])/\V=w')/\∀V,eE W V->eZ e7 50 #[π (μ ⟨R,0,ν⟩)] V λe w'=>∃a n cap S E,e=ρ (σ a n cap)/\uv w' a n S E/\sQ (y.R x).K n S E/\n<=6/\aco V a n cap S/\eE V w':=by
 obtain⟨⟨⟨z,Y,Q,ha,hxx⟩,iN⟩,hG,iQ,U,hc⟩:=h;refine⟨(z.z x).R,λV Z=> ?_,λV Z=> ?_⟩
 ·rw[<-Q];exact yT z y x V (Y.below Z) (by rw[U];exact hx)
 ·exact Lm (z.z x) (y.R x) V ((Y.below Z).rt x (by rw[U];exact hx))
theorem MB {w':dY} {a:Option dX} {L:List HP} (h:Gs w a n L)(hb:∀x,a=μ x->0<n->w'.heap[x.block]? =w.heap[x.block]?):Gs w' a n L:=by
 refine⟨h.len,?_⟩;rcases h.row with Z|⟨b,off,rfl,Z⟩
 ·exact .inl Z
 ·by_cases Y:n=0
  ·exact .inl Y
  have hh:=hb _ rfl eh;refine .inr ⟨b,off,rfl,λj s e=> ?_⟩;obtain⟨c1,c2,c3⟩:=Z j s e;exact⟨(aj (a:=⟨b,off+j*3,ν⟩) hh).trans c1,(aj (a:=⟨b,off+j*3+1,ν⟩) hh).trans c2,(aj (a:=⟨b,off+j*3+2,ν⟩) hh).trans c3⟩
theorem aei {a:Option dX} {L:List HP} (h:Gs w a n L):∀x,a=μ x->0<n->x.block<w.heap.size:=by
 rintro x rfl h0;rcases h.row with Z|⟨b,off,e,Z⟩
 ·omega
 ·obtain rfl:=Option.some.inj e;have hl:=h.len;obtain⟨c1,_,_⟩:=Z 0 (L[0]'(by omega)) (ay eh);exact ag w _ c1
def MC(i:Int):AV:={(default:AV)with kind:=⟨#[114,101,115,116,97,114,116]⟩,a:=i}
theorem Ts(y:iP)(i:Int):(y.restart i).1=sj y (MC i):=by
 have Z:((MC i).kind.toList==[112,108,117,103])=false:=by
  show((⟨#[114,101,115,116,97,114,116]⟩:ByteArray).toList==[112,108,117,103])=false;decide+kernel
 have Y:((MC i).kind.toList==[116,105,99,107])=false:=by
  show((⟨#[114,101,115,116,97,114,116]⟩:ByteArray).toList==[116,105,99,107])=false;decide+kernel
 have V:((MC i).kind.toList==[100,101,108,105,118,101,114])=false:=by
  show((⟨#[114,101,115,116,97,114,116]⟩:ByteArray).toList==[100,101,108,105,118,101,114])=false;decide+kernel
 have U:((MC i).kind.toList==[114,101,115,116,97,114,116])=true:=by
  show((⟨#[114,101,115,116,97,114,116]⟩:ByteArray).toList==[114,101,115,116,97,114,116])=true;decide+kernel
 unfold sj;rw[Z,Y,V,U];rfl
theorem Wh.anew(h:Wh m L D N k y)(Z:D<=800000000)(Y:N+144<1000000)(V:k+1<=126)(i:Int):Wh m L (D+1300000) (N+144) (k+1) (y.restart i).1:=by
 rw[Ts];exact h.act Z Y V _
def nZ(k:Nat)(y:iP):Prop:=(y.R k).K=(λx=>if x=(k:Int)+1 then μ (1,[])else ν)/\∀p,((y.R k).P p).pe.who=0/\((y.R k).P p).pe.both=false
theorem OX(h:∀p,(r.P p).pe.who=0/\(r.P p).pe.both=false)(i:Nat)(up:Bool):(r.iL i up).1.K=r.K/\∀p,((r.iL i up).1.P p).pe.who=0/\((r.iL i up).1.P p).pe.both=false:=by
 unfold iO.iL;simp only;split
 ·exact⟨rfl,h⟩
 ·have Z:((r.P i).iL up).1.pe=(r.P i).pe:=by
   unfold jy.iL;simp only;by_cases e:(k8 (r.P i).L (if up=true then 0 else 1)).2.2≠0
   ·rw[ai e]
   ·rw[af e,(vF _ _).2]
  have hs:((r.iU i ((r.P i).iL up).1).P i).pe=(r.P i).pe:=by rw[kK,ai rfl,Z]
  refine⟨(DM (r:=r.iU i ((r.P i).iL up).1) (i:=i) (q:=nobody) (by rw[hs,(h i).1];rfl) (by rw[hs,(h i).2];rfl)).1,λp=> ?_⟩;rw[(j9 _ _ _ _).2.2.2];split
  ·exact⟨rfl,rfl⟩
  ·rename_i e
   rw[kK,af e];exact h p
theorem nZ.jA {k:Nat} {y:iP} (h:nZ k y)(i:Nat)(r:iO)(Y:i=k->r.K=(y.R k).K/\∀p,(r.P p).pe.who=0/\(r.P p).pe.both=false):nZ k (y.jA i r):=by
 by_cases e:i=k
 ·subst e;obtain⟨a,b⟩:=Y rfl;have:(y.jA i r).R i=r:=iF _ _ _;unfold nZ;rw[this,a];exact⟨h.1,b⟩
 ·have:(y.jA i r).R k=y.R k:=iE _ _ (λZ=>e Z.symm);unfold nZ;rw[this];exact h
theorem nZ.lI {k:Nat} {y:iP} (h:nZ k y)(c d:Nat)(up:Bool):nZ k (y.lI c d up):=by
 unfold iP.lI;refine h.jA _ _ λe=> ?_;rw[e];exact OX h.2 _ _
theorem nZ.jD {k:Nat} (up:Bool):∀(l:List Nat) {y:iP},nZ k y->nZ k (y.jD up l)
 |[],_,h=>h
 |c::l,y,h=>nZ.jD up l (y:=y.jZ c up) (nZ.lI (nZ.lI (y:=y.lz c {y.C c with iT:=up,on:=λ_=>[] }) h c 0 up) c 1 up)
theorem nZ.kU {k:Nat} {y:iP} (h:nZ k y)(c d:Nat):nZ k (y.kU c d):=by
 have Y:nZ k (y.jA ((y.C c).e d).1 ((y.R ((y.C c).e d).1).out ((y.C c).e d).2)):=h.jA _ _ λe=>by
  rw[e];refine⟨rfl,λp=> ?_⟩;unfold iO.out;rw[kK];split
  ·rename_i Z
   rw[<-Z];exact h.2 p
  ·exact h.2 p
 exact Y
theorem nZ.j2 {k:Nat} {y:iP} (h:nZ k y):∀j,nZ k (y.j2 j)
 |0=>h
 |j+1=>((nZ.j2 h j).kU j 0).kU j 1
theorem nZ.lO {k:Nat} {y:iP} (h:nZ k y):∀j,nZ k (y.lO j)
 |0=>h
 |j+1=>by
  have ih:=nZ.lO h j;by_cases e:k=j
  ·subst e;have:(((y.lO k).tM k).R k)={(y.lO k).R k with kd:=[] }:=iF _ _ _;show nZ k ((y.lO k).tM k);unfold nZ;rw[this];exact ih
  ·have:(((y.lO j).tM j).R k)=(y.lO j).R k:=iE _ _ e;show nZ k ((y.lO j).tM j);unfold nZ;rw[this];exact ih
theorem GY(y:iP)(hk:k<y.n):nZ k (y.restart ((k:Int)+1)).1:=by
 unfold iP.restart;rw[af eh];have Z:((k:Int)+1-1).toNat=k:=eh;rw[Z];refine nZ.lO (nZ.j2 (nZ.jD true _ ?_) _) _;unfold nZ;have:((y.jD false (y.lA k)).jA k (jO ((k:Int)+1) 3 (y.ms k))).R k=jO ((k:Int)+1) 3 (y.ms k):=iF _ _ _;rw[this];exact⟨rfl,λp=>⟨rfl,rfl⟩⟩
theorem nZ.Xh(h:nZ k y):la (y.R k)=[] :=by
 have M:uC (y.R k).K=λ_ _=>0:=by
  funext a b
  unfold uC;rw[h.1];simp only;by_cases e:(a:Int)=(k:Int)+1
  ·rw[ai e];rfl
  ·rw[af e]
 have hb:kL (uC (y.R k).K)=λ_ _=>0:=by
  rw[M]
  funext a b
  unfold kL;simp
 unfold la;rw[hb];generalize (y.R k).id.toNat=r;have U:∀x,(kY (λ_ _=>0) r 7 x).far=0:=λx=>by
  unfold kY;rw[af (λe=>absurd e.2 (Int.lt_irrefl 0))];rfl
 have G:∀(H:Nat->HP) b n,oj (λ_ _=>0) r b n H=H:=λH b n=>by
  unfold oj;rw[ai (.inr (.inl rfl))]
 have J:∀(H:Nat->HP) b n,oS (λ_ _=>0) r b H n=H:=λH b n=>by
  induction n with
  |zero=>rfl
  |succ n ih=>show oj _ r b n (oS _ r b H n)=H;rw[G,ih]
 have Z:∀(H:Nat->HP) b,AB (λ_ _=>0) r H b=H:=λH b=>by
  induction b with
  |zero=>rfl
  |succ b ih=>show oS _ r b (AB _ r H b) 7=H;rw[J,ih]
 have V:∀j,jl (λ_ _=>0) r j=kY (λ_ _=>0) r 7:=λj=>by
  induction j with
  |zero=>rfl
  |succ j ih=>show AB _ r (jl _ r j) 7=_;rw[Z,ih]
 cases hl:pw (λ_ _=>0) r with
 |nil=>rfl
 |cons x l=>
  have Q:=(WY (λ_ _=>0) r x).1 (by rw[hl];simp);obtain⟨j,_,_,Y⟩:=Q;unfold Aw at Y;rw[V,U]at Y;exact absurd Y eA
theorem pE.anew {m:Nat} {L:List oQ} {iT:Nat->Bool} {D N k:Nat} {z:iP} (h:pE m L iT D N k z)(hD:D<=500000000)(hN:N+60*144<1000000)(hk:k+10<=126)(i:Int):
 ∃Z:Nat->Bool,(∀x,x<L.length->Z x=iT x)/\pE m L Z (D+1300000+1300000*45) (N+144+144*45) (k+1+7) (lQ (z.restart i).1 45):=by
 have Y:=(h.wh.anew eh eh eh i).settled eh eh eh;have V:=(h.f.st.g.restart h.f.st.ok i).2;exact⟨_,λx hx=>(V x (by rw[h.nc];exact hx)).trans (h.iT x),Y⟩
theorem J8(m:Nat)(L:List oQ) {xY:Nat->Bool} (h:∀x,x<L.length->xY x=iT x)(x:Nat):oO m L xY x=oO m L iT x:=by
 have hl:∀z k,k<=L.length->Gg xY (λc=>(mO L c).e) (IU L) x z k=Gg iT (λc=>(mO L c).e) (IU L) x z k:=λz k=>by
  induction k with
  |zero=>intro _;rfl
  |succ k ih=>
   intro hk;have i1:=ih eh;show(if Jn xY _ x z k/\_ then _ else _)=(if Jn iT _ x z k/\_ then _ else _)
   rw[i1];have:Jn xY (λc=>(mO L c).e) x z k↔Jn iT (λc=>(mO L c).e) x z k:=by
    unfold Jn;rw[h k eh]
   simp only[this]
 unfold oO;congr 1
 funext z
 rw[hl z L.length (Nat.le_refl _)]
structure aij(m:Nat)(L:List oQ)(iT:Nat->Bool)(z z2:iP)(k:Nat):Prop where
 set:∃xY D N q,pE m L xY D N q z2/\oO m L xY=oO m L iT
 same:la (z2.R k)=la (z.R k)
theorem pE.aik {q:Nat} (h:pE m L iT D N q z)(hc:mD (m:Int) L)(Q:D<=500000000)(J:N+60*144<1000000)(G:q+10<=126)(U:k<m):aij m L iT z (lQ (z.restart ((k:Int)+1)).1 45) k:=by
 obtain⟨Z,H,Y⟩:=h.anew Q J G ((k:Int)+1);have V:oO m L Z=oO m L iT:=funext λx=>J8 m L H x;refine⟨⟨Z,_,_,_,Y,V⟩,?_⟩;rw[Y.Xh hc U,h.Xh hc U];have M:ti m L Z=ti m L iT:=by
  funext x
  unfold ti;rw[V]
 rw[M]
theorem Tr.anew {z2:iP} {S:Nat->SV} (hA:vT w0 Ng X m nc i z2 W)(h:aij m L iT z z2 k)(hc:mD (m:Int) L)(hb:eE W W2)(U:∀j,j<m->(S j).own=(j:Int)+1/\(S j).seq=1)(Z:uv W2 sb m S (oO m L iT)):Tr W2 Ng m sb sc λx=>la (z2.R x):=by
 obtain⟨⟨xY,D,N,q,Y,V⟩,_⟩:=h;rw[<-V]at Z;exact Tr.of hA Y hc hb U Z
theorem Xt(many:Int)(a:Option dX)(n cap:Nat)(L:List oQ)(a2:Option dX)(M cap2:Nat)(V:Nat->AV)(E:Nat->List jH)(who:Int)(w:dY)(hL:zZ w a L)(hl:L.length=n)(hn:n<=maxLen)(hA:Ei w a2 M V E)(hT:jh w):
 eZ e7 13 #[ι κ many,σ a n cap,σ a2 M cap2,ι κ who] w λe w'=>e=ρ (.bool true)/\eE w w':=by
 have hw:=Tg w hT;have Dw:∀W,eE w W->eZ e7 43 #[ι κ many,σ a n cap,σ a2 M cap2] W λe w'=>abv W many L M V e w':=λW hb=>
  OP many a n cap L a2 M cap2 V E W (hL.below hb) hl hn (hA.below hb) (jh.below (w:=w) hT hb)
 have HT:Hid (jh w):=hT;have HL:Hid _:=hl;have HC:Hid (zZ w a L):=hL;clear hL hA hT hl
 go_in
 go_wp2_with(fail);refine hw.mono ?_;rintro e w1 ⟨rfl,kC⟩;have hp:=Dw w1 kC;have Ds:Hid _:=kC;clear hw Dw kC;go_wp2_with(fail);refine hp.mono ?_;rintro e w2 hP;clear hp;rcases hP with⟨rfl,mX⟩|⟨h0,h40,N,g,rfl,hI⟩
 ·have AA:Hid (eE w w2):=gu Ds.out mX;clear mX
  go_wp2
  go_ret;exact⟨rfl,AA.out⟩
 ·have Xu:=vh h0;have vX:=Xu.m;obtain⟨m,rfl⟩:∃m:Nat,many=(m:Int):=⟨many.toNat,eh⟩
  rw[Int.toNat_natCast]at hI;have KO:=OV Xu V h40;have hAt:=hI.at_;have iX:=hI.row;have Pf:=hI.g0;have KF:=hI.gl;obtain⟨Y,hY⟩:=gq (qI (jS m L) V M);rw[hY]at KO hAt iX;have XM:jh w1:=jh.below (w:=w) HT.out Ds.out;have kj:=F8 hAt XM eh;obtain⟨z,hz⟩:=gq (lQ Y 45);rw[hz]at kj KO;obtain⟨q,hq,hqe⟩:=Xc who;obtain⟨k,hke⟩:=gq (q%m);have u:k<m:=by rw[<-hke];exact Nat.mod_lt _ eh
  have asa:((q:Nat):Int).tmod (m:Int)=(k:Int):=by rw[<-hke];exact Int.ofNat_tmod q m
  have hmz:¬(m:Int)=0:=eh;have UW:fJ.wrap (k:Int)=(k:Int):=aQ _ ⟨eh,eh⟩;have r7:fJ.wrap (q:Int)=(q:Int):=aQ _ ⟨eh,eh⟩;have mU:fJ.wrap (1+(k:Int))=(k:Int)+1:=by rw[aQ _ ⟨eh,eh⟩];omega
  have Xv:=KO.aik Xu eh eh eh u;obtain⟨z2,mI⟩:=gq ((z.restart ((k:Int)+1)).1);have OY:=GY z (k:=k) (by rw[KO.n];exact u);have ail:=OW z (k:=k) (by rw[KO.n];exact u);rw[mI]at Xv OY;have abA:Hid _:=Xv;have aej:Hid (nZ k z2):=OY;have HZ2:Hid ((z.restart ((k:Int)+1)).1=z2/\(z.restart ((k:Int)+1)).2=0):=⟨mI,ail⟩
  have Zg:Hid _:=Xu;have HT1:Hid (jh w1):=XM;have HN:Hid (M<=40/\k<m/\w1.heap.size<=g/\g<w2.heap.size):=⟨h40,u,Pf,KF⟩
  rw[HL.out];have abB:∀W,eE w W->W.heap[g]? =w2.heap[g]?->eZ e7 45 #[ι κ (m:Int),σ a n cap,σ (μ ⟨g,0,ν⟩) n n] W λe w'=>Qu W m (oO m L λx=>(Y.C x).iT) e w':=by
   intro W hb hg;have:=iX.keep hg;rw[HL.out]at this;exact Xm m a n cap g L (λx=>(Y.C x).iT) W (HC.out.below hb) HL.out Zg.out this
  have aim:Hid _:=abB;clear hI h0 Xu KO hAt iX abB hY XM Xv OY ail mI hz hke hq KF Pf;go_wp2_with(fail);refine kj.mono ?_;rintro e w3 ⟨rfl,hA3,yx⟩;have HA3:Hid (vT w1 N (λb=>b=g) m L.length (M+45) z w3):=hA3;have Hs:Hid (eE w w3):=gu Ds.out hA3.1.nU;have XD:Hid (w3.heap[g]? =w2.heap[g]?):=yx g rfl;have aek:=BO hA3 u w3 (au _ _);obtain⟨P,hP⟩:=gq (la (z.R k));rw[hP]at aek;have HPq:Hid (la (z.R k)=P/\P.length<=1000):=⟨hP,by rw[<-hP];exact Nat.le_trans (IW _ _) eh⟩
  clear kj hA3 yx hP;go_wp2_with(fail);refine aek.mono ?_;rintro e w4 ⟨b4,c4,rfl,J,R8⟩;have rZ:g<w3.heap.size:=by
   have:=HA3.out;obtain⟨⟨⟨y,hR,_,_,hx⟩,_⟩,_⟩:=this;exact hR.lt (.inr ((hx g).2 rfl))
  have hA4:=HA3.out.beside (λx e=>by subst e;exact HN.out.2.2.1) R8 (λb=>∃x,b4=μ x/\x.block=b/\0<P.length) (λx ⟨y,e,f,p⟩=>by subst f;exact⟨J.nw y e,aei J.r y e p⟩);have HG4:Hid (w4.heap[g]? =w2.heap[g]?):=(R8.block g rZ).trans XD.out;have HH4:Hid (Gs w4 b4 P.length P):=J.r;have HB4:Hid (eE w w4):=gu Hs.out R8;have A:=hA4.restart HT1.out eh ((k:Int)+1);rw[HZ2.out.1,HZ2.out.2]at A;have e0:jk 0=η:=rfl;rw[e0]at A;clear aek J R8 hA4 rZ e0;go_wp2_with(fail);refine A.mono ?_;rintro e Q ⟨rfl,hA5,hX5⟩;have HA5:Hid (vT w1 N (λb=>b=g \/ ∃x,b4=μ x/\x.block=b/\0<P.length) m L.length (M+45+1) z2 Q):=hA5;have Gw:Hid (Q.heap[g]? =w2.heap[g]?):=(hX5 g (.inl rfl)).trans HG4.out;have h:Hid (Gs Q b4 P.length P):=MB HH4.out λx e p=>hX5 x.block (.inr ⟨x,e,rfl,p⟩);have lh:=BO hA5 u Q (au _ _);rw[aej.out.Xh]at lh;obtain⟨R,hro,ain⟩:=hA5.Xr u;have am5:Hid (∀V,eE Q V->eZ e7 50 #[π (μ ⟨R,0,ν⟩)] V λe w'=>∃a cap,e=ρ (σ a 1 cap)/\eE V w'):=by
   intro V hV;refine(ain V hV).mono ?_;rintro e w' ⟨a,n,cap,S,E,rfl,_,hLs,_,_,hb⟩;have n1:n=1:=NR hLs ((k:Int)+1) (by unfold sJ;omega) (by rw[aej.out.1];simp) (λx hx=>by rw[aej.out.1];simp[hx]);subst n1;exact⟨a,cap,rfl,hb⟩
  have HRo:Hid _:=hro;clear A hA5 hX5 hro ain;go_wp2_with(fail);refine lh.mono ?_;rintro e w6 ⟨b6,c6,rfl,G,XZ⟩;have Qq:Hid _:=XZ;have hr6:=HRo.out w6 XZ;clear lh G XZ;go_wp2_with(fail);refine hr6.mono ?_;rintro e w7 ⟨rfl,rfl⟩;have hs7:=am5.out w6 Qq.out;clear hr6;go_wp2_with(fail);refine hs7.mono ?_;rintro e w8 ⟨b8,c8,rfl,hb8⟩;have j:Hid (eE Q w8):=gu Qq.out hb8;have aio:=F8 (HA5.out.still j.out) HT1.out (by have:=HN.out.1;omega);clear hs7 hb8;go_wp2_with(fail);refine aio.mono ?_;rintro e w9 ⟨rfl,hA9,hX9⟩;have U0:g<Q.heap.size/\∀x,b4=μ x->0<P.length->x.block<Q.heap.size:=by
   obtain⟨⟨⟨y,hR,_,_,hx⟩,_⟩,_⟩:=HA5.out;exact⟨hR.lt (.inr ((hx g).2 (.inl rfl))),λx e p=>hR.lt (.inr ((hx x.block).2 (.inr ⟨x,e,rfl,p⟩)))⟩
  have HG9:Hid (w9.heap[g]? =w2.heap[g]?):=(hX9 g (.inl rfl)).trans ((j.out.block g U0.1).trans Gw.out);have HH9:Hid (Gs w9 b4 P.length P):=MB h.out λx e p=>(hX9 x.block (.inr ⟨x,e,rfl,p⟩)).trans (j.out.block x.block (U0.2 x e p));have HA9:Hid (vT w1 N (λb=>b=g \/ ∃x,b4=μ x/\x.block=b/\0<P.length) m L.length (M+45+1+45) (lQ z2 45) w9):=hA9;have HB9:Hid (eE w w9):=gu Ds.out hA9.1.nU;have hlv:=aim.out w9 HB9.out HG9.out;clear aio hA9 hX9 U0;go_wp2_with(fail);refine hlv.mono ?_;rintro e Z ⟨sb,sc,S,rfl,aip,hSo,Z8⟩;have aem:=Tr.anew (sc:=sc) HA9.out abA.out Zg.out Z8 hSo aip;have hsm:=abA.out.same;rw[HPq.out.1]at hsm;obtain⟨H,hH⟩:∃H:Nat->List HP,H=λx=>la ((lQ z2 45).R x):=⟨_,rfl⟩
  rw[<-hH]at aem;have hHk:H k=P:=by rw[hH];exact hsm
  have HHk:Hid _:=hHk;have Z9:Hid _:=aem;have am8:Hid (Gs Z b4 P.length P):=HH9.out.below Z8;have am9:Hid (eE w Z):=gu HB9.out Z8;clear hlv aip hSo Z8 aem hH hsm hHk
  go_wp2
  go_loopw [17] (λi wr=>∃x:Nat,x<=m/\i=ι κ ((x:Int)+1)/\eE Z wr) (λi _=>m+1-(fa i).toNat)
  case atStart=>exact⟨0,Nat.zero_le _,rfl,au _ _⟩
  case round=>
   obtain⟨x,hx,rfl,qL⟩:=hrel;obtain⟨V0,rfl⟩:∃V0,V0=wr:=⟨_,rfl⟩
   have U:Hid _:=qL;clear qL;by_cases kD:x<m
   case neg=>
    have xZ:¬(x:Int)+1<=(m:Int):=eh;have h1:=Z9.out.a k u V0 U.out;rw[HHk.out]at h1;go_wp2_with(fail);refine h1.mono ?_;rintro e w11 ⟨b11,TX,rfl,aiq,aen⟩;have h3:=vv b11 b4 P.length TX c4 P w11 aiq (am8.out.below (gu U.out aen)) HPq.out.2;have ana:Hid (eE Z w11):=gu U.out aen;clear h1 aiq aen;go_wp2_with(fail);refine h3.mono ?_;rintro e w12 ⟨rfl,air⟩;have anb:Hid (eE w w12):=gu am9.out (gu ana.out air);clear h3 air
    go_wp2
    go_ret;exact⟨rfl,anb.out⟩
   case pos=>
    have nS:(x:Int)+1<=(m:Int):=eh;have h1:=Z9.out.a x kD V0 U.out;go_wp2_with(fail);refine h1.mono ?_;rintro e Q ⟨b5,c5,rfl,hH5,YT⟩;have h2:=Z9.out.b x kD Q (gu U.out YT);have h:Hid _:=hH5;have Ht:Hid (eE Z Q):=gu U.out YT;clear h1 hH5 YT;go_wp2_with(fail);refine h2.mono ?_;rintro e w6 ⟨b6,c6,rfl,G,XZ⟩;have h3:=vv b5 b6 (H x).length c5 c6 (H x) w6 (h.out.below XZ) G (Z9.out.n x);have Qq:Hid (eE Z w6):=gu Ht.out XZ;clear h2 G XZ;go_wp2_with(fail);refine h3.mono ?_;rintro e w7 ⟨rfl,XF⟩;have HB7:Hid (eE Z w7):=gu Qq.out XF;clear h3 XF
    go_wp2
    go_roundw
    case rel=>exact⟨x+1,eh,by go_num,HB7.out⟩
    case measure=>simp[fa];omega
