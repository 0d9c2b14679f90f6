import Derived.Test.YtieklnlbljejdaaGreatDoorQ21
open Option renaming none → ν, some → μ
namespace Go.Proofs.YtieklnlbljejdaaGreatDoor
open Go.RowKit St
namespace Rt
variable {A:Nat->AN} {C:Nat->Prop} {J N c d i k x z:Nat} {K:Int->Option PS} {T:List (Nat×Nat)} {a b m:AN} {l:List kM} {o q:PS} {r:iE} {y:Int}
def rX(a:AN)(c d:Nat):Nat:=(a.e c d).1
structure B5(N k:Nat)(T:List (Nat×Nat))(a:AN):Prop where
 env:Env N k a
 pb:∀c d,c<a.nc->d<2->a.iR c=true->rX a c d≠rX a c (1-d)->(mr a c d).who=(rX a c (1-d):Int)+1/\(mr a c d).both=true/\(if a.e c d∈T then 3 else 4)<=(mr a c d).left
 pn:∀c d,c<a.nc->d<2->(a.iR c=false \/rX a c d=rX a c (1-d))->(mr a c d).who=0/\(mr a c d).both=false
 hh:∀c d,c<a.nc->d<2->a.iR c=true->rX a c d≠rX a c (1-d)->∀x∈a.F c d,YW x->x=FN (rX a c d+1) (rX a c (1-d)+1)
 id:∀i p,i<a.n->p<3->(∀c d,c<a.nc->d<2->a.e c d≠(i,p))->((a.R i).P p).L.st=1/\((a.R i).P p).pe.who=0/\((a.R i).P p).pe.both=false
theorem Iu {q:kN} (Y:q.who=(r.P i).pe.who)(Z:q.both=(r.P i).pe.both):(r.meet i q).K=r.K/\(r.meet i q).O=r.O:=by
 unfold iE.meet;simp only;rw[ag ⟨Y,Z⟩];exact⟨rfl,rfl⟩
theorem BA {L:LS} (h:L.st=1 \/L.st=9):iW L=(L,[]):=by
 have hb:(decide (4<=L.st)&&decide (L.st<=8))=false:=by rcases h with g|g<;>rw[g] <;>rfl
 unfold iW j6 lh;rw[ag hb,ag hb,ae (show¬L.st=3 by omega)]
theorem UW {p:Nat} (h:((r.P p).L.st=9/\((iA (r.P p).pe).who=(r.P p).pe.who/\(iA (r.P p).pe).both=(r.P p).pe.both)) \/((r.P p).L.st=1/\(r.P p).pe.who=0/\(r.P p).pe.both=false)):(r.iL p).K=r.K/\(r.iL p).O=r.O/\(((iT r p).meet p (iA (r.P p).pe)).O=r.O \/(r.P p).L.st=1):=by
 have M:iW (r.P p).L=((r.P p).L,[]):=BA (by rcases h with g|g;exact .inr g.1;exact .inl g.1);have V:((iT r p).P p).L.st=(r.P p).L.st:=by unfold iT;rw[kx,ag rfl,rT,M]
 have Z:=(lq r p p).2;have hK:(iT r p).K=r.K/\(iT r p).O=r.O:=⟨rfl,rfl⟩
 rw[kP,V,Z];rcases h with⟨Q,Y,X⟩|⟨Y,X,U⟩
 ·rw[ae (by rw[Q];simp)];obtain⟨t1,t2,_⟩:=oV ((iT r p).meet p (iA (r.P p).pe)) p;obtain⟨m1,m2⟩:=Iu (r:=iT r p) (i:=p) (q:=iA (r.P p).pe) (by rw[Z];exact Y) (by rw[Z];exact X);rw[t1,t2,m1,m2];exact⟨rfl,rfl,.inl rfl⟩
 ·rw[ag (by rw[Y];decide)];obtain⟨m1,m2⟩:=Iu (r:=iT r p) (i:=p) (q:=nobody) (by rw[Z,X];rfl) (by rw[Z,U];rfl);rw[m1,m2];exact⟨rfl,rfl,.inr Y⟩
theorem tg {q:kN} (Y:q.who=0)(Z:q.both=false):(iA q).who=0/\(iA q).both=false:=by
 unfold iA;split
 ·exact⟨rfl,rfl⟩
 ·exact⟨Y,Z⟩
theorem qz {q:kN} (h:2<=q.left):(iA q).who=q.who/\(iA q).both=q.both/\(iA q).left=q.left-1:=by
 unfold iA;rw[ae dU];exact⟨rfl,rfl,rfl⟩
theorem B5.tick {N k:Nat} {T:List (Nat×Nat)} {a:AN} (h:B5 N k T a)(hN:N<1000000) {i p:Nat} (hi:i<a.n)(hp:p<3)(hT:(i,p)∉T):B5 (N+8) k (T++ [(i,p)]) (a.op i ((a.R i).iL p))/\(∀j,((a.op i ((a.R i).iL p)).R j).K=(a.R j).K/\((a.op i ((a.R i).iL p)).R j).O=(a.R j).O)/\∀c d,c<a.nc->d<2->∃l,(a.op i ((a.R i).iL p)).F c d=a.F c d++l/\(a.e c d≠(i,p)->l=[])/\(a.e c d=(i,p)->(a.iR c=true->rX a c d≠rX a c (1-d)->l=FN (rX a c d+1) (rX a c (1-d)+1)::(kO ((a.R i).O p)).flatMap Cz)/\((a.iR c=false->l=[])/\(a.iR c=true->rX a c d=rX a c (1-d)->l=[FN (rX a c d+1) 0]))):=by
 obtain⟨e1,l2⟩:=h.env.tick hN hi hp;obtain⟨X,hX⟩:=h.env.i.lk;obtain⟨B,hB⟩:=h.env.i.own;have hds:=h.env.i.qw.ds;have ae5:(∃c d,c<a.nc/\d<2/\a.e c d=(i,p)/\((a.R i).P p).L=jR a c d/\((a.R i).P p).pe=mr a c d) \/(∀c d,c<a.nc->d<2->a.e c d≠(i,p)):=by
  by_cases hex:∃c d,c<a.nc/\d<2/\a.e c d=(i,p)
  ·obtain⟨c,d,hc,hd,V⟩:=hex;exact .inl ⟨c,d,hc,hd,V,by unfold jR;rw[V],by unfold mr;rw[V]⟩
  ·exact .inr λc d hc hd e=>hex ⟨c,d,hc,hd,e⟩
 have Gt:(((a.R i).P p).L.st=9/\((iA ((a.R i).P p).pe).who=((a.R i).P p).pe.who/\(iA ((a.R i).P p).pe).both=((a.R i).P p).pe.both)) \/(((a.R i).P p).L.st=1/\((a.R i).P p).pe.who=0/\((a.R i).P p).pe.both=false):=by
  rcases ae5 with⟨c,d,hc,hd,V,g1,g2⟩|kT
  ·cases Z:a.iR c
   ·have Y:=h.pn c d hc hd (.inl Z);right;rw[g1,g2];exact⟨(hX.dn c hc Z d hd).2.1,Y⟩
   ·left;rw[g1,g2];refine⟨h.env.o c d hc hd Z,?_⟩;by_cases hl:rX a c d=rX a c (1-d)
    ·have Y:=h.pn c d hc hd (.inr hl);have:=tg Y.1 Y.2;exact⟨by rw[this.1,Y.1],by rw[this.2,Y.2]⟩
    ·have hb:=h.pb c d hc hd Z hl;rw[V,ae hT]at hb;obtain⟨q1,q2,_⟩:=qz (q:=mr a c d) dU;exact⟨q1,q2⟩
  ·exact .inr (h.id i p hi hp kT)
 obtain⟨k1,k2,k3⟩:=UW Gt;have H:iW ((a.R i).P p).L=(((a.R i).P p).L,[]):=BA (by rcases Gt with g|g;exact .inr g.1;exact .inl g.1);have M:∀c d,mr (a.op i ((a.R i).iL p)) c d=if a.e c d=(i,p)then(if((a.R i).P p).L.st=9 then iA (mr a c d)else nobody)else mr a c d:=λc d=>by
  rw[zv];by_cases e:(a.e c d).1=i
  ·rw[ag e,zx,H];by_cases U:(a.e c d).2=p
   ·rw[ag U,ag (aR e U)];unfold mr;rw[e,U]
   ·rw[ae U,ae (λz=>U (by rw[z]))];unfold mr;rw[e]
  ·rw[ae e,ae (λz=>e (by rw[z]))]
 have hKO:∀j,((a.op i ((a.R i).iL p)).R j).K=(a.R j).K/\((a.op i ((a.R i).iL p)).R j).O=(a.R j).O:=λj=>by
  rw[Il];by_cases e:j=i
  ·rw[ag e,e];exact⟨k1,k2⟩
  ·rw[ae e];exact⟨rfl,rfl⟩
 have hF:∀c d,c<a.nc->d<2->∃l,(a.op i ((a.R i).iL p)).F c d=a.F c d++l/\(a.e c d≠(i,p)->l=[])/\(a.e c d=(i,p)->(a.iR c=true->rX a c d≠rX a c (1-d)->l=FN (rX a c d+1) (rX a c (1-d)+1)::(kO ((a.R i).O p)).flatMap Cz)/\((a.iR c=false->l=[])/\(a.iR c=true->rX a c d=rX a c (1-d)->l=[FN (rX a c d+1) 0]))):=λc d hc hd=>by
  obtain⟨_,f2⟩:=l2 c d hc hd;refine⟨_,f2,λjm=>ae jm,λV=> ?_⟩;rw[ag V];have oE:((a.R i).P p).pe=mr a c d:=by unfold mr;rw[V]
  have qd:(a.R i).id=(rX a c d:Int)+1:=by
   unfold rX;rw[V];exact(hB.r i hi).2.2.2.1
  have oQ:((a.R i).P p).L=jR a c d:=by unfold jR;rw[V]
  refine⟨λZ hl=> ?_,λZ=> ?_,λZ hl=> ?_⟩
  ·have hb:=h.pb c d hc hd Z hl;rw[V,ae hT]at hb;obtain⟨q1,q2,_⟩:=qz (q:=mr a c d) dU;have Q:=h.env.o c d hc hd Z;unfold zE;rw[H,oE,ag (by rw[oQ];exact Q),q1,q2,hb.2.1,ag rfl,hb.1,qd];rw[oE]at k3;rw[k3.resolve_right (by rw[oQ,Q];decide)];rfl
  ·have:=(hX.dn c hc Z d hd).2.1;unfold zE;rw[H,ae (by rw[oQ,this];decide)]
  ·have Y:=h.pn c d hc hd (.inr hl);have mL:=tg Y.1 Y.2;have Q:=h.env.o c d hc hd Z;unfold zE;rw[H,oE,ag (by rw[oQ];exact Q),mL.1,mL.2,qd];rfl
 refine⟨⟨e1,λc d hc hd Z hl=> ?_,λc d hc hd zB=> ?_,λc d hc hd Z hl x hx hh=> ?_,λj q hj hq kT=> ?_⟩,hKO,hF⟩
 ·have hb:=h.pb c d hc hd Z hl;rw[M];show _=(rX a c (1-d):Int)+1/\_/\(if a.e c d∈T++ [(i,p)]then(3:Int)else 4)<=_;by_cases e:a.e c d=(i,p)
  ·rw[e,ae hT]at hb;obtain⟨q1,q2,q3⟩:=qz (q:=mr a c d) dU;have Q:((a.R i).P p).L.st=9:=by
    have:=h.env.o c d hc hd Z;unfold jR at this;rw[e]at this;exact this
   rw[ag e,ag Q,q1,q2,q3,e,ag gO];exact⟨hb.1,hb.2.1,dU⟩
  ·rw[ae e];refine⟨hb.1,hb.2.1,?_⟩;have qO:=hb.2.2;by_cases D:a.e c d∈T
   ·rw[ag D]at qO;rw[ag (by simp[D])];exact qO
   ·rw[ae D]at qO;rw[ae (by simp[D,e])];exact qO
 ·have Y:=h.pn c d hc hd zB;rw[M];split
  ·split
   ·exact tg Y.1 Y.2
   ·exact⟨rfl,rfl⟩
  ·exact Y
 ·obtain⟨l,f1,f2,f3⟩:=hF c d hc hd;rw[f1]at hx;rcases av.1 hx with g|g
  ·exact h.hh c d hc hd Z hl x g hh
  ·by_cases e:a.e c d=(i,p)
   ·rw[(f3 e).1 Z hl]at g;rcases aQ.1 g with u|u
    ·exact u
    ·obtain⟨q,_,G⟩:=aV.1 u;obtain⟨s,rfl⟩:=hh;unfold Cz at G;split at G
     ·exact absurd (aB (ar.1 G)).1 dX
     ·simp at G
   ·rw[f2 e]at g;simp at g
 ·obtain⟨z1,z2,z3⟩:=h.id j q hj hq kT;rw[Il];by_cases e:j=i
  ·rw[ag e];show(((a.R i).iL p).P q).L.st=1/\(((a.R i).iL p).P q).pe.who=0/\(((a.R i).iL p).P q).pe.both=false;rw[AB,zx,H];subst e;by_cases U:q=p
   ·subst U;rw[ag rfl,ag rfl,ae (by rw[z1];decide)];exact⟨z1,rfl,rfl⟩
   ·rw[ae U,ae U];exact⟨z1,z2,z3⟩
  ·rw[ae e];exact⟨z1,z2,z3⟩
theorem B5.tks(X:wW T a b)(h:B5 N k [] a)(hT:T.Nodup)(hl:N+8*T.length<1000000):B5 (N+8*T.length) k T b/\(∀j,(b.R j).K=(a.R j).K/\(b.R j).O=(a.R j).O)/\∀c d,c<a.nc->d<2->∃l,b.F c d=a.F c d++l/\(a.e c d∉T->l=[])/\(a.e c d∈T->(a.iR c=true->rX a c d≠rX a c (1-d)->l=FN (rX a c d+1) (rX a c (1-d)+1)::(kO ((a.R (a.e c d).1).O (a.e c d).2)).flatMap Cz)/\((a.iR c=false->l=[])/\(a.iR c=true->rX a c d=rX a c (1-d)->l=[FN (rX a c d+1) 0]))):=by
 induction X with
 |nil=>exact⟨h,λ_=>⟨rfl,rfl⟩,λc d _ _=>⟨[],gO,λ_=>rfl,λh=>by simp at h⟩⟩
 | @snoc T a b i p X hi hp ih=>
   rw[az]at hl⊢;have Ox:[(i,p)].length=1:=rfl;have G:=bE.1 hT;have Z:(i,p)∉T:=λz=>G.2.2 _ z _ (ar.2 rfl) rfl;obtain⟨s1,k1,f1⟩:=ih h G.1 dU;have U:=X.path.same;have lL:=X.len;obtain⟨s2,k2,f2⟩:=s1.tick dU hi hp Z;have H:∀c d,rX b c d=rX a c d:=λc d=>by unfold rX;rw[U.2.2.1]
   refine⟨by rw[show N+8*(T.length+ [(i,p)].length)=N+8*T.length+8 by omega];exact s2,λj=>⟨(k2 j).1.trans (k1 j).1,(k2 j).2.trans (k1 j).2⟩,λc d hc hd=> ?_⟩;obtain⟨l1,V,a2,D⟩:=f1 c d hc hd;obtain⟨l2,b1,b2,b3⟩:=f2 c d (by rw[U.2.1];exact hc) hd;rw[U.2.2.1]at b2 b3;rw[H,H,lL]at b3;by_cases Y:a.e c d∈T
   ·have u:a.e c d≠(i,p):=λz=>Z (z▸Y);have Q:=b2 u;rw[Q,aC]at b1;exact⟨l1,b1.trans V,λz=>absurd (av.2 (.inl Y)) z,λ_=>D Y⟩
   ·have Q:=a2 Y;rw[Q,aC]at V;refine⟨l2,by rw[b1,V],λz=>b2 λw=>z (av.2 (.inr (ar.2 w))),λz=> ?_⟩
    ·have M:a.e c d=(i,p):=by
      rcases av.1 z with w|w
      ·exact absurd w Y
      ·exact ar.1 w
     have:=b3 M;rw[(k1 i).2]at this;rw[M];exact this
def knM(r:iE)(i:Nat):kM->Int->Option PS
 |83::s=>(jd r i s).K
 |_=>r.K
def owM(r:iE)(i:Nat):kM->Nat->Int->Option PS
 |83::s=>(jd r i s).O
 |65::s=>(kd r i s).O
 |_=>r.O
theorem Gz(r:iE)(i:Nat) {c:UInt8} (s:List UInt8)(h:c≠83):knM r i (c::s)=r.K:=by
 unfold knM;split
 ·rename_i e;exact absurd (aB e).1 h
 ·rfl
theorem GD(r:iE)(i:Nat) {c:UInt8} (s:List UInt8)(h:c≠83)(g:c≠65):owM r i (c::s)=r.O:=by
 unfold owM;split
 ·rename_i e;exact absurd (aB e).1 h
 ·rename_i e;exact absurd (aB e).1 g
 ·rfl
theorem XC {x:kM} (hx:qK x)(M:(r.P i).L.st=9)(U:∀s,x=72::s->(kg s).2.2=0->(iY r.id (kg s).1 (kg s).2.1).who=(r.P i).pe.who/\(iY r.id (kg s).1 (kg s).2.1).both=(r.P i).pe.both):(jD r i x).K=knM r i x/\(jD r i x).O=owM r i x:=by
 cases x with
 |nil=>exact⟨rfl,rfl⟩
 |cons c s=>
  have hc:c≠76:=hx c s rfl;have e:jD r i (c::s)=lO r i c s:=by
   show r.take i c s=_;rw[lg,tR i s hc,ae (by rw[M];simp)]
  rw[e];unfold lO;by_cases X:c=72
  ·rw[ag X];subst X;by_cases V:(kg s).2.2=0
   ·rw[ag V];obtain⟨g1,Q⟩:=U s rfl V;obtain⟨m1,m2⟩:=Iu (r:=r) (i:=i) g1 Q;exact⟨m1,m2⟩
   ·rw[ae V];exact⟨rfl,rfl⟩
  ·rw[ae X];by_cases Z:c=83
   ·rw[ag Z];subst Z;exact⟨rfl,rfl⟩
   ·rw[ae Z];rw[Gz r i s Z];by_cases Y:c=65
    ·rw[ag Y];subst Y;refine⟨?_,rfl⟩;unfold kd;simp only;split<;>rfl
    ·rw[ae Y,GD r i s Z Y];split
     ·unfold qH;split
      ·exact⟨(mJ r _).1,(mJ r _).2.1⟩
      ·exact⟨rfl,rfl⟩
     ·exact⟨rfl,rfl⟩
theorem B5.pop {N k:Nat} {T:List (Nat×Nat)} {a:AN} (h:B5 N k T a)(hN:N<1000000)(hk:k<=126)(hT:∀c d,c<a.nc->d<2->a.e c d∈T) {c d:Nat} {x:kM} {l:List kM} (hc:c<a.nc)(hd:d<2)(hF:a.F c d=x::l):B5 N k T (a.pop c d x l)/\(∀j,j≠rX a c (1-d)->((a.pop c d x l).R j).K=(a.R j).K/\((a.pop c d x l).R j).O=(a.R j).O)/\
 ((a.pop c d x l).R (rX a c (1-d))).K=knM (a.R (rX a c (1-d))) (a.e c (1-d)).2 x/\
 ((a.pop c d x l).R (rX a c (1-d))).O=owM (a.R (rX a c (1-d))) (a.e c (1-d)).2 x:=by
 obtain⟨X,hX⟩:=h.env.i.lk;obtain⟨B,hB⟩:=h.env.i.own;have Vy:x∈a.F c d:=by rw[hF];simp
 have lL:=hX.yh hc hd Vy;have G:=h.env.nl c d hc hd x Vy;have zC:=h.env.i.qw.en c (1-d) hc dU;have Y9:=h.env.i.qw.n6;have qd:=(hB.r _ zC.1).2.2.2.1;have h9:((a.R (rX a c (1-d))).P (a.e c (1-d)).2).L.st=9:=h.env.o c (1-d) hc dU lL;have ajo:((a.R (rX a c (1-d))).P (a.e c (1-d)).2).pe=mr a c (1-d):=rfl;have U:1-(1-d)=d:=dU;have M:∀s,x=72::s->(kg s).2.2=0->(iY ((rX a c (1-d):Int)+1) (kg s).1 (kg s).2.1).who=(mr a c (1-d)).who/\(iY ((rX a c (1-d):Int)+1) (kg s).1 (kg s).2.1).both=(mr a c (1-d)).both/\(rX a c d≠rX a c (1-d)->(iY ((rX a c (1-d):Int)+1) (kg s).1 (kg s).2.1).left=4):=λs hs Z=>by
  have Cg:=((h.env.i.fl.kn c d hc hd x Vy).1).2 s hs Z;have ajp:(a.R (a.e c d).1).id=(rX a c d:Int)+1:=(hB.r _ (h.env.i.qw.en c d hc hd).1).2.2.2.1;by_cases hl:rX a c d=rX a c (1-d)
  ·have mL:=h.pn c (1-d) hc dU (.inr (by rw[U];exact hl.symm));unfold iY;rw[ag (by rw[Cg,ajp,hl])];exact⟨mL.1.symm,mL.2.symm,λz=>absurd hl z⟩
  ·have hb:=h.pb c (1-d) hc dU lL (by rw[U];exact λz=>hl z.symm);rw[U]at hb;have Xe:=h.hh c d hc hd lL hl x Vy ⟨s,hs⟩;have Ri:s=[jO ((rX a c d:Int)+1),jO ((rX a c (1-d):Int)+1)] :=by
    rw[hs]at Xe;exact(aB Xe).2
   have hr:kg s=((rX a c d:Int)+1,(rX a c (1-d):Int)+1,0):=by
    rw[Ri];refine Ir ?_ ?_
    ·have:=h.env.i.qw.en c d hc hd;unfold rX;omega
    ·unfold rX;omega
   unfold iY;rw[hr];simp only;rw[ae dU];refine⟨hb.1.symm,?_,λ_=>rfl⟩;rw[hb.2.1];simp
 have hK:=XC (r:=a.R (rX a c (1-d))) (i:=(a.e c (1-d)).2) G h9 λs hs Z=>by
  rw[ajo,show(a.R (rX a c (1-d))).id=(rX a c (1-d):Int)+1 from qd];exact⟨(M s hs Z).1,(M s hs Z).2.1⟩
 obtain⟨z1,z2,z3⟩:=h.env.pop hN hk hc hd hF;have oE:=λc' d' V Y=>UU h.env hc hd hF c' d' V Y;have hR:∀j,(a.pop c d x l).R j=if j=rX a c (1-d)then(jD (a.R (rX a c (1-d))) (a.e c (1-d)).2 x).core else a.R j:=λj=>rfl
 have H:∀c' d',c'<a.nc->d'<2->(mr (a.pop c d x l) c' d').who=(mr a c' d').who/\(mr (a.pop c d x l) c' d').both=(mr a c' d').both/\(a.iR c'=true->rX a c' d'≠rX a c' (1-d')->(mr a c' d').left<=(mr (a.pop c d x l) c' d').left \/(mr (a.pop c d x l) c' d').left=4):=λc' d' V Y=>by
  obtain⟨v1,v2⟩:=oE c' d' V Y;by_cases Q:c'=c/\d'=1-d/\YW x
  ·obtain⟨s,hs⟩:=Q.2.2;by_cases Z:(kg s).2.2=0
   ·rw[v1 ⟨Q.1,Q.2.1⟩ s hs Z,Q.1,Q.2.1];have:=M s hs Z;exact⟨this.1,this.2.1,λ_ hl=>.inr (this.2.2 (by rw[U]at hl;exact λz=>hl z.symm))⟩
   ·
    have:mr (a.pop c d x l) c' d'=mr a c' d':=by
     unfold AN.pop;rw[zv,yb];split
     ·rename_i e
      rw[hs];show((iE.take _ _ 72 s).P _).pe=_;rw[CD (r:=a.R (a.e c (1-d)).1) s dX h9,ae (λw=>Z w.2.2)];unfold mr;rw[e]
     ·rfl
    rw[this];exact⟨rfl,rfl,λ_ _=>.inl (Int.le_refl _)⟩
  ·rw[v2 Q];exact⟨rfl,rfl,λ_ _=>.inl (Int.le_refl _)⟩
 refine⟨⟨z1,λc' d' V Y D Vz=> ?_,λc' d' V Y zB=> ?_,λc' d' V Y D Vz y hy hh=> ?_,λj q hj Q kT=> ?_⟩,λj hj=>by rw[hR,ae hj];exact⟨rfl,rfl⟩,?_,?_⟩
 ·have hb:=h.pb c' d' V Y D Vz;obtain⟨g1,g2,g3⟩:=H c' d' V Y;rw[g1,g2];refine⟨hb.1,hb.2.1,?_⟩;show(if a.e c' d'∈T then(3:Int)else 4)<=_;have qO:=hb.2.2;rw[ag (hT c' d' V Y)]at qO⊢;rcases g3 D Vz with g|g<;>omega
 ·obtain⟨g1,g2,_⟩:=H c' d' V Y;rw[g1,g2];exact h.pn c' d' V Y zB
 ·
  obtain⟨m1,_⟩:=pK (h.env.i.nrm.emp (a.e c (1-d)).1) (a.e c (1-d)).2 x;have Bz:∀z,z∈(a.kZ c d l).F c' d'->z∈a.F c' d':=λz Z=>by
   rw[rU]at Z;split at Z
   ·rename_i e;rw[e.1,e.2,hF];simp[Z]
   ·exact Z
  refine h.hh c' d' V Y D Vz y ?_ hh;unfold AN.pop at hy;rw[uR]at hy;split at hy
  ·rcases av.1 hy with u|u
   ·exact Bz _ u
   ·exfalso;obtain⟨w,rfl⟩:=hh;cases m1 ((a.kZ c d l).e c' d').2 with
    |none h=>rw[h]at u;simp at u
    |link s' _ _ _ h=>rw[h]at u;obtain⟨v,hv⟩:=qV u;exact absurd (aB hv).1 dX
    |heard s' _ _ _ _ _ _ _ h=>rw[h]at u;exact absurd (aB (ar.1 u)).1 dX
    |H9 k1 k2 s' _ _ _ _ h=>rw[h]at u;exact absurd (aB (ar.1 u)).1 dX
  ·exact Bz _ hy
 ·obtain⟨w1,w2,w3⟩:=h.id j q hj Q kT;rw[hR];by_cases e:j=rX a c (1-d)
  ·rw[ag e];have ajq:q≠(a.e c (1-d)).2:=λz=>kT c (1-d) hc dU (aR e.symm z.symm);subst e;show((jD _ _ x).P q).L.st=1/\((jD _ _ x).P q).pe.who=0/\((jD _ _ x).P q).pe.both=false;cases x with
   |nil=>exact⟨w1,w2,w3⟩
   |cons u s=>
    show((iE.take _ _ u s).P q).L.st=1/\((iE.take _ _ u s).P q).pe.who=0/\((iE.take _ _ u s).P q).pe.both=false;have hu:=G u s rfl;rw[uB _ _ s hu,CD s hu h9,ae (λw=>ajq w.1)];exact⟨w1,w2,w3⟩
  ·rw[ae e];exact⟨w1,w2,w3⟩
 ·rw[hR,ag rfl];exact hK.1
 ·rw[hR,ag rfl];exact hK.2
theorem ae9(r:iE)(i:Nat)(s:List UInt8)(y:Int):(jd r i s).K y=r.K y \/((il s).2.2.2=0/\(r.P i).pe.both=true/\(il s).1=y/\0<newF r.K y (il s).2.1 (il s).2.2.1/\(y=r.id \/(jd r i s).K y=μ ((il s).2.1,(il s).2.2.1))):=by
 unfold jd;simp only;split
 ·exact .inl rfl
 ·rename_i h
  have Z:(il s).2.2.2=0/\(r.P i).pe.both=true:=by
   refine⟨dU,?_⟩;cases hb:(r.P i).pe.both
   ·exact absurd (.inr hb) h
   ·rfl
  split
  ·rename_i Y
   by_cases e:y=r.id
   ·exact .inr ⟨Z.1,Z.2,by rw[e];exact Y.1,by rw[e,<-Y.1];exact Y.2,.inl e⟩
   ·left;unfold iE.behind;split
    ·show(if y=r.id then _ else _)=_;rw[ae e]
    ·rfl
  ·have X:∀K:Int->Option PS,K=kY r.K (il s).1 (il s).2.1 (il s).2.2.1->K y=r.K y \/((il s).2.2.2=0/\(r.P i).pe.both=true/\(il s).1=y/\0<newF r.K y (il s).2.1 (il s).2.2.1/\(y=r.id \/K y=μ ((il s).2.1,(il s).2.2.1))):=λK V=>by
    rw[V];unfold kY;split
    ·rename_i g
     by_cases e:y=(il s).1
     ·right;refine⟨Z.1,Z.2,e.symm,by rw[e];exact g,.inr ?_⟩;show(if y=(il s).1 then _ else _)=_;rw[ag e]
     ·left;show(if y=(il s).1 then _ else _)=_;rw[ae e]
    ·exact .inl rfl
   split
   ·exact X _ rfl
   ·exact X _ rfl
theorem aby(U:kU r)(i:Nat)(s:List UInt8)(Q:(il s).2.2.2=0)(hb:(r.P i).pe.both=true)(hs:(il s).2.1<1000000):xu (jd r i s).K (il s).1 (il s).2.1 (il s).2.2.1:=by
 have Y:=(wN U i s).1.k;unfold jd at Y⊢;simp only at Y⊢;rw[ae (by rw[hb];simp;exact Q)]at Y⊢;by_cases Z:(il s).1=r.id/\0<newF r.K (il s).1 (il s).2.1 (il s).2.2.1
 ·rw[ag Z];unfold iE.behind;rw[ag hs];refine⟨((il s).2.1+1,jC r),?_,?_⟩
  ·show(if(il s).1=r.id then _ else _)=_;rw[ag Z.1]
  ·unfold lr;have:lD ((il s).2.1+1) (il s).2.1=1:=by unfold lD;rw[ae dU,ag dU]
   rw[ag (by rw[this];decide)];show 0<=lD ((il s).2.1+1) (il s).2.1;rw[this];decide
 ·rw[ae Z];have V:xu (kY r.K (il s).1 (il s).2.1 (il s).2.2.1) (il s).1 (il s).2.1 (il s).2.2.1:=by
   unfold kY;by_cases g:0<newF r.K (il s).1 (il s).2.1 (il s).2.2.1
   ·rw[ag g];exact⟨_,by show(if(il s).1=(il s).1 then μ ((il s).2.1,(il s).2.2.1)else _)=_;rw[ag rfl],by rw[nG];exact Int.le_refl _⟩
   ·rw[ae g];cases X:r.K (il s).1 with
    |none=>unfold newF at g;rw[X]at g;exact absurd (by decide:(0:Int)<1) g
    |some q=>
     rw[nH X]at g;exact⟨q,X,by rw[tr];omega⟩
  split
  ·exact V
  ·exact V
theorem uW.keep(P:AN->Prop)(h:uW m b)(U:B5 N k T m)(G:N<1000000)(D:k<=126)(H:∀c d,c<m.nc->d<2->m.e c d∈T)(M:P m)(step:∀(a:AN) (c d:Nat) (x:kM) (l:List kM),B5 N k T a->(a.n=m.n/\a.nc=m.nc/\a.e=m.e/\a.iR=m.iR)->c<a.nc->d<2->a.F c d=x::l->P a->P (a.pop c d x l)):B5 N k T b/\P b/\(b.n=m.n/\b.nc=m.nc/\b.e=m.e/\b.iR=m.iR):=by
 induction h with
 |nil=>exact⟨U,M,rfl,rfl,rfl,rfl⟩
 |snoc c d x l p hc hd hF ih=>
  obtain⟨s1,Q,X,Y,Z,V⟩:=ih;refine⟨(s1.pop G D (λc d hc hd=>by rw[Z];exact H c d (by rw[<-Y];exact hc) hd) hc hd hF).1,step _ c d x l s1 ⟨X,Y,Z,V⟩ hc hd hF Q,X,Y,Z,V⟩
theorem B5.EC(h:B5 N k T a)(Q:N<1000000)(M:k<=126)(U:∀c d,c<a.nc->d<2->a.e c d∈T) {x:kM} (hc:c<a.nc)(hd:d<2)(hF:a.F c d=x::l)(j:Nat):oM (a.R j).K ((a.pop c d x l).R j).K:=by
 obtain⟨_,Y,Z,_⟩:=h.pop Q M U hc hd hF;obtain⟨B,V⟩:=h.env.i.own;by_cases e:j=rX a c (1-d)
 ·rw[e,Z];have X:=(V.r _ (h.env.i.qw.en c (1-d) hc dU).1).2.1;unfold knM;split
  ·exact(wN X _ _).1.k
  ·exact oM.refl _
 ·rw[(Y j e).1];exact oM.refl _
theorem B5.UX(h:B5 N k T a)(hc:c<a.nc)(hd:d<2)(hb:((a.R (rX a c d)).P (a.e c d).2).pe.both=true):a.iR c=true/\rX a c d≠rX a c (1-d):=by
 have Z:(mr a c d).both=true:=hb;cases hi:a.iR c
 ·rw[(h.pn c d hc hd (.inl hi)).2]at Z;exact absurd Z gO
 ·refine⟨rfl,λe=> ?_⟩;rw[(h.pn c d hc hd (.inr e)).2]at Z;exact absurd Z gO
theorem B5.news(h:B5 N k T a)(hN:N<1000000)(hk:k<=126)(D:∀c d,c<a.nc->d<2->a.e c d∈T) {x:kM} (hc:c<a.nc)(hd:d<2)(hF:a.F c d=x::l)(j:Nat)(y:Int):((a.pop c d x l).R j).K y=(a.R j).K y \/(j=rX a c (1-d)/\a.iR c=true/\rX a c d≠rX a c (1-d)/\∃q:PS,xu (a.R (rX a c d)).K y q.1 q.2/\0<newF (a.R j).K y q.1 q.2/\(y=(j:Int)+1 \/((a.pop c d x l).R j).K y=μ q)):=by
 obtain⟨_,Q,U,_⟩:=h.pop hN hk D hc hd hF;obtain⟨B,G⟩:=h.env.i.own;have H:=h.env.i.qw.en c (1-d) hc dU;by_cases e:j=rX a c (1-d)
 ·rw[e,U];cases x with
  |nil=>exact .inl rfl
  |cons u s=>
   by_cases V:u=83
   ·subst V;show(jd (a.R (rX a c (1-d))) (a.e c (1-d)).2 s).K y=_ \/_;rcases ae9 (a.R (rX a c (1-d))) (a.e c (1-d)).2 s y with g|⟨g1,M,g3,g4,Z⟩
    ·exact .inl g
    ·right;obtain⟨i1,Y⟩:=h.UX hc (show 1-d<2 by omega) M;have X:=((h.env.i.fl.kn c d hc hd (83::s) (by rw[hF];simp)).1).1 s (.inl rfl) g1;rw[g3]at X;refine⟨rfl,i1,?_,((il s).2.1,(il s).2.2.1),X,g4,?_⟩
     ·rw[show 1-(1-d)=d by omega]at Y;exact λz=>Y z.symm
     ·rcases Z with Z|Z
      ·left;rw[Z];exact(G.r _ H.1).2.2.2.1
      ·exact .inr Z
   ·left;rw[Gz _ _ s V]
 ·rw[(Q j e).1];exact .inl rfl
structure ED(N k:Nat)(a m b:AN):Prop where
 s:B5 N k [] a
 t:wW (l8 a.n) a m
 p:uW m b
 l:N+8*(l8 a.n).length<1000000
 k1:k<=126
 ms:B5 (N+8*(l8 a.n).length) k (l8 a.n) m
 ko:∀j,(m.R j).K=(a.R j).K/\(m.R j).O=(a.R j).O
 mf:∀c d,c<a.nc->d<2->∃l,m.F c d=a.F c d++l/\(a.iR c=true->rX a c d≠rX a c (1-d)->l=FN (rX a c d+1) (rX a c (1-d)+1)::(kO ((a.R (a.e c d).1).O (a.e c d).2)).flatMap Cz)/\(a.iR c=false->l=[])/\(a.iR c=true->rX a c d=rX a c (1-d)->l=[FN (rX a c d+1) 0])
 all:∀c d,c<m.nc->d<2->m.e c d∈l8 a.n
 me:m.n=a.n/\m.nc=a.nc/\m.e=a.e/\m.iR=a.iR
theorem GF(Y:sX a)(c d:Nat)(hc:c<a.nc)(hd:d<2):a.e c d∈l8 a.n:=by
 obtain⟨Z,e2⟩:=Y.en c d hc hd;unfold l8;refine aV.2 ⟨(a.e c d).1,aS.2 Z,?_⟩;unfold QA;have:(a.e c d).2=0 \/(a.e c d).2=1 \/(a.e c d).2=2:=dU;rcases this with e|e|e
 ·rw[show a.e c d=((a.e c d).1,0)from aR rfl e];simp
 ·rw[show a.e c d=((a.e c d).1,1)from aR rfl e];simp
 ·rw[show a.e c d=((a.e c d).1,2)from aR rfl e];simp
theorem ED.of(s:B5 N k [] a)(t:wW (l8 a.n) a m)(p:uW m b)(l:N+8*(l8 a.n).length<1000000)(H:k<=126):ED N k a m b:=by
 obtain⟨nd,_,_⟩:=oh a.n;obtain⟨Q,X,M⟩:=s.tks t nd l;have Z:=t.path.same;have Y:=GF s.env.i.qw;refine⟨s,t,p,l,H,Q,X,λc d hc hd=> ?_,λc d hc hd=> ?_,⟨Z.1,Z.2.1,Z.2.2.1,t.len⟩⟩
 ·obtain⟨l,V,_,U⟩:=M c d hc hd;obtain⟨b1,b2,b3⟩:=U (Y c d hc hd);exact⟨l,V,b1,b2,b3⟩
 ·rw[Z.2.2.1];exact Y c d (by rw[<-Z.2.1];exact hc) hd
theorem ED.keep {N k:Nat} {a m b:AN} (h:ED N k a m b)(P:AN->Prop)(U:P m)(step:∀(z:AN) (c d:Nat) (x:kM) (l:List kM),B5 (N+8*(l8 a.n).length) k (l8 a.n) z->(z.n=a.n/\z.nc=a.nc/\z.e=a.e/\z.iR=a.iR)->(∀c d,c<z.nc->d<2->z.e c d∈l8 a.n)->c<z.nc->d<2->z.F c d=x::l->P z->P (z.pop c d x l)):B5 (N+8*(l8 a.n).length) k (l8 a.n) b/\P b/\(b.n=a.n/\b.nc=a.nc/\b.e=a.e/\b.iR=a.iR):=by
 obtain⟨g1,X,H,G,V,Y⟩:=h.p.keep P h.ms h.l h.k1 h.all U λz c d x l M Z hc hd hF Q=>step z c d x l M ⟨Z.1.trans h.me.1,Z.2.1.trans h.me.2.1,Z.2.2.1.trans h.me.2.2.1,Z.2.2.2.trans h.me.2.2.2⟩ (λc d hc hd=>by rw[Z.2.2.1];exact h.all c d (by rw[<-Z.2.1];exact hc) hd) hc hd hF Q;exact⟨g1,X,H.trans h.me.1,G.trans h.me.2.1,V.trans h.me.2.2.1,Y.trans h.me.2.2.2⟩
theorem ED.sta(h:ED N k a m b)(Q:∀c d,c<a.nc->d<2->a.F c d=[])(Z:∀c d,c<a.nc->d<2->b.F c d=[]):B5 (N+8*(l8 a.n).length) k [] b:=by
 obtain⟨s1,_,e1,X,M,U⟩:=h.keep (λ_=>True) trivial λ_ _ _ _ _ _ _ _ _ _ _ _=>trivial;obtain⟨_,hh⟩:=Bx h.t h.p h.s.env h.l h.k1 Q Z;have Y:∀c d,rX b c d=rX a c d:=λc d=>by unfold rX;rw[M]
 refine⟨s1.env,λc d hc hd hi hl=> ?_,s1.pn,λc d hc hd _ _ x hx=> ?_,s1.id⟩
 ·rw[X]at hc;rw[U]at hi;rw[Y,Y]at hl;have Z:=hh c d hc hd hi;have hb:=h.s.pb c (1-d) hc dU hi (by rw[show 1-(1-d)=d by omega];exact λz=>hl z.symm);rw[show 1-(1-d)=d by omega,ae gO]at hb;obtain⟨q1,_,_⟩:=qz (q:=mr a c (1-d)) dU;rw[q1,hb.1]at Z;have V:¬((rX a c (1-d):Int)+1=(rX a c d:Int)+1):=dU;have Z:mr b c d=iY ((rX a c d:Int)+1) ((rX a c (1-d):Int)+1) ((rX a c d:Int)+1):=Z;unfold iY at Z;rw[ae V]at Z;rw[Z,Y];refine⟨rfl,gO,?_⟩;rw[ae gO];exact Int.le_refl _
 ·rw[X]at hc;rw[Z c d hc hd]at hx;simp at hx
theorem ED.mono(h:ED N k a m b)(j:Nat):oM (a.R j).K (b.R j).K:=by
 obtain⟨_,g,_⟩:=h.keep (λz=>oM (a.R j).K (z.R j).K) (by rw[(h.ko j).1];exact oM.refl _) λz c d x l Z _ X hc hd hF Y=>Y.trans (Z.EC h.l h.k1 X hc hd hF j);exact g
theorem KM {F:Int->Option PS} (hy:1<=y/\y<=6)(h:F y=μ q):(y,q)∈kO F:=by
 unfold kO;refine cO.2 ⟨(y-1).toNat,aS.2 dU,?_⟩;have e:(((y-1).toNat:Nat):Int)+1=y:=dU;rw[e,h];rfl
theorem Iv(h:oD y q.1 q.2=0):Cz (y,q)=[83::qC y q.1 q.2] :=by
 unfold Cz;have:=CC h;rw[ag (by show(qC y q.1 q.2).length+1<=60;omega)]
theorem ED.spread(h:ED N k a m b)(h1:∀c d,c<a.nc->d<2->b.F c d=[])(hc:c<a.nc)(hd:d<2)(hi:a.iR c=true)(hl:rX a c d≠rX a c (1-d))(X:(a.R (rX a c d)).K y=μ q):xu (b.R (rX a c (1-d))).K y q.1 q.2:=by
 obtain⟨B,hB⟩:=h.s.env.i.own;obtain⟨C,hC⟩:=h.ms.env.i.own;have zC:=h.s.env.i.qw.en c d hc hd;have hr:=hB.r _ zC.1;have hm:xu (m.R (rX a c (1-d))).K y q.1 q.2 \/ ∃x∈m.F c d,∃s,x=83::s/\(il s).2.2.2=0/\(il s).1=y/\0<=lr (il s).2.1 (il s).2.2.1 q.1 q.2:=by
  cases j:(a.R (rX a c d)).O (a.e c d).2 y with
  |none=>
   left;rw[(h.ko _).1];exact h.s.env.i.fl.o c d hc hd (h.s.pb c d hc hd hi hl).2.1 y q X j
  |some u=>
   right;have hu:=hr.1.tie _ _ _ j;have H:u=q:=by
    have e:(a.R (rX a c d)).K y=μ u:=hu;rw[X]at e;exact(Option.some.inj e).symm
   subst H;obtain⟨l,f1,f2,_⟩:=h.mf c d hc hd;have hv:=hr.1.val y u X;have hy:=hr.2.1.Pr y (by rw[show(a.R (a.e c d).1).K y=μ u from X];rfl);refine⟨83::qC y u.1 u.2,?_,_,rfl,?_⟩
   ·rw[f1,f2 hi hl];refine av.2 (.inr (aQ.2 (.inr (aV.2 ⟨(y,u),KM hy j,?_⟩))));rw[Iv hv];simp
   ·rw[nh _ _ _ hv];exact⟨rfl,rfl,by rw[nG];exact Int.le_refl _⟩
 obtain⟨_,g,e1,e2,e3,e4⟩:=h.keep (λz=>xu (z.R (rX a c (1-d))).K y q.1 q.2 \/ ∃x∈z.F c d,∃s,x=83::s/\(il s).2.2.2=0/\(il s).1=y/\0<=lr (il s).2.1 (il s).2.2.1 q.1 q.2) hm λz c' d' x l Y U hT jN j3 hF hP=>by
  have hmono:=Y.EC h.l h.k1 hT jN j3 hF;rcases hP with g|⟨w,w1,s,Q,V,G,M⟩
  ·exact .inl (g.mono (hmono _))
  ·have Z:c<z.nc:=by rw[U.2.1];exact hc
   obtain⟨em,f⟩:=(Y.env.pop h.l h.k1 jN j3 hF).2.2 c d Z hd;by_cases e:c=c'/\d=d'
   ·obtain⟨z1,z2⟩:=e;subst z1 z2;rw[ag ⟨rfl,rfl⟩]at f;rw[hF]at w1;rcases aQ.1 w1 with v|v
    ·left;have hx:x=83::s:=by rw[<-v];exact Q
     obtain⟨_,_,g2,_⟩:=Y.pop h.l h.k1 hT Z hd hF;obtain⟨D,hD⟩:=Y.env.i.own;have zF:∀d,rX z c d=rX a c d:=λd=>by unfold rX;rw[U.2.2.1]
     rw[<-zF,g2,hx];have iF:=(hD.r _ (Y.env.i.qw.en c (1-d) Z dU).1).2.1;have hb:=(Y.pb c (1-d) Z dU (by rw[U.2.2.2];exact hi) (by rw[zF,zF,show 1-(1-d)=d by omega];exact λw=>hl w.symm)).2.1;have hle:=hD.f c d Z hd x (by rw[hF];simp) s hx V;have ka:=hD.b;have:=h.l;have hk:=aby iF (z.e c (1-d)).2 s V hb dU;rw[G]at hk;exact hk.trans M
    ·right;exact⟨w,by rw[f];simp[v],s,Q,V,G,M⟩
   ·right;rw[ae e]at f;exact⟨w,by rw[f];simp[w1],s,Q,V,G,M⟩
 rcases g with g|⟨x,hx,_⟩
 ·exact g
 ·rw[h1 c d hc hd]at hx;simp at hx
def Cl(a:AN)(C:Nat->Prop):Prop:=∀c d,c<a.nc->d<2->a.iR c=true->rX a c d≠rX a c (1-d)->C (rX a c d)->C (rX a c (1-d))
def Bd(C:Nat->Prop)(y:Int)(a0 a:AN):Prop:=∀x,C x->∀q:PS,(a.R x).K y=μ q->(∃x0,C x0/\xu (a0.R x0).K y q.1 q.2) \/ ∃i,C i/\(i:Int)+1=y/\xu (a.R i).K y q.1 q.2
theorem ED.bd(h:ED N k a m b)(hC:Cl a C) {a0:AN} (hB:Bd C y a0 a):Bd C y a0 b:=by
 have hm:Bd C y a0 m:=λx hx q Z=>by
  rw[(h.ko x).1]at Z;rcases hB x hx q Z with g|⟨i,g1,X,U⟩
  ·exact .inl g
  ·exact .inr ⟨i,g1,X,by rw[(h.ko i).1];exact U⟩
 obtain⟨_,g,_⟩:=h.keep (Bd C y a0) hm λz c d x l hz M hT hc hd hF hP=>by
  have hmono:=hz.EC h.l h.k1 hT hc hd hF;have V:∀q:PS,((∃x0,C x0/\xu (a0.R x0).K y q.1 q.2) \/ ∃i,C i/\(i:Int)+1=y/\xu (z.R i).K y q.1 q.2)->(∃x0,C x0/\xu (a0.R x0).K y q.1 q.2) \/ ∃i,C i/\(i:Int)+1=y/\xu ((z.pop c d x l).R i).K y q.1 q.2:=λq Z=>by
   rcases Z with g|⟨i,g1,X,U⟩
   ·exact .inl g
   ·exact .inr ⟨i,g1,X,U.mono (hmono i)⟩
  intro j D q Z;rcases hz.news h.l h.k1 hT hc hd hF j y with g|⟨g1,X,U,u,⟨v,v1,v2⟩,g5,Y⟩
  ·rw[g]at Z;exact V q (hP j D q Z)
  ·have Q:∀d,rX z c d=rX a c d:=λd=>by unfold rX;rw[M.2.2.1]
   rcases Y with Y|Y
   ·exact .inr ⟨j,D,Y.symm,tT Z⟩
   ·rw[Y]at Z;injection Z with Z
    subst Z;have G:C (rX z c d):=by
     have:=hC c (1-d) (by rw[<-M.2.1];exact hc) dU (by rw[<-M.2.2.2];exact X) (by rw[<-Q,<-Q,show 1-(1-d)=d by omega];exact λw=>U w.symm);rw[<-Q,<-Q,show 1-(1-d)=d by omega]at this;exact this (by rw[<-g1];exact D)
    refine V u ?_;rcases hP _ G v v1 with⟨x0,w1,H⟩|⟨i,w1,H,w3⟩
    ·exact .inl ⟨x0,w1,H.trans v2⟩
    ·exact .inr ⟨i,w1,H,w3.trans v2⟩
 exact g
def Bo(C:Nat->Prop)(i:Nat)(o:PS)(a:AN):Prop:=(a.R i).K ((i:Int)+1)=μ o/\∀x,C x->∀q:PS,(a.R x).K ((i:Int)+1)=μ q->0<=lr o.1 o.2 q.1 q.2
theorem Iw {u:PS} (h:K y=μ o)(g:0<=lr o.1 o.2 u.1 u.2):¬0<newF K y u.1 u.2:=by
 rw[nH h,tr];omega
theorem ED.bo(h:ED N k a m b)(hC:Cl a C)(hi:C i)(G:Bo C i o a):Bo C i o b:=by
 have hm:Bo C i o m:=⟨by rw[(h.ko i).1];exact G.1,λx hx q Z=>G.2 x hx q (by rw[<-(h.ko x).1];exact Z)⟩
 obtain⟨_,g,_⟩:=h.keep (Bo C i o) hm λz c d x l hz Q hT hc hd hF X=>by
  have U:∀d,rX z c d=rX a c d:=λd=>by unfold rX;rw[Q.2.2.1]
  have key:∀j,C j->((z.pop c d x l).R j).K ((i:Int)+1)=(z.R j).K ((i:Int)+1) \/(j≠i/\∃u:PS,((z.pop c d x l).R j).K ((i:Int)+1)=μ u/\0<=lr o.1 o.2 u.1 u.2):=λj V=>by
   rcases hz.news h.l h.k1 hT hc hd hF j ((i:Int)+1)with g|⟨g1,H,g3,u,⟨v,v1,v2⟩,g5,Y⟩
   ·exact .inl g
   ·have M:C (rX z c d):=by
     have:=hC c (1-d) (by rw[<-Q.2.1];exact hc) dU (by rw[<-Q.2.2.2];exact H) (by rw[<-U,<-U,show 1-(1-d)=d by omega];exact λw=>g3 w.symm);rw[<-U,<-U,show 1-(1-d)=d by omega]at this;exact this (by rw[<-g1];exact V)
    have D:0<=lr o.1 o.2 u.1 u.2:=(xD (X.2 _ M v v1) v2).1;by_cases e:j=i
    ·subst e;exact absurd g5 (Iw X.1 D)
    ·right;refine⟨e,u,?_,D⟩;rcases Y with Y|Y
     ·exact absurd dU e
     ·exact Y
  refine⟨?_,λj V q Z=> ?_⟩
  ·rcases key i hi with g|g
   ·rw[g];exact X.1
   ·exact absurd rfl g.1
  ·rcases key j V with g|⟨_,u,g1,H⟩
   ·rw[g]at Z;exact X.2 j V q Z
   ·rw[g1]at Z;injection Z with Z;rw[<-Z];exact H
 exact g
def Be(C:Nat->Prop)(y:Int)(v:Option PS)(a:AN):Prop:=∀x,C x->(a.R x).K y=v
theorem ED.be(h:ED N k a m b)(hC:Cl a C) {v:Option PS} (H:Be C y v a):Be C y v b:=by
 have hm:Be C y v m:=λx hx=>by rw[(h.ko x).1];exact H x hx
 obtain⟨_,g,_⟩:=h.keep (Be C y v) hm λz c d x l D Y G hc hd hF U=>by
  have Z:∀d,rX z c d=rX a c d:=λd=>by unfold rX;rw[Y.2.2.1]
  intro j X;rcases D.news h.l h.k1 G hc hd hF j y with g|⟨g1,Q,g3,u,⟨w,v1,v2⟩,M,g6⟩
  ·rw[g];exact U j X
  ·have V:C (rX z c d):=by
    have:=hC c (1-d) (by rw[<-Y.2.1];exact hc) dU (by rw[<-Y.2.2.2];exact Q) (by rw[<-Z,<-Z,show 1-(1-d)=d by omega];exact λw=>g3 w.symm);rw[<-Z,<-Z,show 1-(1-d)=d by omega]at this;exact this (by rw[<-g1];exact X)
   rw[U _ V]at v1;exact absurd M (Iw (by rw[U j X];exact v1) v2)
 exact g
def Adj(a:AN)(x z:Nat):Prop:=∃c d,c<a.nc/\d<2/\a.iR c=true/\rX a c d=x/\rX a c (1-d)=z/\x≠z
theorem Adj.symm {a:AN} {x z:Nat} (h:Adj a x z):Adj a z x:=by
 obtain⟨c,d,X,h2,U,V,Z,Y⟩:=h;exact⟨c,1-d,X,dU,U,Z,by rw[show 1-(1-d)=d by omega];exact V,Y.symm⟩
inductive Way(a:AN):Nat->Nat->Nat->Prop
 |here (x:Nat):Way a 0 x x
 |stay {k x z:Nat}:Way a k x z->Way a (k+1) x z
 |go {k x w z:Nat}:Way a k x w->Adj a w z->Way a (k+1) x z
def pM(a:AN)(x z:Nat):Prop:=∃k,Way a k x z
theorem pM.trans {w:Nat} (h:pM a x w)(g:pM a w z):pM a x z:=by
 obtain⟨k,g⟩:=g
 induction g with
 |here=>exact h
 |stay _ ih=>exact ih h
 |go _ s ih=>obtain⟨j,Z⟩:=ih h;exact⟨j+1,Z.go s⟩
theorem pM.adj(h:Adj a x z):pM a x z:=⟨1,(Way.here x).go h⟩
theorem pM.symm {a:AN} {x z:Nat} (h:pM a x z):pM a z x:=by
 obtain⟨k,g⟩:=h
 induction g with
 |here=>exact⟨0,Way.here _⟩
 |stay _ ih=>exact ih
 |go _ s ih=>exact(pM.adj s.symm).trans ih
theorem Way.lt(X:sX a)(h:Way a k x z)(hx:x<a.n):z<a.n:=by
 induction h with
 |here=>exact hx
 |stay _ ih=>exact ih hx
 |go _ s _=>
  obtain⟨c,d,Y,h2,_,_,Z,_⟩:=s;rw[<-Z];exact(X.en c (1-d) Y dU).1
theorem Way.more {a:AN} {k x z:Nat} (h:Way a k x z):∀j,Way a (k+j) x z
 |0=>h
 |j+1=>(Way.more h j).stay
open Classical in
noncomputable def MY (a:AN) (x k:Nat):Nat:=sm (λz=>if Way a k x z then 1 else 0) (List.range a.n)
theorem yi {a:AN} (Z:sX a) {x k:Nat} (hx:x<a.n)(h:∀z,z<a.n->Way a (k+1) x z->Way a k x z):∀j z,Way a (k+j) x z->Way a k x z
 |0,_,g=>g
 |j+1,z,g=>by
  have Y:=g.lt Z hx;cases g with
  |stay g=>exact yi Z hx h j z g
  |go g s=>exact h z Y ((yi Z hx h j _ g).go s)
theorem XD(n:Nat):sm (λ_:Nat=>1) (List.range n)=n:=by
 unfold sm
 induction n with
 |zero=>rfl
 |succ n ih=>rw[cy,cu,List.sum_append,ih];rfl
open Classical in
theorem XE(X:sX a)(hx:x<a.n)(h:pM a x z):Way a 6 x z:=by
 obtain⟨m,U⟩:=h;have key:∀k,k+1<=MY a x k \/ ∃j,j<k/\∀z,z<a.n->Way a (j+1) x z->Way a j x z:=λk=>by
  induction k with
  |zero=>
   left;have:=zj (f:=λ_:Nat=>0) (g:=λz=>if Way a 0 x z then 1 else 0) (y:=x) (k:=1) bQ (aS.2 hx) λz _=>by
    by_cases e:z=x
    ·subst e;rw[ag rfl,ag (Way.here z)];exact Nat.le_refl _
    ·rw[ae e];exact Nat.zero_le _
   show 0+1<=MY a x 0;unfold MY;omega
  |succ k ih=>
   rcases ih with g|⟨j,H,Y⟩
   ·by_cases hc:∀z,z<a.n->Way a (k+1) x z->Way a k x z
    ·exact .inr ⟨k,dU,hc⟩
    ·left;have:∃z,z<a.n/\Way a (k+1) x z/\¬Way a k x z:=by
      by_cases hh:∃z,z<a.n/\Way a (k+1) x z/\¬Way a k x z
      ·exact hh
      ·exact absurd (λz G Z=>by
        by_cases V:Way a k x z
        ·exact V
        ·exact absurd ⟨z,G,Z,V⟩ hh) hc
     obtain⟨z,M,Q,u⟩:=this;have:=zj (f:=λz=>if Way a k x z then 1 else 0) (g:=λz=>if Way a (k+1) x z then 1 else 0) (y:=z) (k:=1) bQ (aS.2 M) λw _=>by
      by_cases e:w=z
      ·subst e;rw[ag rfl,ag Q,ae u];exact Nat.le_refl _
      ·rw[ae e];by_cases Z:Way a k x w
       ·rw[ag Z,ag Z.stay];exact Nat.le_refl _
       ·rw[ae Z];exact Nat.zero_le _
     show k+1+1<=MY a x (k+1);unfold MY at g⊢;omega
   ·exact .inr ⟨j,dU,Y⟩
 rcases key 6 with g|⟨j,H,Y⟩
 ·exfalso;have:MY a x 6<=a.n:=by
   unfold MY;refine Nat.le_trans (uL (g:=λ_=>1) λz _=> ?_) (Nat.le_of_eq (XD a.n));split
   ·exact Nat.le_refl _
   ·exact Nat.zero_le _
  have:=X.n6;omega
 ·have D:Way a j x z:=by
   by_cases hjm:j<=m
   ·have:=yi X hx Y (m-j) z (by rw[show j+(m-j)=m by omega];exact U);exact this
   ·have:=U.more (j-m);rw[show m+(j-m)=j by omega]at this;exact this
  have:=D.more (6-j);rw[show j+(6-j)=6 by omega]at this;exact this
structure Run(k J:Nat)(A:Nat->AN):Prop where
 r:∀j,j<J->∃N m,ED N k (A j) m (A (j+1))
 z:∀j,j<=J->∀c d,c<(A j).nc->d<2->(A j).F c d=[]
theorem ED.same(h:ED N k a m b):b.n=a.n/\b.nc=a.nc/\b.e=a.e/\b.iR=a.iR:=(h.keep (λ_=>True) trivial λ_ _ _ _ _ _ _ _ _ _ _ _=>trivial).2.2
theorem Run.same {k J:Nat} {A:Nat->AN} (h:Run k J A):∀j,j<=J->(A j).n=(A 0).n/\(A j).nc=(A 0).nc/\(A j).e=(A 0).e/\(A j).iR=(A 0).iR
 |0,_=>⟨rfl,rfl,rfl,rfl⟩
 |j+1,hj=>by
  obtain⟨N,m,Z⟩:=h.r j dU;obtain⟨U,V,Y,X⟩:=Run.same h j dU;obtain⟨b1,b2,b3,b4⟩:=Z.same;exact⟨b1.trans U,b2.trans V,b3.trans Y,b4.trans X⟩
theorem Run.spread {k J:Nat} {A:Nat->AN} (h:Run k J A) {i x z:Nat} (hw:Way (A 0) i x z):∀j,j+i<=J->∀(y:Int) (q:PS),((A j).R x).K y=μ q->xu ((A (j+i)).R z).K y q.1 q.2:=by
 induction hw with
 |here=>intro j _ y q Z;exact tT Z
 | @stay i x z _ ih=>
   intro j hj y q Z;obtain⟨N,m,Y⟩:=h.r (j+i) dU;exact(ih j dU y q Z).mono (Y.mono z)
 | @go i x w z _ s ih=>
   intro j hj y q Z;obtain⟨u,u1,u2⟩:=ih j dU y q Z;obtain⟨N,m,Y⟩:=h.r (j+i) dU;obtain⟨e1,e2,e3,H⟩:=h.same (j+i) dU;obtain⟨c,d,G,Q,D,U,V,M⟩:=s;have X:∀d,rX (A (j+i)) c d=rX (A 0) c d:=λd=>by unfold rX;rw[e3]
   have:=Y.spread (λc' d' jN j3=>h.z (j+i+1) dU c' d' (by rw[Y.same.2.1];exact jN) j3) (c:=c) (d:=d) (by rw[e2];exact G) Q (by rw[H];exact D) (by rw[X,X,U,V];exact M) (y:=y) (q:=u) (by rw[X,U];exact u1);rw[X,V]at this;exact this.trans u2
theorem Run.cl(h:Run k J A)(x:Nat) {j:Nat} (V:j<=J):Cl (A j) (pM (A 0) x):=λc d hc hd hi hl hC=>by
 obtain⟨e1,U,X,Y⟩:=h.same j V;have Z:∀d,rX (A j) c d=rX (A 0) c d:=λd=>by unfold rX;rw[X]
 rw[Z,Z]at hl;rw[Z]at hC⊢;exact hC.trans (pM.adj ⟨c,d,by rw[<-U];exact hc,hd,by rw[<-Y];exact hi,rfl,rfl,hl⟩)
theorem UY {L:Int->Option PS} {p:PS} (Y:K y=μ p)(Z:L y=μ q)(V:xu L y p.1 p.2)(X:xu K y q.1 q.2):p=q:=by
 obtain⟨u,u1,u2⟩:=V;obtain⟨v,v1,v2⟩:=X;rw[Z]at u1;rw[Y]at v1;injection u1 with u1
 injection v1 with v1
 subst u1 v1;rw[tr]at v2;have U:lr q.1 q.2 p.1 p.2=0:=dU;have:=zG.1 U;exact aR this.1.symm this.2.symm
theorem Run.equal(h:Run k J A)(hJ:12<=J) {x0:Nat} (M:x0<(A 0).n)(y:Int):∃v,Be (pM (A 0) x0) y v (A 12):=by
 obtain⟨N0,m0,r0⟩:=h.r 0 dU;have yk:=r0.s.env.i.qw;have ka:∀x,pM (A 0) x0 x->x<(A 0).n:=λx hx=>by obtain⟨k,D⟩:=hx;exact D.lt yk M
 have U:∀x z,pM (A 0) x0 x->pM (A 0) x0 z->Way (A 0) 6 x z:=λx z hx H=>XE yk (ka x hx) (hx.symm.trans H);have bd:∀j,j<=6->Bd (pM (A 0) x0) y (A 0) (A j):=λj=>by
  induction j with
  |zero=>intro _ x hx q Z;exact .inl ⟨x,hx,tT Z⟩
  |succ j ih=>
   intro hj;obtain⟨N,m,Y⟩:=h.r j dU;exact Y.bd (h.cl x0 dU) (ih dU)
 have b6:=bd 6 (Nat.le_refl _);have be:∀j i v,Be (pM (A 0) x0) y v (A j)->j+i<=J->Be (pM (A 0) x0) y v (A (j+i)):=λj i v hv=>by
  induction i with
  |zero=>intro _;exact hv
  |succ i ih=>
   intro hi;obtain⟨N,m,Y⟩:=h.r (j+i) dU;exact Y.be (h.cl x0 dU) (ih dU)
 by_cases ji:∃i,pM (A 0) x0 i/\(i:Int)+1=y
 ·obtain⟨i,hi,hy⟩:=ji;subst hy;obtain⟨N6,m6,r6⟩:=h.r 6 dU;obtain⟨B,hB⟩:=r6.s.env.i.own;obtain⟨G,_,_,_⟩:=h.same 6 dU;have EV:=hB.r i (by rw[G];exact ka i hi);obtain⟨o,X,_⟩:=EV.2.1.own;rw[EV.2.2.2.1]at X;have o6:Bo (pM (A 0) x0) i o (A 6):=by
   refine⟨X,λx hx q Z=> ?_⟩;have D:xu ((A 6).R i).K ((i:Int)+1) q.1 q.2:=by
    rcases b6 x hx q Z with⟨x1,g1,u,u1,u2⟩|⟨i',g1,g2,g3⟩
    ·have:=h.spread (U x1 i g1 hi) 0 dU ((i:Int)+1) u u1;exact this.trans u2
    ·have:i'=i:=dU;subst this;exact g3
   obtain⟨u,u1,u2⟩:=D;rw[X]at u1;injection u1 with u1;rw[u1];exact u2
  have bo:∀j,j<=6->Bo (pM (A 0) x0) i o (A (6+j)):=λj=>by
   induction j with
   |zero=>intro _;exact o6
   |succ j ih=>
    intro hj;obtain⟨N,m,Y⟩:=h.r (6+j) dU;exact Y.bo (h.cl x0 dU) hi (ih dU)
  have o12:=bo 6 (Nat.le_refl _);refine⟨μ o,λx hx=> ?_⟩;obtain⟨u,u1,u2⟩:=h.spread (U i x hi hx) 6 dU ((i:Int)+1) o X;have hle:=o12.2 x hx u u1;rw[u1];congr 1;rw[tr]at hle;have h0:lr u.1 u.2 o.1 o.2=0:=dU;have:=zG.1 h0;exact aR this.1 this.2
 ·have left:∀x,pM (A 0) x0 x->∀q:PS,((A 6).R x).K y=μ q->∃x1,pM (A 0) x0 x1/\xu ((A 0).R x1).K y q.1 q.2:=λx hx q Z=>by
   rcases b6 x hx q Z with g|⟨i,g1,g2,_⟩
   ·exact g
   ·exact absurd ⟨i,g1,g2⟩ ji
  have up:∀x z,pM (A 0) x0 x->pM (A 0) x0 z->∀q:PS,((A 6).R x).K y=μ q->xu ((A 6).R z).K y q.1 q.2:=λx z hx H q Z=>by
   obtain⟨x1,g1,u,u1,u2⟩:=left x hx q Z;exact(h.spread (U x1 z g1 H) 0 dU y u u1).trans u2
  have V:pM (A 0) x0 x0:=⟨0,Way.here _⟩
  refine⟨((A 6).R x0).K y,be 6 6 _ (λx hx=> ?_) dU⟩;cases Q:((A 6).R x0).K y with
  |none=>
   cases G:((A 6).R x).K y with
   |none=>rfl
   |some q=>
    obtain⟨u,u1,_⟩:=up x x0 hx V q G;rw[Q]at u1;exact absurd u1 gO
  |some p=>
   obtain⟨q,q1,q2⟩:=up x0 x V hx p Q;rw[q1];congr 1;exact(UY Q q1 ⟨q,q1,q2⟩ (up x x0 hx V q q1)).symm
def EqA(a:AN):Prop:=∀c d,c<a.nc->d<2->a.iR c=true->rX a c d≠rX a c (1-d)->(a.R (rX a c d)).K=(a.R (rX a c (1-d))).K
def OwN(a:AN):Prop:=∀c d,c<a.nc->d<2->a.iR c=true->rX a c d≠rX a c (1-d)->∀y,(a.R (rX a c d)).O (a.e c d).2 y=ν
theorem Run.eqA(h:Run k J A)(Y:12<=J):EqA (A 12):=λc d hc hd hi hl=>by
 obtain⟨e1,X,Q,U⟩:=h.same 12 Y;obtain⟨N0,m0,V⟩:=h.r 0 dU;have Z:∀d,rX (A 12) c d=rX (A 0) c d:=λd=>by unfold rX;rw[Q]
 have hx:rX (A 12) c d<(A 0).n:=by rw[Z];exact(V.s.env.i.qw.en c d (by rw[<-X];exact hc) hd).1
 funext y
 obtain⟨v,hv⟩:=h.equal Y hx y;rw[hv _ ⟨0,Way.here _⟩];rw[hv (rX (A 12) c (1-d)) (pM.adj ⟨c,d,by rw[<-X];exact hc,hd,by rw[<-U];exact hi,(Z d).symm,(Z (1-d)).symm,hl⟩)]
theorem afe(i:Nat)(s:List UInt8)(h:(il s).2.2.2=0->(r.P i).pe.both=true->r.K (il s).1=μ ((il s).2.1,(il s).2.2.1))(j:Nat)(y:Int)(Z:r.O j y=ν):(jd r i s).O j y=ν:=by
 unfold jd;simp only;split
 ·exact Z
 ·rename_i g
  have V:(il s).2.2.2=0:=dU;have hb:(r.P i).pe.both=true:=by
   cases hb:(r.P i).pe.both
   ·exact absurd (.inr hb) g
   ·rfl
  have U:=h V hb;have Y:newF r.K (il s).1 (il s).2.1 (il s).2.2.1=0:=by rw[nH U];exact nG _ _
  rw[Y];rw[ae gO];have X:oq r.K r.O i (il s).1 (il s).2.1 (il s).2.2.1 j y=ν:=by
   unfold oq;rw[Y,ae dX,ae dX];split
   ·rename_i e
    show(if y=(il s).1 then ν else r.O i y)=ν;split
    ·rfl
    ·rw[<-e];exact Z
   ·exact Z
  split
  ·exact X
  ·exact X
theorem XF(Z:IE r)(i:Nat)(s:List UInt8)(V:(il s).2.2.2=0)(hb:(r.P i).pe.both=true)(X:(r.P i).L.st=9)(M:r.K (il s).1=μ ((il s).2.1,(il s).2.2.1)):je ((jD r i (83::s)).P i)=[65::qC (il s).1 (il s).2.1 (il s).2.2.1] :=by
 have H:jD r i (83::s)=jd r i s:=by
  show r.take i 83 s=_;rw[lg,tR i s dX,ae (by rw[X];simp)];unfold lO;rw[ae dX,ag rfl]
 rw[H];have U:newF r.K (il s).1 (il s).2.1 (il s).2.2.1=0:=by rw[nH M];exact nG _ _
 unfold jd;simp only;rw[ae (by rw[hb];simp;exact V),U,ae gO,ag dX,kx,ag rfl];have hv:oD (il s).1 (il s).2.1 (il s).2.2.1=0:=pv (by rw[<-V]);have hlen:=CC hv;obtain⟨z,Q⟩:∃z:iE,({r with K:=kY r.K (il s).1 (il s).2.1 (il s).2.2.1,O:=oq r.K r.O i (il s).1 (il s).2.1 (il s).2.2.1}:iE)=z:=⟨_,rfl⟩
 have hzP:z.P i=r.P i:=by rw[<-Q]
 have Y:=tQ (p:=r.P i) (Z.fr i) 65 (qC (il s).1 (il s).2.1 (il s).2.2.1);rw[ae (by rw[X];simp;omega),jj (Z i)]at Y;exact Y
def FE(a:AN):Prop:=∀c d,c<a.nc->d<2->a.iR c=true->rX a c d≠rX a c (1-d)->∀x∈a.F c d,∀s,(x=83::s \/x=65::s)->(il s).2.2.2=0->(a.R (rX a c d)).K (il s).1=μ ((il s).2.1,(il s).2.2.1)
theorem ED.paid(h:ED N k a m b)(h0:∀c d,c<a.nc->d<2->a.F c d=[])(h1:∀c d,c<a.nc->d<2->b.F c d=[])(LD:EqA a):(∀j,(b.R j).K=(a.R j).K)/\EqA b/\OwN b:=by
 obtain⟨B,hB⟩:=h.s.env.i.own;have G:∀c d,rX m c d=rX a c d:=λc d=>by unfold rX;rw[h.me.2.2.1]
 have abz:∀ {y:Int} {q:PS},oD y q.1 q.2=0->il (qC y q.1 q.2)=(y,q.1,q.2,0):=λhv=>nh _ _ _ hv
 let P:AN->Prop:=λz=>((∀j,(z.R j).K=(a.R j).K)/\FE z)/\∀c d,c<a.nc->d<2->a.iR c=true->rX a c d≠rX a c (1-d)->∀y,(z.R (rX a c d)).O (a.e c d).2 y=ν \/ ∃q:PS,(a.R (rX a c d)).K y=μ q/\(83::qC y q.1 q.2∈z.F c d \/65::qC y q.1 q.2∈z.F c (1-d))
 have hm:P m:=by
  refine⟨⟨λj=>(h.ko j).1,λc d hc hd hi hl x hx s hs Z=> ?_⟩,λc d hc hd hi hl y=> ?_⟩
  ·rw[h.me.2.1]at hc;rw[h.me.2.2.2]at hi;rw[G,G]at hl;obtain⟨l,f1,f2,_⟩:=h.mf c d hc hd;rw[f1,h0 c d hc hd,bF,f2 hi hl]at hx;rw[G,(h.ko _).1];have U:=hB.r _ (h.s.env.i.qw.en c d hc hd).1;rcases aQ.1 hx with g|g
   ·rw[g]at hs;rcases hs with e|e<;>exact absurd (aB e).1 dX
   ·obtain⟨q,q1,q2⟩:=aV.1 g;have Y:=U.1.tie _ _ _ (wK q1);have hv:=U.1.val _ _ Y;have q2:x∈Cz (q.1,q.2):=q2;rw[Iv hv]at q2;have uQ:=ar.1 q2;have ZE:s=qC q.1 q.2.1 q.2.2:=by
     rw[uQ]at hs;rcases hs with e|e
     ·exact(aB e).2.symm
     ·exact absurd (aB e).1 dX
    rw[ZE,abz hv];exact Y
  ·rw[(h.ko _).2];cases hO:(a.R (rX a c d)).O (a.e c d).2 y with
   |none=>exact .inl rfl
   |some q=>
    right;have U:=hB.r _ (h.s.env.i.qw.en c d hc hd).1;have Y:=U.1.tie _ _ _ hO;have hv:=U.1.val _ _ Y;have hy:=U.2.1.Pr y (by rw[Y];rfl);obtain⟨l,f1,f2,_⟩:=h.mf c d hc hd;refine⟨q,Y,.inl ?_⟩;rw[f1,f2 hi hl];refine av.2 (.inr (aQ.2 (.inr (aV.2 ⟨(y,q),KM hy hO,?_⟩))));rw[Iv hv];simp
 obtain⟨_,⟨⟨g1,_⟩,g3⟩,e1,e2,e3,e4⟩:=h.keep P hm λz c d x l Z M hT hc hd hF hP=>by
  obtain⟨⟨p1,p2⟩,p3⟩:=hP;have X:∀c d,rX z c d=rX a c d:=λc d=>by unfold rX;rw[M.2.2.1]
  obtain⟨_,k1,k2,k3⟩:=Z.pop h.l h.k1 hT hc hd hF;obtain⟨D,hD⟩:=Z.env.i.own;have Qd:=Z.env.i.nrm;have Vy:x∈z.F c d:=by rw[hF];simp
  have aff:z.iR c=true->rX z c d≠rX z c (1-d)->(z.R (rX z c d)).K=(z.R (rX z c (1-d))).K:=λhi hl=>by
   rw[p1,p1,X,X];exact LD c d (by rw[<-M.2.1];exact hc) hd (by rw[<-M.2.2.2];exact hi) (by rw[<-X,<-X];exact hl)
  have Y:∀j,((z.pop c d x l).R j).K=(z.R j).K:=λj=>by
   funext y
   rcases Z.news h.l h.k1 hT hc hd hF j y with g|⟨g1,g2,g3,u,⟨v,v1,v2⟩,g5,_⟩
   ·exact g
   ·rw[aff g2 g3,<-g1]at v1;exact absurd g5 (Iw v1 v2)
  have Ix:∀c' d',c'<z.nc->d'<2->∃em,(z.pop c d x l).F c' d'=(if c'=c/\d'=d then l else z.F c' d')++em:=(Z.env.pop h.l h.k1 hc hd hF).2.2;have kf:∀s,x=83::s->(il s).2.2.2=0->((z.R (rX z c (1-d))).P (z.e c (1-d)).2).pe.both=true->(z.iR c=true/\rX z c d≠rX z c (1-d))/\(z.R (rX z c (1-d))).K (il s).1=μ ((il s).2.1,(il s).2.2.1):=λs hs mL hb=>by
   obtain⟨i1,i2⟩:=Z.UX hc (show 1-d<2 by omega) hb;rw[show 1-(1-d)=d by omega]at i2;refine⟨⟨i1,λw=>i2 w.symm⟩,?_⟩;rw[<-aff i1 λw=>i2 w.symm];exact p2 c d hc hd i1 (λw=>i2 w.symm) x Vy s (.inl hs) mL
  have hO:∀j p y,(z.R j).O p y=ν->((z.pop c d x l).R j).O p y=ν:=λj p y Q=>by
   by_cases e:j=rX z c (1-d)
   ·rw[e]at Q⊢;rw[k3];cases x with
    |nil=>exact Q
    |cons u s=>
     by_cases h83:u=83
     ·subst h83;exact afe (z.e c (1-d)).2 s (λa1 a2=>(kf s rfl a1 a2).2) p y Q
     ·by_cases h65:u=65
      ·subst h65;show(kd (z.R (rX z c (1-d))) (z.e c (1-d)).2 s).O p y=ν;unfold kd;simp only;split
       ·show(if _ then xN _ _ else _) y=ν;split
        ·rename_i g
         show(if y=_ then ν else _)=ν;split
         ·rfl
         ·rw[<-g.1];exact Q
        ·exact Q
       ·exact Q
      ·rw[GD _ _ s h83 h65];exact Q
   ·rw[(k1 j e).2];exact Q
  refine⟨⟨λj=>(Y j).trans (p1 j),λc' d' jN V H Vz w hw s hs mL=> ?_⟩,λc' d' jN V H Vz y=> ?_⟩
  ·
   have QS:c'<z.nc:=jN;have afg:rX z c' d'≠rX z c' (1-d'):=Vz;show((z.pop c d x l).R (rX z c' d')).K _=_;rw[Y];have Bz:∀v,v∈(z.kZ c d l).F c' d'->v∈z.F c' d':=λv hv=>by
    rw[rU]at hv;split at hv
    ·rename_i e;rw[e.1,e.2,hF];simp[hv]
    ·exact hv
   obtain⟨m1,_⟩:=pK (Qd.emp (z.e c (1-d)).1) (z.e c (1-d)).2 x;unfold AN.pop at hw;rw[uR]at hw;split at hw
   ·rename_i afh
    rcases av.1 hw with u|u
    ·exact p2 c' d' QS V H afg w (Bz w u) s hs mL
    ·cases m1 ((z.kZ c d l).e c' d').2 with
     |none h=>rw[h]at u;simp at u
     |link s' _ _ _ h=>rw[h]at u;obtain⟨v,hv⟩:=qV u;rw[hv]at hs;rcases hs with e|e<;>exact absurd (aB e).1 dX
     |H9 u1 u2 s' _ _ _ _ h=>rw[h]at u;rw[ar.1 u]at hs;rcases hs with e|e<;>exact absurd (aB e).1 dX
     |heard s' uQ hp' _ hz' qU _ _ h=>
      rw[h]at u;have Z5:=ar.1 u;have hv:oD (il s').1 (il s').2.1 (il s').2.2.1=0:=pv (by rw[<-hz']);have Ri:s=qC (il s').1 (il s').2.1 (il s').2.2.1:=by
       rw[Z5]at hs;rcases hs with e|e
       ·exact absurd (aB e).1 dX
       ·exact(aB e).2.symm
      rw[Ri,nh _ _ _ hv];have zc:=Z.env.i.qw.ds c' d' c (1-d) QS V hc dU (aR afh.2 hp');rw[zc.1,zc.2];exact(kf s' uQ hz' qU).2
   ·exact p2 c' d' QS V H afg w (Bz w hw) s hs mL
  ·
   rcases p3 c' d' jN V H Vz y with g|⟨q,q1,q2⟩
   ·exact .inl (hO _ _ _ g)
   ·have QS:c'<z.nc:=by rw[M.2.1];exact jN
    have U:=hB.r _ (h.s.env.i.qw.en c' d' jN V).1;have hv:=U.1.val y q q1;have Yy:(z.R (rX z c' d')).K y=μ q:=by rw[p1,X];exact q1
    have hzZ:(z.R (rX z c' (1-d'))).K y=μ q:=by rw[p1,X,<-LD c' d' jN V H Vz];exact q1
    rcases q2 with q2|q2
    ·by_cases e:c'=c/\d'=d
     ·obtain⟨z1,z2⟩:=e;subst z1 z2;rw[hF]at q2;rcases aQ.1 q2 with v|v
      ·right;refine⟨q,q1,.inr ?_⟩;have oE:=Z.pb c' (1-d') hc dU (by rw[M.2.2.2];exact H) (by rw[X,X,show 1-(1-d')=d' by omega];exact λw=>Vz w.symm);have h9:((z.R (z.e c' (1-d')).1).P (z.e c' (1-d')).2).L.st=9:=Z.env.o c' (1-d') hc dU (by rw[M.2.2.2];exact H);have hp:=nh _ _ _ hv;have TF:=XF (Qd.emp (z.e c' (1-d')).1) (z.e c' (1-d')).2 (qC y q.1 q.2) (by rw[hp]) oE.2.1 h9 (by rw[hp];exact hzZ);rw[hp]at TF;rw[<-v];unfold AN.pop;rw[uR,yb,ag ⟨⟨hc,dU⟩,rfl⟩,TF];simp
      ·right;obtain⟨em,f⟩:=Ix c' d' hc hd;rw[ag ⟨rfl,rfl⟩]at f;exact⟨q,q1,.inl (by rw[f];simp[v])⟩
     ·right;obtain⟨em,f⟩:=Ix c' d' QS V;rw[ae e]at f;exact⟨q,q1,.inl (by rw[f];simp[q2])⟩
    ·by_cases e:c'=c/\1-d'=d
     ·obtain⟨z1,z2⟩:=e;subst z1;have Fw:1-d=d':=dU;rw[z2,hF]at q2;rcases aQ.1 q2 with v|v
      ·left;have hX:rX a c' d'=rX z c' (1-d):=by rw[X,Fw]
       rw[hX,k3,<-v];show(kd (z.R (rX z c' (1-d))) (z.e c' (1-d)).2 (qC y q.1 q.2)).O (a.e c' d').2 y=ν;have hp:=nh _ _ _ hv;unfold kd;simp only;rw[hp];simp only;rw[ag trivial];have hK0:newF (z.R (rX z c' (1-d))).K y q.1 q.2=0:=by rw[Fw,nH Yy];exact nG _ _
       show(if(a.e c' d').2=(z.e c' (1-d)).2/\0<=newF (z.R (rX z c' (1-d))).K y q.1 q.2 then xN ((z.R (rX z c' (1-d))).O (z.e c' (1-d)).2) y else _) y=ν;rw[ag ⟨by rw[M.2.2.1,Fw],by rw[hK0];exact Int.le_refl _⟩];show(if y=y then ν else _)=ν;rw[ag rfl]
      ·right;obtain⟨em,f⟩:=Ix c' (1-d') hc dU;rw[ag ⟨rfl,z2⟩]at f;exact⟨q,q1,.inr (by rw[f];simp[v])⟩
     ·right;obtain⟨em,f⟩:=Ix c' (1-d') QS dU;rw[ae e]at f;exact⟨q,q1,.inr (by rw[f];simp[q2])⟩
 have Db:∀c d,rX b c d=rX a c d:=λc d=>by unfold rX;rw[e3]
 refine⟨g1,λc d hc hd hi hl=> ?_,λc d hc hd hi hl y=> ?_⟩
 ·rw[g1,g1,Db,Db];exact LD c d (by rw[<-e2];exact hc) hd (by rw[<-e4];exact hi) (by rw[<-Db,<-Db];exact hl)
 ·have:=g3 c d (by rw[<-e2];exact hc) hd (by rw[<-e4];exact hi) (by rw[<-Db,<-Db];exact hl) y;rw[Db,e3];rcases this with g|⟨q,_,g|g⟩
  ·exact g
  ·rw[h1 c d (by rw[<-e2];exact hc) hd]at g;simp at g
  ·rw[h1 c (1-d) (by rw[<-e2];exact hc) dU]at g;simp at g
