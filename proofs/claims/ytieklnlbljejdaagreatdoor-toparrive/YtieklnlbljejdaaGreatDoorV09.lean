import Derived.Test.YtieklnlbljejdaaGreatDoorV08
open Go.Value renaming int → ι, slice → σ, pointer → π, tuple → τ, nilIface → η, ownBlock → fD
open Go.IntKind renaming i64 → κ
open Go.Ending renaming returned → ρ
open Go.Obj renaming cells → γ
open Option renaming none → ν, some → μ, map_some → jC
open List renaming range → gw, sum_cons → jB, countP_cons → jM, mem_singleton → jz
open Go renaming World → fA, Calls → gb
open Go.Proofs.Tryz renaming prog → gg
open Go.RowKit renaming intOf → gj
open Bool renaming false_eq_true → iW
set_option maxRecDepth 100000
set_option maxHeartbeats 16000000
set_option linter.defProp false
namespace Go.Proofs.YtieklnlbljejdaaGreatDoor
open Go.RowKit St
namespace Rt
variable {C G:l8} {D J N S b c d fr i k m n s tg x z:Nat} {Es:Nat->List kS} {K:Int->Option PS} {L:List qM} {T:List (Nat×Nat)} {W w wr:World} {es:List kS} {f:Nat->Option kS} {jU:Nat->Bool} {l:List mK} {o q:PS} {out:List SV} {r:jO} {t:wK} {tx:List UInt8} {v:Int} {y y3:jQ} {yes:Bool}
def rX(a:AN)(c d:Nat):Nat:=(a.e c d).1
structure vX(N k:Nat)(T:List (Nat×Nat))(a:AN):Prop where
 env:Env N k a
 pb:∀c d,c<a.nc->d<2->a.jU c=true->rX a c d≠rX a c (1-d)->(nV a c d).who=(rX a c (1-d):Int)+1/\(nV a c d).both=true/\(if a.e c d∈T then 3 else 4)<=(nV a c d).left
 pn:∀c d,c<a.nc->d<2->(a.jU c=false \/rX a c d=rX a c (1-d))->(nV a c d).who=0/\(nV a c d).both=false
 hh:∀c d,c<a.nc->d<2->a.jU c=true->rX a c d≠rX a c (1-d)->∀x∈a.F c d,isH x->x=Mp (rX a c d+1) (rX a c (1-d)+1)
 id:∀i p,i<a.n->p<3->(∀c d,c<a.nc->d<2->a.e c d≠(i,p))->((a.R i).P p).L.st=1/\((a.R i).P p).pe.who=0/\((a.R i).P p).pe.both=false
def Lq {q:mX} (Z:q.who=(r.P i).pe.who)(Y:q.both=(r.P i).pe.both):(r.meet i q).K=r.K/\(r.meet i q).O=r.O:=by
 unfold jO.meet;simp only;rw[ag ⟨Z,Y⟩];exact⟨rfl,rfl⟩
def DZ {L:LS} (h:L.st=1 \/L.st=9):j8 L=(L,[]):=by
 have Z:(decide (4<=L.st)&&decide (L.st<=8))=false:=by obtain g|g:=h<;>rw[g] <;>rfl
 unfold j8 lS nD;rw[ag Z,ag Z,af (show¬L.st=3 by omega)]
def YV {p:Nat} (h:((r.P p).L.st=9/\((jP (r.P p).pe).who=(r.P p).pe.who/\(jP (r.P p).pe).both=(r.P p).pe.both)) \/((r.P p).L.st=1/\(r.P p).pe.who=0/\(r.P p).pe.both=false)):(r.jZ p).K=r.K/\(r.jZ p).O=r.O/\(((j6 r p).meet p (jP (r.P p).pe)).O=r.O \/(r.P p).L.st=1):=by
 have Q:j8 (r.P p).L=((r.P p).L,[]):=DZ (by obtain g|g:=h;exact .inr g.1;exact .inl g.1);have M:((j6 r p).P p).L.st=(r.P p).L.st:=by unfold j6;rw[mD,ag rfl,uT,Q]
 have Z:=(nH r p p).2;have hK:(j6 r p).K=r.K/\(j6 r p).O=r.O:=⟨rfl,rfl⟩
 rw[mO,M,Z];obtain⟨U,Y,X⟩|⟨Y,X,V⟩:=h;{rw[af (by rw[U];simp)];obtain⟨H,E,_⟩:=rD ((j6 r p).meet p (jP (r.P p).pe)) p;obtain⟨m1,m2⟩:=Lq (r:=j6 r p) (i:=p) (q:=jP (r.P p).pe) (by rw[Z];exact Y) (by rw[Z];exact X);rw[H,E,m1,m2];exact⟨rfl,rfl,.inl rfl⟩};rw[ag (by rw[Y];decide)];obtain⟨m1,m2⟩:=Lq (r:=j6 r p) (i:=p) (q:=nobody) (by rw[Z,X];rfl) (by rw[Z,V];rfl);rw[m1,m2];exact⟨rfl,rfl,.inr Y⟩
def vY {q:mX} (Z:q.who=0)(Y:q.both=false):(jP q).who=0/\(jP q).both=false:=by
 unfold jP;split;{exact⟨rfl,rfl⟩};exact⟨Z,Y⟩
def tG {q:mX} (h:2<=q.left):(jP q).who=q.who/\(jP q).both=q.both/\(jP q).left=q.left-1:=by
 unfold jP;rw[af fC];exact⟨rfl,rfl,rfl⟩
def vX.tick {N k:Nat} {T:List (Nat×Nat)} {a:AN} (h:vX N k T a)(hN:N<1000000) {i p:Nat} (hi:i<a.n)(hp:p<3)(hT:(i,p)∉T):vX (N+8) k (T++ [(i,p)]) (a.op i ((a.R i).jZ p))/\(∀j,((a.op i ((a.R i).jZ p)).R j).K=(a.R j).K/\((a.op i ((a.R i).jZ p)).R j).O=(a.R j).O)/\∀c d,c<a.nc->d<2->∃l,(a.op i ((a.R i).jZ p)).F c d=a.F c d++l/\(a.e c d≠(i,p)->l=[])/\(a.e c d=(i,p)->(a.jU c=true->rX a c d≠rX a c (1-d)->l=Mp (rX a c d+1) (rX a c (1-d)+1)::(nu ((a.R i).O p)).flatMap ET)/\((a.jU c=false->l=[])/\(a.jU c=true->rX a c d=rX a c (1-d)->l=[Mp (rX a c d+1) 0]))):=by
 obtain⟨e1,l2⟩:=h.env.tick hN hi hp;obtain⟨X,hX⟩:=h.env.i.lk;obtain⟨B,hB⟩:=h.env.i.own;have hds:=h.env.i.rN.ds
 have ajC:(∃c d,c<a.nc/\d<2/\a.e c d=(i,p)/\((a.R i).P p).L=lr a c d/\((a.R i).P p).pe=nV a c d) \/(∀c d,c<a.nc->d<2->a.e c d≠(i,p)):=by
  by_cases hex:∃c d,c<a.nc/\d<2/\a.e c d=(i,p)
  {obtain⟨c,d,hc,hd,U⟩:=hex;exact .inl ⟨c,d,hc,hd,U,by unfold lr;rw[U],by unfold nV;rw[U]⟩};exact .inr λc d hc hd e=>hex ⟨c,d,hc,hd,e⟩
 have JV:(((a.R i).P p).L.st=9/\((jP ((a.R i).P p).pe).who=((a.R i).P p).pe.who/\(jP ((a.R i).P p).pe).both=((a.R i).P p).pe.both)) \/(((a.R i).P p).L.st=1/\((a.R i).P p).pe.who=0/\((a.R i).P p).pe.both=false):=by
  obtain⟨c,d,hc,hd,U,g1,g2⟩|mT:=ajC;{cases Z:a.jU c;{have Y:=h.pn c d hc hd (.inl Z);right;rw[g1,g2];exact⟨(hX.dn c hc Z d hd).2.1,Y⟩};left;rw[g1,g2];refine⟨h.env.o c d hc hd Z,?_⟩;by_cases hl:rX a c d=rX a c (1-d);{have Y:=h.pn c d hc hd (.inr hl);have:=vY Y.1 Y.2;exact⟨by rw[this.1,Y.1],by rw[this.2,Y.2]⟩};have V:=h.pb c d hc hd Z hl;rw[U,af hT]at V;obtain⟨q1,q2,_⟩:=tG (q:=nV a c d) fC;exact⟨q1,q2⟩};exact .inr (h.id i p hi hp mT)
 obtain⟨k1,k2,k3⟩:=YV JV;have E:j8 ((a.R i).P p).L=(((a.R i).P p).L,[]):=DZ (by obtain g|g:=JV;exact .inr g.1;exact .inl g.1)
 have H:∀c d,nV (a.op i ((a.R i).jZ p)) c d=if a.e c d=(i,p)then(if((a.R i).P p).L.st=9 then jP (nV a c d)else nobody)else nV a c d:=λc d=>by
  rw[zR];by_cases e:(a.e c d).1=i;{rw[ag e,BX,E];by_cases Q:(a.e c d).2=p;{rw[ag Q,ag (bq e Q)];unfold nV;rw[e,Q]};rw[af Q,af (λz=>Q (by rw[z]))];unfold nV;rw[e]};rw[af e,af (λz=>e (by rw[z]))]
 have hKO:∀j,((a.op i ((a.R i).jZ p)).R j).K=(a.R j).K/\((a.op i ((a.R i).jZ p)).R j).O=(a.R j).O:=λj=>by
  rw[C5];by_cases e:j=i;{rw[ag e,e];exact⟨k1,k2⟩};rw[af e];exact⟨rfl,rfl⟩
 have hF:∀c d,c<a.nc->d<2->∃l,(a.op i ((a.R i).jZ p)).F c d=a.F c d++l/\(a.e c d≠(i,p)->l=[])/\(a.e c d=(i,p)->(a.jU c=true->rX a c d≠rX a c (1-d)->l=Mp (rX a c d+1) (rX a c (1-d)+1)::(nu ((a.R i).O p)).flatMap ET)/\((a.jU c=false->l=[])/\(a.jU c=true->rX a c d=rX a c (1-d)->l=[Mp (rX a c d+1) 0]))):=λc d hc hd=>by
  obtain⟨_,f2⟩:=l2 c d hc hd;refine⟨_,f2,λkf=>af kf,λU=> ?_⟩;rw[ag U];have pX:((a.R i).P p).pe=nV a c d:=by unfold nV;rw[U]
  have qo:(a.R i).id=(rX a c d:Int)+1:=by
   unfold rX;rw[U];exact(hB.r i hi).2.2.2.1
  have qV:((a.R i).P p).L=lr a c d:=by unfold lr;rw[U]
  refine⟨λZ hl=> ?_,λZ=> ?_,λZ hl=> ?_⟩;{have V:=h.pb c d hc hd Z hl;rw[U,af hT]at V;obtain⟨q1,q2,_⟩:=tG (q:=nV a c d) fC;have M:=h.env.o c d hc hd Z;unfold B8;rw[E,pX,ag (by rw[qV];exact M),q1,q2,V.2.1,ag rfl,V.1,qo];rw[pX]at k3;rw[k3.resolve_right (by rw[qV,M];decide)];rfl};{have:=(hX.dn c hc Z d hd).2.1;unfold B8;rw[E,af (by rw[qV,this];decide)]};have Y:=h.pn c d hc hd (.inr hl);have oe:=vY Y.1 Y.2;have M:=h.env.o c d hc hd Z;unfold B8;rw[E,pX,ag (by rw[qV];exact M),oe.1,oe.2,qo];rfl
 refine⟨⟨e1,λc d hc hd Z hl=> ?_,λc d hc hd B2=> ?_,λc d hc hd Z hl x hx hh=> ?_,λj q hj hq mT=> ?_⟩,hKO,hF⟩
 ·have V:=h.pb c d hc hd Z hl;rw[H];show _=(rX a c (1-d):Int)+1/\_/\(if a.e c d∈T++ [(i,p)]then(3:Int)else 4)<=_;by_cases e:a.e c d=(i,p)
  ·rw[e,af hT]at V;obtain⟨q1,q2,q3⟩:=tG (q:=nV a c d) fC
   have M:((a.R i).P p).L.st=9:=by
    have:=h.env.o c d hc hd Z;unfold lr at this;rw[e]at this;exact this
   rw[ag e,ag M,q1,q2,q3,e,ag gZ];exact⟨V.1,V.2.1,fC⟩
  rw[af e];refine⟨V.1,V.2.1,?_⟩;have uA:=V.2.2;by_cases hm:a.e c d∈T;{rw[ag hm]at uA;rw[ag (by simp[hm])];exact uA};rw[af hm]at uA;rw[af (by simp[hm,e])];exact uA
 {have Y:=h.pn c d hc hd B2;rw[H];split;{split;{exact vY Y.1 Y.2};exact⟨rfl,rfl⟩};exact Y}
 ·obtain⟨l,f1,f2,f3⟩:=hF c d hc hd;rw[f1]at hx;obtain g|g:=aA.1 hx;{exact h.hh c d hc hd Z hl x g hh};by_cases e:a.e c d=(i,p)
  {rw[(f3 e).1 Z hl]at g;obtain u|u:=aS.1 g;{exact u};obtain⟨q,_,A⟩:=bh.1 u;obtain⟨s,rfl⟩:=hh;unfold ET at A;split at A;{exact absurd (aH (az.1 A)).1 fF};simp at A};rw[f2 e]at g;simp at g
 obtain⟨z1,z2,z3⟩:=h.id j q hj hq mT;rw[C5];by_cases e:j=i;{rw[ag e];show(((a.R i).jZ p).P q).L.st=1/\(((a.R i).jZ p).P q).pe.who=0/\(((a.R i).jZ p).P q).pe.both=false;rw[C4,BX,E];subst e;by_cases Q:q=p;{subst Q;rw[ag rfl,ag rfl,af (by rw[z1];decide)];exact⟨z1,rfl,rfl⟩};rw[af Q,af Q];exact⟨z1,z2,z3⟩};rw[af e];exact⟨z1,z2,z3⟩
def vX.tks {a b:AN} (X:zg T a b)(h:vX N k [] a)(hT:T.Nodup)(hl:N+8*T.length<1000000):vX (N+8*T.length) k T b/\(∀j,(b.R j).K=(a.R j).K/\(b.R j).O=(a.R j).O)/\∀c d,c<a.nc->d<2->∃l,b.F c d=a.F c d++l/\(a.e c d∉T->l=[])/\(a.e c d∈T->(a.jU c=true->rX a c d≠rX a c (1-d)->l=Mp (rX a c d+1) (rX a c (1-d)+1)::(nu ((a.R (a.e c d).1).O (a.e c d).2)).flatMap ET)/\((a.jU c=false->l=[])/\(a.jU c=true->rX a c d=rX a c (1-d)->l=[Mp (rX a c d+1) 0]))):=by
 induction X with
 |nil=>exact⟨h,λ_=>⟨rfl,rfl⟩,λc d _ _=>⟨[],gZ,λ_=>rfl,λh=>by simp at h⟩⟩
 | @snoc T a b i p X hi hp ih=>
   rw[aG]at hl⊢;have Kg:[(i,p)].length=1:=rfl;have E:=bS.1 hT;have Y:(i,p)∉T:=λz=>E.2.2 _ z _ (az.2 rfl) rfl;obtain⟨s1,k1,f1⟩:=ih h E.1 fC;have U:=X.path.same;have mF:=X.len;obtain⟨s2,k2,f2⟩:=s1.tick fC hi hp Y;have M:∀c d,rX b c d=rX a c d:=λc d=>by unfold rX;rw[U.2.2.1]
   refine⟨by rw[show N+8*(T.length+ [(i,p)].length)=N+8*T.length+8 by omega];exact s2,λj=>⟨(k2 j).1.trans (k1 j).1,(k2 j).2.trans (k1 j).2⟩,λc d hc hd=> ?_⟩;obtain⟨l1,V,A,u⟩:=f1 c d hc hd;obtain⟨l2,b1,b2,b3⟩:=f2 c d (by rw[U.2.1];exact hc) hd;rw[U.2.2.1]at b2 b3;rw[M,M,mF]at b3;by_cases Z:a.e c d∈T;{have kf:a.e c d≠(i,p):=λz=>Y (z▸Z);have Q:=b2 kf;rw[Q,aF]at b1;exact⟨l1,b1.trans V,λz=>absurd (aA.2 (.inl Z)) z,λ_=>u Z⟩}
   ·have Q:=A Z;rw[Q,aF]at V;refine⟨l2,by rw[b1,V],λz=>b2 λw=>z (aA.2 (.inr (az.2 w))),λz=> ?_⟩
    ·have H:a.e c d=(i,p):=by
      obtain w|w:=aA.1 z;{exact absurd w Z};{exact az.1 w}
     have:=b3 H;rw[(k1 i).2]at this;rw[H];exact this
def knM(r:jO)(i:Nat):mK->Int->Option PS
 |83::s=>(kj r i s).K
 |_=>r.K
def owM(r:jO)(i:Nat):mK->Nat->Int->Option PS
 |83::s=>(kj r i s).O
 |65::s=>(lV r i s).O
 |_=>r.O
def J1(r:jO)(i:Nat) {c:UInt8} (s:List UInt8)(h:c≠83):knM r i (c::s)=r.K:=by
 unfold knM;split;{rename_i e;exact absurd (aH e).1 h};rfl
def J2(r:jO)(i:Nat) {c:UInt8} (s:List UInt8)(h:c≠83)(g:c≠65):owM r i (c::s)=r.O:=by
 unfold owM;split;{rename_i e;exact absurd (aH e).1 h};{rename_i e;exact absurd (aH e).1 g};rfl
def abX {x:mK} (hx:tf x)(Q:(r.P i).L.st=9)(M:∀s,x=72::s->(mr s).2.2=0->(kg r.id (mr s).1 (mr s).2.1).who=(r.P i).pe.who/\(kg r.id (mr s).1 (mr s).2.1).both=(r.P i).pe.both):(kP r i x).K=knM r i x/\(kP r i x).O=owM r i x:=by
 cases x with
 |nil=>exact⟨rfl,rfl⟩
 |cons c s=>
  have hc:c≠76:=hx c s rfl;have e:kP r i (c::s)=nL r i c s:=by
   show r.take i c s=_;rw[mZ,uW i s hc,af (by rw[Q];simp)]
  rw[e];unfold nL;by_cases X:c=72;{rw[ag X];subst X;by_cases V:(mr s).2.2=0;{rw[ag V];obtain⟨g1,U⟩:=M s rfl V;obtain⟨m1,m2⟩:=Lq (r:=r) (i:=i) g1 U;exact⟨m1,m2⟩};{rw[af V];exact⟨rfl,rfl⟩}};{rw[af X];by_cases Z:c=83;{rw[ag Z];subst Z;exact⟨rfl,rfl⟩};{rw[af Z];rw[J1 r i s Z];by_cases Y:c=65;{rw[ag Y];subst Y;refine⟨?_,rfl⟩;unfold lV;simp only;split<;>rfl};{rw[af Y,J2 r i s Z Y];split;{unfold sT;split;{exact⟨(nR r _).1,(nR r _).2.1⟩};{exact⟨rfl,rfl⟩}};{exact⟨rfl,rfl⟩}}}}
def vX.pop {N k:Nat} {T:List (Nat×Nat)} {a:AN} (h:vX N k T a)(hN:N<1000000)(hk:k<=126)(hT:∀c d,c<a.nc->d<2->a.e c d∈T) {c d:Nat} {x:mK} {l:List mK} (hc:c<a.nc)(hd:d<2)(hF:a.F c d=x::l):vX N k T (a.pop c d x l)/\(∀j,j≠rX a c (1-d)->((a.pop c d x l).R j).K=(a.R j).K/\((a.pop c d x l).R j).O=(a.R j).O)/\
 ((a.pop c d x l).R (rX a c (1-d))).K=knM (a.R (rX a c (1-d))) (a.e c (1-d)).2 x/\
 ((a.pop c d x l).R (rX a c (1-d))).O=owM (a.R (rX a c (1-d))) (a.e c (1-d)).2 x:=by
 obtain⟨X,hX⟩:=h.env.i.lk;obtain⟨B,hB⟩:=h.env.i.own;have A:x∈a.F c d:=by rw[hF];simp
 have mF:=hX.AF hc hd A;have WO:=h.env.nl c d hc hd x A;have B6:=h.env.i.rN.en c (1-d) hc fC;have hn6:=h.env.i.rN.n6;have qo:=(hB.r _ B6.1).2.2.2.1;have h9:((a.R (rX a c (1-d))).P (a.e c (1-d)).2).L.st=9:=h.env.o c (1-d) hc fC mF;have aoC:((a.R (rX a c (1-d))).P (a.e c (1-d)).2).pe=nV a c (1-d):=rfl;have U:1-(1-d)=d:=fC;have M:∀s,x=72::s->(mr s).2.2=0->(kg ((rX a c (1-d):Int)+1) (mr s).1 (mr s).2.1).who=(nV a c (1-d)).who/\(kg ((rX a c (1-d):Int)+1) (mr s).1 (mr s).2.1).both=(nV a c (1-d)).both/\(rX a c d≠rX a c (1-d)->(kg ((rX a c (1-d):Int)+1) (mr s).1 (mr s).2.1).left=4):=λs hs Z=>by
  have Cj:=((h.env.i.fl.kn c d hc hd x A).1).2 s hs Z;have aoD:(a.R (a.e c d).1).id=(rX a c d:Int)+1:=(hB.r _ (h.env.i.rN.en c d hc hd).1).2.2.2.1;by_cases hl:rX a c d=rX a c (1-d);{have oe:=h.pn c (1-d) hc fC (.inr (by rw[U];exact hl.symm));unfold kg;rw[ag (by rw[Cj,aoD,hl])];exact⟨oe.1.symm,oe.2.symm,λz=>absurd hl z⟩}
  ·have H:=h.pb c (1-d) hc fC mF (by rw[U];exact λz=>hl z.symm);rw[U]at H;have Uq:=h.hh c d hc hd mF hl x A ⟨s,hs⟩;have Vx:s=[kI ((rX a c d:Int)+1),kI ((rX a c (1-d):Int)+1)] :=by
    rw[hs]at Uq;exact(aH Uq).2
   have hr:mr s=((rX a c d:Int)+1,(rX a c (1-d):Int)+1,0):=by
    rw[Vx];refine Lp ?_ ?_;{have:=h.env.i.rN.en c d hc hd;unfold rX;omega};{unfold rX;omega}
   unfold kg;rw[hr];simp only;rw[af fC];refine⟨H.1.symm,?_,λ_=>rfl⟩;rw[H.2.1];simp
 have hK:=abX (r:=a.R (rX a c (1-d))) (i:=(a.e c (1-d)).2) WO h9 λs hs Z=>by
  rw[aoC,show(a.R (rX a c (1-d))).id=(rX a c (1-d):Int)+1 from qo];exact⟨(M s hs Z).1,(M s hs Z).2.1⟩
 obtain⟨z1,z2,z3⟩:=h.env.pop hN hk hc hd hF;have pX:=λc' d' Y V=>YU h.env hc hd hF c' d' Y V;have hR:∀j,(a.pop c d x l).R j=if j=rX a c (1-d)then(kP (a.R (rX a c (1-d))) (a.e c (1-d)).2 x).core else a.R j:=λj=>rfl
 have E:∀c' d',c'<a.nc->d'<2->(nV (a.pop c d x l) c' d').who=(nV a c' d').who/\(nV (a.pop c d x l) c' d').both=(nV a c' d').both/\(a.jU c'=true->rX a c' d'≠rX a c' (1-d')->(nV a c' d').left<=(nV (a.pop c d x l) c' d').left \/(nV (a.pop c d x l) c' d').left=4):=λc' d' Y V=>by
  obtain⟨v1,v2⟩:=pX c' d' Y V;by_cases Q:c'=c/\d'=1-d/\isH x
  ·obtain⟨s,hs⟩:=Q.2.2;by_cases Z:(mr s).2.2=0;{rw[v1 ⟨Q.1,Q.2.1⟩ s hs Z,Q.1,Q.2.1];have:=M s hs Z;exact⟨this.1,this.2.1,λ_ hl=>.inr (this.2.2 (by rw[U]at hl;exact λz=>hl z.symm))⟩}
   ·
    have:nV (a.pop c d x l) c' d'=nV a c' d':=by
     unfold AN.pop;rw[zR,yE];split
     ·rename_i e
      rw[hs];show((jO.take _ _ 72 s).P _).pe=_;rw[EZ (r:=a.R (a.e c (1-d)).1) s fF h9,af (λw=>Z w.2.2)];unfold nV;rw[e]
     ·rfl
    rw[this];exact⟨rfl,rfl,λ_ _=>.inl (aZ _)⟩
  ·rw[v2 Q];exact⟨rfl,rfl,λ_ _=>.inl (aZ _)⟩
 refine⟨⟨z1,λc' d' Y V mR ZY=> ?_,λc' d' Y V B2=> ?_,λc' d' Y V mR ZY y hy hh=> ?_,λj q hj Q mT=> ?_⟩,λj hj=>by rw[hR,af hj];exact⟨rfl,rfl⟩,?_,?_⟩;{have H:=h.pb c' d' Y V mR ZY;obtain⟨g1,g2,g3⟩:=E c' d' Y V;rw[g1,g2];refine⟨H.1,H.2.1,?_⟩;show(if a.e c' d'∈T then(3:Int)else 4)<=_;have uA:=H.2.2;rw[ag (hT c' d' Y V)]at uA⊢;obtain g|g:=g3 mR ZY<;>omega};{obtain⟨g1,g2,_⟩:=E c' d' Y V;rw[g1,g2];exact h.pn c' d' Y V B2}
 ·
  obtain⟨m1,_⟩:=r8 (h.env.i.nrm.emp (a.e c (1-d)).1) (a.e c (1-d)).2 x;have DY:∀z,z∈(a.mN c d l).F c' d'->z∈a.F c' d':=λz Z=>by
   rw[td]at Z;split at Z;{rename_i e;rw[e.1,e.2,hF];simp[Z]};{exact Z}
  refine h.hh c' d' Y V mR ZY y ?_ hh;unfold AN.pop at hy;rw[uy]at hy;split at hy
  ·obtain u|u:=aA.1 hy;{exact DY _ u}
   ·exfalso;obtain⟨w,rfl⟩:=hh;cases m1 ((a.mN c d l).e c' d').2 with
    |none h=>rw[h]at u;simp at u
    |link s' _ _ _ h=>rw[h]at u;obtain⟨v,hv⟩:=tZ u;exact absurd (aH hv).1 fF
    |heard s' _ _ _ _ _ _ _ h=>rw[h]at u;exact absurd (aH (az.1 u)).1 fF
    |K5 k1 k2 s' _ _ _ _ h=>rw[h]at u;exact absurd (aH (az.1 u)).1 fF
  ·exact DY _ hy
 ·obtain⟨w1,w2,w3⟩:=h.id j q hj Q mT;rw[hR];by_cases e:j=rX a c (1-d)
  ·rw[ag e];have aoE:q≠(a.e c (1-d)).2:=λz=>mT c (1-d) hc fC (bq e.symm z.symm);subst e;show((kP _ _ x).P q).L.st=1/\((kP _ _ x).P q).pe.who=0/\((kP _ _ x).P q).pe.both=false;cases x with
   |nil=>exact⟨w1,w2,w3⟩
   |cons u s=>
    show((jO.take _ _ u s).P q).L.st=1/\((jO.take _ _ u s).P q).pe.who=0/\((jO.take _ _ u s).P q).pe.both=false;have hu:=WO u s rfl;rw[xi _ _ s hu,EZ s hu h9,af (λw=>aoE w.1)];exact⟨w1,w2,w3⟩
  ·rw[af e];exact⟨w1,w2,w3⟩
 {rw[hR,ag rfl];exact hK.1};{rw[hR,ag rfl];exact hK.2}
def ajG(r:jO)(i:Nat)(s:List UInt8)(y:Int):(kj r i s).K y=r.K y \/((ig s).2.2.2=0/\(r.P i).pe.both=true/\(ig s).1=y/\0<newF r.K y (ig s).2.1 (ig s).2.2.1/\(y=r.id \/(kj r i s).K y=μ ((ig s).2.1,(ig s).2.2.1))):=by
 unfold kj;simp only;split;{exact .inl rfl};rename_i h
 have Z:(ig s).2.2.2=0/\(r.P i).pe.both=true:=by
  refine⟨fC,?_⟩;cases U:(r.P i).pe.both;{exact absurd (.inr U) h};rfl
 split;{rename_i Y;by_cases e:y=r.id;{exact .inr ⟨Z.1,Z.2,by rw[e];exact Y.1,by rw[e,<-Y.1];exact Y.2,.inl e⟩};left;unfold jO.behind;split;{show(if y=r.id then _ else _)=_;rw[af e]};rfl}
 have X:∀K:Int->Option PS,K=np r.K (ig s).1 (ig s).2.1 (ig s).2.2.1->K y=r.K y \/((ig s).2.2.2=0/\(r.P i).pe.both=true/\(ig s).1=y/\0<newF r.K y (ig s).2.1 (ig s).2.2.1/\(y=r.id \/K y=μ ((ig s).2.1,(ig s).2.2.1))):=λK V=>by
  rw[V];unfold np;split;{rename_i g;by_cases e:y=(ig s).1;{right;refine⟨Z.1,Z.2,e.symm,by rw[e];exact g,.inr ?_⟩;show(if y=(ig s).1 then _ else _)=_;rw[ag e]};left;show(if y=(ig s).1 then _ else _)=_;rw[af e]};exact .inl rfl
 split;{exact X _ rfl};exact X _ rfl
def afS(M:nh r)(i:Nat)(s:List UInt8)(Q:(ig s).2.2.2=0)(U:(r.P i).pe.both=true)(hs:(ig s).2.1<1000000):zP (kj r i s).K (ig s).1 (ig s).2.1 (ig s).2.2.1:=by
 have X:=(zq M i s).1.k;unfold kj at X⊢;simp only at X⊢;rw[af (by rw[U];simp;exact Q)]at X⊢;by_cases Z:(ig s).1=r.id/\0<newF r.K (ig s).1 (ig s).2.1 (ig s).2.2.1
 ·rw[ag Z];unfold jO.behind;rw[ag hs];refine⟨((ig s).2.1+1,kH r),?_,?_⟩;{show(if(ig s).1=r.id then _ else _)=_;rw[ag Z.1]};unfold nI;have:nQ ((ig s).2.1+1) (ig s).2.1=1:=by unfold nQ;rw[af fC,ag fC]
  rw[ag (by rw[this];decide)];show 0<=nQ ((ig s).2.1+1) (ig s).2.1;rw[this];decide
 rw[af Z]
 have V:zP (np r.K (ig s).1 (ig s).2.1 (ig s).2.2.1) (ig s).1 (ig s).2.1 (ig s).2.2.1:=by
  unfold np;by_cases g:0<newF r.K (ig s).1 (ig s).2.1 (ig s).2.2.1;{rw[ag g];exact⟨_,by show(if(ig s).1=(ig s).1 then μ ((ig s).2.1,(ig s).2.2.1)else _)=_;rw[ag rfl],by rw[pR];exact aZ _⟩};rw[af g];cases Y:r.K (ig s).1 with|none=>unfold newF at g;rw[Y]at g;exact absurd (by decide:(0:Int)<1) g|some q=>rw[pS Y]at g;exact⟨q,Y,by rw[wm];omega⟩
 split;{exact V};exact V
def xL.keep(P:AN->Prop) {m b:AN} (h:xL m b)(hS:vX N k T m)(Q:N<1000000)(H:k<=126)(M:∀c d,c<m.nc->d<2->m.e c d∈T)(U:P m)(step:∀(a:AN) (c d:Nat) (x:mK) (l:List mK),vX N k T a->(a.n=m.n/\a.nc=m.nc/\a.e=m.e/\a.jU=m.jU)->c<a.nc->d<2->a.F c d=x::l->P a->P (a.pop c d x l)):vX N k T b/\P b/\(b.n=m.n/\b.nc=m.nc/\b.e=m.e/\b.jU=m.jU):=by
 induction h with|nil=>exact⟨hS,U,rfl,rfl,rfl,rfl⟩|snoc c d x l p hc hd hF ih=>obtain⟨s1,E,X,Z,Y,V⟩:=ih;refine⟨(s1.pop Q H (λc d hc hd=>by rw[Y];exact M c d (by rw[<-Z];exact hc) hd) hc hd hF).1,step _ c d x l s1 ⟨X,Z,Y,V⟩ hc hd hF E,X,Z,Y,V⟩
def vX.Hr {a:AN} (h:vX N k T a)(V:N<1000000)(Q:k<=126)(U:∀c d,c<a.nc->d<2->a.e c d∈T) {x:mK} (hc:c<a.nc)(hd:d<2)(hF:a.F c d=x::l)(j:Nat):rh (a.R j).K ((a.pop c d x l).R j).K:=by
 obtain⟨_,Z,Y,_⟩:=h.pop V Q U hc hd hF;obtain⟨B,X⟩:=h.env.i.own;by_cases e:j=rX a c (1-d);{rw[e,Y];have M:=(X.r _ (h.env.i.rN.en c (1-d) hc fC).1).2.1;unfold knM;split;{exact(zq M _ _).1.k};exact rh.refl _};rw[(Z j e).1];exact rh.refl _
def vX.YW {a:AN} (h:vX N k T a)(hc:c<a.nc)(hd:d<2)(Y:((a.R (rX a c d)).P (a.e c d).2).pe.both=true):a.jU c=true/\rX a c d≠rX a c (1-d):=by
 have Z:(nV a c d).both=true:=Y;cases hi:a.jU c;{rw[(h.pn c d hc hd (.inl hi)).2]at Z;exact absurd Z gZ};refine⟨rfl,λe=> ?_⟩;rw[(h.pn c d hc hd (.inr e)).2]at Z;exact absurd Z gZ
def vX.news {a:AN} (h:vX N k T a)(hN:N<1000000)(hk:k<=126)(hT:∀c d,c<a.nc->d<2->a.e c d∈T) {x:mK} (hc:c<a.nc)(hd:d<2)(hF:a.F c d=x::l)(j:Nat)(y:Int):((a.pop c d x l).R j).K y=(a.R j).K y \/(j=rX a c (1-d)/\a.jU c=true/\rX a c d≠rX a c (1-d)/\∃q:PS,zP (a.R (rX a c d)).K y q.1 q.2/\0<newF (a.R j).K y q.1 q.2/\(y=(j:Int)+1 \/((a.pop c d x l).R j).K y=μ q)):=by
 obtain⟨_,H,E,_⟩:=h.pop hN hk hT hc hd hF;obtain⟨B,A⟩:=h.env.i.own;have V:=h.env.i.rN.en c (1-d) hc fC;by_cases e:j=rX a c (1-d);{rw[e,E];cases x with|nil=>exact .inl rfl|cons u s=>by_cases hu:u=83;{subst hu;show(kj (a.R (rX a c (1-d))) (a.e c (1-d)).2 s).K y=_ \/_;obtain g|⟨g1,U,Q,M,Z⟩:=ajG (a.R (rX a c (1-d))) (a.e c (1-d)).2 s y;{exact .inl g};right;obtain⟨i1,X⟩:=h.YW hc (show 1-d<2 by omega) U;have Y:=((h.env.i.fl.kn c d hc hd (83::s) (by rw[hF];simp)).1).1 s (.inl rfl) g1;rw[Q]at Y;refine⟨rfl,i1,?_,((ig s).2.1,(ig s).2.2.1),Y,M,?_⟩;{rw[show 1-(1-d)=d by omega]at X;exact λz=>X z.symm};obtain Z|Z:=Z;{left;rw[Z];exact(A.r _ V.1).2.2.2.1};exact .inr Z};{left;rw[J1 _ _ s hu]}};rw[(H j e).1];exact .inl rfl
structure C7(N k:Nat)(a m b:AN):Prop where
 s:vX N k [] a
 t:zg (nJ a.n) a m
 p:xL m b
 l:N+8*(nJ a.n).length<1000000
 k1:k<=126
 ms:vX (N+8*(nJ a.n).length) k (nJ a.n) m
 ko:∀j,(m.R j).K=(a.R j).K/\(m.R j).O=(a.R j).O
 mf:∀c d,c<a.nc->d<2->∃l,m.F c d=a.F c d++l/\(a.jU c=true->rX a c d≠rX a c (1-d)->l=Mp (rX a c d+1) (rX a c (1-d)+1)::(nu ((a.R (a.e c d).1).O (a.e c d).2)).flatMap ET)/\(a.jU c=false->l=[])/\(a.jU c=true->rX a c d=rX a c (1-d)->l=[Mp (rX a c d+1) 0])
 all:∀c d,c<m.nc->d<2->m.e c d∈nJ a.n
 me:m.n=a.n/\m.nc=a.nc/\m.e=a.e/\m.jU=a.jU
def U0 {a:AN} (Y:uU a)(c d:Nat)(hc:c<a.nc)(hd:d<2):a.e c d∈nJ a.n:=by
 obtain⟨Z,e2⟩:=Y.en c d hc hd;unfold nJ;refine bh.2 ⟨(a.e c d).1,aU.2 Z,?_⟩;unfold Uy;have:(a.e c d).2=0 \/(a.e c d).2=1 \/(a.e c d).2=2:=fC;obtain e|e|e:=this;{rw[show a.e c d=((a.e c d).1,0)from bq rfl e];simp};{rw[show a.e c d=((a.e c d).1,1)from bq rfl e];simp};rw[show a.e c d=((a.e c d).1,2)from bq rfl e];simp
def C7.of {a m b:AN} (s:vX N k [] a)(t:zg (nJ a.n) a m)(p:xL m b)(l:N+8*(nJ a.n).length<1000000)(H:k<=126):C7 N k a m b:=by
 obtain⟨nd,_,_⟩:=pZ a.n;obtain⟨U,Q,M⟩:=s.tks t nd l;have Z:=t.path.same;have Y:=U0 s.env.i.rN;refine⟨s,t,p,l,H,U,Q,λc d hc hd=> ?_,λc d hc hd=> ?_,⟨Z.1,Z.2.1,Z.2.2.1,t.len⟩⟩;{obtain⟨l,X,_,V⟩:=M c d hc hd;obtain⟨b1,b2,b3⟩:=V (Y c d hc hd);exact⟨l,X,b1,b2,b3⟩};rw[Z.2.2.1];exact Y c d (by rw[<-Z.2.1];exact hc) hd
def C7.keep {N k:Nat} {a m b:AN} (h:C7 N k a m b)(P:AN->Prop)(M:P m)(step:∀(z:AN) (c d:Nat) (x:mK) (l:List mK),vX (N+8*(nJ a.n).length) k (nJ a.n) z->(z.n=a.n/\z.nc=a.nc/\z.e=a.e/\z.jU=a.jU)->(∀c d,c<z.nc->d<2->z.e c d∈nJ a.n)->c<z.nc->d<2->z.F c d=x::l->P z->P (z.pop c d x l)):vX (N+8*(nJ a.n).length) k (nJ a.n) b/\P b/\(b.n=a.n/\b.nc=a.nc/\b.e=a.e/\b.jU=a.jU):=by
 obtain⟨g1,Y,X,V,U,Q⟩:=h.p.keep P h.ms h.l h.k1 h.all M λz c d x l E Z hc hd hF H=>step z c d x l E ⟨Z.1.trans h.me.1,Z.2.1.trans h.me.2.1,Z.2.2.1.trans h.me.2.2.1,Z.2.2.2.trans h.me.2.2.2⟩ (λc d hc hd=>by rw[Z.2.2.1];exact h.all c d (by rw[<-Z.2.1];exact hc) hd) hc hd hF H;exact⟨g1,Y,X.trans h.me.1,V.trans h.me.2.1,U.trans h.me.2.2.1,Q.trans h.me.2.2.2⟩
def C7.sta {a m b:AN} (h:C7 N k a m b)(M:∀c d,c<a.nc->d<2->a.F c d=[])(Z:∀c d,c<a.nc->d<2->b.F c d=[]):vX (N+8*(nJ a.n).length) k [] b:=by
 obtain⟨s1,_,e1,X,U,Q⟩:=h.keep (λ_=>True) trivial λ_ _ _ _ _ _ _ _ _ _ _ _=>trivial;obtain⟨_,hh⟩:=DX h.t h.p h.s.env h.l h.k1 M Z;have Y:∀c d,rX b c d=rX a c d:=λc d=>by unfold rX;rw[U]
 refine⟨s1.env,λc d hc hd hi hl=> ?_,s1.pn,λc d hc hd _ _ x hx=> ?_,s1.id⟩;{rw[X]at hc;rw[Q]at hi;rw[Y,Y]at hl;have Z:=hh c d hc hd hi;have V:=h.s.pb c (1-d) hc fC hi (by rw[show 1-(1-d)=d by omega];exact λz=>hl z.symm);rw[show 1-(1-d)=d by omega,af gZ]at V;obtain⟨q1,_,_⟩:=tG (q:=nV a c (1-d)) fC;rw[q1,V.1]at Z;have H:¬((rX a c (1-d):Int)+1=(rX a c d:Int)+1):=fC;have Z:nV b c d=kg ((rX a c d:Int)+1) ((rX a c (1-d):Int)+1) ((rX a c d:Int)+1):=Z;unfold kg at Z;rw[af H]at Z;rw[Z,Y];refine⟨rfl,gZ,?_⟩;rw[af gZ];exact aZ _};rw[X]at hc;rw[Z c d hc hd]at hx;simp at hx
def C7.mono {a m b:AN} (h:C7 N k a m b)(j:Nat):rh (a.R j).K (b.R j).K:=by
 obtain⟨_,g,_⟩:=h.keep (λz=>rh (a.R j).K (z.R j).K) (by rw[(h.ko j).1];exact rh.refl _) λz c d x l X _ Y hc hd hF Z=>Z.trans (X.Hr h.l h.k1 Y hc hd hF j);exact g
def NS {F:Int->Option PS} {y:Int} (hy:1<=y/\y<=6)(h:F y=μ q):(y,q)∈nu F:=by
 unfold nu;refine cD.2 ⟨(y-1).toNat,aU.2 fC,?_⟩;have e:(((y-1).toNat:Nat):Int)+1=y:=fC;rw[e,h];rfl
def Lr {y:Int} (h:qq y q.1 q.2=0):ET (y,q)=[83::tI y q.1 q.2] :=by
 unfold ET;have:=EY h;rw[ag (by show(tI y q.1 q.2).length+1<=60;omega)]
def C7.spread {a m b:AN} (h:C7 N k a m b)(h1:∀c d,c<a.nc->d<2->b.F c d=[])(hc:c<a.nc)(hd:d<2)(hi:a.jU c=true)(hl:rX a c d≠rX a c (1-d)) {y:Int} (X:(a.R (rX a c d)).K y=μ q):zP (b.R (rX a c (1-d))).K y q.1 q.2:=by
 obtain⟨B,hB⟩:=h.s.env.i.own;obtain⟨C,hC⟩:=h.ms.env.i.own;have B6:=h.s.env.i.rN.en c d hc hd;have H:=hB.r _ B6.1
 have hm:zP (m.R (rX a c (1-d))).K y q.1 q.2 \/ ∃x∈m.F c d,∃s,x=83::s/\(ig s).2.2.2=0/\(ig s).1=y/\0<=nI (ig s).2.1 (ig s).2.2.1 q.1 q.2:=by
  cases Q:(a.R (rX a c d)).O (a.e c d).2 y with
  |none=>
   left;rw[(h.ko _).1];exact h.s.env.i.fl.o c d hc hd (h.s.pb c d hc hd hi hl).2.1 y q X Q
  |some u=>
   right;have hu:=H.1.tie _ _ _ Q;have E:u=q:=by
    have e:(a.R (rX a c d)).K y=μ u:=hu;rw[X]at e;exact(aL e).symm
   subst E;obtain⟨l,f1,f2,_⟩:=h.mf c d hc hd;have hv:=H.1.val y u X;have hy:=H.2.1.Tt y (by rw[show(a.R (a.e c d).1).K y=μ u from X];rfl);refine⟨83::tI y u.1 u.2,?_,_,rfl,?_⟩;{rw[f1,f2 hi hl];refine aA.2 (.inr (aS.2 (.inr (bh.2 ⟨(y,u),NS hy Q,?_⟩))));rw[Lr hv];simp};{rw[pC _ _ _ hv];exact⟨rfl,rfl,by rw[pR];exact aZ _⟩}
 obtain⟨_,g,e1,e2,e3,e4⟩:=h.keep (λz=>zP (z.R (rX a c (1-d))).K y q.1 q.2 \/ ∃x∈z.F c d,∃s,x=83::s/\(ig s).2.2.2=0/\(ig s).1=y/\0<=nI (ig s).2.1 (ig s).2.2.1 q.1 q.2) hm λz c' d' x l Y M hT kY lL hF hP=>by
  have hmono:=Y.Hr h.l h.k1 hT kY lL hF;obtain g|⟨w,w1,s,A,w3,j,w5⟩:=hP;{exact .inl (g.mono (hmono _))};have Z:c<z.nc:=by rw[M.2.1];exact hc
  obtain⟨em,f⟩:=(Y.env.pop h.l h.k1 kY lL hF).2.2 c d Z hd;by_cases e:c=c'/\d=d'
  ·obtain⟨z1,z2⟩:=e;subst z1 z2;rw[ag ⟨rfl,rfl⟩]at f;rw[hF]at w1;obtain v|v:=aS.1 w1
   ·left;have hx:x=83::s:=by rw[<-v];exact A
    obtain⟨_,_,g2,_⟩:=Y.pop h.l h.k1 hT Z hd hF;obtain⟨D,U⟩:=Y.env.i.own;have V:∀d,rX z c d=rX a c d:=λd=>by unfold rX;rw[M.2.2.1]
    rw[<-V,g2,hx];have jR:=(U.r _ (Y.env.i.rN.en c (1-d) Z fC).1).2.1;have hb:=(Y.pb c (1-d) Z fC (by rw[M.2.2.2];exact hi) (by rw[V,V,show 1-(1-d)=d by omega];exact λw=>hl w.symm)).2.1;have hle:=U.f c d Z hd x (by rw[hF];simp) s hx w3;have lZ:=U.b;have:=h.l;have hk:=afS jR (z.e c (1-d)).2 s w3 hb fC;rw[j]at hk;exact hk.trans w5
   right;exact⟨w,by rw[f];simp[v],s,A,w3,j,w5⟩
  right;rw[af e]at f;exact⟨w,by rw[f];simp[w1],s,A,w3,j,w5⟩
 obtain g|⟨x,hx,_⟩:=g;{exact g};rw[h1 c d hc hd]at hx;simp at hx
def Cl(a:AN)(C:Nat->Prop):Prop:=∀c d,c<a.nc->d<2->a.jU c=true->rX a c d≠rX a c (1-d)->C (rX a c d)->C (rX a c (1-d))
def Bd(C:Nat->Prop)(y:Int)(a0 a:AN):Prop:=∀x,C x->∀q:PS,(a.R x).K y=μ q->(∃x0,C x0/\zP (a0.R x0).K y q.1 q.2) \/ ∃i,C i/\(i:Int)+1=y/\zP (a.R i).K y q.1 q.2
def C7.bd {a m b:AN} (h:C7 N k a m b) {C:Nat->Prop} (hC:Cl a C) {y:Int} {a0:AN} (hB:Bd C y a0 a):Bd C y a0 b:=by
 have hm:Bd C y a0 m:=λx hx q Z=>by
  rw[(h.ko x).1]at Z;obtain g|⟨i,g1,Y,X⟩:=hB x hx q Z;{exact .inl g};exact .inr ⟨i,g1,Y,by rw[(h.ko i).1];exact X⟩
 obtain⟨_,g,_⟩:=h.keep (Bd C y a0) hm λz c d x l hz H hT hc hd hF hP=>by
  have hmono:=hz.Hr h.l h.k1 hT hc hd hF
  have U:∀q:PS,((∃x0,C x0/\zP (a0.R x0).K y q.1 q.2) \/ ∃i,C i/\(i:Int)+1=y/\zP (z.R i).K y q.1 q.2)->(∃x0,C x0/\zP (a0.R x0).K y q.1 q.2) \/ ∃i,C i/\(i:Int)+1=y/\zP ((z.pop c d x l).R i).K y q.1 q.2:=λq Z=>by
   obtain g|⟨i,g1,Y,X⟩:=Z;{exact .inl g};exact .inr ⟨i,g1,Y,X.mono (hmono i)⟩
  intro j E q Z;obtain g|⟨g1,Y,X,u,⟨v,v1,v2⟩,g5,V⟩:=hz.news h.l h.k1 hT hc hd hF j y;{rw[g]at Z;exact U q (hP j E q Z)};have Q:∀d,rX z c d=rX a c d:=λd=>by unfold rX;rw[H.2.2.1]
  obtain V|V:=V;{exact .inr ⟨j,E,V.symm,wI Z⟩};rw[V]at Z;injection Z with Z;subst Z
  have M:C (rX z c d):=by
   have:=hC c (1-d) (by rw[<-H.2.1];exact hc) fC (by rw[<-H.2.2.2];exact Y) (by rw[<-Q,<-Q,show 1-(1-d)=d by omega];exact λw=>X w.symm);rw[<-Q,<-Q,show 1-(1-d)=d by omega]at this;exact this (by rw[<-g1];exact E)
  refine U u ?_;obtain⟨x0,w1,A⟩|⟨i,w1,A,w3⟩:=hP _ M v v1;{exact .inl ⟨x0,w1,A.trans v2⟩};exact .inr ⟨i,w1,A,w3.trans v2⟩
 exact g
def Bo(C:Nat->Prop)(i:Nat)(o:PS)(a:AN):Prop:=(a.R i).K ((i:Int)+1)=μ o/\∀x,C x->∀q:PS,(a.R x).K ((i:Int)+1)=μ q->0<=nI o.1 o.2 q.1 q.2
def E3 {y:Int} {u:PS} (h:K y=μ o)(g:0<=nI o.1 o.2 u.1 u.2):¬0<newF K y u.1 u.2:=by
 rw[pS h,wm];omega
def C7.bo {a m b:AN} (h:C7 N k a m b) {C:Nat->Prop} (hC:Cl a C)(hi:C i)(A:Bo C i o a):Bo C i o b:=by
 have hm:Bo C i o m:=⟨by rw[(h.ko i).1];exact A.1,λx hx q Z=>A.2 x hx q (by rw[<-(h.ko x).1];exact Z)⟩
 obtain⟨_,g,_⟩:=h.keep (Bo C i o) hm λz c d x l hz H hT hc hd hF V=>by
  have Y:∀d,rX z c d=rX a c d:=λd=>by unfold rX;rw[H.2.2.1]
  have key:∀j,C j->((z.pop c d x l).R j).K ((i:Int)+1)=(z.R j).K ((i:Int)+1) \/(j≠i/\∃u:PS,((z.pop c d x l).R j).K ((i:Int)+1)=μ u/\0<=nI o.1 o.2 u.1 u.2):=λj U=>by
   obtain g|⟨g1,Q,g3,u,⟨v,v1,v2⟩,g5,X⟩:=hz.news h.l h.k1 hT hc hd hF j ((i:Int)+1);{exact .inl g}
   have M:C (rX z c d):=by
    have:=hC c (1-d) (by rw[<-H.2.1];exact hc) fC (by rw[<-H.2.2.2];exact Q) (by rw[<-Y,<-Y,show 1-(1-d)=d by omega];exact λw=>g3 w.symm);rw[<-Y,<-Y,show 1-(1-d)=d by omega]at this;exact this (by rw[<-g1];exact U)
   have E:0<=nI o.1 o.2 u.1 u.2:=(z8 (V.2 _ M v v1) v2).1;by_cases e:j=i;{subst e;exact absurd g5 (E3 V.1 E)};right;refine⟨e,u,?_,E⟩;obtain X|X:=X;{exact absurd fC e};exact X
  refine⟨?_,λj U q Z=> ?_⟩;{obtain g|g:=key i hi;{rw[g];exact V.1};exact absurd rfl g.1};obtain g|⟨_,u,g1,Q⟩:=key j U;{rw[g]at Z;exact V.2 j U q Z};rw[g1]at Z;injection Z with Z;rw[<-Z];exact Q
 exact g
def Be(C:Nat->Prop)(y:Int)(v:Option PS)(a:AN):Prop:=∀x,C x->(a.R x).K y=v
def C7.be {a m b:AN} (h:C7 N k a m b) {C:Nat->Prop} (hC:Cl a C) {y:Int} {v:Option PS} (E:Be C y v a):Be C y v b:=by
 have hm:Be C y v m:=λx hx=>by rw[(h.ko x).1];exact E x hx
 obtain⟨_,g,_⟩:=h.keep (Be C y v) hm λz c d x l hz V A hc hd hF X=>by
  have Z:∀d,rX z c d=rX a c d:=λd=>by unfold rX;rw[V.2.2.1]
  intro j U;obtain g|⟨g1,Q,M,u,⟨w,v1,v2⟩,H,g6⟩:=hz.news h.l h.k1 A hc hd hF j y;{rw[g];exact X j U}
  have Y:C (rX z c d):=by
   have:=hC c (1-d) (by rw[<-V.2.1];exact hc) fC (by rw[<-V.2.2.2];exact Q) (by rw[<-Z,<-Z,show 1-(1-d)=d by omega];exact λw=>M w.symm);rw[<-Z,<-Z,show 1-(1-d)=d by omega]at this;exact this (by rw[<-g1];exact U)
  rw[X _ Y]at v1;exact absurd H (E3 (by rw[X j U];exact v1) v2)
 exact g
def YX(a:AN)(x z:Nat):Prop:=∃c d,c<a.nc/\d<2/\a.jU c=true/\rX a c d=x/\rX a c (1-d)=z/\x≠z
def YX.symm {a:AN} {x z:Nat} (h:YX a x z):YX a z x:=by
 obtain⟨c,d,Z,h2,Y,X,V,U⟩:=h;exact⟨c,1-d,Z,fC,Y,V,by rw[show 1-(1-d)=d by omega];exact X,U.symm⟩
inductive Way(a:AN):Nat->Nat->Nat->Prop
 |here (x:Nat):Way a 0 x x
 |stay {k x z:Nat}:Way a k x z->Way a (k+1) x z
 |go {k x w z:Nat}:Way a k x w->YX a w z->Way a (k+1) x z
def qj(a:AN)(x z:Nat):Prop:=∃k,Way a k x z
def qj.trans {a:AN} {w:Nat} (h:qj a x w)(g:qj a w z):qj a x z:=by
 obtain⟨k,g⟩:=g;induction g with|here=>exact h|stay _ ih=>exact ih h|go _ s ih=>obtain⟨j,Z⟩:=ih h;exact⟨j+1,Z.go s⟩
def qj.adj {a:AN} (h:YX a x z):qj a x z:=⟨1,(Way.here x).go h⟩
def qj.symm {a:AN} {x z:Nat} (h:qj a x z):qj a z x:=by
 obtain⟨k,g⟩:=h;induction g with|here=>exact⟨0,Way.here _⟩|stay _ ih=>exact ih|go _ s ih=>exact(qj.adj s.symm).trans ih
def Way.lt {a:AN} (X:uU a)(h:Way a k x z)(hx:x<a.n):z<a.n:=by
 induction h with|here=>exact hx|stay _ ih=>exact ih hx|go _ s _=>obtain⟨c,d,Z,h2,_,_,Y,_⟩:=s;rw[<-Y];exact(X.en c (1-d) Z fC).1
def Way.more {a:AN} {k x z:Nat} (h:Way a k x z):∀j,Way a (k+j) x z
 |0=>h
 |j+1=>(Way.more h j).stay
open Classical in
noncomputable def Qt (a:AN) (x k:Nat):Nat:=sm (λz=>if Way a k x z then 1 else 0) (gw a.n)
def AG {a:AN} (Z:uU a) {x k:Nat} (hx:x<a.n)(h:∀z<a.n,Way a (k+1) x z->Way a k x z):∀j z,Way a (k+j) x z->Way a k x z
 |0,_,g=>g
 |j+1,z,g=>by
  have Y:=g.lt Z hx;cases g with
  |stay g=>exact AG Z hx h j z g
  |go g s=>exact h z Y ((AG Z hx h j _ g).go s)
def abZ(n:Nat):sm (λ_:Nat=>1) (gw n)=n:=by
 unfold sm;induction n with|zero=>rfl|succ n ih=>rw[cE,dr,List.sum_append,ih];rfl
open Classical in
def ab0 {a:AN} (Y:uU a)(hx:x<a.n)(h:qj a x z):Way a 6 x z:=by
 obtain⟨m,V⟩:=h
 have key:∀k,k+1<=Qt a x k \/ ∃j,j<k/\∀z<a.n,Way a (j+1) x z->Way a j x z:=λk=>by
  induction k with
  |zero=>
   left;have:=BG (f:=λ_:Nat=>0) (g:=λz=>if Way a 0 x z then 1 else 0) (y:=x) (k:=1) cB (aU.2 hx) λz _=>by
    by_cases e:z=x;{subst e;rw[ag rfl,ag (Way.here z)];exact aj _};{rw[af e];exact aw _}
   show 0+1<=Qt a x 0;unfold Qt;omega
  |succ k ih=>
   obtain g|⟨j,U,Z⟩:=ih
   ·by_cases hc:∀z<a.n,Way a (k+1) x z->Way a k x z;{exact .inr ⟨k,fC,hc⟩}
    ·left;have:∃z,z<a.n/\Way a (k+1) x z/\¬Way a k x z:=by
      by_cases hh:∃z,z<a.n/\Way a (k+1) x z/\¬Way a k x z;{exact hh}
      ·exact absurd (λz M hw=>by
        by_cases X:Way a k x z;{exact X}
        ·exact absurd ⟨z,M,hw,X⟩ hh) hc
     obtain⟨z,H,E,A⟩:=this;have:=BG (f:=λz=>if Way a k x z then 1 else 0) (g:=λz=>if Way a (k+1) x z then 1 else 0) (y:=z) (k:=1) cB (aU.2 H) λw _=>by
      by_cases e:w=z;{subst e;rw[ag rfl,ag E,af A];exact aj _};{rw[af e];by_cases hw:Way a k x w;{rw[ag hw,ag hw.stay];exact aj _};{rw[af hw];exact aw _}}
     show k+1+1<=Qt a x (k+1);unfold Qt at g⊢;omega
   ·exact .inr ⟨j,fC,Z⟩
 obtain g|⟨j,U,Z⟩:=key 6
 ·exfalso
  have:Qt a x 6<=a.n:=by
   unfold Qt;refine au (xy (g:=λ_=>1) λz _=> ?_) (dB (abZ a.n));split;{exact aj _};exact aw _
  have:=Y.n6;omega
 have Q:Way a j x z:=by
  by_cases hjm:j<=m;{have:=AG Y hx Z (m-j) z (by rw[show j+(m-j)=m by omega];exact V);exact this};have:=V.more (j-m);rw[show m+(j-m)=j by omega]at this;exact this
 have:=Q.more (6-j);rw[show j+(6-j)=6 by omega]at this;exact this
structure Run(k J:Nat)(A:Nat->AN):Prop where
 r:∀j<J,∃N m,C7 N k (A j) m (A (j+1))
 z:∀j≤J,∀c d,c<(A j).nc->d<2->(A j).F c d=[]
def C7.same {a m b:AN} (h:C7 N k a m b):b.n=a.n/\b.nc=a.nc/\b.e=a.e/\b.jU=a.jU:=(h.keep (λ_=>True) trivial λ_ _ _ _ _ _ _ _ _ _ _ _=>trivial).2.2
def Run.same {k J:Nat} {A:Nat->AN} (h:Run k J A):∀j≤J,(A j).n=(A 0).n/\(A j).nc=(A 0).nc/\(A j).e=(A 0).e/\(A j).jU=(A 0).jU
 |0,_=>⟨rfl,rfl,rfl,rfl⟩
 |j+1,hj=>by
  obtain⟨N,m,U⟩:=h.r j fC;obtain⟨Z,Y,X,V⟩:=Run.same h j fC;obtain⟨b1,b2,b3,b4⟩:=U.same;exact⟨b1.trans Z,b2.trans Y,b3.trans X,b4.trans V⟩
def Run.spread {k J:Nat} {A:Nat->AN} (h:Run k J A) {i x z:Nat} (hw:Way (A 0) i x z):∀j,j+i<=J->∀(y:Int) (q:PS),((A j).R x).K y=μ q->zP ((A (j+i)).R z).K y q.1 q.2:=by
 induction hw with
 |here=>intro j _ y q Z;exact wI Z
 | @stay i x z _ ih=>
   intro j hj y q Z;obtain⟨N,m,X⟩:=h.r (j+i) fC;exact(ih j fC y q Z).mono (X.mono z)
 | @go i x w z _ s ih=>
   intro j hj y q Z;obtain⟨u,u1,u2⟩:=ih j fC y q Z;obtain⟨N,m,X⟩:=h.r (j+i) fC;obtain⟨e1,Q,M,H⟩:=h.same (j+i) fC;obtain⟨c,d,E,h2,h3,V,U,h6⟩:=s;have Y:∀d,rX (A (j+i)) c d=rX (A 0) c d:=λd=>by unfold rX;rw[M]
   have:=X.spread (λc' d' kY lL=>h.z (j+i+1) fC c' d' (by rw[X.same.2.1];exact kY) lL) (c:=c) (d:=d) (by rw[Q];exact E) h2 (by rw[H];exact h3) (by rw[Y,Y,V,U];exact h6) (y:=y) (q:=u) (by rw[Y,V];exact u1);rw[Y,U]at this;exact this.trans u2
def Run.cl {A:Nat->AN} (h:Run k J A)(x:Nat) {j:Nat} (U:j<=J):Cl (A j) (qj (A 0) x):=λc d hc hd hi hl hC=>by
 obtain⟨e1,Y,X,V⟩:=h.same j U;have Z:∀d,rX (A j) c d=rX (A 0) c d:=λd=>by unfold rX;rw[X]
 rw[Z,Z]at hl;rw[Z]at hC⊢;exact hC.trans (qj.adj ⟨c,d,by rw[<-Y];exact hc,hd,by rw[<-V];exact hi,rfl,rfl,hl⟩)
def YY {L:Int->Option PS} {y:Int} {p:PS} (Y:K y=μ p)(X:L y=μ q)(V:zP L y p.1 p.2)(U:zP K y q.1 q.2):p=q:=by
 obtain⟨u,u1,u2⟩:=V;obtain⟨v,v1,v2⟩:=U;rw[X]at u1;rw[Y]at v1;injection u1 with u1;injection v1 with v1;subst u1 v1;rw[wm]at v2;have Z:nI q.1 q.2 p.1 p.2=0:=fC;have:=Cf.1 Z;exact bq this.1.symm this.2.symm
def Run.equal {A:Nat->AN} (h:Run k J A)(hJ:12<=J) {x0:Nat} (E:x0<(A 0).n)(y:Int):∃v,Be (qj (A 0) x0) y v (A 12):=by
 obtain⟨N0,m0,r0⟩:=h.r 0 fC;have yR:=r0.s.env.i.rN;have lZ:∀x,qj (A 0) x0 x->x<(A 0).n:=λx hx=>by obtain⟨k,M⟩:=hx;exact M.lt yR E
 have Q:∀x z,qj (A 0) x0 x->qj (A 0) x0 z->Way (A 0) 6 x z:=λx z hx hz=>ab0 yR (lZ x hx) (hx.symm.trans hz)
 have bd:∀j≤6,Bd (qj (A 0) x0) y (A 0) (A j):=λj=>by
  induction j with|zero=>intro _ x hx q Z;exact .inl ⟨x,hx,wI Z⟩|succ j ih=>intro hj;obtain⟨N,m,Y⟩:=h.r j fC;exact Y.bd (h.cl x0 fC) (ih fC)
 have b6:=bd 6 (aj _)
 have be:∀j i v,Be (qj (A 0) x0) y v (A j)->j+i<=J->Be (qj (A 0) x0) y v (A (j+i)):=λj i v hv=>by
  induction i with|zero=>intro _;exact hv|succ i ih=>intro hi;obtain⟨N,m,Y⟩:=h.r (j+i) fC;exact Y.be (h.cl x0 fC) (ih fC)
 by_cases ku:∃i,qj (A 0) x0 i/\(i:Int)+1=y
 ·obtain⟨i,hi,hy⟩:=ku;subst hy;obtain⟨N6,m6,r6⟩:=h.r 6 fC;obtain⟨B,hB⟩:=r6.s.env.i.own;obtain⟨U,_,_,_⟩:=h.same 6 fC;have Dj:=hB.r i (by rw[U];exact lZ i hi);obtain⟨o,X,_⟩:=Dj.2.1.own;rw[Dj.2.2.2.1]at X
  have o6:Bo (qj (A 0) x0) i o (A 6):=by
   refine⟨X,λx hx q Z=> ?_⟩
   have M:zP ((A 6).R i).K ((i:Int)+1) q.1 q.2:=by
    obtain⟨x1,g1,u,u1,u2⟩|⟨i',g1,g2,g3⟩:=b6 x hx q Z;{have:=h.spread (Q x1 i g1 hi) 0 fC ((i:Int)+1) u u1;exact this.trans u2};have:i'=i:=fC;subst this;exact g3
   obtain⟨u,u1,u2⟩:=M;rw[X]at u1;injection u1 with u1;rw[u1];exact u2
  have bo:∀j≤6,Bo (qj (A 0) x0) i o (A (6+j)):=λj=>by
   induction j with|zero=>intro _;exact o6|succ j ih=>intro hj;obtain⟨N,m,Y⟩:=h.r (6+j) fC;exact Y.bo (h.cl x0 fC) hi (ih fC)
  have o12:=bo 6 (aj _);refine⟨μ o,λx hx=> ?_⟩;obtain⟨u,u1,u2⟩:=h.spread (Q i x hi hx) 6 fC ((i:Int)+1) o X;have H:=o12.2 x hx u u1;rw[u1];congr 1;rw[wm]at H;have h0:nI u.1 u.2 o.1 o.2=0:=fC;have:=Cf.1 h0;exact bq this.1 this.2
 have left:∀x,qj (A 0) x0 x->∀q:PS,((A 6).R x).K y=μ q->∃x1,qj (A 0) x0 x1/\zP ((A 0).R x1).K y q.1 q.2:=λx hx q Z=>by
  obtain g|⟨i,g1,g2,_⟩:=b6 x hx q Z;{exact g};exact absurd ⟨i,g1,g2⟩ ku
 have up:∀x z,qj (A 0) x0 x->qj (A 0) x0 z->∀q:PS,((A 6).R x).K y=μ q->zP ((A 6).R z).K y q.1 q.2:=λx z hx hz q Z=>by
  obtain⟨x1,g1,u,u1,u2⟩:=left x hx q Z;exact(h.spread (Q x1 z g1 hz) 0 fC y u u1).trans u2
 have xm:qj (A 0) x0 x0:=⟨0,Way.here _⟩
 refine⟨((A 6).R x0).K y,be 6 6 _ (λx hx=> ?_) fC⟩;cases V:((A 6).R x0).K y with|none=>(cases U:((A 6).R x).K y with|none=>rfl|some q=>obtain⟨u,u1,_⟩:=up x x0 hx xm q U;rw[V]at u1;exact absurd u1 gZ)|some p=>obtain⟨q,q1,q2⟩:=up x0 x xm hx p V;rw[q1];congr 1;exact(YY V q1 ⟨q,q1,q2⟩ (up x x0 hx xm q q1)).symm
def U1(a:AN):Prop:=∀c d,c<a.nc->d<2->a.jU c=true->rX a c d≠rX a c (1-d)->(a.R (rX a c d)).K=(a.R (rX a c (1-d))).K
def OwN(a:AN):Prop:=∀c d,c<a.nc->d<2->a.jU c=true->rX a c d≠rX a c (1-d)->∀y,(a.R (rX a c d)).O (a.e c d).2 y=ν
def Run.eqA {A:Nat->AN} (h:Run k J A)(X:12<=J):U1 (A 12):=λc d hc hd hi hl=>by
 obtain⟨e1,Y,V,U⟩:=h.same 12 X;obtain⟨N0,m0,Q⟩:=h.r 0 fC;have Z:∀d,rX (A 12) c d=rX (A 0) c d:=λd=>by unfold rX;rw[V]
 have hx:rX (A 12) c d<(A 0).n:=by rw[Z];exact(Q.s.env.i.rN.en c d (by rw[<-Y];exact hc) hd).1
 funext y
 obtain⟨v,hv⟩:=h.equal X hx y;rw[hv _ ⟨0,Way.here _⟩];rw[hv (rX (A 12) c (1-d)) (qj.adj ⟨c,d,by rw[<-Y];exact hc,hd,by rw[<-U];exact hi,(Z d).symm,(Z (1-d)).symm,hl⟩)]
def ajJ(i:Nat)(s:List UInt8)(h:(ig s).2.2.2=0->(r.P i).pe.both=true->r.K (ig s).1=μ ((ig s).2.1,(ig s).2.2.1))(j:Nat)(y:Int)(Y:r.O j y=ν):(kj r i s).O j y=ν:=by
 unfold kj;simp only;split;{exact Y};rename_i g;have Q:(ig s).2.2.2=0:=fC
 have Z:(r.P i).pe.both=true:=by
  cases Z:(r.P i).pe.both;{exact absurd (.inr Z) g};rfl
 have U:=h Q Z;have X:newF r.K (ig s).1 (ig s).2.1 (ig s).2.2.1=0:=by rw[pS U];exact pR _ _
 rw[X];rw[af gZ]
 have V:qL r.K r.O i (ig s).1 (ig s).2.1 (ig s).2.2.1 j y=ν:=by
  unfold qL;rw[X,af fF,af fF];split;{rename_i e;show(if y=(ig s).1 then ν else r.O i y)=ν;split;{rfl};rw[<-e];exact Y};exact Y
 split;{exact V};exact V
def ab1(Y:JR r)(i:Nat)(s:List UInt8)(V:(ig s).2.2.2=0)(Q:(r.P i).pe.both=true)(Z:(r.P i).L.st=9)(M:r.K (ig s).1=μ ((ig s).2.1,(ig s).2.2.1)):kh ((kP r i (83::s)).P i)=[65::tI (ig s).1 (ig s).2.1 (ig s).2.2.1] :=by
 have H:kP r i (83::s)=kj r i s:=by
  show r.take i 83 s=_;rw[mZ,uW i s fF,af (by rw[Z];simp)];unfold nL;rw[af fF,ag rfl]
 rw[H];have U:newF r.K (ig s).1 (ig s).2.1 (ig s).2.2.1=0:=by rw[pS M];exact pR _ _
 unfold kj;simp only;rw[af (by rw[Q];simp;exact V),U,af gZ,ag fF,mD,ag rfl];have hv:qq (ig s).1 (ig s).2.1 (ig s).2.2.1=0:=rK (by rw[<-V]);have hlen:=EY hv;obtain⟨z,E⟩:∃z:jO,({r with K:=np r.K (ig s).1 (ig s).2.1 (ig s).2.2.1,O:=qL r.K r.O i (ig s).1 (ig s).2.1 (ig s).2.2.1}:jO)=z:=⟨_,rfl⟩
 have hzP:z.P i=r.P i:=by rw[<-E]
 have X:=uV (p:=r.P i) (Y.fr i) 65 (tI (ig s).1 (ig s).2.1 (ig s).2.2.1);rw[af (by rw[Z];simp;omega),kx (Y i)]at X;exact X
def FE(a:AN):Prop:=∀c d,c<a.nc->d<2->a.jU c=true->rX a c d≠rX a c (1-d)->∀x∈a.F c d,∀s,(x=83::s \/x=65::s)->(ig s).2.2.2=0->(a.R (rX a c d)).K (ig s).1=μ ((ig s).2.1,(ig s).2.2.1)
def C7.ajK {a m b:AN} (h:C7 N k a m b)(h0:∀c d,c<a.nc->d<2->a.F c d=[])(h1:∀c d,c<a.nc->d<2->b.F c d=[])(Ja:U1 a):(∀j,(b.R j).K=(a.R j).K)/\U1 b/\OwN b:=by
 obtain⟨B,hB⟩:=h.s.env.i.own;have E:∀c d,rX m c d=rX a c d:=λc d=>by unfold rX;rw[h.me.2.2.1]
 have afT:∀ {y:Int} {q:PS},qq y q.1 q.2=0->ig (tI y q.1 q.2)=(y,q.1,q.2,0):=λhv=>pC _ _ _ hv
 let P:AN->Prop:=λz=>((∀j,(z.R j).K=(a.R j).K)/\FE z)/\∀c d,c<a.nc->d<2->a.jU c=true->rX a c d≠rX a c (1-d)->∀y,(z.R (rX a c d)).O (a.e c d).2 y=ν \/ ∃q:PS,(a.R (rX a c d)).K y=μ q/\(83::tI y q.1 q.2∈z.F c d \/65::tI y q.1 q.2∈z.F c (1-d))
 have hm:P m:=by
  refine⟨⟨λj=>(h.ko j).1,λc d hc hd hi hl x hx s hs Z=> ?_⟩,λc d hc hd hi hl y=> ?_⟩
  ·rw[h.me.2.1]at hc;rw[h.me.2.2.2]at hi;rw[E,E]at hl;obtain⟨l,f1,f2,_⟩:=h.mf c d hc hd;rw[f1,h0 c d hc hd,bU,f2 hi hl]at hx;rw[E,(h.ko _).1];have U:=hB.r _ (h.s.env.i.rN.en c d hc hd).1;obtain g|g:=aS.1 hx;{rw[g]at hs;obtain e|e:=hs<;>exact absurd (aH e).1 fF};obtain⟨q,q1,q2⟩:=bh.1 g;have X:=U.1.tie _ _ _ (zm q1);have hv:=U.1.val _ _ X;have q2:x∈ET (q.1,q.2):=q2;rw[Lr hv]at q2;have xG:=az.1 q2
   have hs':s=tI q.1 q.2.1 q.2.2:=by
    rw[xG]at hs;obtain e|e:=hs;{exact(aH e).2.symm};exact absurd (aH e).1 fF
   rw[hs',afT hv];exact X
  rw[(h.ko _).2];cases hO:(a.R (rX a c d)).O (a.e c d).2 y with|none=>exact .inl rfl|some q=>right;have U:=hB.r _ (h.s.env.i.rN.en c d hc hd).1;have X:=U.1.tie _ _ _ hO;have hv:=U.1.val _ _ X;have hy:=U.2.1.Tt y (by rw[X];rfl);obtain⟨l,f1,f2,_⟩:=h.mf c d hc hd;refine⟨q,X,.inl ?_⟩;rw[f1,f2 hi hl];refine aA.2 (.inr (aS.2 (.inr (bh.2 ⟨(y,q),NS hy hO,?_⟩))));rw[Lr hv];simp
 obtain⟨_,⟨⟨g1,_⟩,g3⟩,e1,e2,e3,e4⟩:=h.keep P hm λz c d x l Z H hT hc hd hF hP=>by
  obtain⟨⟨p1,p2⟩,p3⟩:=hP;have Y:∀c d,rX z c d=rX a c d:=λc d=>by unfold rX;rw[H.2.2.1]
  obtain⟨_,k1,k2,k3⟩:=Z.pop h.l h.k1 hT hc hd hF;obtain⟨D,hD⟩:=Z.env.i.own;have RE:=Z.env.i.nrm;have YP:x∈z.F c d:=by rw[hF];simp
  have ab2:z.jU c=true->rX z c d≠rX z c (1-d)->(z.R (rX z c d)).K=(z.R (rX z c (1-d))).K:=λhi hl=>by
   rw[p1,p1,Y,Y];exact Ja c d (by rw[<-H.2.1];exact hc) hd (by rw[<-H.2.2.2];exact hi) (by rw[<-Y,<-Y];exact hl)
  have X:∀j,((z.pop c d x l).R j).K=(z.R j).K:=λj=>by
   funext y
   obtain g|⟨g1,g2,g3,u,⟨v,v1,v2⟩,g5,_⟩:=Z.news h.l h.k1 hT hc hd hF j y;{exact g};{rw[ab2 g2 g3,<-g1]at v1;exact absurd g5 (E3 v1 v2)}
  have Ls:∀c' d',c'<z.nc->d'<2->∃em,(z.pop c d x l).F c' d'=(if c'=c/\d'=d then l else z.F c' d')++em:=(Z.env.pop h.l h.k1 hc hd hF).2.2;have lA:∀s,x=83::s->(ig s).2.2.2=0->((z.R (rX z c (1-d))).P (z.e c (1-d)).2).pe.both=true->(z.jU c=true/\rX z c d≠rX z c (1-d))/\(z.R (rX z c (1-d))).K (ig s).1=μ ((ig s).2.1,(ig s).2.2.1):=λs hs oe hb=>by
   obtain⟨i1,i2⟩:=Z.YW hc (show 1-d<2 by omega) hb;rw[show 1-(1-d)=d by omega]at i2;refine⟨⟨i1,λw=>i2 w.symm⟩,?_⟩;rw[<-ab2 i1 λw=>i2 w.symm];exact p2 c d hc hd i1 (λw=>i2 w.symm) x YP s (.inl hs) oe
  have hO:∀j p y,(z.R j).O p y=ν->((z.pop c d x l).R j).O p y=ν:=λj p y V=>by
   by_cases e:j=rX z c (1-d)
   ·rw[e]at V⊢;rw[k3];cases x with
    |nil=>exact V
    |cons u s=>
     by_cases h83:u=83;{subst h83;exact ajJ (z.e c (1-d)).2 s (λa1 a2=>(lA s rfl a1 a2).2) p y V}
     ·by_cases h65:u=65
      ·subst h65;show(lV (z.R (rX z c (1-d))) (z.e c (1-d)).2 s).O p y=ν;unfold lV;simp only;split
       ·show(if _ then Ac _ _ else _) y=ν;split
        ·rename_i g
         show(if y=_ then ν else _)=ν;split;{rfl};{rw[<-g.1];exact V}
        ·exact V
       ·exact V
      ·rw[J2 _ _ s h83 h65];exact V
   ·rw[(k1 j e).2];exact V
  refine⟨⟨λj=>(X j).trans (p1 j),λc' d' kY Q A ZY w hw s hs oe=> ?_⟩,λc' d' kY Q A ZY y=> ?_⟩
  ·
   have U2:c'<z.nc:=kY;have ajL:rX z c' d'≠rX z c' (1-d'):=ZY;show((z.pop c d x l).R (rX z c' d')).K _=_;rw[X];have DY:∀v,v∈(z.mN c d l).F c' d'->v∈z.F c' d':=λv hv=>by
    rw[td]at hv;split at hv;{rename_i e;rw[e.1,e.2,hF];simp[hv]};{exact hv}
   obtain⟨m1,_⟩:=r8 (RE.emp (z.e c (1-d)).1) (z.e c (1-d)).2 x;unfold AN.pop at hw;rw[uy]at hw;split at hw
   ·rename_i ajM
    obtain u|u:=aA.1 hw;{exact p2 c' d' U2 Q A ajL w (DY w u) s hs oe}
    ·cases m1 ((z.mN c d l).e c' d').2 with
     |none h=>rw[h]at u;simp at u
     |link s' _ _ _ h=>rw[h]at u;obtain⟨v,hv⟩:=tZ u;rw[hv]at hs;obtain e|e:=hs<;>exact absurd (aH e).1 fF
     |K5 u1 u2 s' _ _ _ _ h=>rw[h]at u;rw[az.1 u]at hs;obtain e|e:=hs<;>exact absurd (aH e).1 fF
     |heard s' xG hp' _ Vg rZ _ _ h=>
      rw[h]at u;have Xq:=az.1 u;have hv:qq (ig s').1 (ig s').2.1 (ig s').2.2.1=0:=rK (by rw[<-Vg]);have Vx:s=tI (ig s').1 (ig s').2.1 (ig s').2.2.1:=by
       rw[Xq]at hs;obtain e|e:=hs;{exact absurd (aH e).1 fF};{exact(aH e).2.symm}
      rw[Vx,pC _ _ _ hv];have Bx:=Z.env.i.rN.ds c' d' c (1-d) U2 Q hc fC (bq ajM.2 hp');rw[Bx.1,Bx.2];exact(lA s' xG Vg rZ).2
   ·exact p2 c' d' U2 Q A ajL w (DY w hw) s hs oe
  ·
   obtain g|⟨q,q1,q2⟩:=p3 c' d' kY Q A ZY y;{exact .inl (hO _ _ _ g)}
   ·have U2:c'<z.nc:=by rw[H.2.1];exact kY
    have U:=hB.r _ (h.s.env.i.rN.en c' d' kY Q).1;have hv:=U.1.val y q q1;have hzX:(z.R (rX z c' d')).K y=μ q:=by rw[p1,Y];exact q1
    have hzZ:(z.R (rX z c' (1-d'))).K y=μ q:=by rw[p1,Y,<-Ja c' d' kY Q A ZY];exact q1
    obtain q2|q2:=q2;{by_cases e:c'=c/\d'=d;{obtain⟨z1,z2⟩:=e;subst z1 z2;rw[hF]at q2;obtain v|v:=aS.1 q2;{right;refine⟨q,q1,.inr ?_⟩;have pX:=Z.pb c' (1-d') hc fC (by rw[H.2.2.2];exact A) (by rw[Y,Y,show 1-(1-d')=d' by omega];exact λw=>ZY w.symm);have h9:((z.R (z.e c' (1-d')).1).P (z.e c' (1-d')).2).L.st=9:=Z.env.o c' (1-d') hc fC (by rw[H.2.2.2];exact A);have hp:=pC _ _ _ hv;have XC:=ab1 (RE.emp (z.e c' (1-d')).1) (z.e c' (1-d')).2 (tI y q.1 q.2) (by rw[hp]) pX.2.1 h9 (by rw[hp];exact hzZ);rw[hp]at XC;rw[<-v];unfold AN.pop;rw[uy,yE,ag ⟨⟨hc,fC⟩,rfl⟩,XC];simp};{right;obtain⟨em,f⟩:=Ls c' d' hc hd;rw[ag ⟨rfl,rfl⟩]at f;exact⟨q,q1,.inl (by rw[f];simp[v])⟩}};{right;obtain⟨em,f⟩:=Ls c' d' U2 Q;rw[af e]at f;exact⟨q,q1,.inl (by rw[f];simp[q2])⟩}}
    ·by_cases e:c'=c/\1-d'=d
     ·obtain⟨z1,z2⟩:=e;subst z1;have IW:1-d=d':=fC;rw[z2,hF]at q2;obtain v|v:=aS.1 q2
      ·left;have hX:rX a c' d'=rX z c' (1-d):=by rw[Y,IW]
       rw[hX,k3,<-v];show(lV (z.R (rX z c' (1-d))) (z.e c' (1-d)).2 (tI y q.1 q.2)).O (a.e c' d').2 y=ν;have hp:=pC _ _ _ hv;unfold lV;simp only;rw[hp];simp only;rw[ag trivial];have hK0:newF (z.R (rX z c' (1-d))).K y q.1 q.2=0:=by rw[IW,pS hzX];exact pR _ _
       show(if(a.e c' d').2=(z.e c' (1-d)).2/\0<=newF (z.R (rX z c' (1-d))).K y q.1 q.2 then Ac ((z.R (rX z c' (1-d))).O (z.e c' (1-d)).2) y else _) y=ν;rw[ag ⟨by rw[H.2.2.1,IW],by rw[hK0];exact aZ _⟩];show(if y=y then ν else _)=ν;rw[ag rfl]
      ·right;obtain⟨em,f⟩:=Ls c' (1-d') hc fC;rw[ag ⟨rfl,z2⟩]at f;exact⟨q,q1,.inr (by rw[f];simp[v])⟩
     ·right;obtain⟨em,f⟩:=Ls c' (1-d') U2 fC;rw[af e]at f;exact⟨q,q1,.inr (by rw[f];simp[q2])⟩
 have M:∀c d,rX b c d=rX a c d:=λc d=>by unfold rX;rw[e3]
 refine⟨g1,λc d hc hd hi hl=> ?_,λc d hc hd hi hl y=> ?_⟩;{rw[g1,g1,M,M];exact Ja c d (by rw[<-e2];exact hc) hd (by rw[<-e4];exact hi) (by rw[<-M,<-M];exact hl)};have:=g3 c d (by rw[<-e2];exact hc) hd (by rw[<-e4];exact hi) (by rw[<-M,<-M];exact hl) y;rw[M,e3];obtain g|⟨q,_,g|g⟩:=this;{exact g};{rw[h1 c d (by rw[<-e2];exact hc) hd]at g;simp at g};rw[h1 c (1-d) (by rw[<-e2];exact hc) fC]at g;simp at g
structure Fl(D N k:Nat)(y:jQ):Prop where
 ok:ll y D 0
 g:GN y
 f:kF y
 e:Env N k (jn y)
 s:Still y
def Fl.st(h:Fl D N k y):St D N k y:=⟨h.ok,h.g,h.f,h.e.i⟩
def Fl.nil(h:Fl D N k y)(c d:Nat)(hc:c<(jn y).nc)(hd:d<2):(jn y).F c d=[] :=h.s.f c d hc hd
def Fl.round {D N k:Nat} {y:jQ} (h:Fl D N k y)(Z:D<=800000000)(Q:N+144<1000000)(M:k+1<=126):∃m,zg (nJ (jn y).n) (jn y) m/\xL m (jn y.round)/\Fl (D+1300000) (N+144) k y.round/\∀c d,c<y.nc->d<2->(y.C c).jU=true->nV (jn y.round) c d=kg ((rX (jn y) c d:Int)+1) ((rX (jn y) c (1-d):Int)+1) (jP (nV (jn y) c (1-d))).who:=by
 obtain⟨m,X,V,U⟩:=h.st.light h.s Z Q M;obtain⟨_,len,_⟩:=pZ y.n;have n6:=h.ok.n6;have hl:N+8*(nJ (jn y).n).length<1000000:=by show N+8*(nJ y.n).length<_;rw[len];omega
 have E:∀c d,c<(jn y).nc->d<2->(jn y.round).F c d=[] :=λc d hc hd=>U.f c d (by rw[(mC y).2.1];exact hc) hd;obtain⟨Y,H⟩:=DX (a:=jn y) X V h.e hl fC h.nil E;refine⟨m,X,V,⟨h.ok.round Z,h.g.round h.ok Z,h.f.round h.ok Z,⟨Y.i.mono (by show N+8*(nJ y.n).length<=_;rw[len];omega) λ_=>aj _,Y.o,Y.nl⟩,U⟩,λc d hc hd hi=>H c d hc hd hi⟩
def St.fl(h:St D N k y)(hD:D<=780000000)(hN:N+20*144<1000000)(H:k+8<=126):Fl (D+1300000*7) (N+144*7) (k+7) (nW y 7):=by
 have U:=h.opens fC fC H 6 (aj _);simp only[Nat.reduceAdd,Nat.reduceSub]at U;obtain⟨Z,Y,Q⟩:=U;obtain⟨M,X,_,V⟩:=zr y 7;obtain⟨z,E⟩:=fH (nW y 7);rw[E]at Z Y Q M X V⊢;exact⟨Z.ok,Z.g,Z.f,⟨Z.i,λc d hc hd hi=>(Q c (by rw[<-X];exact hc) (by rw[<-(V c).2];exact hi)).open hd,λc d hc hd x hx=>by rw[Y.f c d hc hd]at hx;simp at hx⟩,Y⟩
structure Fs(D N k:Nat)(y:jQ):Prop where
 ok:ll y D 0
 g:GN y
 f:kF y
 s:vX N k [] (jn y)
 z:Still y
def Fs.fl(h:Fs D N k y):Fl D N k y:=⟨h.ok,h.g,h.f,h.s.env,h.z⟩
def Fl.two(h:Fl D N k y)(hD:D<=790000000)(hN:N+3*144<1000000)(u:k+1<=126):Fs (D+1300000*2) (N+144*2) k (nW y 2):=by
 obtain⟨_,_,_,h1,p1⟩:=h.round fC fC u;obtain⟨_,_,_,Z,p2⟩:=h1.round fC fC u;obtain⟨s1,s2,_,U⟩:=mC y;obtain⟨t1,t2,_,t4⟩:=mC y.round;have mQ:∀c d,rX (jn y.round) c d=rX (jn y) c d:=λc d=>by show((y.round.C c).e d).1=_;rw[(U c).1];rfl
 have V:∀c d,rX (jn y.round.round) c d=rX (jn y) c d:=λc d=>by show((y.round.round.C c).e d).1=_;rw[(t4 c).1,(U c).1];rfl
 have xC:(jn y.round.round).nc=y.nc:=t2.trans s2;have A:∀c,(jn y.round.round).jU c=(y.C c).jU:=λc=>((t4 c).2).trans (U c).2;obtain⟨X,hX⟩:=Z.e.i.lk;obtain⟨B,hB⟩:=Z.e.i.own
 have Q:∀c d,c<(jn y.round.round).nc->d<2->(nV (jn y.round.round) c d).who=0->(nV (jn y.round.round) c d).both=false:=λc d hc hd hw=>by
  have E:=Z.e.i.rN.en c d hc hd;have j:=hB.r _ E.1;have H:=j.2.1.pe ((jn y.round.round).e c d).2 (by rw[j.2.2.2.2];exact E.2);cases hb:(nV (jn y.round.round) c d).both;{rfl};have:=H.both hb;unfold nV at hw;omega
 have Y:∀c d,c<y.nc->d<2->(y.C c).jU=true->nV (jn y.round.round) c d=kg ((rX (jn y) c d:Int)+1) ((rX (jn y) c (1-d):Int)+1) (jP (kg ((rX (jn y) c (1-d):Int)+1) ((rX (jn y) c d:Int)+1) (jP (nV (jn y) c d)).who)).who:=λc d hc hd hi=>by
  rw[p2 c d (by rw[s2];exact hc) hd (by rw[(U c).2];exact hi),p1 c (1-d) hc fC hi,mQ,mQ,show 1-(1-d)=d by omega]
 refine⟨Z.ok.mono fC (aj _),Z.g,Z.f,⟨⟨Z.e.i.mono fC λ_=>aj _,Z.e.o,Z.e.nl⟩,λc d hc hd hi hl=> ?_,λc d hc hd B2=> ?_,λc d hc hd _ _ x hx=> ?_,λi p hi H mT=> ?_⟩,Z.s⟩;{rw[show(jn (nW y 2))=jn y.round.round from rfl]at*;rw[V,V]at hl;rw[Y c d (by rw[<-xC];exact hc) hd (by rw[<-A];exact hi),V];have kf:¬((rX (jn y) c (1-d):Int)+1=(rX (jn y) c d:Int)+1):=fC;have M:¬((rX (jn y) c d:Int)+1=(rX (jn y) c (1-d):Int)+1):=fC;unfold kg;rw[af kf,af M];unfold jP;rw[af (by show¬(4:Int)<=1;decide)];refine⟨rfl,gZ,?_⟩;rw[af gZ];exact aZ _}
 ·rw[show(jn (nW y 2))=jn y.round.round from rfl]at*
  have hw:(nV (jn y.round.round) c d).who=0:=by
   cases hi:(jn y.round.round).jU c;{by_cases g:(nV (jn y.round.round) c d).who=0;{exact g};have:=Z.e.i.fl.gate c d hc hd g;have:=(hX.dn c hc hi d hd).2.1;omega}
   have hl:rX (jn y) c d=rX (jn y) c (1-d):=by
    obtain g|g:=B2;{rw[hi]at g;exact absurd g gZ};rw[V,V]at g;exact g
   rw[Y c d (by rw[<-xC];exact hc) hd (by rw[<-A];exact hi)];unfold kg;rw[ag (by rw[hl])];rfl
  exact⟨hw,Q c d hc hd hw⟩
 {rw[show(jn (nW y 2))=jn y.round.round from rfl]at*;rw[Z.s.f c d hc hd]at hx;simp at hx};have:=Z.ok.idle i p hi H λc d hc hd=>mT c d hc hd;have Y:((y.round.round.R i).P p).pe=nobody:=this.pe;exact⟨this.st,by show((y.round.round.R i).P p).pe.who=0;rw[Y];rfl,by show((y.round.round.R i).P p).pe.both=false;rw[Y];rfl⟩
def Fs.round {D N k:Nat} {y:jQ} (h:Fs D N k y)(U:D<=800000000)(Q:N+144<1000000)(M:k+1<=126):∃m,C7 N k (jn y) m (jn y.round)/\Fs (D+1300000) (N+144) k y.round:=by
 obtain⟨m,X,V,Z,_⟩:=h.fl.round U Q M;obtain⟨_,len,_⟩:=pZ y.n;have n6:=h.ok.n6;have hl:N+8*(nJ (jn y).n).length<1000000:=by show N+8*(nJ y.n).length<_;rw[len];omega
 have Y:=C7.of h.s X V hl fC;have hs:=Y.sta h.fl.nil λc d hc hd=>Z.nil c d (by show c<y.round.nc;rw[(mC y).2.1];exact hc) hd;refine⟨m,Y,Z.ok,Z.g,Z.f,?_,Z.s⟩;have H:N+8*(nJ (jn y).n).length<=N+144:=by show N+8*(nJ y.n).length<=_;rw[len];omega
 exact⟨⟨hs.env.i.mono H λ_=>aj _,hs.env.o,hs.env.nl⟩,hs.pb,hs.pn,hs.hh,hs.id⟩
def BZ(y:jQ)(i:Nat):∀j,nW y (i+j)=nW (nW y i) j
 |0=>rfl
 |j+1=>by show(nW y (i+j)).round=(nW (nW y i) j).round;rw[BZ y i j]
def Fs.many {D N k:Nat} {y:jQ} (h:Fs D N k y)(Y:k+1<=126):∀j,D+1300000*j<=800000000->N+144*(j+1)<1000000->Fs (D+1300000*j) (N+144*j) k (nW y j)
 |0,_,_=>h
 |j+1,hD,hN=>by
  have U:=h.many Y j fC fC;obtain⟨m,_,Z⟩:=U.round fC fC Y;have X:D+1300000*j+1300000=D+1300000*(j+1):=fC;have V:N+144*j+144=N+144*(j+1):=fC;rw[X,V]at Z;exact Z
structure Fin(D N k:Nat)(y:jQ):Prop where
 s:Fs D N k y
 e:U1 (jn y)
 o:OwN (jn y)
def Fin.round {D N k:Nat} {y:jQ} (h:Fin D N k y)(Y:D<=800000000)(X:N+144<1000000)(V:k+1<=126):Fin (D+1300000) (N+144) k y.round/\∀j,((jn y.round).R j).K=((jn y).R j).K:=by
 obtain⟨m,U,Z⟩:=h.s.round Y X V;obtain⟨Q,M,p3⟩:=U.ajK h.s.fl.nil (λc d hc hd=>Z.fl.nil c d (by show c<y.round.nc;rw[(mC y).2.1];exact hc) hd) h.e;exact⟨⟨Z,M,p3⟩,Q⟩
def Fs.fin(h:Fs D N k y)(V:k+1<=126)(hD:D+1300000*14<=800000000)(hN:N+144*15<1000000):Fin (D+1300000*13) (N+144*13) k (nW y 13):=by
 have run:Run k 12 λj=>jn (nW y j):=by
  refine⟨λj E=> ?_,λj E c d hc hd=> ?_⟩;{obtain⟨m,U,_⟩:=(h.many V j fC fC).round fC fC V;exact⟨_,m,U⟩};exact(h.many V j fC fC).fl.nil c d hc hd
 have Z:=h.many V 12 fC fC;have heq:=run.eqA (aj _);have H:nW y 13=(nW y 12).round:=rfl;have X:U1 (jn (nW y 12)):=heq;rw[H];obtain⟨z,A⟩:=fH (nW y 12);rw[A]at Z X⊢;obtain⟨m,U,Y⟩:=Z.round fC fC V;obtain⟨_,u,p3⟩:=U.ajK Z.fl.nil (λc d hc hd=>Y.fl.nil c d (by show c<z.round.nc;rw[(mC z).2.1];exact hc) hd) X;have Q:D+1300000*12+1300000=D+1300000*13:=fC;have M:N+144*12+144=N+144*13:=fC;rw[Q,M]at Y;exact⟨Y,u,p3⟩
def Fin.many {D N k:Nat} {y:jQ} (h:Fin D N k y)(Y:k+1<=126):∀j,D+1300000*j<=800000000->N+144*(j+1)<1000000->Fin (D+1300000*j) (N+144*j) k (nW y j)/\∀i,((jn (nW y j)).R i).K=((jn y).R i).K
 |0,_,_=>⟨h,λ_=>rfl⟩
 |j+1,hD,hN=>by
  obtain⟨U,k1⟩:=h.many Y j fC fC;obtain⟨Z,k2⟩:=U.round fC fC Y;have X:D+1300000*j+1300000=D+1300000*(j+1):=fC;have V:N+144*j+144=N+144*(j+1):=fC;rw[X,V]at Z;exact⟨Z,λi=>(k2 i).trans (k1 i)⟩
def St.settled(h:St D N k y)(hD:D<=600000000)(hN:N+50*144<1000000)(M:k+8<=126):Fin (D+1300000*45) (N+144*45) (k+7) (nW y 45):=by
 have U:=h.fl fC fC M;have Q:=U.two fC fC fC;have Y:=Q.fin fC fC fC;have Z:=(Y.many fC 23 fC fC).1;rw[show nW (nW (nW (nW y 7) 2) 13) 23=nW y 45 by rw[<-BZ,<-BZ,<-BZ]]at Z;have X:D+1300000*7+1300000*2+1300000*13+1300000*23=D+1300000*45:=fC;have V:N+144*7+144*2+144*13+144*23=N+144*45:=fC;rw[X,V]at Z;exact Z
def U3 {many:Nat} (Z:ll (la many L) D 0):St D 2 0 (la many L):=by
 have E:∀i<many,(1:Int)<=(i:Int)+1/\(i:Int)+1<=6:=λi hi=>by have:=Z.n6;have:(la many L).n=many:=rfl;omega
 have V:∀i p,i<many->p<3->1<=qY L i p/\qY L i p<=20:=λi p hi u=>Z.ms i p hi u
 have hF:∀c d,(jn (la many L)).F c d=[] :=λc d=>by
  (show(if c<L.length/\d<2 then vr (la many L) c d else [])=[]);split;{rfl};rfl
 have hRr:∀i,(jn (la many L)).R i=kZ ((i:Int)+1) 3 (qY L i):=λi=>rfl;have M:∀c d,nV (jn (la many L)) c d=nobody:=λc d=>rfl
 have A:∀(i:Nat) (x:Int) (q:PS),(kZ ((i:Int)+1) 3 (qY L i)).K x=μ q->x=(i:Int)+1/\q=(1,[]):=λi x q h=>by
  have X:(if x=(i:Int)+1 then μ ((1:Int),([] :List kS))else ν)=μ q:=h;split at X;{rename_i e;injection X with X;exact⟨e,X.symm⟩};exact absurd X gZ
 have j:∀i<many,Own (kZ ((i:Int)+1) 3 (qY L i)):=λi hi=>by
  refine⟨λp x q h=>h,λx q h=> ?_,?_⟩;{obtain⟨U,Y⟩:=A i x q h;rw[U,Y];have:=E i hi;unfold qq;rw[af fC,af gZ];rfl}
  have U:Ei (kZ ((i:Int)+1) 3 (qY L i)).K (kZ ((i:Int)+1) 3 (qY L i)).id=[] :=by
   show(match (if(i:Int)+1=(i:Int)+1 then some ((1:Int),([] :List kS))else none)with|none=>[] |some q=>q.2)=_;rw[ag rfl]
  rw[U]
  have Y:∀n k,kQ (kZ ((i:Int)+1) 3 (qY L i)).P n k=ν:=λn k=>by
   induction k with|zero=>rfl|succ k ih=>unfold kQ;rw[af (λh=>absurd h.1 (show¬false=true by simp)),ih]
  unfold kH;simp only[Y,Option.map_none];rfl
 refine⟨Z,GO many L,P9 many L,Z.rN,r7 _,⟨1,λi hi=>⟨j i hi,Bt (E i hi) (V i · hi),λx q h=> ?_,rfl,rfl⟩,λc d _ _ x hx=> ?_,?_,aj _,V⟩,⟨λ_ _ _=>false,λc hc hi=> ?_,λc hc hi d hd=> ?_⟩,?_⟩;{obtain⟨_,Y⟩:=A i x q h;rw[Y];exact aZ _};{rw[hF]at hx;simp at hx}
 ·have w0:(jn (la many L)).W sw=0:=by
   unfold AN.W;rw[uZ (g:=λ_=>0) λx _=>by show sm sw ((jn (la many L)).F x.1 x.2)=0;rw[hF];rfl];generalize UB (jn (la many L)).nc=m;induction m with|nil=>rfl|cons x l ih=>simpa[sm]using ih
  have c0:sm (λi=>tE ((jn (la many L)).R i)) (gw (jn (la many L)).n)=0:=by
   rw[uZ (g:=λ_=>0) λi _=>by rfl];generalize gw (jn (la many L)).n=m;induction m with|nil=>rfl|cons x l ih=>simpa[sm]using ih
  omega
 {exact absurd (show false=true from hi) gZ};{have H:=Z.en c d hc hd;have Q:=Z.n6;obtain⟨z1,z2,z3⟩:=NQ (i:=((jn (la many L)).e c d).1) (p:=((jn (la many L)).e c d).2) (aq H.1 Q) H.2 (qY L ((jn (la many L)).e c d).1);have hl:lr (jn (la many L)) c d=(Jk ((((jn (la many L)).e c d).1:Int)+1) (qY L ((jn (la many L)).e c d).1) ((jn (la many L)).e c d).2).L:=rfl;rw[hl];exact⟨z1,z2,by rw[z3];exact Int.natCast_nonneg _,hF c d⟩};refine⟨λc d _ _ h=>absurd (by rw[M];rfl) h,λc d _ _ h=>absurd (by rw[M];rfl) h,λc d _ _ x hx=> ?_,λc d _ _ h=> ?_⟩;{rw[hF]at hx;simp at hx};rw[M]at h;exact absurd h (by simp[nobody])
def mP(r s:jO):Prop:=∀p,(s.P p).m=(r.P p).m
def mP.trans {r s t:jO} (h:mP r s)(g:mP s t):mP r t:=λp=>(g p).trans (h p)
def mP.meet(r:jO)(i:Nat)(q:mX):mP r (r.meet i q):=λp=>(lP r i q p).2.2.1
def mP.jW(r:jO)(i:Nat)(q:kB)(h:q.m=(r.P i).m):mP r (r.jW i q):=λp=>by
 rw[mD];split;{rename_i e;rw[e,h]};{rfl}
def mP.state(r:jO)(i:Nat)(s:List UInt8):mP r (kj r i s):=by
 unfold kj;simp only;split;{exact λ_=>rfl};split;{unfold jO.behind;split<;>exact λ_=>rfl};split;{exact λp=>(mP.jW _ i _ (uz _ _ _).1) p};exact λ_=>rfl
def mP.heard(r:jO)(i:Nat)(s:List UInt8):mP r (lV r i s):=by
 unfold lV;simp only;split<;>exact λ_=>rfl
def mP.send(r:jO)(t:wK):mP r (r.send t):=λp=>((nR r t).2.2.2.2 p).1
def mP.link(h:JR r)(i:Nat)(c:UInt8)(s:List UInt8):mP r (lE r i c s):=λp=>((zi h i c s).2.2.1 p).2.1
def mP.kP {r:jO} (h:JR r)(i:Nat)(x:mK):mP r (kP r i x):=by
 cases x with
 |nil=>exact λ_=>rfl
 |cons c s=>
  show mP r (r.take i c s);rw[mZ];refine(mP.link h i c s).trans ?_;split;{exact mP.meet _ _ _}
  ·unfold nL;split;{split;{exact mP.meet _ _ _};{exact λ_=>rfl}}
   ·split;{exact mP.state _ _ _}
    ·split;{exact mP.heard _ _ _}
     ·split
      ·unfold sT
       first
        |(split
          ·exact mP.send _ _
          ·exact λ_=>rfl)
        |exact mP.send _ _
      ·exact λ_=>rfl
def mP.jZ(r:jO)(i:Nat):mP r (r.jZ i):=by
 rw[mO];have Z:mP r (j6 r i):=λp=>(nH r i p).1;split;{exact Z.trans (mP.meet _ _ _)};exact(Z.trans (mP.meet _ _ _)).trans λp=>((rD _ i).2.2.2.2 p).1
def mP.jT(r:jO)(i:Nat)(up:Bool):mP r (r.jT i up).1:=by
 unfold jO.jT;simp only;split;{exact λ_=>rfl};refine(mP.jW r i _ ?_).trans (mP.meet _ _ _);unfold kB.jT;simp only;by_cases e:(mV (r.P i).L (if up=true then 0 else 1)).2.2≠0;{rw[ag e]};rw[af e,(yr _ _).1]
def E4(a:AN):Prop:=∀i p,i<a.n->((a.R i).P p).m=a.ms i p
def E4.op {a:AN} (h:E4 a)(i:Nat) {s:jO} (hs:mP (a.R i) s):E4 (a.op i s):=λj p Z=>by
 show(((a.op i s).R j).P p).m=a.ms j p;rw[C5];split
 ·rename_i e
  subst e;exact(hs p).trans (h j p Z)
 ·exact h j p Z
def E4.pv {a:AN} (h:E4 a)(c d:Nat)(up:Bool):E4 (a.pv c d up):=h.op _ (mP.jT _ _ _)
def E4.step {a b:AN} {S:List (Int×List UInt8)} (s:ot a T S b)(Y:Norm a)(h:E4 a):E4 b:=by
 cases s with|lost hl=>obtain⟨e,_⟩:=hl;rw[e];exact h|tick i p hi hp=>exact h.op i (mP.jZ _ _)|pop c d x l hc hd hF=>exact E4.op (a:=a.mN c d l) h _ (mP.kP (Y.emp _) _ _)|send i t tx hi Z h6 hl=>exact h.op i (mP.send _ _)|jT c hc hi h0 Z=>exact E4.pv (E4.pv h c 0 true) c 1 true|draw c hc hi=>exact E4.pv (E4.pv h c 0 false) c 1 false|anew i m hi hx=>intro j p X;show((kK a.R i (kZ ((i:Int)+1) 3 (a.ms i)) j).P p).m=a.ms j p;by_cases e:j=i;{subst e;rw[jd];rfl};{rw[iw _ _ e];exact h j p X}
def E4.path {a b:AN} {S:List (Int×List UInt8)} (s:lh a T S b)(Z:Norm a)(h:E4 a):E4 b:=by
 induction s with|nil=>exact h|snoc p q ih=>exact E4.step q (p.norm Z) ih
def YZ(many:Nat)(L:List qM):E4 (jn (la many L)):=λ_ _ _=>rfl
def InS(S:Nat->Prop)(H:Nat->HP):Prop:=∀x<7,(H x).far≠0->S x
def U4 {D:l8} {S:Nat->Prop} (M:∀x y,x<7->y<7->S x->C x y≠0->S y)(h:∀x y,x<7->y<7->S x->C x y=D x y)(r:Nat)(X:b<7)(V:n<7) {H:Nat->HP} (Z:InS S H):qW C r b n H=qW D r b n H/\InS S (qW C r b n H):=by
 unfold qW;by_cases Y:(H b).far=0;{rw[ag (.inl Y),ag (.inl Y)];exact⟨rfl,Z⟩};have hS:=Z b X Y;rw[<-h b n X V hS];refine⟨rfl,?_⟩;split;{exact Z};rename_i e;split;{intro x hx hf;simp only[tL]at hf;split at hf;{rename_i U;rw[U];exact M b n X V hS (λQ=>e (.inr (.inl Q)))};exact Z x hx hf};exact Z
def NT {C D:l8} {S:Nat->Prop} (X:∀x y,x<7->y<7->S x->C x y≠0->S y)(h:∀x y,x<7->y<7->S x->C x y=D x y)(r:Nat) {b:Nat} (Y:b<7) {H:Nat->HP} (Z:InS S H):∀n≤7,ry C r b H n=ry D r b H n/\InS S (ry C r b H n)
 |0,_=>⟨rfl,Z⟩
 |n+1,hn=>by
  obtain⟨e,hi⟩:=NT X h r Y Z n fC;obtain⟨U,V⟩:=U4 X h r Y (show n<7 by omega) hi;refine⟨?_,V⟩;show qW C r b n (ry C r b H n)=qW D r b n (ry D r b H n);rw[<-e,U]
def Sg {C D:l8} {S:Nat->Prop} (Y:∀x y,x<7->y<7->S x->C x y≠0->S y)(h:∀x y,x<7->y<7->S x->C x y=D x y)(r:Nat) {H:Nat->HP} (Z:InS S H):∀b≤7,Eg C r H b=Eg D r H b/\InS S (Eg C r H b)
 |0,_=>⟨rfl,Z⟩
 |b+1,hb=>by
  obtain⟨e,hi⟩:=Sg Y h r Z b fC;obtain⟨V,X⟩:=NT Y h r (show b<7 by omega) hi 7 (aj _);refine⟨?_,X⟩;show ry C r b (Eg C r H b) 7=ry D r b (Eg D r H b) 7;rw[<-e,V]
def D3 {C D:l8} {S:Nat->Prop} (X:∀x y,x<7->y<7->S x->C x y≠0->S y)(h:∀x y,x<7->y<7->S x->C x y=D x y) {r:Nat} (Y:r<7)(hS:S r):∀k,j1 C r k=j1 D r k/\InS S (j1 C r k)
 |0=>by
  refine⟨?_,?_⟩
  ·funext x
   show nr C r 7 x=nr D r 7 x;unfold nr;by_cases hx:x<7;{rw[h r x Y hx hS]};{rw[af (λe=>hx e.1),af (λe=>hx e.1)]}
  ·intro x hx hf;refine X r x Y hx hS λe=>hf ?_;show(nr C r 7 x).far=0;unfold nr;rw[af (by rw[e];exact λZ=>absurd Z.2 fF)];rfl
 |k+1=>by
  obtain⟨e,hi⟩:=D3 X h Y hS k;obtain⟨Z,V⟩:=Sg X h r hi 7 (aj _);refine⟨?_,V⟩;show Eg C r (j1 C r k) 7=Eg D r (j1 D r k) 7;rw[<-e,Z]
def U5 {D:l8} {S:Nat->Prop} (Z:∀x y,x<7->y<7->S x->C x y≠0->S y)(h:∀x y,x<7->y<7->S x->C x y=D x y) {r:Nat} (X:r<7)(hS:S r):mE (lp C) r=mE (lp D) r:=by
 unfold mE
 have Y:∀x y,x<7->y<7->S x->lp C x y=lp D x y:=λx y hx hy hs=>by
  unfold lp;rw[<-h x y hx hy hs];by_cases e:C x y=0;{rw[e];simp};rw[<-h y x hy hx (Z x y hx hy hs e)]
 rw[(D3 (λx y hx hy hs hc=>Z x y hx hy hs (λe=>hc (by unfold lp;rw[e];simp))) Y X hS 6).1]
def Least(S:Int->Prop)(v:Int):Prop:=(v=0/\∀m,¬S m) \/(S v/\∀m,S m->v<=m)
def Least.uniq {S Z:Int->Prop} {w:Int} (h:Least S v)(g:Least Z w)(e:∀m,S m↔Z m):v=w:=by
 obtain⟨Y,V⟩|⟨Y,V⟩:=h;{obtain⟨g1,_⟩|⟨g1,_⟩:=g;{rw[Y,g1]};exact absurd ((e w).2 g1) (V w)};obtain⟨_,X⟩|⟨g1,X⟩:=g;{exact absurd ((e v).1 Y) (X v)};have:=V w ((e w).2 g1);have:=X v ((e v).1 Y);omega
def Least.pos {S:Int->Prop} (h:Least S v)(X:∀m,S m->1<=m):(0<v↔∃m,S m)/\0<=v:=by
 obtain⟨Z,Y⟩|⟨Z,Y⟩:=h;{exact⟨⟨λe=>fC,λ⟨m,V⟩=>absurd V (Y m)⟩,fC⟩};exact⟨⟨λ_=>⟨v,Z⟩,λ_=>by have:=X v Z;omega⟩,by have:=X v Z;omega⟩
def xB(P:Nat->kB)(n:Int)(k:Nat):Int:=match kQ P n k with|none=>0|some b=>(P b).m
def AH(P:Nat->kB)(n:Int):∀k,Least (λm=>∃p,p<k/\(P p).pe.both=true/\(P p).pe.who=n/\(P p).m=m) (xB P n k)/\(kQ P n k=ν->∀p<k,¬((P p).pe.both=true/\(P p).pe.who=n))
 |0=>⟨.inl ⟨rfl,λm ⟨p,M,_⟩=>absurd M fC⟩,λ_ p M=>absurd M fC⟩
 |k+1=>by
  obtain⟨ih,ih2⟩:=AH P n k;by_cases U:Dx P n k
  ·have e:=y8 U;refine⟨?_,λV=>by rw[e]at V;exact absurd V gZ⟩;have ev:xB P n (k+1)=(P k).m:=by unfold xB;rw[e]
   rw[ev];refine .inr ⟨⟨k,fC,U.1,U.2.1,rfl⟩,?_⟩;rintro m ⟨p,M,Z,Y,rfl⟩;by_cases H:p=k;{rw[H];exact aZ _}
   ·have j:p<k:=fC;have Q:=U.2.2;unfold xB at ih;cases E:kQ P n k with
    |none=>exact absurd ⟨Z,Y⟩ (ih2 E p j)
    |some b=>
     rw[E]at Q ih;simp only[decide_eq_true_eq]at Q;simp only at ih;obtain⟨_,X⟩|⟨_,X⟩:=ih;{exact absurd ⟨p,j,Z,Y,rfl⟩ (X _)};{have:=X _ ⟨p,j,Z,Y,rfl⟩;omega}
  ·have e:=yi U;have ev:xB P n (k+1)=xB P n k:=by unfold xB;rw[e]
   rw[ev,e];have key:kQ P n k=ν->¬((P k).pe.both=true/\(P k).pe.who=n):=λV A=>U ⟨A.1,A.2,by rw[V]⟩;refine⟨?_,λV p M=> ?_⟩
   ·obtain⟨i1,X⟩|⟨⟨p,i1,i3,i4,i5⟩,X⟩:=ih
    ·have hn:kQ P n k=ν:=by
      cases E:kQ P n k with
      |none=>rfl
      |some b=>
       have:=oT E;exact absurd ⟨b,this.1,this.2.1,this.2.2,rfl⟩ (X _)
     refine .inl ⟨i1,?_⟩;rintro m ⟨p,M,Z,Y,Q⟩;by_cases H:p=k;{subst H;exact key hn ⟨Z,Y⟩};{exact X m ⟨p,fC,Z,Y,Q⟩}
    ·refine .inr ⟨⟨p,fC,i3,i4,i5⟩,?_⟩;rintro m ⟨q,E,Z,Y,Q⟩;by_cases u:q=k
     ·subst u;have h5:¬(match kQ P n q with|none=>true|some b=>decide ((P q).m<(P b).m))=true:=λA=>U ⟨Z,Y,A⟩;unfold xB;cases h:kQ P n q with
      |none=>exact absurd ⟨Z,Y⟩ (key h)
      |some b=>
       rw[h]at h5;simp only[decide_eq_true_eq]at h5;simp only;omega
     ·exact X m ⟨q,fC,Z,Y,Q⟩
   ·by_cases H:p=k;{subst H;exact key V};{exact ih2 V p fC}
def Y0(P:Nat->kB)(n:Int)(k:Nat)(Z:∀p<k,1<=(P p).m)(j:Int):((kQ P n k).map λb=>(j,(P b).m))=if 0<xB P n k then μ (j,xB P n k)else ν:=by
 unfold xB;cases Y:kQ P n k with|none=>simp|some b=>have:=Z b (oT Y).1;simp only[jC];rw[ag fC]
def Jn(jU:Nat->Bool)(e:Nat->Nat->Nat×Nat)(x z c:Nat):Prop:=jU c=true/\x≠z/\(((e c 0).1=x/\(e c 1).1=z) \/((e c 0).1=z/\(e c 1).1=x))
instance(jU:Nat->Bool)(e:Nat->Nat->Nat×Nat)(x z c:Nat):Decidable (Jn jU e x z c):=by unfold Jn;infer_instance
def J3(jU:Nat->Bool)(e:Nat->Nat->Nat×Nat)(cm:Nat->Int)(x z:Nat):Nat->Int
 |0=>0
 |k+1=>if Jn jU e x z k/\(J3 jU e cm x z k=0 \/cm k<J3 jU e cm x z k)then cm k else J3 jU e cm x z k
def uD(jU:Nat->Bool)(e:Nat->Nat->Nat×Nat)(cm:Nat->Int)(x z:Nat):∀k,(∀c<k,1<=cm c)->Least (λm=>∃c,c<k/\Jn jU e x z c/\cm c=m) (J3 jU e cm x z k)
 |0,_=>.inl ⟨rfl,λm ⟨p,H,_⟩=>absurd H fC⟩
 |k+1,h=>by
  have ih:=uD jU e cm x z k (λc hc=>h c fC);have hk:=h k fC;show Least _ (if Jn jU e x z k/\(J3 jU e cm x z k=0 \/cm k<J3 jU e cm x z k)then cm k else J3 jU e cm x z k);generalize J3 jU e cm x z k=v at ih⊢;by_cases V:Jn jU e x z k;{by_cases hv:v=0 \/cm k<v;{rw[ag ⟨V,hv⟩];refine .inr ⟨⟨k,fC,V,rfl⟩,?_⟩;rintro m ⟨c,hc,Y,rfl⟩;by_cases Z:c=k;{rw[Z];exact aZ _};{obtain⟨_,X⟩|⟨⟨c2,i1,U,Q⟩,X⟩:=ih;{exact absurd ⟨c,fC,Y,rfl⟩ (X _)};{have:=X _ ⟨c,fC,Y,rfl⟩;have:=h c2 fC;omega}}};{rw[af (λZ=>hv Z.2)];obtain⟨i1,X⟩|⟨⟨c2,i1,U,Q⟩,X⟩:=ih;{exact absurd (.inl i1) hv};{refine .inr ⟨⟨c2,fC,U,Q⟩,?_⟩;rintro m ⟨c,hc,Y,rfl⟩;by_cases Z:c=k;{rw[Z];omega};{exact X _ ⟨c,fC,Y,rfl⟩}}}};{rw[af (λZ=>V Z.1)];obtain⟨i1,X⟩|⟨⟨c2,i1,U,Q⟩,X⟩:=ih;{refine .inl ⟨i1,?_⟩;rintro m ⟨c,hc,Y,M⟩;by_cases Z:c=k;{subst Z;exact V Y};{exact X m ⟨c,fC,Y,M⟩}};{refine .inr ⟨⟨c2,fC,U,Q⟩,?_⟩;rintro m ⟨c,hc,Y,rfl⟩;by_cases Z:c=k;{subst Z;exact absurd Y V};{exact X _ ⟨c,fC,Y,rfl⟩}}}
def J4(a:AN)(cm:Nat->Int)(x:Nat):List kS:=(gw a.n).filterMap λz=>if 0<J3 a.jU a.e cm x z a.nc then μ ((z:Int)+1,J3 a.jU a.e cm x z a.nc)else ν
def J5(a:AN)(cm:Nat->Int):Int->Option PS:=λx=>if 1<=x/\x<=(a.n:Int)then μ (1,J4 a cm (x-1).toNat)else ν
def CmA(a:AN)(cm:Nat->Int):Prop:=∀c d,c<a.nc->d<2->a.ms (a.e c d).1 (a.e c d).2=cm c
def Y1(a:AN)(i p:Nat):(∃c d,c<a.nc/\d<2/\a.e c d=(i,p)) \/ ∀c d,c<a.nc->d<2->a.e c d≠(i,p):=by
 by_cases h:∃c d,c<a.nc/\d<2/\a.e c d=(i,p)
 {exact .inl h};exact .inr λc d hc hd e=>h ⟨c,d,hc,hd,e⟩
def Hs {α:Type} (f:Nat->Option α)(n m:Nat)(h:∀j,n<=j->f j=ν)(hn:n<=m):(gw m).filterMap f=(gw n).filterMap f:=by
 obtain⟨k,rfl⟩:∃k,m=n+k:=⟨m-n,fC⟩
 rw[List.range_add,bW]
 have:(List.map (λx=>n+x) (gw k)).filterMap f=[] :=by
  rw[du];intro j Z;obtain⟨i,_,rfl⟩:=bX.1 Z;exact h _ fC
 rw[this,aF]
def ajP(h:d<2):d=0 \/d=1:=fC
def Jn.adj {a:AN} (hc:c<a.nc)(h:Jn a.jU a.e x z c):YX a x z:=by
 obtain⟨Y,X,Z|Z⟩:=h;{exact⟨c,0,hc,fC,Y,Z.1,Z.2,X⟩};exact⟨c,1,hc,fC,Y,Z.2,Z.1,X⟩
def Jn.of {a:AN} (hd:d<2)(hi:a.jU c=true)(hx:rX a c d≠rX a c (1-d)):Jn a.jU a.e (rX a c d) (rX a c (1-d)) c:=by
 refine⟨hi,hx,?_⟩;obtain rfl|rfl:=ajP hd;{exact .inl ⟨rfl,rfl⟩};exact .inr ⟨rfl,rfl⟩
def vX.ajQ {a:AN} (h:vX N k [] a)(E:uU a)(A:E4 a) {cm:Nat->Int} (hC:CmA a cm)(hx:x<a.n)(z:Nat)(m:Int):
 (∃p,p<3/\((a.R x).P p).pe.both=true/\((a.R x).P p).pe.who=(z:Int)+1/\((a.R x).P p).m=m)↔∃c,c<a.nc/\Jn a.jU a.e x z c/\cm c=m:=by
  constructor
  ·rintro⟨p,hp,H,h2,h3⟩;obtain⟨c,d,hc,hd,V⟩|hn:=Y1 a x p
   ·have j:nV a c d=((a.R x).P p).pe:=by unfold nV;rw[V]
    have M:rX a c d=x:=by unfold rX;rw[V]
    by_cases hl:a.jU c=false \/rX a c d=rX a c (1-d);{have:=(h.pn c d hc hd hl).2;rw[j,H]at this;exact absurd this fF}
    have hi:a.jU c=true:=by
     cases e:a.jU c with|true=>rfl|false=>exact absurd (.inl e) hl
    have u:rX a c d≠rX a c (1-d):=λe=>hl (.inr e);have hw:=(h.pb c d hc hd hi u).1;rw[j,h2]at hw;have hz:rX a c (1-d)=z:=fC;refine⟨c,hc,?_,?_⟩;{have:=Jn.of hd hi u;rw[M,hz]at this;exact this};rw[<-hC c d hc hd,V,<-h3];exact(A x p hx).symm
   have:=(h.id x p hx hp hn).2.2;rw[H]at this;exact absurd this fF
  rintro⟨c,hc,U,rfl⟩
  have key:∀d<2,rX a c d=x->rX a c (1-d)=z->∃p,p<3/\((a.R x).P p).pe.both=true/\((a.R x).P p).pe.who=(z:Int)+1/\((a.R x).P p).m=cm c:=by
   intro d hd Z Y;have Q:=h.pb c d hc hd U.1 (by rw[Z,Y];exact U.2.1);unfold nV at Q;have X:(a.e c d).1=x:=Z;refine⟨(a.e c d).2,(E.en c d hc hd).2,?_,?_,?_⟩;{rw[<-X];exact Q.2.1};{rw[<-X,Q.1,Y]};rw[<-X,A _ _ (E.en c d hc hd).1,hC c d hc hd]
  obtain⟨Z,Y⟩|⟨Z,Y⟩:=U.2.2;{exact key 0 fC Z Y};exact key 1 fC Y Z
def AJ {a:AN} (h:vX N k [] a)(E:E4 a) {cm:Nat->Int} (hC:CmA a cm)(hx:x<a.n):J4 a cm x=kH (a.R x):=by
 have Z:=h.env.i.rN;obtain⟨B,X⟩:=h.env.i.own;obtain⟨ajR,u,_,qo,A⟩:=X.r x hx
 have Y:∀c<a.nc,1<=cm c:=λc hc=>by
  rw[<-hC c 0 hc fC];exact(X.ms _ _ (Z.en c 0 hc fC).1 (Z.en c 0 hc fC).2).1
 have key:∀z,J3 a.jU a.e cm x z a.nc=xB (a.R x).P ((z:Int)+1) 3:=λz=>
  (uD a.jU a.e cm x z a.nc Y).uniq (AH _ _ 3).1 λm=>(h.ajQ Z E hC hx z m).symm
 unfold J4 kH;rw[A]
 have H:(gw 6).filterMap (λ(j:Nat)=>(kQ (a.R x).P ((j:Int)+1) 3).map λb=>((j:Int)+1,((a.R x).P b).m))=(gw 6).filterMap λz=>if 0<J3 a.jU a.e cm x z a.nc then μ ((z:Int)+1,J3 a.jU a.e cm x z a.nc)else ν:=by
  congr 1;funext j;rw[key j,Y0 _ _ _ (λp V=>(u.m p fC).1)]
 rw[H,Hs _ a.n 6 _ Z.n6];intro j hj;have V:=(uD a.jU a.e cm x j a.nc Y).pos (by rintro m ⟨c,hc,_,rfl⟩;exact Y c hc);rw[af];intro e;obtain⟨m,c,hc,U,_⟩:=V.1.1 e;have a0:=(Z.en c 0 hc fC).1;have a1:=(Z.en c 1 hc fC).1;obtain⟨Q,M⟩|⟨Q,M⟩:=U.2.2;{omega};omega
def qj.ind {a:AN} (P:Nat->Prop)(Z:P x)(hs:∀w z,P w->YX a w z->P z)(h:qj a x z):P z:=by
 obtain⟨k,w⟩:=h;induction w with|here=>exact Z|stay _ ih=>exact ih Z|go _ g ih=>exact hs _ _ (ih Z) g
def U1.conn {a:AN} (h:U1 a)(hc:qj a x z):(a.R z).K=(a.R x).K:=by
 refine qj.ind (λz=>(a.R z).K=(a.R x).K) rfl ?_ hc;rintro w v e ⟨c,d,X,V,U,Z,Y,Q⟩;have:=h c d X V U (by rw[Z,Y];exact Q);rw[Z,Y]at this;rw[<-this,e]
def AK(h:K (x:Int)=μ q)(y:Nat):oD K x y=Vs q.2 y:=by
 unfold oD Vs;rw[h]
def ab3 {y:Nat} (h:Vs es y≠0):∃m,((y:Int),m)∈es:=by
 unfold Vs at h;cases hf:es.find? λe=>e.1==(y:Int)with
 |none=>rw[hf]at h;exact absurd rfl h
 |some e=>
  have Z:=eQ hf;have Y:=dt hf;refine⟨e.2,?_⟩;have X:e.1=(y:Int):=by simpa using Z
  rw[<-X];exact Y
def U6 {a:AN} (h:vX N k [] a)(hE:U1 a)(E:E4 a) {cm:Nat->Int} (hC:CmA a cm)(hx:x<a.n):n8 (a.R x)=mE (lp (oD (J5 a cm))) (x+1):=by
 have V:=h.env.i.rN;have hn6:=V.n6;obtain⟨B,U⟩:=h.env.i.own
 have Q:∀i<a.n,qj a x i->∀y,oD (a.R x).K (i+1) y=Vs (kH (a.R i)) y/\oD (J5 a cm) (i+1) y=Vs (kH (a.R i)) y:=by
  intro i hi hc y;obtain⟨Y,jR,_,qo,hn⟩:=U.r i hi;obtain⟨q,u,_⟩:=jR.own;have Z:=Y.own;have e1:((i+1:Nat):Int)=(a.R i).id:=by rw[qo];push_cast;rfl
  constructor
  ·rw[<-hE.conn hc];have:(a.R i).K ((i+1:Nat):Int)=μ q:=by rw[e1];exact u
   rw[AK this];unfold Ei at Z;rw[u]at Z;simp only at Z;rw[Z]
  have:J5 a cm ((i+1:Nat):Int)=μ (1,kH (a.R i)):=by
   unfold J5;rw[ag ⟨fC,fC⟩];have:(((i+1:Nat):Int)-1).toNat=i:=fC;rw[this,AJ h E hC hi]
  rw[AK this]
 unfold n8;have X:(a.R x).id.toNat=x+1:=by rw[(U.r x hx).2.2.2.1];omega
 rw[X];refine U5 (S:=λy=>∃i,i<a.n/\y=i+1/\qj a x i) ?_ ?_ fC ⟨x,hx,rfl,0,.here x⟩
 ·rintro s y hs hy ⟨i,hi,rfl,hc⟩ j;rw[(Q i hi hc y).1,<-AJ h E hC hi]at j;obtain⟨m,A⟩:=ab3 j;unfold J4 at A;obtain⟨z,hz,M⟩:=cD.1 A;have Ob:z<a.n:=aU.1 hz;split at M
  ·rename_i e
   have H:∀c<a.nc,1<=cm c:=λc hc=>by
    rw[<-hC c 0 hc fC];exact(U.ms _ _ (V.en c 0 hc fC).1 (V.en c 0 hc fC).2).1
   obtain⟨m2,c,hcc,hj,_⟩:=((uD a.jU a.e cm i z a.nc H).pos (by rintro m ⟨c,hc,_,rfl⟩;exact H c hc)).1.1 e
   have VA:y=z+1:=by
    have:=congrArg (λo=>o.map Prod.fst) M;simp only[jC,Option.some.injEq]at this;omega
   exact⟨z,Ob,VA,hc.trans (qj.adj (hj.adj hcc))⟩
  exact absurd M gZ
 rintro s y hs hy ⟨i,hi,rfl,hc⟩;rw[(Q i hi hc y).1,(Q i hi hc y).2]
def D4(r:jO):kH r.core=kH r:=qH rfl λ_=>⟨rfl,rfl,rfl⟩
def Ht:∀ {E:List (Int×Int×Int)} {x:Int×Int×Int},(pq E).Nodup->x∈E->mM E x.1 x.2.1=μ x.2.2
 |[],_,_,hx=>absurd hx gZ
 |y::E,x,hn,hx=>by
  have Z:(pq E).Nodup/\(y.1,y.2.1)∉pq E:=by
   have:(pq (y::E))=(y.1,y.2.1)::pq E:=rfl;rw[this,bE]at hn;exact⟨hn.2,hn.1⟩
  show(if y.1=x.1/\y.2.1=x.2.1 then μ y.2.2 else mM E x.1 x.2.1)=μ x.2.2;obtain e|h:=aS.1 hx;{rw[e,ag ⟨rfl,rfl⟩]};{rw[af];{exact Ht Z.1 h};{rintro⟨Y,X⟩;refine Z.2 ?_;rw[Y,X];exact List.mem_map_of_mem (f:=λx:Int×Int×Int=>(x.1,x.2.1)) h}}
def IK(L:List qM)(c:Nat):Int:=(L.getD c ⟨1,0,1,0,1⟩).m
def nG.cm {many:Int} (h:nG many L)(c d:Nat)(hc:c<L.length):qY L ((oE L c).e d).1 ((oE L c).e d).2=IK L c:=by
 have X:L[c] ∈L:=aO hc;obtain⟨_,U,Q⟩:=h.c _ X;have k1:=oK U;have k2:=oK Q
 have V:IK L c=L[c].m:=by
  unfold IK;rw[aM,aB hc];rfl
 rw[V,vF L c d hc];unfold qY
 have m1:(L[c].a,L[c].pa,L[c].m)∈lT L:=by
  unfold lT;exact bh.2 ⟨L[c],X,gZ⟩
 have m2:(L[c].b,L[c].pb,L[c].m)∈lT L:=by
  unfold lT;exact bh.2 ⟨L[c],X,gZ⟩
 split;{have:=Ht h.nd m1;have Z:(((L[c].a-1).toNat:Nat):Int)+1=L[c].a:=fC;have Y:((L[c].pa.toNat:Nat):Int)=L[c].pa:=fC;simp only;rw[Z,Y];simp only at this;rw[this];rfl};have:=Ht h.nd m2;have Z:(((L[c].b-1).toNat:Nat):Int)+1=L[c].b:=fC;have Y:((L[c].pb.toNat:Nat):Int)=L[c].pb:=fC;simp only;rw[Z,Y];simp only at this;rw[this];rfl
structure Wh(m:Nat)(L:List qM)(D N k:Nat)(y:jQ):Prop where
 s:St D N k y
 ma:E4 (jn y)
 n:y.n=m
 nc:y.nc=L.length
 e:∀x,(y.C x).e=(oE L x).e
 ms:y.ms=qY L
def Wh.new {many:Int} (h:nG many L):Wh many.toNat L D 2 0 (la many.toNat L):=
 ⟨U3 ((Bz h).mono (aw _) (aj _)),YZ _ _,rfl,rfl,λ_=>rfl,rfl⟩
def Wh.Sh {D' N' k':Nat} {y':jQ} {S:List (Int×List UInt8)} (h:Wh m L D N k y)(hs:St D' N' k' y')(p:lh (jn y) T S (jn y')):Wh m L D' N' k' y':=by
 obtain⟨Z,Y,X,V⟩:=p.same;exact⟨hs,h.ma.path p (r7 y),Z.trans h.n,Y.trans h.nc,λx=>(cN X x).trans (h.e x),V.trans h.ms⟩
def Wh.act {m:Nat} {L:List qM} {D N k:Nat} {y:jQ} (h:Wh m L D N k y)(Z:D<=800000000)(Y:N+144<1000000)(X:k+1<=126)(v:AV):Wh m L (D+1300000) (N+144) (k+1) (uv y v):=by
 obtain⟨T,_,p⟩:=Nz h.s.f h.s.g h.s.ok Z v;exact h.Sh (h.s.act Z Y X v) p
def Wh.Y2 {m:Nat} {L:List qM} {D N k:Nat} {y:jQ} (V:Nat->AV)(h:Wh m L D N k y):∀i,D+1300000*i<=800000000->N+144*(i+1)<1000000->k+i+1<=126->Wh m L (D+1300000*i) (N+144*i) (k+i) (sJ y V i)
 |0,_,_,_=>h
 |i+1,hD,hN,hk=>by
  have ih:=Wh.Y2 V h i fC fC fC;have:=ih.act fC fC fC (V i);have Z:D+1300000*(i+1)=D+1300000*i+1300000:=fC;have Y:N+144*(i+1)=N+144*i+144:=fC;rw[Z,Y];exact this
def J6 {D:Nat} (y:jQ):∀j,(∀i<j,∃Z,Z<=D/\ll (nW y i) Z 0/\kF (nW y i))->D<=800000000->∃T,lh (jn y) T [] (jn (nW y j))
 |0,_,_=>⟨[],.nil _⟩
 |j+1,h,hD=>by
  obtain⟨T,p⟩:=J6 y j (λi hi=>h i fC) hD;obtain⟨Z,h1,Y,X⟩:=h j fC;have q:=Az X Y fC;exact⟨_,p.trans q⟩
def St.Y3 {D N k:Nat} {y:jQ} (h:St D N k y):∀i,D+1300000*i<=800000000->ll (nW y i) (D+1300000*i) 0/\kF (nW y i)
 |0,_=>⟨h.ok,h.f⟩
 |i+1,hD=>by
  obtain⟨Z,X⟩:=St.Y3 h i fC;have n6:=Z.n6;have Y:D+1300000*(i+1)=D+1300000*i+1300000:=fC;rw[Y];exact⟨Z.round fC,X.round Z fC⟩
structure sK(m:Nat)(L:List qM)(jU:Nat->Bool)(D N k:Nat)(z:jQ):Prop where
 f:Fin D N k z
 ma:E4 (jn z)
 n:z.n=m
 nc:z.nc=L.length
 e:∀x,(z.C x).e=(oE L x).e
 ms:z.ms=qY L
 jU:∀x,(z.C x).jU=jU x
def Fin.st {D N k:Nat} {y:jQ} (h:Fin D N k y):St D N k y:=h.s.fl.st
def Wh.settled {m:Nat} {L:List qM} {D N k:Nat} {y:jQ} (h:Wh m L D N k y)(Y:D<=600000000)(X:N+50*144<1000000)(V:k+8<=126):sK m L (λx=>(y.C x).jU) (D+1300000*45) (N+144*45) (k+7) (nW y 45):=by
 have hf:=h.s.settled Y X V;have U:=h.s.Y3;obtain⟨T,p⟩:=J6 (D:=D+1300000*45) y 45 (λi hi=>⟨D+1300000*i,fC,U i fC⟩) fC;have hw:=h.Sh hf.st p;obtain⟨_,_,_,Z⟩:=zr y 45;exact⟨hf,hw.ma,hw.n,hw.nc,hw.e,hw.ms,λx=>(Z x).2⟩
def ti(m:Nat)(L:List qM)(jU:Nat->Bool)(x:Nat):List kS:=(gw m).filterMap λz=>if 0<J3 jU (λc=>(oE L c).e) (IK L) x z L.length then μ ((z:Int)+1,J3 jU (λc=>(oE L c).e) (IK L) x z L.length)else ν
def m7(m:Nat)(L:List qM)(jU:Nat->Bool):Int->Option PS:=λx=>if 1<=x/\x<=(m:Int)then μ (1,ti m L jU (x-1).toNat)else ν
def sK.a {z:jQ} (h:sK m L jU D N k z):(jn z).n=m/\(jn z).nc=L.length/\(jn z).e=(λc=>(oE L c).e)/\(jn z).jU=jU/\(jn z).ms=qY L:=
 ⟨h.n,h.nc,funext h.e,funext h.jU,h.ms⟩
def sK.cm {many:Int} {m:Nat} {L:List qM} {jU:Nat->Bool} {D N k:Nat} {z:jQ} (h:sK m L jU D N k z)(hc:nG many L):CmA (jn z) (IK L):=by
 obtain⟨a1,Z,Y,a4,X⟩:=h.a;intro c d hcc hd;rw[Y,X];exact hc.cm c d (by rw[Z]at hcc;exact hcc)
def sK.ajS {many:Int} {z:jQ} (h:sK m L jU D N k z)(hc:nG many L)(hx:x<m):ti m L jU x=kH (z.R x):=by
 have e:=AJ h.f.s.s h.ma (h.cm hc) (x:=x) (by rw[h.a.1];exact hx);obtain⟨Z,Y,X,V,a5⟩:=h.a;unfold J4 at e;rw[Z,Y,X,V]at e;exact e.trans (D4 (z.R x))
def sK.aoJ {many:Int} {z:jQ} (h:sK m L jU D N k z)(hc:nG many L)(hx:x<m):n8 (z.R x)=mE (lp (oD (m7 m L jU))) (x+1):=by
 have e:=U6 h.f.s.s h.f.e h.ma (h.cm hc) (x:=x) (by rw[h.a.1];exact hx);obtain⟨Z,Y,X,V,a5⟩:=h.a
 have U:J5 (jn z) (IK L)=m7 m L jU:=by
  funext y;unfold J5 J4 m7 ti;rw[Z,Y,X,V]
 rw[U]at e;exact e
def xh.round {w0:fA} {N:Nat} {X:Nat->Prop} {m nc i:Nat} {n:jQ} {W:fA} (h:xh w0 N X m nc i n W)(M:kd w0)(hi:i<=300):
 gb gg 54 #[π (μ ⟨N,0,ν⟩)] W λe w'=>e=ρ (τ #[])/\xh w0 N X m nc (i+1) n.round w'/\∀b,X b->w'.heap[b]? =W.heap[b]? :=by
  obtain⟨hA,V,Y,u,hc⟩:=h;obtain⟨s1,j,_,_⟩:=mC n;refine(hA.call (E:=λe=>e=ρ (τ #[])) (n':=n.round) s1 λy Q U=> ?_).mono ?_;{rw[<-U];exact CM y n (1300000*i) W Q (hA.tab M) Y fC};rintro e w' ⟨A,Z,H⟩;exact⟨A,⟨Z,V.round Y fC,(Y.round fC).mono fC (aj _),s1.trans u,j.trans hc⟩,H⟩
def Qu {w0:fA} {X:Nat->Prop} {nc:Nat} (h:xh w0 N X m nc i y W)(A:kd w0)(hi:i<=200):
 gb gg 44 #[π (μ ⟨N,0,ν⟩)] W λe w'=>e=ρ (τ #[])/\xh w0 N X m nc (i+45) (nW y 45) w'/\∀b,X b->w'.heap[b]? =W.heap[b]? :=by
  have H:∀k V,k<45->(xh w0 N X m nc (i+k) (nW y k) V/\∀b,X b->V.heap[b]? =W.heap[b]?)->gb gg 54 #[π (μ ⟨N,0,ν⟩)] V λe w'=>e=ρ (τ #[])/\(xh w0 N X m nc (i+(k+1)) (nW y (k+1)) w'/\∀b,X b->w'.heap[b]? =W.heap[b]?):=by
   rintro k V hk ⟨hA,hX⟩;refine(hA.round A fC).mono ?_;rintro e w' ⟨he,h1,h2⟩;exact⟨he,h1,λb u=>(h2 b u).trans (hX b u)⟩
  obtain⟨Q,Y⟩:∃Q:Nat->fA->Prop,Q=λk V=>xh w0 N X m nc (i+k) (nW y k) V/\∀b,X b->V.heap[b]? =W.heap[b]? :=⟨_,rfl⟩
  have Z:∀k V,k<45->Q k V->gb gg 54 #[π (μ ⟨N,0,ν⟩)] V λe w'=>e=ρ (τ #[])/\Q (k+1) w':=by
   rw[Y];exact H
  have E:Q 0 W:=by rw[Y];exact⟨h,λ_ _=>rfl⟩
  have j:∀V,Q 45 V->xh w0 N X m nc (i+45) (nW y 45) V/\∀b,X b->V.heap[b]? =W.heap[b]? :=λV hv=>by rw[Y]at hv;exact hv
  have HR:Hid _:=Z;have HE:Hid _:=j;have H0:Hid (Q 0 W):=E;clear H Z E j h A Y;go_in;go_wp2;go_loopw [2] (λx wr=>∃k:Nat,k<=45/\x=ι κ k/\Q k wr) (λx _=>45-(gj x).toNat);(case atStart=>exact⟨0,aw _,rfl,H0.out⟩)
  case round=>
   obtain⟨k,hk,rfl,U⟩:=hrel;obtain⟨V,rfl⟩:∃V,V=wr:=⟨_,rfl⟩
   by_cases lZ:k<45;{have pE:(k:Int)<45:=fC;have Z:=HR.out k V lZ U;clear U;go_wp2_with fail;refine Z.mono ?_;rintro e w3 ⟨rfl,hA3⟩;have M:Hid (Q (k+1) w3):=hA3;clear Z hA3;go_wp2;go_roundw;(case rel=>exact⟨k+1,fC,by go_num,M.out⟩);case measure=>simp[gj];omega};have zD:¬(k:Int)<45:=fC;obtain rfl:k=45:=fC;have HQ:Hid (Q 45 V):=U;clear U;go_wp2_with fail;go_end0;exact⟨rfl,HE.out V HQ.out⟩
def xh.still {w0:fA} {N:Nat} {X:Nat->Prop} {m nc i:Nat} {y:jQ} {W W':fA} (h:xh w0 N X m nc i y W)(Z:fP W W'):xh w0 N X m nc i y W':=⟨h.1.still Z,h.2⟩
def Qv(y:jQ)(k:Nat):(y.inbox k).n=y.n/\(y.inbox k).nc=y.nc:=⟨(mB ({y with kA:=kK y.kA k [] }:jQ)).1,(mB ({y with kA:=kK y.kA k [] }:jQ)).2.1⟩
def xh.inbox {w0:fA} {N:Nat} {X:Nat->Prop} {m nc i:Nat} {y:jQ} {W:fA} (h:xh w0 N X m nc i y W)(hi:i<=300) {k:Nat} (hk:k<m):
 gb gg 52 #[π (μ ⟨N,0,ν⟩),ι κ ((k:Int)+1)] W λe w'=>∃v,e=ρ (τ #[v,η])/\Row w' 3 v (y.kA k).length (rz (y.kA k))/\(∀b,v.ownBlock=μ b->¬X b)/\xh w0 N X m nc i (y.inbox k) w'/\∀b,X b->w'.heap[b]? =W.heap[b]? :=by
  obtain⟨⟨⟨z,M,Q,u,hx⟩,jS⟩,U,E,H,hc⟩:=h;have hi:=Uc z y (1300000*i) k W M E fC (by rw[H];exact hk);rw[Q]at hi;refine hi.mono ?_;rintro e w' ⟨v,j,hr,hw,hv⟩;obtain⟨s1,s2⟩:=Qv y k;obtain⟨Z,A⟩:=qI.wz M u hx jS s1 hw;rw[Q]at Z;have Y:GN (y.inbox k):=GN.gather (y:=({y with kA:=kK y.kA k [] }:jQ)) ⟨U.ends,U.off⟩;exact⟨v,j,hr,λb e V=>hv b e ((hx b).2 V),⟨Z,Y,E.inbox fC k,s1.trans H,s2.trans hc⟩,A⟩
def xh.send {w0:fA} {N:Nat} {X:Nat->Prop} {m nc i:Nat} {n:jQ} {W:fA} (h:xh w0 N X m nc i n W)(hi:i<=300)(f t:Int)(tx:ByteArray):
 gb gg 53 #[π (μ ⟨N,0,ν⟩),ι κ f,ι κ t,.string tx] W λe w'=>e=ρ (kr (n.send f t tx.data.toList).2)/\xh w0 N X m nc (i+1) (n.send f t tx.data.toList).1 w'/\∀b,X b->w'.heap[b]? =W.heap[b]? :=by
  obtain⟨hA,V,Y,A,hc⟩:=h;obtain⟨s1,u,_,_⟩:=CP n f t tx.data.toList;refine(hA.call (E:=λe=>e=ρ (kr (n.send f t tx.data.toList).2)) (n':=(n.send f t tx.data.toList).1) s1 λy Q U=> ?_).mono ?_;{rw[<-U];exact M8 y n (1300000*i) f t tx W Q Y fC};rintro e w' ⟨H,Z,M⟩;exact⟨H,⟨Z,(V.send f t tx.data.toList).1,(Y.send fC f t tx.data.toList).mono fC (aj _),s1.trans A,u.trans hc⟩,M⟩
def Hu(r:jO):r.change.kA=r.kA:=by
 unfold jO.change jO.behind jO.Ag;split;{rfl};split<;>rfl
def zt(r:jO)(i:Nat)(q:mX):(r.meet i q).kA=r.kA:=by
 unfold jO.meet;simp only;split;{rfl};split;{show(jO.change _).kA=_;rw[Hu];rfl};rw[Hu];rfl
def U7(r:jO)(i:Nat):(r.jZ i).kA=r.kA:=by
 rw[mO];split;{rw[zt];rfl};have:∀q:jO,(oa q i).kA=q.kA:=λq=>rfl;rw[this,zt];rfl
def E5 {α:Type} (f:α->Nat):∀l:List α,(∀x∈l,f x=0)->sm f l=0
 |[],_=>rfl
 |x::l,h=>by
  have Z:=h x gZ;have h2:=E5 f l λy hy=>h y (by simp[hy]);show(List.map f (x::l)).sum=0;rw[fj,jB,Z];show 0+sm f l=0;omega
def AN.box(a:AN)(f:Nat->List wK):AN:={a with ib:=f}
def uU.box {a:AN} (h:uU a)(f:Nat->List wK):uU (a.box f):=⟨h.n6,h.c9,h.ds,h.en⟩
def Inv.box {N:Nat} {t:Nat×Nat->Nat} {a:AN} (h:Inv N t a)(f:Nat->List wK):Inv N t (a.box f):=by
 obtain⟨B,Z⟩:=h.own;obtain⟨X,Y⟩:=h.lk;exact⟨h.rN.box f,h.nrm,⟨B,⟨Z.r,Z.f,Z.b,Z.one,Z.ms⟩⟩,⟨X,⟨Y.up,Y.dn⟩⟩,⟨h.fl.gate,h.fl.far,h.fl.kn,h.fl.o⟩⟩
def vX.box {N k:Nat} {T:List (Nat×Nat)} {a:AN} (h:vX N k T a)(f:Nat->List wK):vX N k T (a.box f):=
 ⟨⟨h.env.i.box f,h.env.o,h.env.nl⟩,h.pb,h.pn,h.hh,h.id⟩
def Qw(Z:ll y D 0):Room y:=λc d hc hd=>.inl (Z.Qd c d hc hd)
def C8(hF:kF y)(Z:ll y D 0)(E:k<y.n):jn (y.inbox k)=(jn y).box (kK (jn y).ib k []):=by
 obtain⟨Y,X⟩:∃Y:jQ,Y={y with kA:=kK y.kA k [] }:=⟨_,rfl⟩
 have U:kF Y:=by rw[X];exact⟨hF.q,hF.o⟩
 have V:ll Y D 0:=by
  rw[X];refine⟨Z.n1,Z.n6,Z.c9,Z.en,Z.ds,Z.ms,Z.rn,Z.ok,Z.drop,Z.ol,λj H=> ?_,Z.idle,Z.fit⟩;show(kK y.kA k [] j).length<=D;by_cases e:j=k;{subst e;rw[jd];exact aw _};rw[iw _ _ e];exact Z.ib j H
 have Q:jn (y.inbox k)=jn Y:=by
  have:y.inbox k=Y.gather:=by rw[X];rfl
  rw[this];exact(pJ U V.pI).2 (Qw V)
 rw[Q,X];have M:(y.R k).kA=[] :=eP.1 (Nat.le_zero.1 (Z.fit k E).1);refine AN.ext' rfl rfl rfl rfl rfl rfl rfl ?_;funext i;show kK y.kA k [] i++(y.R i).kA=kK (λi=>y.kA i++(y.R i).kA) k [] i;by_cases e:i=k;{subst e;rw[jd,jd,M];rfl};rw[iw _ _ e,iw _ _ e]
def Y4(X:ll y D 0)(Y:k<y.n):y.kA k=(jn y).ib k:=by
 have Z:(y.R k).kA=[] :=eP.1 (Nat.le_zero.1 (X.fit k Y).1);show y.kA k=y.kA k++(y.R k).kA;rw[Z,aF]
def Fin.inbox {D N k:Nat} {y:jQ} (h:Fin D N k y)(hD:D<=1000000000) {j:Nat} (H:j<y.n):Fin D N k (y.inbox j):=by
 have Y:=h.st;have e:=C8 Y.f Y.ok H;obtain⟨X,V⟩:∃X:jQ,X={y with kA:=kK y.kA j [] }:=⟨_,rfl⟩
 have Z:y.inbox j=X.gather:=by rw[V];rfl
 have Q:kF X:=by rw[V];exact⟨Y.f.q,Y.f.o⟩
 have U:GN X:=by rw[V];exact⟨Y.g.ends,Y.g.off⟩
 have M:pW X:=by rw[V];exact h.s.z.Qp
 have A:(y.inbox j).nc=y.nc:=by rw[Z,(mB X).2.1,V]
 have E:pW (y.inbox j):=by rw[Z];exact vU Q M
 refine⟨⟨Y.ok.inbox fC j,?_,?_,?_,⟨λc d hc hd=> ?_,E⟩⟩,?_,?_⟩;{rw[Z];exact U.gather};{rw[Z];exact Q.gather};{rw[e];exact h.s.s.box _};{rw[e];exact h.s.z.f c d (by rw[<-A];exact hc) hd};{rw[e];exact h.e};rw[e];exact h.o
def l9(y:jQ):Nat->jQ
 |0=>y
 |k+1=>(l9 y k).inbox k
def Fin.boxes {D N k:Nat} {y:jQ} (h:Fin D N k y)(V:D<=1000000000):∀j≤y.n,Fin D N k (l9 y j)/\(l9 y j).n=y.n/\∃f,jn (l9 y j)=(jn y).box f/\(∀i<j,f i=[])/\∀i,j<=i->f i=(jn y).ib i
 |0,_=>⟨h,rfl,_,rfl,λi hi=>absurd hi fC,λ_ _=>rfl⟩
 |j+1,hj=>by
  obtain⟨Z,U,f,Q,M,H⟩:=Fin.boxes h V j fC;have Y:j<(l9 y j).n:=fC;have e:=C8 Z.st.f Z.st.ok Y;have E:((l9 y j).inbox j).n=(l9 y j).n:=congrArg AN.n e;refine⟨Z.inbox V Y,E.trans U,kK f j [],?_,λi hi=> ?_,λi hi=> ?_⟩;{show jn ((l9 y j).inbox j)=_;rw[e,Q];rfl};{by_cases X:i=j;{rw[X,jd]};{rw[iw _ _ X];exact M i fC}};{rw[iw _ _ fC];exact H i fC}
def vX.ajT {z:AN} (E:vX N k T z)(Q:N<1000000)(H:k<=126)(M:∀c d,c<z.nc->d<2->z.e c d∈T)(Y:U1 z) {x:mK} (hc:c<z.nc)(hd:d<2)(hF:z.F c d=x::l):
 (∀j,((z.pop c d x l).R j).K=(z.R j).K)/\U1 (z.pop c d x l):=by
  have Z:∀j,((z.pop c d x l).R j).K=(z.R j).K:=λj=>by
   funext y;obtain g|⟨g1,X,V,u,⟨v,v1,v2⟩,U,_⟩:=E.news Q H M hc hd hF j y;{exact g};rw[Y c d hc hd X V,<-g1]at v1;exact absurd U (E3 v1 v2)
  refine⟨Z,λc' d' A h hi hl=> ?_⟩;show((z.pop c d x l).R (rX z c' d')).K=((z.pop c d x l).R (rX z c' (1-d'))).K;rw[Z,Z];exact Y c' d' A h hi hl
def C7.afV {a m b:AN} (h:C7 N k a m b)(Q:U1 a)(P:AN->Prop)(M:P m)
 (step:∀(z:AN) (c d:Nat) (x:mK) (l:List mK),vX (N+8*(nJ a.n).length) k (nJ a.n) z->(z.n=a.n/\z.nc=a.nc/\z.e=a.e/\z.jU=a.jU)->(∀j,(z.R j).K=(a.R j).K)->c<z.nc->d<2->z.F c d=x::l->P z->P (z.pop c d x l)):
 P b/\∀j,(b.R j).K=(a.R j).K:=by
  have u:(∀j,(m.R j).K=(a.R j).K)/\P m:=⟨λj=>(h.ko j).1,M⟩
  obtain⟨_,⟨H,E⟩,_⟩:=h.keep (λz=>(∀j,(z.R j).K=(a.R j).K)/\P z) u λz c d x l U Y A hc hd hF Z=>by
   have X:U1 z:=λc' d' kY lL hi hl=>by
    have V:∀c d,rX z c d=rX a c d:=λc d=>by unfold rX;rw[Y.2.2.1]
    rw[V,V]at hl⊢;rw[Z.1,Z.1];exact Q c' d' (by rw[<-Y.2.1];exact kY) lL (by rw[<-Y.2.2.2];exact hi) hl
   exact⟨λj=>((U.ajT h.l h.k1 A X hc hd hF).1 j).trans (Z.1 j),step z c d x l U Y Z.1 hc hd hF Z.2⟩
  exact⟨E,H⟩
def afW {y:Nat} (h:Vs es y≠0):((y:Int),Vs es y)∈es:=by
 unfold Vs at h⊢;cases hf:es.find? λe=>e.1==(y:Int)with
 |none=>rw[hf]at h;exact absurd rfl h
 |some e=>
  have Z:=eQ hf;have Y:=dt hf;have X:e.1=(y:Int):=by simpa using Z
  simp only[jC,Option.getD_some];rw[<-X];exact Y
def C9 {many:Int} (hc:nG many L)(jU:Nat->Bool) {a:Nat} (h:oD (m7 m L jU) a b≠0):∃x z,x<m/\z<m/\a=x+1/\b=z+1/\0<oD (m7 m L jU) a b/\∃c,c<L.length/\Jn jU (λc=>(oE L c).e) x z c:=by
 cases Z:m7 m L jU (a:Int)with
 |none=>
  unfold oD at h;rw[Z]at h;exact absurd rfl h
 |some q=>
  have u:1<=(a:Int)/\(a:Int)<=(m:Int)/\q=(1,ti m L jU ((a:Int)-1).toNat):=by
   unfold m7 at Z;split at Z
   ·rename_i e
    exact⟨e.1,e.2,(aL Z).symm⟩
   ·exact absurd Z gZ
  obtain⟨q1,q2,q3⟩:=u;rw[AK Z]at h⊢;rw[q3]at h⊢;simp only at h⊢;have Y:=afW h;generalize Vs (ti m L jU ((a:Int)-1).toNat) b=v at Y⊢;unfold ti at Y;obtain⟨z,j,X⟩:=cD.1 Y;have U:=aU.1 j;split at X
  ·rename_i e
   have V:=aL X;have Q:=congrArg Prod.fst V;have M:=congrArg Prod.snd V;simp only at Q M;have A:=(uD jU (λc=>(oE L c).e) (IK L) ((a:Int)-1).toNat z L.length (λc hcc=>by
    unfold IK;rw[aM,aB hcc];exact(hc.c _ (aO hcc)).1.1)).pos (by
     rintro m ⟨c,hcc,_,rfl⟩;unfold IK;rw[aM,aB hcc];exact(hc.c _ (aO hcc)).1.1)
   obtain⟨_,c,H,E,_⟩:=A.1.1 e;exact⟨((a:Int)-1).toNat,z,fC,U,fC,fC,fC,c,H,E⟩
  ·exact absurd X gZ
def tj {many:Int} (hc:nG many L)(jU:Nat->Bool)(a b:Nat):0<=lp (oD (m7 m L jU)) a b/\lp (oD (m7 m L jU)) a a=0/\(lp (oD (m7 m L jU)) a b≠0->∃x z,x<m/\z<m/\a=x+1/\b=z+1/\∃c,c<L.length/\Jn jU (λc=>(oE L c).e) x z c):=by
 have Z:∀a b,0<=oD (m7 m L jU) a b:=λa b=>by
  by_cases e:oD (m7 m L jU) a b=0;{omega};obtain⟨_,_,_,_,_,_,h,_⟩:=C9 hc jU e;omega
 refine⟨?_,?_,λh=> ?_⟩;{unfold lp;split;{exact Z a b};exact aZ _};{unfold lp;split;{rename_i e;obtain⟨x,z,_,_,e1,Y,_,c,_,M⟩:=C9 (m:=m) hc jU (a:=a) (b:=a) (λY=>by rw[Y]at e;exact absurd e (Int.lt_irrefl 0));exact absurd (by omega:x=z) M.2.1};rfl};unfold lp at h;split at h;{obtain⟨x,z,Z,X,V,U,_,Q⟩:=C9 hc jU h;exact⟨x,z,Z,X,V,U,Q⟩};exact absurd rfl h
inductive Oe(C:l8)(n:Nat):Nat->Nat->Prop
 |here:Oe C n n 0
 |go {v f s:Nat}:v≠n->0<pK C v n->(j1 C v 6 n).qT=(f:Int)->Oe C n f s->Oe C n v (s+1)
def gF(C:l8)(n v:Nat):Int:=if v=n then 0 else pK C v n
def Y5(C:l8)(n v:Nat):Nat:=(gw 7).countP λw=>decide (gF C n w<gF C n v)
def Da {α:Type} (p q:α->Bool)(x:α):∀l:List α,x∈l->(∀y,p y=true->q y=true)->q x=true->p x=false->l.countP p<l.countP q
 |[],hx,_,_,_=>absurd hx gZ
 |y::l,hx,XQ,hq,hp=>by
  have hle:l.countP p<=l.countP q:=List.countP_mono_left λz _ Y=>XQ z Y;rw[jM,jM];obtain e|e:=aS.1 hx;{subst e;rw[hp,hq];simp only[iW,if_false,if_true];omega}
  ·have ih:=Da p q x l e XQ hq hp;cases Z:p y with
   |false=>
    simp only[iW,if_false];split<;>omega
   |true=>
    rw[XQ y Z];simp only[if_true];omega
def Y6 {C:l8} (hC:∀x y,0<=C x y)(hd:∀x,C x x=0)(n:Nat):∀k v,Y5 C n v<=k->v<7->(v=n \/0<pK C v n)->∃s,s<=k/\Oe C n v s
 |k,v,hk,hv,h=>by
  by_cases e:v=n;{exact⟨0,aw _,e▸Oe.here⟩}
  ·have hf:0<pK C v n:=h.resolve_left e;obtain⟨f,f1,f2,f3,Y,X,V⟩:=BP hC hd v n hf;have Q:gF C n f<gF C n v:=by
    unfold gF;rw[af e,V];split;{omega};{omega}
   have lZ:Y5 C n f<Y5 C n v:=by
    refine Da _ _ f _ (aU.2 Y) (λy hy=> ?_) (by simpa using Q) gZ;have:gF C n y<gF C n f:=by simpa using hy
    simp only[decide_eq_true_eq];omega
   cases k with
   |zero=>omega
   |succ k=>
    obtain⟨s,h1,U⟩:=Y6 hC hd n k f fC Y (by
     by_cases Z:f=n;{exact .inl Z}
     ·exact .inr (X Z))
    exact⟨s+1,fC,Oe.go e hf f1 U⟩
def ab4(C:l8)(n v:Nat)(hv:v<7):Y5 C n v<=6:=by
 have:=Da (λw=>decide (gF C n w<gF C n v)) (λ_=>true) v (gw 7) (aU.2 hv) (λ_ _=>rfl) rfl gZ;have e:(gw 7).countP (λ_=>true)=7:=rfl;unfold Y5;omega
def Oe.uniq {v t:Nat} (h:Oe C n v s)(g:Oe C n v t):s=t:=by
 induction h generalizing t with
 |here=>cases g with
  |here=>rfl
  |go Z _ _ _=>exact absurd rfl Z
 |go Z h2 V _ ih=>cases g with
  |here=>exact absurd rfl Z
  |go g1 g2 Y X=>
   rw[V]at Y;have e:=fp Y;subst e;rw[ih X]
def Qx(i:Nat)(a b:UInt8)(s:List UInt8)(Z:(r.P i).L.st=9)(hs:s.length<=20):kP r i (77::a::b::s)=r.send ((a.toNat:Int),(b.toNat:Int),s):=by
 show r.take i 77 (a::b::s)=_;rw[mZ,uW i (a::b::s) fF,af (by rw[Z];simp)];unfold nL;rw[af fF,af fF,af fF,ag rfl];unfold sT;rw[ag ⟨gZ,by simp;omega⟩];rfl
def J7(h:t.1=r.id):(r.send t).kA=r.kA++ [t] /\(r.send t).P=r.P:=by
 unfold jO.send;rw[ag h];exact⟨rfl,rfl⟩
def J8(Y:JR r)(H:t.1≠r.id)(X:1<=t.2.1) {p:HP} (Q:ye (n8 r) t.1=μ p)(U:kQ r.P p.qT r.n=μ i)(V:(r.P i).L.st=9)(hl:t.2.2.length<=20):
 (r.send t).kA=r.kA/\(∀q,q≠i->kh ((r.send t).P q)=[])/\kh ((r.send t).P i)=[77::kI t.1::kI (t.2.1-1)::t.2.2] :=by
  have e:r.send t=r.jW i ((r.P i).put 77 (kI t.1::kI (t.2.1-1)::t.2.2)):=by
   unfold jO.send;rw[af H,ag X,Q];simp only[Option.bind_some,U]
  rw[e];have Z:∀q,kh (r.P q)=[] :=λq=>kx (Y q);refine⟨rfl,λq M=> ?_,?_⟩;{rw[mD,af M,Z]};rw[mD,ag rfl,uV (Y.fr i),Z,af];{rfl};rintro(⟨_,g⟩|g);{exact g V};simp only[List.length_cons]at g;omega
def U8(Z:t.1≠r.id)(h:ye (n8 r) t.1=ν):(r.send t).kA=r.kA/\(r.send t).P=r.P:=by
 have e:r.send t={r with drop:=r.drop+1}:=by
  unfold jO.send;rw[af Z,h];simp only[Option.bind_none,ite_self]
 rw[e];exact⟨rfl,rfl⟩
def vX.best {a:AN} (h:vX N k T a)(hx:x<a.n)(U:kQ (a.R x).P ((z:Int)+1) 3=μ i):∃c d,c<a.nc/\d<2/\a.e c d=(x,i)/\a.jU c=true/\rX a c d=x/\rX a c (1-d)=z/\((a.R x).P i).L.st=9:=by
 obtain⟨b1,b2,b3⟩:=oT U;obtain⟨c,d,hc,hd,Z⟩|Q:=Y1 a x i
 ·have V:nV a c d=((a.R x).P i).pe:=by unfold nV;rw[Z]
  have X:rX a c d=x:=by unfold rX;rw[Z]
  by_cases hl:a.jU c=false \/rX a c d=rX a c (1-d);{have:=(h.pn c d hc hd hl).2;rw[V,b2]at this;exact absurd this fF}
  have hi:a.jU c=true:=by
   cases e:a.jU c with|true=>rfl|false=>exact absurd (.inl e) hl
  have M:rX a c d≠rX a c (1-d):=λe=>hl (.inr e);have hw:=(h.pb c d hc hd hi M).1;rw[V,b3]at hw;have Y:=h.env.o c d hc hd hi;unfold lr at Y;rw[Z]at Y;exact⟨c,d,hc,hd,Z,hi,X,fC,Y⟩
 have:=(h.id x i hx b1 Q).2.2;rw[b2]at this;exact absurd this fF
def vX.Si {a:AN} (h:vX N k T a)(U:YX a x z):∃i,kQ (a.R x).P ((z:Int)+1) 3=μ i:=by
 obtain⟨c,d,hc,hd,hi,Y,X,H⟩:=U;have Q:=(h.env.i.rN.en c d hc hd).2;have Z:=h.pb c d hc hd hi (by rw[Y,X];exact H);unfold nV at Z;have V:(a.e c d).1=x:=Y;rw[V,X]at Z;cases M:kQ (a.R x).P ((z:Int)+1) 3 with|some i=>exact⟨i,rfl⟩|none=>exact absurd ⟨Z.2.1,Z.1⟩ ((AH (a.R x).P ((z:Int)+1) 3).2 M _ Q)
def Hv(Y:JR r)(i:Nat) {x:mK} (hx:qJ x=0):(kP r i x).kA=r.kA:=by
 cases x with
 |nil=>rfl
 |cons c s=>
  have h77:c≠77:=λe=>by subst e;exact absurd hx (by show¬(1:Nat)=0;omega)
  show(r.take i c s).kA=r.kA;rw[mZ];have Z:(lE r i c s).kA=r.kA:=(zi Y i c s).2.2.2.2.2.1;obtain⟨r1,X⟩:=fH (lE r i c s);rw[X]at Z⊢;rw[<-Z];split;{rw[zt]};{unfold nL;split;{split;{rw[zt]};{rfl}};{split;{unfold kj;simp only;split;{rfl};{split;{unfold jO.behind jO.Ag;split<;>rfl};{split<;>rfl}}};{split;{unfold lV;simp only;split<;>rfl};{rfl}}}}
def Y7 {α:Type} (f:α->Nat) {x:α}:∀ {l:List α},x∈l->f x<=sm f l
 |y::l,h=>by
  have e:sm f (y::l)=f y+sm f l:=by unfold sm;rw[fj,jB]
  rw[e];obtain rfl|h:=aS.1 h;{omega};{have:=Y7 f h;omega}
def Y8(G:l8)(tg S:Nat)(tx:List UInt8)(f:Nat->List wK)(z:AN):Prop:=
 z.W qJ<=1/\z.ib=f/\∃c d s,c<z.nc/\d<2/\z.jU c=true/\s<=S/\Oe G (tg+1) (rX z c (1-d)+1) s/\(77::kI ((tg:Int)+1)::kI ((8:Int)-S+s)::tx)∈z.F c d
def NU(tg S:Nat)(tx:List UInt8)(f:Nat->List wK)(z:AN):Prop:=z.W qJ=0/\z.ib=kK f tg (f tg++ [((tg:Int)+1,(8:Int)-S,tx)])
def nT {i:Int} (h:0<=i)(h2:i<=255):(((kI i).toNat:Nat):Int)=i:=by
 unfold kI;first|(rw[UInt8.toNat_ofNat'];omega)|(simp;omega)
def Y9 {f:Nat->List wK} {z:AN} (X:vX N k T z)(ZL:tg<z.n)(hS:S<=6)(Jx:tx.length<=20)
 (hH:∀v<z.n,n8 (z.R v)=mE G (v+1)) (hC:∀x y,0<=G x y) (PE:∀x,G x x=0) (hA:∀v u,G (v+1) (u+1)≠0->v<z.n->YX z v u) (ZV:∀v,G v 0=0)
 {c d:Nat} {x:mK} {l:List mK} (hc:c<z.nc) (hd:d<2) (hF:z.F c d=x::l) (h:Y8 G tg S tx f z \/NU tg S tx f z):Y8 G tg S tx f (z.pop c d x l) \/NU tg S tx f (z.pop c d x l):=by
  have j:=X.env.i.rN;have Z:=X.env.i.nrm;obtain⟨B,hO⟩:=X.env.i.own;have n6:=j.n6;have H:=Ho j Z hc hd hF;have hi:=(j.en c (1-d) hc fC).1;have hE:=Z.emp (z.e c (1-d)).1;have Dw:(z.pop c d x l).ib=kK z.ib (z.e c (1-d)).1 (z.ib (z.e c (1-d)).1++(kP (z.R (z.e c (1-d)).1) (z.e c (1-d)).2 x).kA):=rfl
  have lA:qJ x=0->(z.pop c d x l).ib=z.ib:=λh0=>by
   rw[Dw,Hv hE _ h0,Z.kA,aF,qv]
  obtain⟨h1,Q,c0,d0,s,sy,V,KB,hsS,hR,Y⟩|⟨h1,Q⟩:=h
  ·by_cases hx:qJ x=0
   ·left;refine⟨au H h1,(lA hx).trans Q,c0,d0,s,sy,V,KB,hsS,hR,?_⟩
    have A:(77::kI ((tg:Int)+1)::kI ((8:Int)-S+s)::tx)∈(z.mN c d l).F c0 d0:=by
     rw[td];split;{rename_i e;rw[e.1,e.2,hF]at Y;obtain U|U:=aS.1 Y;{rw[<-U]at hx;exact absurd hx (by show¬(1:Nat)=0;omega)};exact U};exact Y
    unfold AN.pop;rw[uy];split;{exact aA.2 (.inl A)};exact A
   have hx1:1<=qJ x:=fC;have hw:=NA qJ hc hd hF;have si:(z.mN c d l).W qJ=0:=fC
   have E:(77::kI ((tg:Int)+1)::kI ((8:Int)-S+s)::tx)∉(z.mN c d l).F c0 d0:=λA=>by
    have g1:=Y7 qJ A;have g2:=adu (z.mN c d l) (c:=c0) (d:=d0) sy V;have g3:qJ (77::kI ((tg:Int)+1)::kI ((8:Int)-S+s)::tx)=1:=rfl;omega
   rw[td]at E;by_cases Yq:c0=c/\d0=d;(case neg=>rw[af Yq]at E;exact absurd Y E)
   case pos=>
    obtain⟨rfl,rfl⟩:=Yq;rw[ag ⟨rfl,rfl⟩]at E;rw[hF]at Y
    have Uq:x=77::kI ((tg:Int)+1)::kI ((8:Int)-S+s)::tx:=by
     obtain e|e:=aS.1 Y;{exact e.symm};exact absurd e E
    obtain⟨v,hv⟩:=fH ((z.e c0 (1-d0)).1);obtain⟨p,hp⟩:=fH ((z.e c0 (1-d0)).2);have hrv:rX z c0 (1-d0)=v:=hv;rw[hrv]at hR;rw[hv]at hi hE
    have h9:((z.R v).P p).L.st=9:=by
     have:=X.env.o c0 (1-d0) sy fC KB;unfold lr at this;rw[hv,hp]at this;exact this
    have qo:=(hO.r v hi).2.2.2.1;have xK:=(hO.r v hi).2.2.2.2;have ha:(((kI ((tg:Int)+1)).toNat:Nat):Int)=(tg:Int)+1:=nT fC fC;have hb:(((kI ((8:Int)-S+s)).toNat:Nat):Int)=(8:Int)-S+s:=nT fC fC;have ht:=Qx (r:=z.R v) p (kI ((tg:Int)+1)) (kI ((8:Int)-S+s)) tx h9 Jx;rw[ha,hb,<-Uq]at ht
    have xI:z.pop c0 d0 x l=(z.mN c0 d0 l).op v ((z.R v).send ((tg:Int)+1,(8:Int)-S+s,tx)):=by
     unfold AN.pop;rw[hv,hp,ht]
    cases hR with
    |here=>
     right;obtain⟨g1,g2⟩:=J7 (r:=z.R tg) (t:=((tg:Int)+1,(8:Int)-S+(0:Nat),tx)) (by rw[qo]);have hq:∀q,kh (((z.R tg).send ((tg:Int)+1,(8:Int)-S+(0:Nat),tx)).P q)=[] :=λq=>by
      rw[g2];exact kx (hE q)
     constructor;{rw[xI];have:=Yu (a:=z.mN c0 d0 l) (j.same rfl rfl rfl) tg ((z.R tg).send ((tg:Int)+1,(8:Int)-S+(0:Nat),tx)) qJ;rw[hq,hq,hq]at this;have e0:sm qJ ([] :List mK)=0:=rfl;omega}
     ·rw[xI];show kK z.ib tg (z.ib tg++((z.R tg).send _).kA)=_;rw[g1,Z.kA,Q];simp
    |go q1 q2 q3 q4=>
     rename_i f' s'
     left;have Za:=Lc hC (PE (v+1)) (tg+1) fC;rw[ag q2,<-hH v hi]at Za;obtain⟨fn,f1,f2,f3,f4,_,_⟩:=BP hC PE (v+1) (tg+1) q2;have FF:fn=f':=by rw[f1]at q3;exact fp q3
     subst FF;obtain⟨u,hu⟩:∃u,fn=u+1:=by
      cases fn with
      |zero=>rw[ZV]at f2;exact absurd f2 fC
      |succ u=>exact⟨u,rfl⟩
     subst hu;have U9:=hA v u fC hi;obtain⟨i,M⟩:=X.Si U9;obtain⟨c',d',kY,lL,AO,afX,mQ,ue,Yb⟩:=X.best hi M;have WO:(j1 G (v+1) 6 (tg+1)).qT=(u:Int)+1:=by rw[f1];push_cast;rfl
     have e9:ye (n8 (z.R v)) ((tg:Int)+1)=μ (j1 G (v+1) 6 (tg+1)):=by
      have e:((tg+1:Nat):Int)=(tg:Int)+1:=fC;rw[<-e];exact Za
     obtain⟨g1,g2,g3⟩:=J8 (r:=z.R v) hE (t:=((tg:Int)+1,(8:Int)-S+(s'+1:Nat),tx)) (by rw[qo];intro e;exact q1 (by have:(tg:Int)+1=(v:Int)+1:=e;omega)) (by show 1<=(8:Int)-S+(s'+1:Nat);omega) (p:=j1 G (v+1) 6 (tg+1)) e9 (i:=i) (by rw[WO,xK];exact M) Yb Jx;refine⟨au H h1,?_,c',d',s',kY,lL,afX,fC,?_,?_⟩;{rw[xI];show kK z.ib v (z.ib v++((z.R v).send _).kA)=f;rw[g1,Z.kA,aF,qv,Q]};{show Oe G (tg+1) (rX z c' (1-d')+1) s';rw[ue];exact q4}
     ·rw[xI,uy,ag ⟨⟨kY,lL⟩,mQ⟩];refine aA.2 (.inr ?_);have U:((z.mN c0 d0 l).e c' d').2=i:=by rw[yE,AO]
      rw[U,g3];have e3:(8:Int)-S+(s'+1:Nat)-1=(8:Int)-S+s':=fC;simp only[e3,jz]
  right
  have hx:qJ x=0:=by
   have:=NA qJ hc hd hF;omega
  exact⟨fC,(lA hx).trans Q⟩
def vX.send {N k:Nat} {a:AN} (h:vX N k [] a)(hN:N<1000000)(hk:k<=126) {i:Nat} (hi:i<a.n) {t:Int} {tx:List UInt8} (u:1<=t)(h6:t<=6)(hl:tx.length<=20):vX N k [] (a.op i ((a.R i).send (t,8,tx))):=by
 obtain⟨s1,s2,s3,s4,V⟩:=nR (a.R i) (t,8,tx);obtain⟨sn,hs⟩:=fH ((a.R i).send (t,8,tx));have Z:=h.env.i.step (ot.send i t tx hi u h6 hl) hN (λ_=>hk);rw[qC]at Z;have Q:=zj (h.env.i.nrm.emp i) (t,8,tx);rw[hs]at s1 s2 s3 s4 V Z Q⊢
 have M:∀c d,nV (a.op i sn) c d=nV a c d:=λc d=>by
  rw[zR];split;{rename_i e;rw[(V _).2.1];unfold nV;rw[e]};rfl
 have qV:∀c d,lr (a.op i sn) c d=lr a c d:=λc d=>by
  unfold lr;rw[Qc,C5];split;{rename_i e;show(sn.P _).L=_;rw[(V _).2.2,e]};rfl
 have kt:∀p,∀x∈kh (sn.P p),∃s,x=77::s:=λp x hx=>by
  obtain⟨j,E,X⟩:=Q;by_cases e:p=j;{subst e;obtain X|⟨_,X⟩:=X;{rw[X]at hx;exact absurd hx gZ};rw[X]at hx;exact⟨_,by simpa using hx⟩};rw[E p e]at hx;exact absurd hx gZ
 have hF:∀c d,∀x∈(a.op i sn).F c d,x∈a.F c d \/ ∃s,x=77::s:=λc d x hx=>by
  rw[uy]at hx;split at hx;{obtain g|g:=aA.1 hx;{exact .inl g};exact .inr (kt _ x g)};exact .inl hx
 refine⟨⟨Z,λc d hc hd Y=> ?_,λc d hc hd x hx=> ?_⟩,λc d hc hd Y U=> ?_,λc d hc hd Y=> ?_,λc d hc hd Y U x hx hh=> ?_,λj p hj hp mT=> ?_⟩;{rw[qV];exact h.env.o c d hc hd Y};{obtain g|⟨s,g⟩:=hF c d x hx;{exact h.env.nl c d hc hd x g};rw[g];intro c' s' e;have:=(aH e).1;rw[<-this];decide};{rw[M];exact h.pb c d hc hd Y U};{rw[M];exact h.pn c d hc hd Y};{obtain g|⟨s,g⟩:=hF c d x hx;{exact h.hh c d hc hd Y U x g hh};obtain⟨s',A⟩:=hh;rw[A]at g;exact absurd (aH g).1 fF};have H:=h.id j p hj hp mT;rw[C5];split;{rename_i e;subst e;show(sn.P p).L.st=1/\(sn.P p).pe.who=0/\(sn.P p).pe.both=false;rw[(V p).2.1,(V p).2.2];exact H};exact H
def Zb(hc:c<y.nc)(hd:d<2)(X:((y.R ((y.C c).e d).1).P ((y.C c).e d).2).out=[])(Y:vT y c d):(y.C c).on d=((jn y).F c d).flatMap Plain.mW:=by
 obtain⟨r1,ps,Z,V⟩:=Y
 have hf:(jn y).F c d=ps:=by
  show(if c<y.nc/\d<2 then vr y c d else [])=_;rw[ag ⟨hc,hd⟩];unfold vr;rw[r1,Z,rL ps V,kx X];simp
 rw[hf];exact Z
def Va(p:kB)(c:UInt8)(s:List UInt8):(p.put c s).out=p.out \/((c≠76->p.L.st=9)/\(p.put c s).out=p.out++Plain.mW (c::s)/\s.length+1<=60):=by
 unfold kB.put;split;{exact .inl rfl};rename_i h;split;{rename_i Z;refine .inr ⟨λhc=> ?_,rfl,Z⟩;by_cases e:p.L.st=9;{exact e};exact absurd ⟨hc,e⟩ h};exact .inl rfl
def Qy(r:jO)(t:wK)(p:Nat):((r.send t).P p).out=(r.P p).out \/((r.P p).L.st=9/\∃x:mK,x.length<=60/\((r.send t).P p).out=(r.P p).out++Plain.mW x):=by
 unfold jO.send;split;{exact .inl rfl};split;{exact .inl rfl};rename_i i _;rw[mD];split;{rename_i e;subst e;obtain g|⟨g1,Z,Y⟩:=Va (r.P p) 77 (kI t.1::kI (t.2.1-1)::t.2.2);{exact .inl g};exact .inr ⟨g1 fF,_,by simpa using Y,Z⟩};exact .inl rfl
def Fin.sent(h:Fin D N k y)(hD:D<=800000000)(hf:fr<y.n) {t:Int} (h1:1<=t)(h6:t<=6)(hl:tx.length<=20):
 (y.send ((fr:Int)+1) t tx).2=0/\jn (y.send ((fr:Int)+1) t tx).1=(jn y).op fr (((jn y).R fr).send (t,8,tx))/\pW (y.send ((fr:Int)+1) t tx).1/\(y.send ((fr:Int)+1) t tx).1.n=y.n/\(y.send ((fr:Int)+1) t tx).1.nc=y.nc:=by
  have E:=h.st;have H:=E.ok;have hF:=E.f;have j:((fr:Int)+1-1).toNat=fr:=fC;have e:lF (y.R fr) t tx=((y.R fr).send (t,8,tx),0):=by unfold lF;rw[af fC]
  have es:y.send ((fr:Int)+1) t tx=((y.kG fr ((y.R fr).send (t,8,tx))).gather,0):=by
   unfold jQ.send;rw[af fC,j,e,af gZ]
  have A:=(H.RC fC hf t tx).pI;rw[e]at A;have Q:=oV.send (y.R fr).core (t,8,tx);have hr:(y.R fr).send (t,8,tx)=((y.R fr).core.send (t,8,tx)).pat (λp=>((y.R fr).P p).rd) (λp=>((y.R fr).P p).out) (y.R fr).kA:=by rw[<-GV,wF]
  have ho:=Qb hF.o fr hr (Q.frN λ_=>rfl);have X:=hF.kG fr (oV.send (y.R fr) (t,8,tx))
  have u:Room (y.kG fr ((y.R fr).send (t,8,tx))):=λc d hc hd=>by
   have Y:c<y.nc:=hc;have U:=H.Qd c d Y hd;show(((y.kG fr ((y.R fr).send (t,8,tx))).R ((y.C c).e d).1).P ((y.C c).e d).2).out=[] \/((y.C c).jU=true/\((y.C c).on d).length+(((y.kG fr ((y.R fr).send (t,8,tx))).R ((y.C c).e d).1).P ((y.C c).e d).2).out.length<=2000);by_cases V:((y.C c).e d).1=fr
   ·have M:(y.kG fr ((y.R fr).send (t,8,tx))).R ((y.C c).e d).1=(y.R fr).send (t,8,tx):=by rw[V];exact jd _ _ _
    rw[M];rw[V]at U;obtain g|⟨g9,x,gx,g⟩:=Qy (y.R fr) (t,8,tx) ((y.C c).e d).2;{left;rw[g,U]};right;have Z:=(E.g.ends c d Y hd).st;rw[V]at Z
    have hi:(y.C c).jU=true:=by
     cases hi:(y.C c).jU with|true=>rfl|false=>rw[hi]at Z;simp only[iW,if_false]at Z;rw[g9]at Z;exact absurd Z fF
    refine⟨hi,?_⟩
    have zA:(y.C c).on d=[] :=by
     rw[Zb Y hd (H.Qd c d Y hd) (h.s.z.r c d Y hd),h.s.z.f c d Y hd];rfl
    rw[g,U,zA,bU];have:=Je x gx;simp only[List.length_nil];omega
   left;have M:(y.kG fr ((y.R fr).send (t,8,tx))).R ((y.C c).e d).1=y.R ((y.C c).e d).1:=iw _ _ V;rw[M,U]
  have Z:=(pJ X A).2 u;obtain⟨n1,n2,_,_⟩:=mB (y.kG fr ((y.R fr).send (t,8,tx)));refine⟨by rw[es],?_,?_,by rw[es];exact n1,by rw[es];exact n2⟩;{rw[es];show jn (y.kG fr _).gather=_;rw[Z,ho];rfl};rw[es];exact vU X (DU h.s.z.Qp fr (oV.send (y.R fr) (t,8,tx)))
def Zc {a b:AN} (h:zg T a b)(Y:Norm a):b.ib=a.ib:=by
 induction h with|nil=>rfl|snoc i p q hi hp ih=>rename_i c;have Z:Norm c:=q.path.norm Y;rw[<-ih Y];show kK c.ib i (c.ib i++((c.R i).jZ p).kA)=c.ib;rw[U7,Z.kA,aF,qv]
def Zd(X:Int->Bool)(s:List UInt8):qh X (77::s)=0:=by
 have Z:tf (77::s):=λc s' e=>by
  have:=(aH e).1;rw[<-this];decide
 unfold qh;rw[Z.lk];rfl
def Fin.Qz(h:Fin D N k y)(hD:D<=700000000)(hN:N+400<1000000)(hk:k+2<=126)(M:fr<y.n)(htg:tg<y.n)(hS:S<=6)(Jx:tx.length<=20)
 (hH:∀v<y.n,n8 ((jn y).R v)=mE G (v+1)) (hC:∀x y,0<=G x y) (PE:∀x,G x x=0) (hA:∀v u,G (v+1) (u+1)≠0->v<y.n->YX (jn y) v u) (ZV:∀v,G v 0=0) (hR:Oe G (tg+1) (fr+1) S)
 {y2:jQ} (VA:y2=(y.send ((fr:Int)+1) ((tg:Int)+1) tx).1) (hf2:kF y2) (Py:ll y2 (D+1300000) 0):
 (jn y2.round).ib=kK (jn y).ib tg ((jn y).ib tg++ [((tg:Int)+1,(8:Int)-S,tx)]):=by
  have n6:=h.st.ok.n6;obtain⟨_,Z,r2,n2,V⟩:=h.sent (t:=(tg:Int)+1) (tx:=tx) fC M fC fC Jx;rw[<-VA]at Z r2 n2 V;have E:=h.s.s.send fC fC (i:=fr) M (t:=(tg:Int)+1) (tx:=tx) fC fC Jx;rw[<-Z]at E;obtain⟨B,hO⟩:=h.s.s.env.i.own;obtain⟨_,_,_,qo,xK⟩:=hO.r fr M;have hE:=h.s.s.env.i.nrm.emp fr
  have pF:(jn y).W qJ=0:=by
   unfold AN.W;refine E5 _ _ λx hx=> ?_;obtain⟨x1,x2⟩:=qG.1 hx;rw[h.s.z.f x.1 x.2 x1 x2];rfl
  obtain⟨s1,s2,s3,s4,s5⟩:=nR ((jn y).R fr) ((tg:Int)+1,8,tx);have U:=Yu h.s.s.env.i.rN fr (((jn y).R fr).send ((tg:Int)+1,8,tx)) qJ;rw[<-Z,pF]at U;have A:(jn y2).ib=kK (jn y).ib fr ((jn y).ib fr++(((jn y).R fr).send ((tg:Int)+1,8,tx)).kA):=by rw[Z];rfl
  have key:(Y8 G tg S tx (jn y).ib (jn y2) \/NU tg S tx (jn y).ib (jn y2))/\(jn y2).W qJ<=1:=by
   cases hR with
   |here=>
    obtain⟨g1,Y⟩:=J7 (r:=(jn y).R fr) (t:=((fr:Int)+1,8,tx)) (by rw[qo]);have hq:∀q,kh ((((jn y).R fr).send ((fr:Int)+1,8,tx)).P q)=[] :=λq=>by
     rw[Y];exact kx (hE q)
    rw[hq,hq,hq]at U;have e0:sm qJ ([] :List mK)=0:=rfl;have hw:(jn y2).W qJ=0:=fC;refine⟨.inr ⟨hw,?_⟩,fC⟩;rw[A,g1,h.s.s.env.i.nrm.kA];simp
   |go q1 q2 q3 q4=>
    rename_i f' s'
    have Za:=Lc hC (PE (fr+1)) (tg+1) fC;rw[ag q2,<-hH fr M]at Za;obtain⟨fn,f1,f2,f3,f4,_,_⟩:=BP hC PE (fr+1) (tg+1) q2;have FF:fn=f':=by rw[f1]at q3;exact fp q3
    subst FF;obtain⟨u,hu⟩:∃u,fn=u+1:=by
     cases fn with
     |zero=>rw[ZV]at f2;exact absurd f2 fC
     |succ u=>exact⟨u,rfl⟩
    subst hu;have U9:=hA fr u fC M;obtain⟨i,Q⟩:=h.s.s.Si U9;obtain⟨c',d',kY,lL,AO,afX,mQ,ue,Yb⟩:=h.s.s.best M Q;have hi3:=(oT Q).1;have WO:(j1 G (fr+1) 6 (tg+1)).qT=(u:Int)+1:=by rw[f1];push_cast;rfl
    have e9:ye (n8 ((jn y).R fr)) ((tg:Int)+1)=μ (j1 G (fr+1) 6 (tg+1)):=by
     have e:((tg+1:Nat):Int)=(tg:Int)+1:=fC;rw[<-e];exact Za
    obtain⟨g1,Y,g3⟩:=J8 (r:=(jn y).R fr) hE (t:=((tg:Int)+1,8,tx)) (by rw[qo];intro e;exact q1 (by have:(tg:Int)+1=(fr:Int)+1:=e;omega)) (by show 1<=(8:Int);omega) (p:=j1 G (fr+1) 6 (tg+1)) e9 (i:=i) (by rw[WO,xK];exact Q) Yb Jx;have e0:sm qJ ([] :List mK)=0:=rfl;have e1:sm qJ [(77::kI ((tg:Int)+1)::kI ((8:Int)-1)::tx:mK)] =1:=rfl;have hw:(jn y2).W qJ<=1:=by
     have:i=0 \/i=1 \/i=2:=fC;obtain rfl|rfl|rfl:=this;{rw[g3,Y 1 fF,Y 2 fF]at U;simp only at U;omega};{rw[g3,Y 0 fF,Y 2 fF]at U;simp only at U;omega};{rw[g3,Y 0 fF,Y 1 fF]at U;simp only at U;omega}
    refine⟨.inl ⟨hw,?_,c',d',s',by show c'<y2.nc;rw[V];exact kY,lL,?_,fC,?_,?_⟩,hw⟩;{rw[A,g1,h.s.s.env.i.nrm.kA,aF,qv]};{rw[Z];exact afX};{rw[Z];show Oe G (tg+1) (rX (jn y) c' (1-d')+1) s';rw[ue];exact q4}
    ·rw[Z,uy,ag ⟨⟨kY,lL⟩,mQ⟩];refine aA.2 (.inr ?_);have e3:((jn y).e c' d').2=i:=by rw[AO]
     rw[e3,g3];have e4:(8:Int)-(s'+1:Nat)+s'=8-1:=fC;simp only[e4,jz]
  obtain⟨xW,Ca⟩:=key;obtain⟨X,hX⟩:=E.env.i.lk
  have pB:∀c d,c<y2.nc->d<2->sm (qh (X c d)) ((jn y2).F c d)=0:=λc d hc hd=>by
   rw[V]at hc;refine E5 _ _ λx hx=> ?_;rw[Z,uy,h.s.z.f c d hc hd]at hx;split at hx;{rw[bU]at hx;obtain⟨j,g1,Y⟩:=zj hE ((tg:Int)+1,8,tx);by_cases e:((jn y).e c d).2=j;{rw[e]at hx;obtain Y|⟨_,Y⟩:=Y;{rw[Y]at hx;exact absurd hx gZ};rw[Y]at hx;rw[az.1 hx];exact Zd _ _};rw[g1 _ e]at hx;exact absurd hx gZ};exact absurd hx gZ
  obtain⟨m,tk,pp,lz⟩:=yO hf2 Py fC E.env.i fC fC r2 hX pB Ca;obtain⟨nd,len,_⟩:=pZ y2.n;have xC:y2.n<=6:=fC;have hl8:N+8*(nJ (jn y2).n).length<1000000:=by show N+8*(nJ y2.n).length<_;rw[len];omega
  have hr:=C7.of E tk pp hl8 fC
  have aoN:U1 (jn y2):=λc d hc hd hi hl=>by
   have hKs:∀j,((jn y2).R j).K=((jn y).R j).K:=λj=>by
    rw[Z,C5];split;{rename_i e;subst e;exact s1};rfl
   rw[hKs,hKs];have H:(jn y2).e=(jn y).e:=by rw[Z];rfl
   have Pk:(jn y2).jU=(jn y).jU:=by rw[Z];rfl
   unfold rX at hl⊢;rw[H]at hl⊢;exact h.e c d (by show c<y.nc;rw[<-V];exact hc) hd (by rw[<-Pk];exact hi) hl
  have Vq:=Zc tk (r7 y2);have hmw:m.W qJ<=(jn y2).W qJ:=(tk.light E.env.i.rN (r7 y2) (λx=>au (oy nd k x) fC) hX pB).2
  have hPm:Y8 G tg S tx (jn y).ib m \/NU tg S tx (jn y).ib m:=by
   obtain⟨k1,k2,c,d,s,k3,k4,k5,k6,k7,k8⟩|⟨k1,k2⟩:=xW;{left;obtain⟨l,l1,_⟩:=hr.mf c d k3 k4;refine⟨fC,Vq.trans k2,c,d,s,by rw[hr.me.2.1];exact k3,k4,by rw[hr.me.2.2.2];exact k5,k6,?_,by rw[l1];exact aA.2 (.inl k8)⟩;unfold rX at k7⊢;rw[hr.me.2.2.1];exact k7};right;exact⟨fC,Vq.trans k2⟩
  have vj:=(hr.afV aoN (λz=>Y8 G tg S tx (jn y).ib z \/NU tg S tx (jn y).ib z) hPm λz c d x l hz H hK hc hd hF hP=>by
   have RE:z.n=y.n:=by rw[H.1];exact n2
   refine Y9 hz fC hS Jx (λv hv=> ?_) hC PE (λv u hg hv=> ?_) ZV hc hd hF hP
   ·obtain⟨B3,hO3⟩:=hz.env.i.own;have i1:=(hO3.r v hv).2.2.2.1;have i2:=(hO.r v (by show v<y.n;omega)).2.2.2.1;rw[<-hH v fC];unfold n8;rw[i1,i2,hK v];have:((jn y2).R v).K=((jn y).R v).K:=by
     rw[Z,C5];split;{rename_i e;subst e;exact s1};{rfl}
    rw[this]
   ·obtain⟨c3,d3,a1,a2,a3,a4,a5,a6⟩:=hA v u hg fC;have he3:z.e=(jn y).e:=by rw[H.2.2.1,Z];rfl
    have hi3:z.jU=(jn y).jU:=by rw[H.2.2.2,Z];rfl
    unfold rX at a4 a5;refine⟨c3,d3,?_,a2,by rw[hi3];exact a3,by unfold rX;rw[he3];exact a4,by unfold rX;rw[he3];exact a5,a6⟩;rw[H.2.1];show c3<y2.nc;rw[V];exact a1).1
  obtain⟨k1,k2,c,d,s,k3,k4,k5,k6,k7,k8⟩|⟨k1,k2⟩:=vj;{rw[lz.f c d k3 k4]at k8;exact absurd k8 gZ};exact k2
def Fin.nowhere(h:Fin D N k y)(hD:D<=700000000)(hN:N+400<1000000)(hk:k+2<=126)(M:fr<y.n)(htg:tg<y.n)(u:tx.length<=20)
 (kf:tg≠fr) (ZL:ye (n8 ((jn y).R fr)) ((tg:Int)+1)=ν) {y2:jQ} (VA:y2=(y.send ((fr:Int)+1) ((tg:Int)+1) tx).1) (H:kF y2) (Py:ll y2 (D+1300000) 0):
 (jn y2.round).ib=(jn y).ib:=by
  have n6:=h.st.ok.n6;obtain⟨_,U,r2,n2,Z⟩:=h.sent (t:=(tg:Int)+1) (tx:=tx) fC M fC fC u;rw[<-VA]at U r2 n2 Z;have Y:=h.s.s.send fC fC (i:=fr) M (t:=(tg:Int)+1) (tx:=tx) fC fC u;rw[<-U]at Y;obtain⟨B,hO⟩:=h.s.s.env.i.own;have qo:=(hO.r fr M).2.2.2.1;have hE:=h.s.s.env.i.nrm.emp fr;obtain⟨g1,g2⟩:=U8 (r:=(jn y).R fr) (t:=((tg:Int)+1,8,tx)) (by rw[qo];intro e;exact kf (by have:(tg:Int)+1=(fr:Int)+1:=e;omega)) ZL
  have V:∀c d,c<y.nc->d<2->(jn y2).F c d=[] :=λc d hc hd=>by
   rw[U,uy,h.s.z.f c d hc hd];split;{rw[g2,kx (hE _)];rfl};rfl
  have pF:(jn y2).W qJ=0:=by
   unfold AN.W;refine E5 _ _ λx hx=> ?_;obtain⟨x1,x2⟩:=qG.1 hx;rw[V x.1 x.2 (by rw[<-Z];exact x1) x2];rfl
  have Dw:(jn y2).ib=(jn y).ib:=by
   rw[U];show kK (jn y).ib fr ((jn y).ib fr++(((jn y).R fr).send ((tg:Int)+1,8,tx)).kA)=_;rw[g1,h.s.s.env.i.nrm.kA,aF,qv]
  obtain⟨X,j⟩:=Y.env.i.lk
  have pB:∀c d,c<y2.nc->d<2->sm (qh (X c d)) ((jn y2).F c d)=0:=λc d hc hd=>by
   rw[V c d (by rw[<-Z];exact hc) hd];rfl
  obtain⟨m,A,pp,lz⟩:=yO H Py fC Y.env.i fC fC r2 j pB fC;obtain⟨nd,len,_⟩:=pZ y2.n;have E:N+8*(nJ (jn y2).n).length<1000000:=by show N+8*(nJ y2.n).length<_;rw[len];omega
  have hr:=C7.of Y A pp E fC;have Vq:=Zc A (r7 y2);have hmw:m.W qJ<=(jn y2).W qJ:=(A.light Y.env.i.rN (r7 y2) (λx=>au (oy nd k x) fC) j pB).2;exact(hr.keep (λz=>z.W qJ=0/\z.ib=(jn y).ib) ⟨fC,Vq.trans Dw⟩ λz c d x l Q _ _ hc hd hF hP=>by
   have hpm:=Ho Q.env.i.rN Q.env.i.nrm hc hd hF;have hx:qJ x=0:=by
    have:=NA qJ hc hd hF;omega
   refine⟨fC,?_⟩;show kK z.ib (z.e c (1-d)).1 (z.ib (z.e c (1-d)).1++(kP (z.R (z.e c (1-d)).1) (z.e c (1-d)).2 x).kA)=_;rw[Hv (Q.env.i.nrm.emp _) _ hx,Q.env.i.nrm.kA,aF,qv];exact hP.2).2.1.2
def B1(f t:Int)(tx:List UInt8):AV:={(default:AV)with kind:=⟨#[115,101,110,100]⟩,a:=f,b:=t,s:=⟨tx.toArray⟩}
def J9(y:jQ)(f t:Int)(tx:List UInt8):(y.send f t tx).1=uv y (B1 f t tx):=by
 have Z:((B1 f t tx).kind.toList==[112,108,117,103])=false:=by
  show((⟨#[115,101,110,100]⟩:ByteArray).toList==_)=false;decide+kernel
 have Y:((B1 f t tx).kind.toList==[116,105,99,107])=false:=by
  show((⟨#[115,101,110,100]⟩:ByteArray).toList==_)=false;decide+kernel
 have X:((B1 f t tx).kind.toList==[100,101,108,105,118,101,114])=false:=by
  show((⟨#[115,101,110,100]⟩:ByteArray).toList==_)=false;decide+kernel
 have V:((B1 f t tx).kind.toList==[114,101,115,116,97,114,116])=false:=by
  show((⟨#[115,101,110,100]⟩:ByteArray).toList==_)=false;decide+kernel
 have U:((B1 f t tx).kind.toList==[115,101,110,100])=true:=by
  show((⟨#[115,101,110,100]⟩:ByteArray).toList==_)=true;decide+kernel
 unfold uv;rw[Z,Y,X,V,U];simp[B1]
def sK.Qz {m:Nat} {L:List qM} {jU:Nat->Bool} {D N k:Nat} {z:jQ} (h:sK m L jU D N k z)(hc:nG (m:Int) L)(j:D<=700000000)(hN:N+400<1000000)(hk:k+2<=126) {fr tg:Nat} {tx:List UInt8} (Lu:fr<m)(htg:tg<m)(E:tx.length<=20):
 (∃S,S<=6/\Oe (lp (oD (m7 m L jU))) (tg+1) (fr+1) S/\∀i<m,(jn ((l9 z m).send ((fr:Int)+1) ((tg:Int)+1) tx).1.round).ib i=if i=tg then [((tg:Int)+1,(8:Int)-S,tx)]else []) \/
 (tg≠fr/\¬0<pK (lp (oD (m7 m L jU))) (fr+1) (tg+1)/\∀i<m,(jn ((l9 z m).send ((fr:Int)+1) ((tg:Int)+1) tx).1.round).ib i=[]):=by
  have hm:=hc.m;obtain⟨a1,a2,a3,a4,a5⟩:=h.a;obtain⟨hf,hn,f,X,lU,oB⟩:=h.f.boxes fC m (by rw[h.n];exact aj _);obtain⟨y,hy⟩:=fH (l9 z m);rw[hy]at hf hn X⊢;have hyn:y.n=m:=hn.trans h.n;have Z:=hf.st.act fC fC fC (B1 ((fr:Int)+1) ((tg:Int)+1) tx);rw[<-J9]at Z
  have Q:∀v<y.n,n8 ((jn y).R v)=mE (lp (oD (m7 m L jU))) (v+1):=λv hv=>by
   have:=h.aoJ hc (x:=v) fC;rw[<-this,X];rfl
  have hA:∀v u,lp (oD (m7 m L jU)) (v+1) (u+1)≠0->v<y.n->YX (jn y) v u:=λv u hg hv=>by
   obtain⟨x,w,h1,h2,h3,h4,c,h5,h6⟩:=(tj hc jU (v+1) (u+1)).2.2 hg;obtain rfl:v=x:=fC;obtain rfl:u=w:=fC;rw[X];have:Jn (jn z).jU (jn z).e v u c:=by rw[a3,a4];exact h6
   exact this.adj (a:=(jn z).box f) (by show c<(jn z).nc;rw[a2];exact h5)
  obtain⟨G,Y⟩:=fH (lp (oD (m7 m L jU)));have hC:∀x y,0<=G x y:=λa b=>by rw[<-Y];exact(tj hc jU a b).1
  have U:∀x,G x x=0:=λa=>by rw[<-Y];exact(tj hc jU a 0).2.1
  have ZV:∀v,G v 0=0:=λv=>by
   rw[<-Y];by_cases e:lp (oD (m7 m L jU)) v 0=0;{exact e};obtain⟨_,_,_,_,_,e4,_⟩:=(tj hc jU v 0).2.2 e;omega
  rw[Y]at Q hA⊢;have V:∀i<m,(jn y).ib i=[] :=λi hi=>by rw[X];exact lU i hi
  by_cases M:fr+1=tg+1 \/0<pK G (fr+1) (tg+1);{left;obtain⟨S,hS,hR⟩:=Y6 hC U (tg+1) 6 (fr+1) (ab4 G _ _ fC) fC M;refine⟨S,hS,hR,λi hi=> ?_⟩;rw[hf.Qz j hN hk fC fC hS E Q hC U hA ZV hR rfl Z.f Z.ok];by_cases e:i=tg;{subst e;rw[jd,V i hi,ag rfl];rfl};rw[iw _ _ e,V i hi,af e]};right;have kf:tg≠fr:=λe=>M (.inl fC);have A:¬0<pK G (fr+1) (tg+1):=λe=>M (.inr e);refine⟨kf,A,λi hi=> ?_⟩;have H:=Lc hC (U (fr+1)) (tg+1) fC;rw[af A,<-Q fr fC]at H;have e:((tg+1:Nat):Int)=(tg:Int)+1:=fC;rw[e]at H;rw[hf.nowhere j hN hk fC fC E kf H rfl Z.f Z.ok];exact V i hi
def QA(hF:kF y)(j:Nat):kF (y.inbox j):=by
 obtain⟨Z,X⟩:∃Z:jQ,Z={y with kA:=kK y.kA j [] }:=⟨_,rfl⟩
 have Y:y.inbox j=Z.gather:=by rw[X];rfl
 have V:kF Z:=by rw[X];exact⟨hF.q,hF.o⟩
 rw[Y];exact V.gather
def Hw {y:jQ} {D:Nat} (hF:kF y)(X:ll y D 0)(M:D<=1000000000):∀j≤y.n,kF (l9 y j)/\ll (l9 y j) D 0/\(l9 y j).n=y.n/\∀i,j<=i->(jn (l9 y j)).ib i=(jn y).ib i
 |0,_=>⟨hF,X,rfl,λ_ _=>rfl⟩
 |j+1,hj=>by
  obtain⟨Z,Y,U,Q⟩:=Hw hF X M j fC;have V:j<(l9 y j).n:=fC;have e:=C8 Z Y V;have H:((l9 y j).inbox j).n=(l9 y j).n:=congrArg AN.n e;refine⟨QA Z j,Y.inbox fC j,H.trans U,λi hi=> ?_⟩;show(jn ((l9 y j).inbox j)).ib i=_;rw[e];show kK (jn (l9 y j)).ib j [] i=_;rw[iw _ _ fC];exact Q i fC
structure Ze(w wr:fA)(v:Value)(x:Nat)(out:List SV)(Es:Nat->List kS):Prop where
 len:out.length=x
 row:Row wr 3 v x (Mj out)
 own:∀j,v.ownBlock=μ j->w.heap.size<=j
 el:∀j<x,∃s,out[j]? =μ s/\s.own=(j:Int)+1/\s.seq=1/\kc wr s.a s.n (Es j)/\mG s.a s.cap/\s.n<=maxLen/\∀b,fD (σ s.a s.n s.cap)=μ b->w.heap.size<=b/\b<wr.heap.size/\v.ownBlock≠μ b
 ph:fP w wr
def Ze.below {w wr W':fA} {v:Value} {x:Nat} {out:List SV} {Es:Nat->List kS} (h:Ze w wr v x out Es)(Z:fP wr W'):Ze w W' v x out Es:=by
 refine⟨h.len,h.row.below Z,h.own,λj A=> ?_,fQ h.ph Z⟩;obtain⟨s,V,U,Q,M,H,E,Y⟩:=h.el j A;exact⟨s,V,U,Q,M.below Z,H,E,λb X=>⟨(Y b X).1,aq (Y b X).2.1 Z.size,(Y b X).2.2⟩⟩
def Ze.step {W':fA} {v v':Value} {s:SV} (h:Ze w W v x out Es)(H:∀j,v.ownBlock=μ j->j<wr.heap.size)(G:W.grownBy W' v.ownBlock)
 (hr:Row W' 3 v' (x+1) (Mj out++ [ι κ s.own,ι κ s.seq,σ s.a s.n s.cap])) (hv:∀g,v'.ownBlock=μ g->v.ownBlock=μ g \/W.heap.size<=g)
 (h1:s.own=(x:Int)+1) (U:s.seq=1) (ho:kc W s.a s.n (Es x)) (hn:mG s.a s.cap) (hm:s.n<=maxLen) (Q:∀b,fD (σ s.a s.n s.cap)=μ b->w.heap.size<=b/\wr.heap.size<=b/\b<W.heap.size):Ze w W' v' (x+1) (out++ [s]) Es:=by
  have E:∀i<W.heap.size,v.ownBlock≠μ i->W'.heap[i]? =W.heap[i]? :=λi hi U=>G.block i hi (λe=>U e.symm);refine⟨by rw[aG,h.len];rfl,?_,?_,λj A=> ?_,h.ph.grown G h.ph.size h.own⟩;{rw[Ml];exact hr};{intro j A;obtain e|e:=hv j A;{exact h.own j e};exact au h.ph.size e};by_cases e:j=x;{subst e;refine⟨s,by rw[bL (by rw[h.len];exact aj _),h.len,dx];rfl,h1,U,?_,hn,hm,λb M=> ?_⟩;{refine ho.kept (cap:=s.cap) λk X=>E k (Q k X).2.2 (λZ=> ?_);have:=H k Z;have:=(Q k X).2.1;omega};obtain⟨c1,c2,c3⟩:=Q b M;refine⟨c1,aq c3 G.size,λZ=> ?_⟩;obtain Y|Y:=hv b Z;{have:=H b Y;omega};omega};obtain⟨t,u,a2,a3,a4,a5,a6,V⟩:=h.el j fC;refine⟨t,by rw[bT (by rw[h.len];omega)];exact u,a2,a3,?_,a5,a6,λb M=> ?_⟩;{exact a4.kept (cap:=t.cap) λk X=>E k (V k X).2.1 (V k X).2.2};obtain⟨c1,c2,c3⟩:=V b M;refine⟨c1,aq c2 G.size,λZ=> ?_⟩;obtain Y|Y:=hv b Z;{exact c3 Y};omega
def Sj(w:fA)(m:Nat)(Es:Nat->List kS)(e:Ending)(w':fA):Prop:=
 ∃b c S,e=ρ (σ b m c)/\xE w' b m S Es/\(∀j<m,(S j).own=(j:Int)+1/\(S j).seq=1)/\fP w w'
def Ze.done {ao:Option Addr} {cp:Nat} (h:Ze w wr (σ ao n cp) m out Es):n=m/\Sj w m Es (ρ (σ ao n cp)) wr:=by
 have A:n=m:=by
  obtain⟨e,E⟩|⟨g,cap,e,_⟩:=h.row.2;{simp at e;omega};simp at e;omega
 refine⟨A,ao,cp,λj=>out.getD j SV.zero,by rw[A],⟨?_,λj X=> ?_⟩,λj X=> ?_,h.ph⟩
 ·obtain⟨e,E⟩|⟨g,cap,e,_,_,_,hc,_⟩:=h.row.2;{exact .inl E};refine .inr ⟨g,0,by simp at e;exact e.1,λj X=> ?_⟩;obtain⟨s,Z,_⟩:=h.el j X;obtain⟨b1,b2,b3⟩:=Ks out j s Z;have Y:out.getD j SV.zero=s:=by rw[aM,Z];rfl
  rw[Y,aY];exact⟨hc _ _ b1,hc _ _ b2,hc _ _ b3⟩
 ·obtain⟨s,Z,V,U,Q,M,H,u⟩:=h.el j X;have Y:out.getD j SV.zero=s:=by rw[aM,Z];rfl
  rw[Y];exact⟨Q,M,H⟩
 obtain⟨s,Z,V,U,Q,M,H,u⟩:=h.el j X;have Y:out.getD j SV.zero=s:=by rw[aM,Z];rfl
 refine⟨?_,?_⟩;{show(out.getD j SV.zero).own=_;rw[Y,V]};show(out.getD j SV.zero).seq=_;rw[Y,U]
def Zf {many:Int} (h:nG many L)(jU:Nat->Bool)(x z k:Nat)(U:k<L.length):Jn jU (λc=>(oE L c).e) x z k↔jU k=true/\x≠z/\((L[k].a=(x:Int)+1/\L[k].b=(z:Int)+1) \/(L[k].a=(z:Int)+1/\L[k].b=(x:Int)+1)):=by
 obtain⟨_,Q,M⟩:=h.c _ (aO U);have k1:=oK Q;have k2:=oK M;unfold Jn;simp only;rw[vF L k 0 U,vF L k 1 U,ag rfl,af fF];simp only;constructor;{rintro⟨Z,Y,⟨X,V⟩|⟨X,V⟩⟩;{exact⟨Z,Y,.inl ⟨fC,fC⟩⟩};exact⟨Z,Y,.inr ⟨fC,fC⟩⟩};rintro⟨Z,Y,⟨X,V⟩|⟨X,V⟩⟩;{exact⟨Z,Y,.inl ⟨fC,fC⟩⟩};exact⟨Z,Y,.inr ⟨fC,fC⟩⟩
def Zg(h:f k=ν):(gw (k+1)).filterMap f=(gw k).filterMap f:=by
 rw[cE,bW];simp[h]
def Zh {o:kS} (h:f k=μ o):(gw (k+1)).filterMap f=(gw k).filterMap f++ [o] :=by
 rw[cE,bW];simp[h]
def afY(f:Nat->Option kS):∀k,((gw k).filterMap f).length<=k:=λk=>by
 have:=eI f (gw k)
 rwa [eu]at this
def Zi(m:Nat)(a:Option Addr)(n cap g:Nat)(L:List qM)(jU:Nat->Bool)(w:fA)(hL:Bw w a L)(hl:L.length=n)(hc:nG (m:Int) L)(hi:sg w g 0 n (λk=>.bool (jU k))):
 gb gg 45 #[ι κ (m:Int),σ a n cap,σ (μ ⟨g,0,ν⟩) n n] w λe w'=>Sj w m (ti m L jU) e w':=by
  obtain⟨i0,KB,pB,oR,oe⟩:=bu infoState;obtain⟨i9,hi9,aoO,aoP,aoQ⟩:=bu A4;have hm6:=hc.m;have hn9:=hc.l;rw[hl]at hn9
  have Zj:∀W k,fP w W->(hk:k<n)->∃A B M:Int,∃b off,a=μ ⟨b,off,ν⟩/\(∃pa pb:Int,W.cell? ⟨b,off+k*5,ν⟩=μ (ι κ A)/\W.cell? ⟨b,off+k*5+1,ν⟩=μ (ι κ pa)/\W.cell? ⟨b,off+k*5+2,ν⟩=μ (ι κ B)/\W.cell? ⟨b,off+k*5+3,ν⟩=μ (ι κ pb)/\W.cell? ⟨b,off+k*5+4,ν⟩=μ (ι κ M))/\W.cell? ⟨g,k,ν⟩=μ (.bool (jU k))/\∀x z,J3 jU (λc=>(oE L c).e) (IK L) x z (k+1)=if(jU k=true/\x≠z/\((A=(x:Int)+1/\B=(z:Int)+1) \/(A=(z:Int)+1/\B=(x:Int)+1)))/\(J3 jU (λc=>(oE L c).e) (IK L) x z k=0 \/M<J3 jU (λc=>(oE L c).e) (IK L) x z k)then M else J3 jU (λc=>(oE L c).e) (IK L) x z k:=by
   intro W k hW hk;have tU:k<L.length:=fC;obtain⟨b,off,Ez,c0,c1,c2,c3,c4⟩:=(hL.below hW) k tU;have hci:=((hi.below fC hW).cell k hk)
   rw[aY]at hci;refine⟨L[k].a,L[k].b,L[k].m,b,off,Ez,⟨_,_,c0,c1,c2,c3,c4⟩,hci,λx z=> ?_⟩;show(if Jn jU (λc=>(oE L c).e) x z k/\_ then IK L k else _)=_
   have H9:IK L k=L[k].m:=by
    unfold IK;rw[aM,aB tU];rfl
   rw[H9];refine ite_congr (propext ⟨λh=>⟨(Zf hc jU x z k tU).1 h.1,h.2⟩,λh=>⟨(Zf hc jU x z k tU).2 h.1,h.2⟩⟩) (λ_=>rfl) (λ_=>rfl)
  obtain⟨ls,hls⟩:∃ls:Nat->Nat->Nat->Int,ls=J3 jU (λc=>(oE L c).e) (IK L):=⟨_,rfl⟩
  obtain⟨F,hF⟩:∃F:Nat->Nat->Option kS,F=λx z=>if 0<ls x z n then μ ((z:Int)+1,ls x z n)else ν:=⟨_,rfl⟩
  obtain⟨Es,hEs⟩:∃Es:Nat->List kS,Es=ti m L jU:=⟨_,rfl⟩
  have hE2:∀x,Es x=(gw m).filterMap (F x):=λx=>by rw[hEs,hF,hls,<-hl];rfl
  have ajY:∀x z,ls x z 0=0:=λx z=>by rw[hls];rfl
  have rm:∀x z,0<=ls x z n:=λx z=>by
   rw[hls,<-hl];refine((uD jU _ (IK L) x z L.length ?_).pos ?_).2
   all_goals
    have hp:∀c<L.length,1<=IK L c:=λc hcc=>by
     unfold IK;rw[aM,aB hcc];exact(hc.c _ (aO hcc)).1.1
    (first|exact hp|(rintro m ⟨c,hcc,_,rfl⟩;exact hp c hcc))
  rw[<-hEs];simp only[<-hls]at Zj;have HRd:Hid _:=Zj;have HE2:Hid _:=hE2;have HF:Hid _:=hF;have HLS:Hid _:=ajY;have aoS:Hid _:=rm;clear Zj hE2 hF ajY rm hls hEs hL hc hi hl;go_in;go_wp2;go_loopw [7,8] (λv i wr=>∃(x:Nat) (ao:Option Addr) (k cp:Nat) (out:List SV),x<=m/\v=σ ao k cp/\i=ι κ ((x:Int)+1)/\Ze w wr (σ ao k cp) x out Es) (λ_ i _=>m+1-(gj i).toNat);(case atStart=>exact⟨0,ν,0,0,[],aw _,rfl,rfl,⟨rfl,Row.nil w 3,λj hj=>oL hj,λj hj=>absurd hj fC,aC _ _⟩⟩)
  case round=>
   obtain⟨x,ao,k0,cp,out,hx,rfl,rfl,hI⟩:=hrel;obtain⟨W1,rfl⟩:∃W1,W1=wr:=⟨_,rfl⟩
   have HI:Hid _:=hI;clear hI;by_cases YP:x<m;(case neg=>have zD:¬(x:Int)+1<=(m:Int):=fC;obtain rfl:x=m:=fC;obtain⟨rfl,hP⟩:=HI.out.done;have HP:Hid (Sj w k0 Es (ρ (σ ao k0 cp)) W1):=hP;clear hP;go_wp2_with fail;refine aN (v:=σ ao k0 cp) (by simp[results,Tryz.results45,go_sem]) rfl ?_;exact HP.out)
   case pos=>
    have lZ:(x:Int)+1<=(m:Int):=fC;obtain⟨W2,oW⟩:=fH (W1.alloc (γ #[ι κ ((x:Int)+1),ι κ 1,σ ν 0 0] 40));have WY:Hid _:=oW;obtain⟨S,hS⟩:=fH (W1.heap.size);have HS:Hid _:=hS
    have yV:Hid (j2 W2 S #[ι κ ((x:Int)+1),ι κ 1,σ ν 0 0] 40/\fP W1 W2):=by
     rw[<-oW,<-hS];exact⟨j2.new W1 _ _,gu _ _⟩
    clear oW hS;go_wp2_with fail;(try rw[WY.out]);(try rw[HS.out]);go_wp2;go_loopw [10] (λi wr=>∃(z:Nat) (Q:Option Addr) (Z H:Nat),z<=m/\i=ι κ ((z:Int)+1)/\j2 wr S #[ι κ ((x:Int)+1),ι κ 1,σ Q Z H] 40/\Row wr 2 (σ Q Z H) Z (jX ((gw z).filterMap (F x)))/\(∀j,fD (σ Q Z H)=μ j->S<j)/\fP W1 wr) (λi _=>m+1-(gj i).toNat);(case atStart=>exact⟨0,ν,0,0,aw _,rfl,yV.out.1,by simpa[jX]using Row.nil W2 2,λj hj=>by simp[fD]at hj,yV.out.2⟩)
    case round=>
     obtain⟨z,Q,Z,H,hz,rfl,rS,j0,ku,jS⟩:=hrel;obtain⟨W3,rfl⟩:∃W3,W3=wr:=⟨_,rfl⟩
     have HBl:Hid (j2 W3 S #[ι κ ((x:Int)+1),ι κ 1,σ Q Z H] 40):=rS;have FX:Hid (Row W3 2 (σ Q Z H) Z (jX ((gw z).filterMap (F x)))):=j0;have Cw:Hid _:=ku;have NW:Hid _:=jS
     have hke:Z<=z:=by
      have u:=j0.1;rw[m9]at u;have:=afY (F x) z;omega
     clear rS j0 ku jS;by_cases hzm:z<m
     case neg=>
      have zD:¬(z:Int)+1<=(m:Int):=fC;obtain rfl:z=m:=fC;have c0:W3.cell? ⟨S,0,ν⟩=μ (ι κ ((x:Int)+1)):=HBl.out.cell 0;have c1:W3.cell? ⟨S,1,ν⟩=μ (ι κ 1):=HBl.out.cell 1;have c2:W3.cell? ⟨S,2,ν⟩=μ (σ Q Z H):=HBl.out.cell 2;have fz0:=HBl.out.frozen 0;have sl:=HBl.out.lt;have uN:Row W3 3 (σ ao k0 cp) x (Mj out):=HI.out.row.below NW.out
      have IV:x=k0:=by
       obtain⟨e,h0⟩|⟨g,cap,e,_⟩:=uN.2;{simp at e;omega};simp at e;omega
      subst IV;go_wp2_with(at_builtin;go_must(refine jN _ rfl (.tmp 91) (.tmp 93) 91 rfl 40 i0 (.agg #[ι κ 0,ι κ 0,σ ν 0 0]) 3 40 Tryz.underlying91 KB pB oR oe rfl fF (σ ao x cp) x (Mj out) rfl (uN.alloc _) _ 1 1 [ι κ ((x:Int)+1),ι κ 1,σ Q Z H] rfl rfl fF (Di _ _ _ _ _ _ gZ) (Wt _ _ _ _ _) (by unfold maxLen;omega) fC ?_));intro g' kE w9 H7 hg9 NY
      have lz:Ze w w9 (σ (μ ⟨g',0,ν⟩) (x+1) kE) (x+1) (out++ [⟨(x:Int)+1,1,Q,Z,H⟩]) Es:=by
       have Iq:fP W3 (W3.alloc (γ #[ι κ ((x:Int)+1),ι κ 1,σ Q Z H] 40)):=gu _ _;refine Ze.step (s:=⟨(x:Int)+1,1,Q,Z,H⟩) (wr:=W1) ((HI.out.below NW.out).below Iq) (λj hj=>HI.out.row.lt j hj) hg9 H7 ?_ rfl rfl ?_ ?_ ?_ ?_
       ·intro g hg;have:g'=g:=by simpa[fD]using hg
        subst this;obtain e|e:=NY;{exact .inl e};exact .inr (au (dB gZ) e)
       {have:=FX.out.opts;rw[<-HE2.out x]at this;exact this.below Iq};{intro e;obtain⟨e2,_⟩|⟨g,cap,e2,_⟩:=FX.out.2;{simp at e2;exact e2.2.2};simp only[Value.slice.injEq]at e2;rw[e2.1]at e;exact absurd e gZ};{show Z<=maxLen;unfold maxLen;omega};intro b hb;have u:=Cw.out b hb;have h2:=FX.out.lt b hb;have h3:=HI.out.ph.size;have h4:=HS.out;exact⟨fC,fC,aq h2 Iq.size⟩
      have Y:Hid _:=lz;clear lz H7 hg9 NY;go_wp2;go_roundw;(case rel=>exact⟨x+1,_,_,kE,_,fC,rfl,by go_num,Y.out⟩);case measure=>simp[gj];omega
     case pos=>
      have hzl:(z:Int)+1<=(m:Int):=fC;have HW3:Hid (fP w W3):=fQ HI.out.ph NW.out;go_wp2;go_loopw [11,12] (λl i wr=>∃k:Nat,k<=n/\l=ι κ (ls x z k)/\i=ι κ k/\fP W3 wr) (λ_ i _=>n-(gj i).toNat);(case atStart=>exact⟨0,aw _,by rw[HLS.out],rfl,aC _ _⟩)
      case round=>
       obtain⟨k,hk,rfl,rfl,hb4⟩:=hrel;obtain⟨W4,rfl⟩:∃W4,W4=wr:=⟨_,rfl⟩
       have HB4:Hid _:=hb4;clear hb4;by_cases Cj:k<n
       case pos=>
        have ahu:(k:Int)<(n:Int):=fC;have IV:(0:Int)<=(k:Int):=fC;obtain⟨A,B,M,b,off,rfl,⟨pa,pb,c0,c1,c2,c3,c4⟩,ci,lz⟩:=HRd.out W4 k (fQ HW3.out HB4.out) Cj;have bl:=ai _ _ c0;have gl:=ai _ _ ci;have Y:Hid (ls x z (k+1)=if(jU k=true/\x≠z/\((A=(x:Int)+1/\B=(z:Int)+1) \/(A=(z:Int)+1/\B=(x:Int)+1)))/\(ls x z k=0 \/M<ls x z k)then M else ls x z k):=lz x z;clear lz;have Iq:=λo=>gu W4 o;obtain⟨l1,Kg⟩:=fH (ls x z (k+1));have Zk:Hid _:=Kg;rw[Kg]at Y;clear Kg;obtain⟨V,xR⟩:=fH (ls x z k);rw[xR]at Y⊢;clear xR;have Pj:Hid (∀o,fP W3 (W4.alloc o)):=λo=>fQ HB4.out (Iq o);clear Iq;cases X:jU k
        case false=>
         rw[X]at ci;have U:Hid (l1=V):=by show _=_;rw[Y.out,af (λh=>by obtain⟨⟨q1,q2,q3⟩,q4⟩:=h;first|exact absurd q1 fF|exact absurd (X.symm.trans q1) fF|omega)]
         clear Y;go_wp2;go_roundw;(case rel=>exact⟨k+1,fC,by rw[Zk.out,U.out],by go_num,Pj.out _⟩);case measure=>simp[gj];omega
        case true=>
         rw[X]at ci;by_cases E:x≠z
         case neg=>
          have Uq:(z:Int)+1=(x:Int)+1:=fC;have U:Hid (l1=V):=by show _=_;rw[Y.out,af (λh=>by obtain⟨⟨q1,q2,q3⟩,q4⟩:=h;first|exact absurd q1 fF|exact absurd (X.symm.trans q1) fF|omega)]
          clear Y;go_wp2;go_roundw;(case rel=>exact⟨k+1,fC,by rw[Zk.out,U.out],by go_num,Pj.out _⟩);case measure=>simp[gj];omega
         case pos=>
          have Uq:¬(z:Int)+1=(x:Int)+1:=fC;by_cases u:A=(x:Int)+1
          case pos=>
           by_cases h2:B=(z:Int)+1
           case pos=>
            by_cases Hx:V=0
            case pos=>
             have U:Hid (l1=M):=by show _=_;rw[Y.out,ag (by first|exact⟨⟨X,E,.inl ⟨u,h2⟩⟩,.inl Hx⟩|exact⟨⟨X,E,.inl ⟨u,h2⟩⟩,.inr Ca⟩|exact⟨⟨X,E,.inr ⟨h3,h4⟩⟩,.inl Hx⟩|exact⟨⟨X,E,.inr ⟨h3,h4⟩⟩,.inr Ca⟩)]
             clear Y;go_wp2;go_roundw;(case rel=>exact⟨k+1,fC,by rw[Zk.out,U.out],by go_num,Pj.out _⟩);case measure=>simp[gj];omega
            case neg=>
             have oe:(V==0)=false:=by simpa using Hx
             have Ob:((z:Int)+1 !=(x:Int)+1)=true:=by simp;omega
             by_cases Ca:M<V
             case pos=>
              have U:Hid (l1=M):=by show _=_;rw[Y.out,ag (by first|exact⟨⟨X,E,.inl ⟨u,h2⟩⟩,.inl Hx⟩|exact⟨⟨X,E,.inl ⟨u,h2⟩⟩,.inr Ca⟩|exact⟨⟨X,E,.inr ⟨h3,h4⟩⟩,.inl Hx⟩|exact⟨⟨X,E,.inr ⟨h3,h4⟩⟩,.inr Ca⟩)]
              clear Y;go_wp2;go_roundw;(case rel=>exact⟨k+1,fC,by rw[Zk.out,U.out],by go_num,Pj.out _⟩);case measure=>simp[gj];omega
             case neg=>
              have aoT:decide (M<V)=false:=by simpa using Ca
              have U:Hid (l1=V):=by show _=_;rw[Y.out,af (λh=>by obtain⟨⟨q1,q2,q3⟩,q4⟩:=h;first|exact absurd q1 fF|exact absurd (X.symm.trans q1) fF|omega)]
              clear Y;go_wp2;go_roundw;(case rel=>exact⟨k+1,fC,by rw[Zk.out,U.out],by go_num,Pj.out _⟩);case measure=>simp[gj];omega
           case neg=>
            have h3:¬A=(z:Int)+1:=fC;have U:Hid (l1=V):=by show _=_;rw[Y.out,af (λh=>by obtain⟨⟨q1,q2,q3⟩,q4⟩:=h;first|exact absurd q1 fF|exact absurd (X.symm.trans q1) fF|omega)]
            clear Y;go_wp2;go_roundw;(case rel=>exact⟨k+1,fC,by rw[Zk.out,U.out],by go_num,Pj.out _⟩);case measure=>simp[gj];omega
          case neg=>
           by_cases h3:A=(z:Int)+1
           case pos=>
            by_cases h4:B=(x:Int)+1
            case pos=>
             by_cases Hx:V=0
             case pos=>
              have U:Hid (l1=M):=by show _=_;rw[Y.out,ag (by first|exact⟨⟨X,E,.inl ⟨u,h2⟩⟩,.inl Hx⟩|exact⟨⟨X,E,.inl ⟨u,h2⟩⟩,.inr Ca⟩|exact⟨⟨X,E,.inr ⟨h3,h4⟩⟩,.inl Hx⟩|exact⟨⟨X,E,.inr ⟨h3,h4⟩⟩,.inr Ca⟩)]
              clear Y;go_wp2;go_roundw;(case rel=>exact⟨k+1,fC,by rw[Zk.out,U.out],by go_num,Pj.out _⟩);case measure=>simp[gj];omega
             case neg=>
              have oe:(V==0)=false:=by simpa using Hx
              have Ob:((z:Int)+1 !=(x:Int)+1)=true:=by simp;omega
              by_cases Ca:M<V
              case pos=>
               have U:Hid (l1=M):=by show _=_;rw[Y.out,ag (by first|exact⟨⟨X,E,.inl ⟨u,h2⟩⟩,.inl Hx⟩|exact⟨⟨X,E,.inl ⟨u,h2⟩⟩,.inr Ca⟩|exact⟨⟨X,E,.inr ⟨h3,h4⟩⟩,.inl Hx⟩|exact⟨⟨X,E,.inr ⟨h3,h4⟩⟩,.inr Ca⟩)]
               clear Y;go_wp2;go_roundw;(case rel=>exact⟨k+1,fC,by rw[Zk.out,U.out],by go_num,Pj.out _⟩);case measure=>simp[gj];omega
              case neg=>
               have aoT:decide (M<V)=false:=by simpa using Ca
               have U:Hid (l1=V):=by show _=_;rw[Y.out,af (λh=>by obtain⟨⟨q1,q2,q3⟩,q4⟩:=h;first|exact absurd q1 fF|exact absurd (X.symm.trans q1) fF|omega)]
               clear Y;go_wp2;go_roundw;(case rel=>exact⟨k+1,fC,by rw[Zk.out,U.out],by go_num,Pj.out _⟩);case measure=>simp[gj];omega
            case neg=>
             have U:Hid (l1=V):=by show _=_;rw[Y.out,af (λh=>by obtain⟨⟨q1,q2,q3⟩,q4⟩:=h;first|exact absurd q1 fF|exact absurd (X.symm.trans q1) fF|omega)]
             clear Y;go_wp2;go_roundw;(case rel=>exact⟨k+1,fC,by rw[Zk.out,U.out],by go_num,Pj.out _⟩);case measure=>simp[gj];omega
           case neg=>
            have U:Hid (l1=V):=by show _=_;rw[Y.out,af (λh=>by obtain⟨⟨q1,q2,q3⟩,q4⟩:=h;first|exact absurd q1 fF|exact absurd (X.symm.trans q1) fF|omega)]
            clear Y;go_wp2;go_roundw;(case rel=>exact⟨k+1,fC,by rw[Zk.out,U.out],by go_num,Pj.out _⟩);case measure=>simp[gj];omega
       case neg=>
        have zD:¬(k:Int)<(n:Int):=fC;obtain rfl:k=n:=fC;have hp:=aoS.out x z;have QB:j2 W4 S #[ι κ ((x:Int)+1),ι κ 1,σ Q Z H] 40:=HBl.out.below HB4.out;have Sk:=FX.out.below HB4.out;have aoU:Hid (j2 W4 S #[ι κ ((x:Int)+1),ι κ 1,σ Q Z H] 40):=QB;have Zl:Hid (fP W1 W4):=fQ NW.out HB4.out;have HFx:Hid (F x z=if 0<ls x z k then μ ((z:Int)+1,ls x z k)else ν):=by show _=_;rw[HF.out]
        generalize ls x z k=V at HFx hp⊢;by_cases hl:V=0;{subst hl;have HN:Hid ((gw (z+1)).filterMap (F x)=(gw z).filterMap (F x)):=Zg (by rw[HFx.out];rfl);have aj0:Hid (Row W4 2 (σ Q Z H) Z (jX ((gw z).filterMap (F x)))):=Sk;clear Sk QB;go_wp2;go_roundw;(case rel=>exact⟨z+1,Q,Z,H,fC,by go_num,aoU.out,by rw[HN.out];exact aj0.out,Cw.out,Zl.out⟩);case measure=>simp[gj];omega};have Kg:0<V:=fC;have HN:Hid ((gw (z+1)).filterMap (F x)=(gw z).filterMap (F x)++ [((z:Int)+1,V)]):=Zh (by rw[HFx.out,ag Kg]);have c2:W4.cell? ⟨S,2,ν⟩=μ (σ Q Z H):=QB.cell 2;have f2:=QB.frozen 2;have sl:=QB.lt;go_wp2_with(at_builtin;go_must(refine jN _ rfl (.tmp 84) (.tmp 88) 38 rfl 123 i9 (.agg #[ι κ 0,ι κ 0]) 2 16 Tryz.underlying38 hi9 aoO aoP aoQ rfl fF (σ Q Z H) Z (jX ((gw z).filterMap (F x))) rfl (Sk.alloc _) _ 1 1 [ι κ ((z:Int)+1),ι κ V] rfl rfl fF (oQ _ _ _ _ _ gZ) (nC _ _ _ _) (by unfold maxLen;omega) fC ?_));intro g' kE w9 H7 hg9 NY;rw[show [ι .i64 ((z:Int)+1),ι .i64 V] =[ι .i64 (((z:Int)+1,V):kS).1,ι .i64 (((z:Int)+1,V):kS).2]from rfl,<-nZ,<-HN.out]at H7;have Iq:=gu W4 (γ #[ι κ ((z:Int)+1),ι κ V] 123);have hS9:¬fD (σ Q Z H)=μ S:=λe=>absurd (Cw.out S e) fC
        have Zm:j2 w9 S #[ι κ ((x:Int)+1),ι κ 1,σ Q Z H] 40:=by
         have u:=QB.below Iq;unfold j2 at u⊢;rw[hg9.block S (aq sl Iq.size) (λe=>hS9 e.symm)];exact u
        have hSW:=HS.out;have adz:fP W1 w9:=(fQ Zl.out Iq).grown hg9 (au Zl.out.size Iq.size) (λj hj=>by have:=Cw.out j hj;omega)
        have hgn:S<g':=by
         obtain e|e:=NY;{exact Cw.out g' e};have:=Iq.size;omega
        have HJ:=Zm.set 2 (σ (μ ⟨g',0,ν⟩) (Z+1) kE);have aoW:Hid (j2 (w9.setCell ⟨S,2,ν⟩ (σ (μ ⟨g',0,ν⟩) (Z+1) kE)) S #[ι κ ((x:Int)+1),ι κ 1,σ (μ ⟨g',0,ν⟩) (Z+1) kE] 40):=HJ
        have aj1:Hid (Row (w9.setCell ⟨S,2,ν⟩ (σ (μ ⟨g',0,ν⟩) (Z+1) kE)) 2 (σ (μ ⟨g',0,ν⟩) (Z+1) kE) (Z+1) (jX ((gw (z+1)).filterMap (F x)))):=by
         refine H7.keep gZ λj hj=> ?_;have:g'=j:=by simpa[fD]using hj
         exact ax _ _ _ _ (by show j≠S;omega)
        have aj2:Hid (fP W1 (w9.setCell ⟨S,2,ν⟩ (σ (μ ⟨g',0,ν⟩) (Z+1) kE))):=adz.setCell (p:=⟨S,2,ν⟩) (by show W1.heap.size<=S;omega) _;have d2:w9.cell? ⟨S,2,ν⟩=μ (σ Q Z H):=Zm.cell 2;have e2:=Zm.frozen 2;have sl9:=Zm.lt;clear H7 hg9 NY HJ adz Zm Iq Sk QB hS9;go_wp2;go_roundw;(case rel=>exact⟨z+1,_,Z+1,kE,fC,by go_num,aoW.out,aj1.out,λj hj=>mc (B:=S+1) hgn hj,aj2.out⟩);case measure=>simp[gj];omega
def Vb(C:l8)(r:Nat):(mE C r).length<=7:=tM _ _
def sK.lists {z:jQ} (h:sK m L jU D N k z)(hc:nG (m:Int) L) {S:Nat->SV} (hS:∀j<m,(S j).own=(j:Int)+1/\(S j).seq=1):xt (m7 m L jU) m S (ti m L jU):=by
 have hm:=hc.m;refine⟨λj Z=>⟨?_,?_⟩,λj Z=> ?_,λk hk hs=> ?_,λi j hij Z=> ?_⟩;{rw[(hS j Z).1];unfold vm;omega};{rw[(hS j Z).1,(hS j Z).2];unfold m7;rw[ag ⟨fC,fC⟩];have:((j:Int)+1-1).toNat=j:=fC;rw[this]};{rw[(hS j Z).1,(hS j Z).2,h.ajS hc Z];obtain⟨B,Y⟩:=h.f.s.s.env.i.own;obtain⟨_,X,_,V,_⟩:=Y.r j (by rw[h.a.1];exact Z);have:=Bq X (seq:=1) ⟨fC,fC⟩;rw[V]at this;exact(congrArg _ (D4 (z.R j)).symm).trans this};{unfold m7 at hs;split at hs;{rename_i e;exact⟨(k-1).toNat,fC,by rw[(hS (k-1).toNat fC).1];omega⟩};exact absurd hs gZ};rw[(hS i fC).1,(hS j Z).1];omega
def QC(hc:nG (m:Int) L)(V:Nat->AV) {n2:Nat} (h40:n2<=40):sK m L (λx=>((sJ (la m L) V n2).C x).jU) (1300000*n2+1300000*45) (2+144*n2+144*45) (n2+7) (nW (sJ (la m L) V n2) 45):=by
 have Y:Wh m L 0 2 0 (la m L):=by
  have:=Wh.new hc (D:=0);rw[bI]at this;exact this
 have Z:=Y.Y2 V n2 fC fC fC;rw[aY,aY]at Z;exact Z.settled fC fC fC
def Sl(l:List HP)(n:Int):Nat->Int
 |0=>0
 |i+1=>if(l.getD i HP.zero).dst=n then(l.getD i HP.zero).qT else Sl l n i
def ab6(hC:∀x y,0<=C x y) {r:Nat} (hd:C r r=0) {h:HP} (Z:h∈mE C r)(Y:h.dst=(n:Int)):h=j1 C r 6 n/\0<pK C r n:=by
 obtain⟨k,_,k2,k3⟩:=(yI C r h).1 Z;rw[k2,(uX hC hd k k3).1]at Y;obtain rfl:k=n:=fC;exact⟨k2,k3⟩
def Sm {C:l8} (hC:∀x y,0<=C x y) {r:Nat} (hd:C r r=0)(n:Nat):∀i,i<=(mE C r).length->(Sl (mE C r) n i=0/\∀j (h:j<(mE C r).length),j<i->(mE C r)[j].dst≠(n:Int)) \/(Sl (mE C r) n i=(j1 C r 6 n).qT/\0<pK C r n)
 |0,_=>.inl ⟨rfl,λj _ h=>absurd h (Nat.not_lt_zero _)⟩
 |i+1,hi=>by
  have ih:=Sm hC hd n i fC;have V:(mE C r).getD i HP.zero=(mE C r)[i]'(by omega):=by
   rw[aM,aB fC];rfl
  have e:Sl (mE C r) n (i+1)=if((mE C r)[i]'(by omega)).dst=(n:Int)then((mE C r)[i]'(by omega)).qT else Sl (mE C r) n i:=by
   show(if((mE C r).getD i HP.zero).dst=(n:Int)then((mE C r).getD i HP.zero).qT else _)=_;rw[V]
  rw[e];by_cases h:((mE C r)[i]'(by omega)).dst=(n:Int)
  {rw[ag h];obtain⟨Y,X⟩:=ab6 hC hd (aO fC) h;exact .inr ⟨by rw[Y],X⟩};{rw[af h];obtain⟨a,b⟩|a:=ih;{refine .inl ⟨a,λj U hji=> ?_⟩;by_cases Z:j=i;{subst Z;exact h};{exact b j U fC}};{exact .inr a}}
def ab7(hC:∀x y,0<=C x y) {r:Nat} (hd:C r r=0)(X:n<7):Sl (mE C r) n (mE C r).length=if 0<pK C r n then(j1 C r 6 n).qT else 0:=by
 obtain⟨a,b⟩|⟨a,b⟩:=Sm hC hd n _ (aj _);{rw[a];by_cases h:0<pK C r n;{have Y:=(yI C r (j1 C r 6 n)).2 ⟨n,X,rfl,h⟩;obtain⟨j,Z,e⟩:=List.mem_iff_getElem.1 Y;exact absurd (by rw[e];exact(uX hC hd n h).1) (b j Z Z)};rw[af h]};rw[ag b,a]
def Vc(G:l8)(fr tg S v s:Nat)(yes:Bool):Prop:=if yes=true then∃r,Oe G (tg+1) v r/\s+r=S else v=fr+1/\s=0
structure Zn(m:Nat)(G:l8)(fr tg S:Nat)(yes:Bool)(tx:List UInt8)(y3:jQ):Prop where
 s6:S<=6
 go:Vc G fr tg S (fr+1) 0 yes
 no:yes=false->tg≠fr/\¬0<pK G (fr+1) (tg+1)
 box:∀x<m,(l9 y3 x).kA x=if yes=true/\x=tg then [((tg:Int)+1,(8:Int)-S,tx)]else []
 pos:∀a b,0<=G a b
 dia:∀a,G a a=0
 adj:∀v u,G v u≠0->∃x,x<m/\u=x+1
def sK.ab8 {z:jQ} (h:sK m L jU D N k z)(hc:nG (m:Int) L)(hD:D<=700000000)(hN:N+400<1000000)(hk:k+2<=126)(Lu:fr<m)(V:tg<m)(Jx:tx.length<=20):
 ∃S yes,Zn m (lp (oD (m7 m L jU))) fr tg S yes tx ((l9 z m).send ((fr:Int)+1) ((tg:Int)+1) tx).1.round:=by
  have hm:=hc.m;have E:=h.Qz hc hD hN hk Lu V Jx;obtain⟨hf,hn,f,hb,lU,oB⟩:=h.f.boxes fC m (by rw[h.n];exact aj _);have Y:=(hf.st.act fC fC fC (B1 ((fr:Int)+1) ((tg:Int)+1) tx)).round fC fC fC;rw[<-J9]at Y
  have Q:((l9 z m).send ((fr:Int)+1) ((tg:Int)+1) tx).1.round.n=m:=by
   rw[(mC _).1,(CP _ _ _ _).1,hn,h.n]
  obtain⟨y3,U⟩:=fH (((l9 z m).send ((fr:Int)+1) ((tg:Int)+1) tx).1.round);rw[U]at E Y Q⊢
  have j:∀x<m,(l9 y3 x).kA x=(jn y3).ib x:=λx hx=>by
   obtain⟨_,g2,g3,g4⟩:=Hw Y.f Y.ok fC x fC;rw[Y4 g2 (k:=x) fC];exact g4 x (aj _)
  have M:∀v u,lp (oD (m7 m L jU)) v u≠0->∃x,x<m/\u=x+1:=λv u hg=>by
   obtain⟨x,w,H,X,h3,h4,_⟩:=(tj hc jU v u).2.2 hg;exact⟨w,X,h4⟩
  have A:∀a b,0<=lp (oD (m7 m L jU)) a b:=λa b=>(tj hc jU a b).1;have Z:∀a,lp (oD (m7 m L jU)) a a=0:=λa=>(tj hc jU a 0).2.1;obtain⟨S,hS,hR,hi⟩|⟨H,X,hi⟩:=E;{refine⟨S,true,hS,?_,(λe=>by cases e),λx hx=> ?_,A,Z,M⟩;{unfold Vc;rw[ag rfl];exact⟨S,hR,aY _⟩};rw[j x hx,hi x hx];simp};refine⟨0,false,aw _,?_,λ_=>⟨H,X⟩,λx hx=> ?_,A,Z,M⟩;{unfold Vc;rw[af fF];exact⟨rfl,rfl⟩};rw[j x hx,hi x hx,af (λe=>by cases e.1)]
def Zn.next(h:Zn m G fr tg S yes tx y3) {v:Nat} (hv:Vc G fr tg S v s yes)(Y:v≠tg+1):
 (0<pK G v (tg+1)/\∃u,u<m/\(j1 G v 6 (tg+1)).qT=((u:Int)+1)/\Vc G fr tg S (u+1) (s+1) yes/\s+1<=6) \/(¬0<pK G v (tg+1)/\yes=false):=by
  unfold Vc at hv;cases yes with
  |false=>
   rw[af fF]at hv;rw[hv.1];exact .inr ⟨(h.no rfl).2,rfl⟩
  |true=>
   rw[ag rfl]at hv;obtain⟨r,Z,hs⟩:=hv;cases Z with
   |here=>exact absurd rfl Y
   | @go _ f r a b c d=>
     refine .inl ⟨b,?_⟩;obtain⟨f',g1,g2,_⟩:=BP h.pos h.dia v (tg+1) b;obtain rfl:f=f':=by rw[g1]at c;omega
     obtain⟨u,hu,rfl⟩:=h.adj v f fC;have:=h.s6;exact⟨u,hu,by rw[c];omega,by unfold Vc;rw[ag rfl];exact⟨r,d,fC⟩,fC⟩
def Zn.come(h:Zn m G fr tg S yes tx y3)(hv:Vc G fr tg S (tg+1) s yes):yes=true/\s=S:=by
 unfold Vc at hv;cases yes with|false=>rw[af fF]at hv;exact absurd (by omega:tg=fr) (h.no rfl).1|true=>rw[ag rfl]at hv;obtain⟨r,Z,hs⟩:=hv;have:=Z.uniq Oe.here;exact⟨rfl,fC⟩
def Vd {f t:Nat} (hf:f<y.n)(ht:t<6)(Jx:tx.length<=20):(y.send ((f:Int)+1) ((t:Int)+1) tx).2=0:=by
 unfold jQ.send
 have e:(lF (y.R ((f:Int)+1-1).toNat) ((t:Int)+1) tx).2=0:=by
  unfold lF;rw[af fC]
 rw[af fC,e];simp
def QD(W:fA)(m:Nat)(sb:Option Addr)(sc:Nat)(G:l8):Prop:=∀x<m,∀V,fP W V->gb gg 48 #[σ sb m sc,ι κ ((x:Int)+1)] V λe w2=>∃b c,e=ρ (σ b (mE G (x+1)).length c)/\Ti w2 b (mE G (x+1)).length (mE G (x+1))/\fP V w2
def sK.aj4 {W2:fA} {z:jQ} {sb:Option Addr} {sc:Nat} {S:Nat->SV} (h:sK m L jU D N k z)(hc:nG (m:Int) L)(hS:∀j<m,(S j).own=(j:Int)+1/\(S j).seq=1)(U:xE W2 sb m S (ti m L jU)):QD W2 m sb sc (lp (oD (m7 m L jU))):=by
 intro x hx V X;have hm:=hc.m;have hl:=h.lists hc hS;have hh:=UO sb m sc S (ti m L jU) (x+1) V (U.below X) fC hl.ok fC fC
 have Y:ZJ (m7 m L jU):=λy hy=>by
  unfold m7 at hy;split at hy;{omega};exact absurd hy gZ
 rw[xt.ahG hl Y]at hh;have Z:((x+1:Nat):Int)=(x:Int)+1:=fC;rw[Z]at hh;exact hh
def QE(many:Int)(a:Option Addr)(n cap:Nat)(L:List qM)(a2:Option Addr)(U cap2:Nat)(V:Nat->AV)(E:Nat->List kS)(fr tg:Int)(tx:ByteArray)(w:fA)(hL:Bw w a L)(hl:L.length=n)(hn:n<=maxLen)(hA:FC w a2 U V E)(hT:kd w):
 gb gg 7 #[ι κ many,σ a n cap,σ a2 U cap2,ι κ fr,ι κ tg,.string tx] w λe w'=>e=ρ (.bool true)/\fP w w':=by
  have hw:=UJ w hT;have EI:∀W,fP w W->gb gg 43 #[ι κ many,σ a n cap,σ a2 U cap2] W λe w'=>adh W many L U V e w':=λW hb=>
   Qk many a n cap L a2 U cap2 V E W (hL.below hb) hl hn (hA.below hb) (kd.below (w:=w) hT hb)
  have HT:Hid (kd w):=hT;have HL:Hid _:=hl;have HC:Hid (Bw w a L):=hL;clear hL hA hT hl;go_in;go_wp2_with fail;refine hw.mono ?_;rintro e w1 ⟨rfl,lU⟩;have hp:=EI w1 lU;have Dl:Hid _:=lU;clear hw EI lU;go_wp2_with fail;refine hp.mono ?_;rintro e w2 hP;clear hp;obtain⟨rfl,oB⟩|⟨h0,h40,N,g,rfl,hI⟩:=hP;{have yV:Hid (fP w w2):=fQ Dl.out oB;clear oB;go_wp2;go_ret;exact⟨rfl,yV.out⟩};have yV:Hid (fP w w2):=fQ Dl.out hI.ph;by_cases Vu:fr<1;{clear hI h0;go_wp2;go_ret;exact⟨rfl,yV.out⟩};by_cases hf2:fr>many;{clear hI h0;go_wp2;go_ret;exact⟨rfl,yV.out⟩};by_cases ht1:tg<1;{clear hI h0;go_wp2;go_ret;exact⟨rfl,yV.out⟩};by_cases ht2:tg>many;{clear hI h0;go_wp2;go_ret;exact⟨rfl,yV.out⟩};by_cases Jx:(tx.size:Int)>20;{clear hI h0;go_wp2;go_ret;exact⟨rfl,yV.out⟩};have Ve:=xb h0;have xP:=Ve.m;obtain⟨m,rfl⟩:∃m:Nat,many=(m:Int):=⟨many.toNat,fC⟩
  obtain⟨f0,rfl⟩:∃f0:Nat,fr=(f0:Int)+1:=⟨(fr-1).toNat,fC⟩
  obtain⟨Z,rfl⟩:∃Z:Nat,tg=(Z:Int)+1:=⟨(tg-1).toNat,fC⟩
  rw[bI]at hI;have OM:=QC Ve V h40;have hAt:=hI.at_;have j0:=hI.row;have QY:=hI.g0;obtain⟨Y,hY⟩:=fH (sJ (la m L) V U);rw[hY]at OM hAt j0;have ZH:kd w1:=kd.below (w:=w) HT.out Dl.out;have lz:=Qu hAt ZH fC;obtain⟨z,hz⟩:=fH (nW Y 45);rw[hz]at lz OM
  have Zz:tx.data.toList.length<=20:=by
   have e:tx.data.toList.length=tx.size:=by rw[dQ];rfl
   omega
  obtain⟨S,yes,ab9⟩:=OM.ab8 Ve fC fC fC (fr:=f0) (tg:=Z) (tx:=tx.data.toList) fC fC Zz;obtain⟨y3,hy3⟩:=fH (((l9 z m).send ((f0:Int)+1) ((Z:Int)+1) tx.data.toList).1.round);rw[hy3]at ab9;obtain⟨G,hG⟩:=fH (lp (oD (m7 m L λx=>(Y.C x).jU)));rw[hG]at ab9
  have HRh:Hid (∀W sb sc S,(∀j<m,(S j).own=(j:Int)+1/\(S j).seq=1)->xE W sb m S (ti m L λx=>(Y.C x).jU)->QD W m sb sc G):=λW sb sc S X h2=>by
   rw[<-hG];exact OM.aj4 Ve X h2
  have QF:Hid _:=ab9
  have aj5:Hid (∀W,fP w W->W.heap[g]? =w2.heap[g]?->gb gg 45 #[ι κ (m:Int),σ a n cap,σ (μ ⟨g,0,ν⟩) n n] W λe w'=>Sj W m (ti m L λx=>(Y.C x).jU) e w'):=by
   intro W hb hg;have h3:=j0.keep hg;rw[HL.out]at h3;exact Zi m a n cap g L (λx=>(Y.C x).jU) W (HC.out.below hb) HL.out Ve h3
  have HT1:Hid (kd w1):=ZH;have HY3:Hid _:=hy3;have HN:Hid (U<=40/\w1.heap.size<=g/\m<=6/\1<=m/\f0<m/\Z<m/\tx.data.toList.length<=20):=⟨h40,QY,fC,fC,fC,fC,Zz⟩
  rw[HL.out];clear hI h0 Ve OM hAt j0 hY ZH hz QY hy3 hG ab9 Zz;go_wp2_with fail;refine lz.mono ?_;rintro e w3 ⟨rfl,hA3,Aa⟩;have HA3:Hid (xh w1 N (λb=>b=g) m L.length (U+45) z w3):=hA3;have W8:Hid (w3.heap[g]? =w2.heap[g]?):=Aa g rfl;clear lz hA3 Aa;go_wp2;go_loopw [16] (λiv wr=>∃x:Nat,x<=m/\iv=ι κ ((x:Int)+1)/\xh w1 N (λb=>b=g) m L.length (U+45) (l9 z x) wr/\wr.heap[g]? =w2.heap[g]?) (λiv _=>m+1-(gj iv).toNat);(case atStart=>exact⟨0,aw _,rfl,HA3.out,W8.out⟩)
  case round=>
   obtain⟨x,hx,rfl,hAx,ZI⟩:=hrel;obtain⟨V0,rfl⟩:∃V0,V0=wr:=⟨_,rfl⟩
   clear HA3 W8;by_cases lZ:x<m;(case pos=>have pE:(x:Int)+1<=(m:Int):=fC;have X:=hAx.inbox fC lZ;have HGx:Hid _:=ZI;clear hAx ZI;go_wp2_with fail;refine X.mono ?_;rintro e w5 ⟨v,rfl,Mg,hv5,hA5,hX5⟩;have HA5:Hid (xh w1 N (λb=>b=g) m L.length (U+45) (l9 z (x+1)) w5):=hA5;have Iu:Hid (w5.heap[g]? =w2.heap[g]?):=(hX5 g rfl).trans HGx.out;clear X Mg hv5 hA5 hX5;go_wp2;go_roundw;(case rel=>exact⟨x+1,fC,by go_num,HA5.out,Iu.out⟩);case measure=>simp[gj];omega)
   case neg=>
    have zD:¬(x:Int)+1<=(m:Int):=fC;obtain rfl:x=m:=fC;have ZN:=hAx.send fC ((f0:Int)+1) ((Z:Int)+1) tx;rw[Vd (by have:=hAx.2.2.2.1;have:=HN.out;omega) (by have:=HN.out;omega) HN.out.2.2.2.2.2.2]at ZN;have e0:kr 0=η:=rfl;rw[e0]at ZN;have HGx:Hid _:=ZI;clear hAx ZI e0;go_wp2_with fail;refine ZN.mono ?_;rintro e w4 ⟨rfl,hA4,hX4⟩;have Vy:=hA4.round HT1.out fC;rw[HY3.out]at Vy;have HG4:Hid (w4.heap[g]? =w2.heap[g]?):=(hX4 g rfl).trans HGx.out;clear ZN hA4 hX4;go_wp2_with fail;refine Vy.mono ?_;rintro e w5 ⟨rfl,hA5,hX5⟩;have HA5:Hid (xh w1 N (λb=>b=g) x L.length (U+45+1+1) y3 w5):=hA5;have Jj:Hid (fP w w5):=fQ Dl.out hA5.1.ph;have hlv:=aj5.out w5 Jj.out ((hX5 g rfl).trans HG4.out);clear Vy hA5 hX5;go_wp2_with fail;refine hlv.mono ?_;rintro e w6 ⟨sb,sc,Sv,rfl,aj8,hSo,hb6⟩;have HRP:Hid (QD w6 x sb sc G):=HRh.out w6 sb sc Sv hSo aj8;have HA6:Hid (xh w1 N (λb=>b=g) x L.length (U+45+1+1) y3 w6):=HA5.out.still hb6;clear hlv aj8 hSo hb6 HA5;have hm9:x<=6:=HN.out.2.2.1;have hf9:=HN.out.2.2.2.2.1;have ht9:=HN.out.2.2.2.2.2.1;go_wp2;go_loopw [20,21] (λav sv wr=>∃(v s:Nat),v<x/\s<=6/\av=ι κ ((v:Int)+1)/\sv=ι κ s/\Vc G f0 Z S (v+1) s yes/\fP w6 wr) (λ_ sv _=>7-(gj sv).toNat);(case atStart=>exact⟨f0,0,hf9,aw _,rfl,rfl,QF.out.go,aC _ _⟩)
    case round=>
     obtain⟨v,s,hv,hs,rfl,rfl,zA,Vp⟩:=hrel;obtain⟨V1,rfl⟩:∃V1,V1=wr:=⟨_,rfl⟩
     have HB7:Hid _:=Vp;have HOn:Hid (Vc G f0 Z S (v+1) s yes):=zA;by_cases hvt:v=Z
     case pos=>
      subst hvt;obtain⟨ZT,hsS⟩:=QF.out.come zA;subst ZT hsS;have HA7:Hid (xh w1 N (λb=>b=g) x L.length (U+45+1+1) y3 V1):=HA6.out.still HB7.out
      have Zo:∀y<x,(l9 y3 y).kA y=if y=v then [((v:Int)+1,(8:Int)-s,tx.data.toList)]else [] :=λy hy=>by
       rw[QF.out.box y hy];by_cases e:y=v;{rw[ag ⟨rfl,e⟩,ag e]};rw[af (λh=>e h.2),af e]
      have afZ:Hid _:=Zo;clear zA Vp Zo;go_wp2;go_loopw [25] (λiv wr=>∃y:Nat,y<=x/\iv=ι κ ((y:Int)+1)/\xh w1 N (λb=>b=g) x L.length (U+45+1+1) (l9 y3 y) wr) (λiv _=>x+1-(gj iv).toNat);(case atStart=>exact⟨0,aw _,rfl,HA7.out⟩)
      case round=>
       obtain⟨y,hy,rfl,Q⟩:=hrel;obtain⟨V3,rfl⟩:∃V3,V3=wr:=⟨_,rfl⟩
       by_cases hyx:y<x;(case neg=>have air:¬(y:Int)+1<=(x:Int):=fC;have NW:Hid (fP w V3):=fQ Dl.out Q.1.ph;clear Q;go_wp2;go_ret;exact⟨rfl,NW.out⟩)
       case pos=>
        have aoZ:(y:Int)+1<=(x:Int):=fC;have X:=Q.inbox fC hyx;rw[afZ.out y hyx]at X;clear Q;by_cases hyv:y=v
        case neg=>
         rw[af hyv]at X;have ao0:¬(y:Int)+1=(v:Int)+1:=fC;have ao1:((y:Int)+1 !=(v:Int)+1)=true:=by simp;omega
         go_wp2_with fail;refine X.mono ?_;rintro e w9 ⟨v9,rfl,M,hv9,hA9,A⟩;have H:Hid (xh w1 N (λb=>b=g) x L.length (U+45+1+1) (l9 y3 (y+1)) w9):=hA9;obtain⟨ao,cp,rfl⟩:=Row.shape M;clear X M hv9 hA9 A;go_wp2;go_roundw;(case rel=>exact⟨y+1,fC,by go_num,H.out⟩);case measure=>simp[gj];omega
        case pos=>
         subst hyv;rw[ag rfl]at X;go_wp2_with fail;refine X.mono ?_;rintro e w9 ⟨v9,rfl,M,hv9,hA9,A⟩;have H:Hid (xh w1 N (λb=>b=g) x L.length (U+45+1+1) (l9 y3 (y+1)) w9):=hA9;obtain⟨ao,cp,rfl⟩:=Row.shape M
         obtain⟨gm,rfl⟩:∃gm,ao=μ ⟨gm,0,ν⟩:=by
          obtain⟨X,h2⟩|⟨gm,cap,X,_⟩:=M.2;{simp at h2};injection X with h2;exact⟨gm,h2⟩
         have c0:w9.cell? ⟨gm,0,ν⟩=μ (ι κ ((y:Int)+1)):=Row.cell M 0 _ rfl;have c1:w9.cell? ⟨gm,1,ν⟩=μ (ι κ ((8:Int)-s)):=Row.cell M 1 _ rfl;have c2:w9.cell? ⟨gm,2,ν⟩=μ (.string ⟨tx.data.toList.toArray⟩):=Row.cell M 2 _ rfl;have etx:(⟨tx.data.toList.toArray⟩:ByteArray)=tx:=rfl;rw[etx]at c2;have gl:=ai _ _ c0;have hw8:κ.wrap ((8:Int)-s)=(8:Int)-s:=bg _ ⟨fC,fC⟩;clear X M hv9 hA9 A etx;go_wp2;go_roundw;(case rel=>exact⟨y+1,fC,by go_num,H.out⟩);case measure=>simp[gj];omega
     case neg=>
      have aun:¬(v:Int)+1=(Z:Int)+1:=fC;have auo:((v:Int)+1 !=(Z:Int)+1)=true:=by simp;omega
      have hh:=HRP.out v hv V1 Vp;have adA:=QF.out.next zA fC;have sS:=ab7 QF.out.pos (QF.out.dia (v+1)) (r:=v+1) (n:=Z+1) fC;have xT:=Vb G (v+1);obtain⟨l,hle⟩:=fH (mE G (v+1));rw[hle]at hh sS xT;have et:((Z+1:Nat):Int)=(Z:Int)+1:=fC;rw[et]at sS
      have HNx:Hid ((Sl l ((Z:Int)+1) l.length=0/\yes=false) \/ ∃u,u<x/\Sl l ((Z:Int)+1) l.length=(u:Int)+1/\Vc G f0 Z S (u+1) (s+1) yes/\s+1<=6):=by
       obtain⟨p,u,hu,e,ho,h6⟩|⟨p,e⟩:=adA;{exact .inr ⟨u,hu,by rw[sS,ag p];exact e,ho,h6⟩};exact .inl ⟨by rw[sS,af p],e⟩
      clear zA Vp adA sS hle et;go_wp2_with fail;refine hh.mono ?_;rintro e w8 ⟨hb,hc,rfl,hH8,hb8⟩;have HH8:Hid _:=hH8;have HB8:Hid (fP w6 w8):=fQ HB7.out hb8;clear hh hH8 hb8;go_wp2;go_loopw [22,24] (λnv iv wr=>∃i:Nat,i<=l.length/\nv=ι κ (Sl l ((Z:Int)+1) i)/\iv=ι κ i/\fP w8 wr) (λ_ iv _=>l.length-(gj iv).toNat);(case atStart=>exact⟨0,aw _,rfl,rfl,aC _ _⟩)
      case round=>
       obtain⟨i,hi,rfl,rfl,hb9⟩:=hrel;obtain⟨V2,rfl⟩:∃V2,V2=wr:=⟨_,rfl⟩
       have HB9:Hid _:=hb9;by_cases hil:i<l.length
       case pos=>
        have aur:(i:Int)<(l.length:Int):=fC;have KB:(0:Int)<=(i:Int):=fC;have hHr:=HH8.out.below hb9
        obtain⟨bb,off,rfl,adB⟩:∃bb off,hb=μ ⟨bb,off,ν⟩/\∀j s,l[j]? =μ s->V2.cell? ⟨bb,off+j*3,ν⟩=μ (ι κ s.dst)/\V2.cell? ⟨bb,off+j*3+1,ν⟩=μ (ι κ s.far)/\V2.cell? ⟨bb,off+j*3+2,ν⟩=μ (ι κ s.qT):=by
         obtain h2|⟨b,off,e,h2⟩:=hHr.row;{omega};exact⟨b,off,e,h2⟩
        obtain⟨c0,c1,c2⟩:=adB i (l[i]) (aB hil);have gl:=ai _ _ c0;have hwi:κ.wrap ((i:Int)+1)=(i:Int)+1:=bg _ ⟨fC,fC⟩
        have wX:Hid (Sl l ((Z:Int)+1) (i+1)=if(l[i]).dst=(Z:Int)+1 then(l[i]).qT else Sl l ((Z:Int)+1) i):=by
         show(if(l.getD i HP.zero).dst=_ then(l.getD i HP.zero).qT else _)=_;rw[aM,aB hil];rfl
        generalize l[i] =q at c0 c1 c2 wX;obtain⟨qd,qf,qn⟩:=q;simp only at c0 c1 c2;clear hb9 hHr adB;by_cases hq:qd=(Z:Int)+1
        case pos=>
         have HE:Hid (Sl l ((Z:Int)+1) (i+1)=qn):=by show _=_;rw[wX.out,ag hq]
         go_wp2;go_roundw;(case rel=>exact⟨i+1,fC,by rw[HE.out],by go_num,HB9.out⟩);case measure=>simp[gj];omega
        case neg=>
         have HE:Hid (Sl l ((Z:Int)+1) (i+1)=Sl l ((Z:Int)+1) i):=by show _=_;rw[wX.out,af hq]
         go_wp2;go_roundw;(case rel=>exact⟨i+1,fC,by rw[HE.out],by go_num,HB9.out⟩);case measure=>simp[gj];omega
       case neg=>
        have ae2:¬(i:Int)<(l.length:Int):=fC;obtain rfl:i=l.length:=fC;have HBv:Hid (fP w6 V2):=fQ HB8.out HB9.out;clear hb9;obtain⟨pB,ZT⟩|⟨u,hu,hnu,Iv,h6⟩:=HNx.out
        ·rw[pB];subst ZT;have HA7:Hid (xh w1 N (λb=>b=g) x L.length (U+45+1+1) y3 V2):=HA6.out.still HBv.out
         have Zo:∀y<x,(l9 y3 y).kA y=[] :=λy hy=>by
          rw[QF.out.box y hy,af (λh=>by cases h.1)]
         have afZ:Hid _:=Zo;clear pB Zo;go_wp2;go_loopw [25] (λiv wr=>∃y:Nat,y<=x/\iv=ι κ ((y:Int)+1)/\xh w1 N (λb=>b=g) x L.length (U+45+1+1) (l9 y3 y) wr) (λiv _=>x+1-(gj iv).toNat);(case atStart=>exact⟨0,aw _,rfl,HA7.out⟩)
         case round=>
          obtain⟨y,hy,rfl,Q⟩:=hrel;obtain⟨V3,rfl⟩:∃V3,V3=wr:=⟨_,rfl⟩
          by_cases hyx:y<x;(case neg=>have air:¬(y:Int)+1<=(x:Int):=fC;have NW:Hid (fP w V3):=fQ Dl.out Q.1.ph;clear Q;go_wp2;go_ret;exact⟨rfl,NW.out⟩)
          case pos=>
           have aoZ:(y:Int)+1<=(x:Int):=fC;have X:=Q.inbox fC hyx;rw[afZ.out y hyx]at X;clear Q;by_cases hyt:y=Z
           case neg=>
            have ao0:¬(y:Int)+1=(Z:Int)+1:=fC;have ao1:((y:Int)+1 !=(Z:Int)+1)=true:=by simp;omega
            go_wp2_with fail;refine X.mono ?_;rintro e w9 ⟨v9,rfl,M,hv9,hA9,A⟩;have H:Hid (xh w1 N (λb=>b=g) x L.length (U+45+1+1) (l9 y3 (y+1)) w9):=hA9;obtain⟨ao,cp,rfl⟩:=Row.shape M;clear X M hv9 hA9 A;go_wp2;go_roundw;(case rel=>exact⟨y+1,fC,by go_num,H.out⟩);case measure=>simp[gj];omega
           case pos=>subst hyt;go_wp2_with fail;refine X.mono ?_;rintro e w9 ⟨v9,rfl,M,hv9,hA9,A⟩;have H:Hid (xh w1 N (λb=>b=g) x L.length (U+45+1+1) (l9 y3 (y+1)) w9):=hA9;obtain⟨ao,cp,rfl⟩:=Row.shape M;clear X M hv9 hA9 A;go_wp2;go_roundw;(case rel=>exact⟨y+1,fC,by go_num,H.out⟩);case measure=>simp[gj];omega
        rw[hnu];have hu0:¬(u:Int)+1=0:=fC;have hs6:¬(s:Int)+1>6:=fC;have HOu:Hid (Vc G f0 Z S (u+1) (s+1) yes):=Iv;clear hnu Iv;go_wp2;go_roundw;(case rel=>exact⟨u,s+1,hu,h6,rfl,by go_num,HOu.out,HBv.out⟩);case measure=>simp[gj];omega
