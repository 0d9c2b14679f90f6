import Derived.Test.YtieklnlbljejdaaGreatDoorS08
open Go.Value renaming int → ι, slice → σ, pointer → π, tuple → τ, nilIface → η, bool → iO, ownBlock → eD
open Go.IntKind renaming i64 → κ
open Go.Ending renaming returned → ρ
open Go.Obj renaming cells → γ
open Option renaming none → ν, some → μ
open List renaming range → ft, find?_some → iN
open Go renaming World → ew, Value → eA, Calls → fc, Addr → eh
open Go.Proofs.Tryz renaming prog → fe
open Go.RowKit renaming intOf → fh
open Go.Instr renaming makeSlice → il
set_option maxRecDepth 100000
set_option maxHeartbeats 16000000
open Go.Proofs.Tryz
namespace Go.Proofs.YtieklnlbljejdaaGreatDoor
open Go.RowKit St
namespace Rt
variable {A:Nat->AN} {C X:Nat->Prop} {D J N c d g i j k m n nc x z:Nat} {Es:Nat->List jQ} {F K:Int->Option PS} {L:List pz} {S:List (Int×List UInt8)} {T:List (Nat×Nat)} {V:Nat->AV} {W W' w w' w0 wr:World} {b:AN} {e:Ending} {es:List jQ} {f:Nat->Option jQ} {l:List lD} {o q:PS} {out:List SV} {p:HP} {r:iW} {v y:Int}
def rX(a:AN)(c d:Nat):Nat:=(a.e c d).1
structure AR(N k:Nat)(T:List (Nat×Nat))(a:AN):Prop where
 env:Env N k a
 pb:∀c d,c<a.nc->d<2->a.jc c=true->rX a c d≠rX a c (1-d)->(mZ a c d).who=(rX a c (1-d):Int)+1/\(mZ a c d).both=true/\(if a.e c d∈T then 3 else 4)<=(mZ a c d).left
 pn:∀c d,c<a.nc->d<2->(a.jc c=false \/rX a c d=rX a c (1-d))->(mZ a c d).who=0/\(mZ a c d).both=false
 hh:∀c d,c<a.nc->d<2->a.jc c=true->rX a c d≠rX a c (1-d)->∀x∈a.F c d,isH x->x=Lc (rX a c d+1) (rX a c (1-d)+1)
 id:∀i p,i<a.n->p<3->(∀c d,c<a.nc->d<2->a.e c d≠(i,p))->((a.R i).P p).L.st=1/\((a.R i).P p).pe.who=0/\((a.R i).P p).pe.both=false
theorem Kj {q:lK} (Z:q.who=(r.P i).pe.who)(Y:q.both=(r.P i).pe.both):(r.meet i q).K=r.K/\(r.meet i q).O=r.O:=by
 unfold iW.meet;simp only;rw[ai ⟨Z,Y⟩];exact⟨rfl,rfl⟩
theorem C4 {L:LS} (h:L.st=1 \/L.st=9):jq L=(L,[]):=by
 have hb:(decide (4<=L.st)&&decide (L.st<=8))=false:=by rcases h with g|g<;>rw[g] <;>rfl
 unfold jq kI l9;rw[ai hb,ai hb,af (show¬L.st=3 by omega)]
theorem Xr {p:Nat} (h:((r.P p).L.st=9/\((iV (r.P p).pe).who=(r.P p).pe.who/\(iV (r.P p).pe).both=(r.P p).pe.both)) \/((r.P p).L.st=1/\(r.P p).pe.who=0/\(r.P p).pe.both=false)):(r.jj p).K=r.K/\(r.jj p).O=r.O/\(((jo r p).meet p (iV (r.P p).pe)).O=r.O \/(r.P p).L.st=1):=by
 have H:jq (r.P p).L=((r.P p).L,[]):=C4 (by rcases h with g|g;exact .inr g.1;exact .inl g.1);have G:((jo r p).P p).L.st=(r.P p).L.st:=by unfold jo;rw[k9,ai rfl,tJ,H]
 have Z:=(mB r p p).2;have hK:(jo r p).K=r.K/\(jo r p).O=r.O:=⟨rfl,rfl⟩
 rw[lA,G,Z];rcases h with⟨M,Y,U⟩|⟨Y,U,Q⟩
 {rw[af (by rw[M];simp)];obtain⟨t1,t2,_⟩:=qe ((jo r p).meet p (iV (r.P p).pe)) p;obtain⟨m1,m2⟩:=Kj (r:=jo r p) (i:=p) (q:=iV (r.P p).pe) (by rw[Z];exact Y) (by rw[Z];exact U);rw[t1,t2,m1,m2];exact⟨rfl,rfl,.inl rfl⟩};{rw[ai (by rw[Y];decide)];obtain⟨m1,m2⟩:=Kj (r:=jo r p) (i:=p) (q:=nobody) (by rw[Z,U];rfl) (by rw[Z,Q];rfl);rw[m1,m2];exact⟨rfl,rfl,.inr Y⟩}
theorem uF {q:lK} (Z:q.who=0)(Y:q.both=false):(iV q).who=0/\(iV q).both=false:=by
 unfold iV;split;{exact⟨rfl,rfl⟩};{exact⟨Z,Y⟩}
theorem rL {q:lK} (h:2<=q.left):(iV q).who=q.who/\(iV q).both=q.both/\(iV q).left=q.left-1:=by
 unfold iV;rw[af eB];exact⟨rfl,rfl,rfl⟩
theorem AR.tick {N k:Nat} {T:List (Nat×Nat)} {a:AN} (h:AR N k T a)(hN:N<1000000) {i p:Nat} (hi:i<a.n)(hp:p<3)(hT:(i,p)∉T):AR (N+8) k (T++ [(i,p)]) (a.op i ((a.R i).jj p))/\(∀j,((a.op i ((a.R i).jj p)).R j).K=(a.R j).K/\((a.op i ((a.R i).jj p)).R j).O=(a.R j).O)/\∀c d,c<a.nc->d<2->∃l,(a.op i ((a.R i).jj p)).F c d=a.F c d++l/\(a.e c d≠(i,p)->l=[])/\(a.e c d=(i,p)->(a.jc c=true->rX a c d≠rX a c (1-d)->l=Lc (rX a c d+1) (rX a c (1-d)+1)::(lV ((a.R i).O p)).flatMap DW)/\((a.jc c=false->l=[])/\(a.jc c=true->rX a c d=rX a c (1-d)->l=[Lc (rX a c d+1) 0]))):=by
 obtain⟨e1,l2⟩:=h.env.tick hN hi hp;obtain⟨X,hX⟩:=h.env.i.lk;obtain⟨B,hB⟩:=h.env.i.own;have hds:=h.env.i.rD.ds;have aij:(∃c d,c<a.nc/\d<2/\a.e c d=(i,p)/\((a.R i).P p).L=kf a c d/\((a.R i).P p).pe=mZ a c d) \/(∀c d,c<a.nc->d<2->a.e c d≠(i,p)):=by
  by_cases hex:∃c d,c<a.nc/\d<2/\a.e c d=(i,p)
  {obtain⟨c,d,hc,hd,U⟩:=hex;exact .inl ⟨c,d,hc,hd,U,by unfold kf;rw[U],by unfold mZ;rw[U]⟩};{exact .inr λc d hc hd e=>hex ⟨c,d,hc,hd,e⟩}
 have IW:(((a.R i).P p).L.st=9/\((iV ((a.R i).P p).pe).who=((a.R i).P p).pe.who/\(iV ((a.R i).P p).pe).both=((a.R i).P p).pe.both)) \/(((a.R i).P p).L.st=1/\((a.R i).P p).pe.who=0/\((a.R i).P p).pe.both=false):=by
  rcases aij with⟨c,d,hc,hd,U,g1,g2⟩|lL
  {cases Z:a.jc c;{have Y:=h.pn c d hc hd (.inl Z);right;rw[g1,g2];exact⟨(hX.dn c hc Z d hd).2.1,Y⟩};{left;rw[g1,g2];refine⟨h.env.o c d hc hd Z,?_⟩;by_cases hl:rX a c d=rX a c (1-d);{have Y:=h.pn c d hc hd (.inr hl);have:=uF Y.1 Y.2;exact⟨by rw[this.1,Y.1],by rw[this.2,Y.2]⟩};{have hb:=h.pb c d hc hd Z hl;rw[U,af hT]at hb;obtain⟨q1,q2,_⟩:=rL (q:=mZ a c d) eB;exact⟨q1,q2⟩}}};{exact .inr (h.id i p hi hp lL)}
 obtain⟨k1,k2,k3⟩:=Xr IW;have G:jq ((a.R i).P p).L=(((a.R i).P p).L,[]):=C4 (by rcases IW with g|g;exact .inr g.1;exact .inl g.1);have H:∀c d,mZ (a.op i ((a.R i).jj p)) c d=if a.e c d=(i,p)then(if((a.R i).P p).L.st=9 then iV (mZ a c d)else nobody)else mZ a c d:=λc d=>by
  rw[AO];by_cases e:(a.e c d).1=i;{rw[ai e,AQ,G];by_cases Q:(a.e c d).2=p;{rw[ai Q,ai (aU e Q)];unfold mZ;rw[e,Q]};{rw[af Q,af (λz=>Q (by rw[z]))];unfold mZ;rw[e]}};{rw[af e,af (λz=>e (by rw[z]))]}
 have hKO:∀j,((a.op i ((a.R i).jj p)).R j).K=(a.R j).K/\((a.op i ((a.R i).jj p)).R j).O=(a.R j).O:=λj=>by
  rw[Ke];by_cases e:j=i;{rw[ai e,e];exact⟨k1,k2⟩};{rw[af e];exact⟨rfl,rfl⟩}
 have hF:∀c d,c<a.nc->d<2->∃l,(a.op i ((a.R i).jj p)).F c d=a.F c d++l/\(a.e c d≠(i,p)->l=[])/\(a.e c d=(i,p)->(a.jc c=true->rX a c d≠rX a c (1-d)->l=Lc (rX a c d+1) (rX a c (1-d)+1)::(lV ((a.R i).O p)).flatMap DW)/\((a.jc c=false->l=[])/\(a.jc c=true->rX a c d=rX a c (1-d)->l=[Lc (rX a c d+1) 0]))):=λc d hc hd=>by
  obtain⟨_,f2⟩:=l2 c d hc hd;refine⟨_,f2,λjx=>af jx,λU=> ?_⟩;rw[ai U];have oQ:((a.R i).P p).pe=mZ a c d:=by unfold mZ;rw[U]
  have pS:(a.R i).id=(rX a c d:Int)+1:=by
   unfold rX;rw[U];exact(hB.r i hi).2.2.2.1
  have pV:((a.R i).P p).L=kf a c d:=by unfold kf;rw[U]
  refine⟨λZ hl=> ?_,λZ=> ?_,λZ hl=> ?_⟩;{have hb:=h.pb c d hc hd Z hl;rw[U,af hT]at hb;obtain⟨q1,q2,_⟩:=rL (q:=mZ a c d) eB;have M:=h.env.o c d hc hd Z;unfold A3;rw[G,oQ,ai (by rw[pV];exact M),q1,q2,hb.2.1,ai rfl,hb.1,pS];rw[oQ]at k3;rw[k3.resolve_right (by rw[pV,M];decide)];rfl};{have:=(hX.dn c hc Z d hd).2.1;unfold A3;rw[G,af (by rw[pV,this];decide)]};{have Y:=h.pn c d hc hd (.inr hl);have mS:=uF Y.1 Y.2;have M:=h.env.o c d hc hd Z;unfold A3;rw[G,oQ,ai (by rw[pV];exact M),mS.1,mS.2,pS];rfl}
 refine⟨⟨e1,λc d hc hd Z hl=> ?_,λc d hc hd AW=> ?_,λc d hc hd Z hl x hx hh=> ?_,λj q hj hq lL=> ?_⟩,hKO,hF⟩
 ·have hb:=h.pb c d hc hd Z hl;rw[H];show _=(rX a c (1-d):Int)+1/\_/\(if a.e c d∈T++ [(i,p)]then(3:Int)else 4)<=_;by_cases e:a.e c d=(i,p)
  ·rw[e,af hT]at hb;obtain⟨q1,q2,q3⟩:=rL (q:=mZ a c d) eB;have M:((a.R i).P p).L.st=9:=by
    have:=h.env.o c d hc hd Z;unfold kf at this;rw[e]at this;exact this
   rw[ai e,ai M,q1,q2,q3,e,ai ik];exact⟨hb.1,hb.2.1,eB⟩
  ·rw[af e];refine⟨hb.1,hb.2.1,?_⟩;have r9:=hb.2.2;by_cases hm:a.e c d∈T;{rw[ai hm]at r9;rw[ai (by simp[hm])];exact r9};{rw[af hm]at r9;rw[af (by simp[hm,e])];exact r9}
 ·have Y:=h.pn c d hc hd AW;rw[H];split;{split;{exact uF Y.1 Y.2};{exact⟨rfl,rfl⟩}};{exact Y}
 ·obtain⟨l,f1,f2,f3⟩:=hF c d hc hd;rw[f1]at hx;rcases av.1 hx with g|g
  ·exact h.hh c d hc hd Z hl x g hh
  ·by_cases e:a.e c d=(i,p)
   ·rw[(f3 e).1 Z hl]at g;rcases aP.1 g with u|u
    {exact u};{obtain⟨q,_,E⟩:=aT.1 u;obtain⟨s,rfl⟩:=hh;unfold DW at E;split at E;{exact absurd (aC (ar.1 E)).1 eF};{simp at E}}
   ·rw[f2 e]at g;simp at g
 ·obtain⟨z1,z2,z3⟩:=h.id j q hj hq lL;rw[Ke];by_cases e:j=i;{rw[ai e];show(((a.R i).jj p).P q).L.st=1/\(((a.R i).jj p).P q).pe.who=0/\(((a.R i).jj p).P q).pe.both=false;rw[B6,AQ,G];subst e;by_cases Q:q=p;{subst Q;rw[ai rfl,ai rfl,af (by rw[z1];decide)];exact⟨z1,rfl,rfl⟩};{rw[af Q,af Q];exact⟨z1,z2,z3⟩}};{rw[af e];exact⟨z1,z2,z3⟩}
theorem AR.tks {a:AN} (U:ym T a b)(h:AR N k [] a)(hT:T.Nodup)(hl:N+8*T.length<1000000):AR (N+8*T.length) k T b/\(∀j,(b.R j).K=(a.R j).K/\(b.R j).O=(a.R j).O)/\∀c d,c<a.nc->d<2->∃l,b.F c d=a.F c d++l/\(a.e c d∉T->l=[])/\(a.e c d∈T->(a.jc c=true->rX a c d≠rX a c (1-d)->l=Lc (rX a c d+1) (rX a c (1-d)+1)::(lV ((a.R (a.e c d).1).O (a.e c d).2)).flatMap DW)/\((a.jc c=false->l=[])/\(a.jc c=true->rX a c d=rX a c (1-d)->l=[Lc (rX a c d+1) 0]))):=by
 induction U with
 |nil=>exact⟨h,λ_=>⟨rfl,rfl⟩,λc d _ _=>⟨[],ik,λ_=>rfl,λh=>by simp at h⟩⟩
 | @snoc T a b i p U hi hp ih=>
   rw[aA]at hl⊢;have Jd:[(i,p)].length=1:=rfl;have E:=bG.1 hT;have Y:(i,p)∉T:=λz=>E.2.2 _ z _ (ar.2 rfl) rfl;obtain⟨s1,k1,f1⟩:=ih h E.1 eB;have M:=U.path.same;have ld:=U.len;obtain⟨s2,k2,f2⟩:=s1.tick eB hi hp Y;have u:∀c d,rX b c d=rX a c d:=λc d=>by unfold rX;rw[M.2.2.1]
   refine⟨by rw[show N+8*(T.length+ [(i,p)].length)=N+8*T.length+8 by omega];exact s2,λj=>⟨(k2 j).1.trans (k1 j).1,(k2 j).2.trans (k1 j).2⟩,λc d hc hd=> ?_⟩;obtain⟨l1,Q,a2,a3⟩:=f1 c d hc hd;obtain⟨l2,b1,b2,b3⟩:=f2 c d (by rw[M.2.1];exact hc) hd;rw[M.2.2.1]at b2 b3;rw[u,u,ld]at b3;by_cases Z:a.e c d∈T;{have jx:a.e c d≠(i,p):=λz=>Y (z▸Z);have H:=b2 jx;rw[H,aB]at b1;exact⟨l1,b1.trans Q,λz=>absurd (av.2 (.inl Z)) z,λ_=>a3 Z⟩}
   ·have H:=a2 Z;rw[H,aB]at Q;refine⟨l2,by rw[b1,Q],λz=>b2 λw=>z (av.2 (.inr (ar.2 w))),λz=> ?_⟩
    ·have G:a.e c d=(i,p):=by
      rcases av.1 z with w|w
      {exact absurd w Z};{exact ar.1 w}
     have:=b3 G;rw[(k1 i).2]at this;rw[G];exact this
def knM(r:iW)(i:Nat):lD->Int->Option PS
 |83::s=>(jw r i s).K
 |_=>r.K
def owM(r:iW)(i:Nat):lD->Nat->Int->Option PS
 |83::s=>(jw r i s).O
 |65::s=>(kQ r i s).O
 |_=>r.O
theorem I2(r:iW)(i:Nat) {c:UInt8} (s:List UInt8)(h:c≠83):knM r i (c::s)=r.K:=by
 unfold knM;split;{rename_i e;exact absurd (aC e).1 h};{rfl}
theorem I3(r:iW)(i:Nat) {c:UInt8} (s:List UInt8)(h:c≠83)(g:c≠65):owM r i (c::s)=r.O:=by
 unfold owM;split;{rename_i e;exact absurd (aC e).1 h};{rename_i e;exact absurd (aC e).1 g};{rfl}
theorem aan {x:lD} (hx:rW x)(H:(r.P i).L.st=9)(G:∀s,x=72::s->(kT s).2.2=0->(ju r.id (kT s).1 (kT s).2.1).who=(r.P i).pe.who/\(ju r.id (kT s).1 (kT s).2.1).both=(r.P i).pe.both):(jY r i x).K=knM r i x/\(jY r i x).O=owM r i x:=by
 cases x with
 |nil=>exact⟨rfl,rfl⟩
 |cons c s=>
  have hc:c≠76:=hx c s rfl;have e:jY r i (c::s)=mO r i c s:=by
   show r.take i c s=_;rw[l7,uX i s hc,af (by rw[H];simp)]
  rw[e];unfold mO;by_cases U:c=72;{rw[ai U];subst U;by_cases Q:(kT s).2.2=0;{rw[ai Q];obtain⟨g1,M⟩:=G s rfl Q;obtain⟨m1,m2⟩:=Kj (r:=r) (i:=i) g1 M;exact⟨m1,m2⟩};{rw[af Q];exact⟨rfl,rfl⟩}};{rw[af U];by_cases Z:c=83;{rw[ai Z];subst Z;exact⟨rfl,rfl⟩};{rw[af Z];rw[I2 r i s Z];by_cases Y:c=65;{rw[ai Y];subst Y;refine⟨?_,rfl⟩;unfold kQ;simp only;split<;>rfl};{rw[af Y,I3 r i s Z Y];split;{unfold rS;split;{exact⟨(nJ r _).1,(nJ r _).2.1⟩};{exact⟨rfl,rfl⟩}};{exact⟨rfl,rfl⟩}}}}
theorem AR.pop {N k:Nat} {T:List (Nat×Nat)} {a:AN} (h:AR N k T a)(hN:N<1000000)(hk:k<=126)(hT:∀c d,c<a.nc->d<2->a.e c d∈T) {c d:Nat} {x:lD} {l:List lD} (hc:c<a.nc)(hd:d<2)(hF:a.F c d=x::l):AR N k T (a.pop c d x l)/\(∀j,j≠rX a c (1-d)->((a.pop c d x l).R j).K=(a.R j).K/\((a.pop c d x l).R j).O=(a.R j).O)/\
 ((a.pop c d x l).R (rX a c (1-d))).K=knM (a.R (rX a c (1-d))) (a.e c (1-d)).2 x/\
 ((a.pop c d x l).R (rX a c (1-d))).O=owM (a.R (rX a c (1-d))) (a.e c (1-d)).2 x:=by
 obtain⟨X,hX⟩:=h.env.i.lk;obtain⟨B,hB⟩:=h.env.i.own;have Ub:x∈a.F c d:=by rw[hF];simp
 have ld:=hX.zw hc hd Ub;have E:=h.env.nl c d hc hd x Ub;have AZ:=h.env.i.rD.en c (1-d) hc eB;have hn6:=h.env.i.rD.n6;have pS:=(hB.r _ AZ.1).2.2.2.1;have h9:((a.R (rX a c (1-d))).P (a.e c (1-d)).2).L.st=9:=h.env.o c (1-d) hc eB ld;have anc:((a.R (rX a c (1-d))).P (a.e c (1-d)).2).pe=mZ a c (1-d):=rfl;have Q:1-(1-d)=d:=eB;have H:∀s,x=72::s->(kT s).2.2=0->(ju ((rX a c (1-d):Int)+1) (kT s).1 (kT s).2.1).who=(mZ a c (1-d)).who/\(ju ((rX a c (1-d):Int)+1) (kT s).1 (kT s).2.1).both=(mZ a c (1-d)).both/\(rX a c d≠rX a c (1-d)->(ju ((rX a c (1-d):Int)+1) (kT s).1 (kT s).2.1).left=4):=λs hs Z=>by
  have Bh:=((h.env.i.fl.kn c d hc hd x Ub).1).2 s hs Z;have ane:(a.R (a.e c d).1).id=(rX a c d:Int)+1:=(hB.r _ (h.env.i.rD.en c d hc hd).1).2.2.2.1;by_cases hl:rX a c d=rX a c (1-d);{have mS:=h.pn c (1-d) hc eB (.inr (by rw[Q];exact hl.symm));unfold ju;rw[ai (by rw[Bh,ane,hl])];exact⟨mS.1.symm,mS.2.symm,λz=>absurd hl z⟩}
  ·have hb:=h.pb c (1-d) hc eB ld (by rw[Q];exact λz=>hl z.symm);rw[Q]at hb;have WT:=h.hh c d hc hd ld hl x Ub ⟨s,hs⟩;have T9:s=[kc ((rX a c d:Int)+1),kc ((rX a c (1-d):Int)+1)] :=by
    rw[hs]at WT;exact(aC WT).2
   have hr:kT s=((rX a c d:Int)+1,(rX a c (1-d):Int)+1,0):=by
    rw[T9];refine Ki ?_ ?_;{have:=h.env.i.rD.en c d hc hd;unfold rX;omega};{unfold rX;omega}
   unfold ju;rw[hr];simp only;rw[af eB];refine⟨hb.1.symm,?_,λ_=>rfl⟩;rw[hb.2.1];simp
 have hK:=aan (r:=a.R (rX a c (1-d))) (i:=(a.e c (1-d)).2) E h9 λs hs Z=>by
  rw[anc,show(a.R (rX a c (1-d))).id=(rX a c (1-d):Int)+1 from pS];exact⟨(H s hs Z).1,(H s hs Z).2.1⟩
 obtain⟨z1,z2,z3⟩:=h.env.pop hN hk hc hd hF;have oQ:=λc' d' Y U=>Xq h.env hc hd hF c' d' Y U;have hR:∀j,(a.pop c d x l).R j=if j=rX a c (1-d)then(jY (a.R (rX a c (1-d))) (a.e c (1-d)).2 x).core else a.R j:=λj=>rfl
 have G:∀c' d',c'<a.nc->d'<2->(mZ (a.pop c d x l) c' d').who=(mZ a c' d').who/\(mZ (a.pop c d x l) c' d').both=(mZ a c' d').both/\(a.jc c'=true->rX a c' d'≠rX a c' (1-d')->(mZ a c' d').left<=(mZ (a.pop c d x l) c' d').left \/(mZ (a.pop c d x l) c' d').left=4):=λc' d' Y U=>by
  obtain⟨v1,v2⟩:=oQ c' d' Y U;by_cases M:c'=c/\d'=1-d/\isH x
  ·obtain⟨s,hs⟩:=M.2.2;by_cases Z:(kT s).2.2=0;{rw[v1 ⟨M.1,M.2.1⟩ s hs Z,M.1,M.2.1];have:=H s hs Z;exact⟨this.1,this.2.1,λ_ hl=>.inr (this.2.2 (by rw[Q]at hl;exact λz=>hl z.symm))⟩}
   ·
    have:mZ (a.pop c d x l) c' d'=mZ a c' d':=by
     unfold AN.pop;rw[AO,zq];split
     ·rename_i e
      rw[hs];show((iW.take _ _ 72 s).P _).pe=_;rw[D3 (r:=a.R (a.e c (1-d)).1) s eF h9,af (λw=>Z w.2.2)];unfold mZ;rw[e]
     ·rfl
    rw[this];exact⟨rfl,rfl,λ_ _=>.inl (Int.le_refl _)⟩
  ·rw[v2 M];exact⟨rfl,rfl,λ_ _=>.inl (Int.le_refl _)⟩
 refine⟨⟨z1,λc' d' Y U ll Yo=> ?_,λc' d' Y U AW=> ?_,λc' d' Y U ll Yo y hy hh=> ?_,λj q hj M lL=> ?_⟩,λj hj=>by rw[hR,af hj];exact⟨rfl,rfl⟩,?_,?_⟩;{have hb:=h.pb c' d' Y U ll Yo;obtain⟨g1,g2,g3⟩:=G c' d' Y U;rw[g1,g2];refine⟨hb.1,hb.2.1,?_⟩;show(if a.e c' d'∈T then(3:Int)else 4)<=_;have r9:=hb.2.2;rw[ai (hT c' d' Y U)]at r9⊢;rcases g3 ll Yo with g|g<;>omega};{obtain⟨g1,g2,_⟩:=G c' d' Y U;rw[g1,g2];exact h.pn c' d' Y U AW}
 ·
  obtain⟨m1,_⟩:=qM (h.env.i.nrm.emp (a.e c (1-d)).1) (a.e c (1-d)).2 x;have C2:∀z,z∈(a.lR c d l).F c' d'->z∈a.F c' d':=λz Z=>by
   rw[tK]at Z;split at Z;{rename_i e;rw[e.1,e.2,hF];simp[Z]};{exact Z}
  refine h.hh c' d' Y U ll Yo y ?_ hh;unfold AN.pop at hy;rw[vZ]at hy;split at hy
  ·rcases av.1 hy with u|u
   ·exact C2 _ u
   ·exfalso;obtain⟨w,rfl⟩:=hh;cases m1 ((a.lR c d l).e c' d').2 with
    |none h=>rw[h]at u;simp at u
    |link s' _ _ _ h=>rw[h]at u;obtain⟨v,hv⟩:=sD u;exact absurd (aC hv).1 eF
    |heard s' _ _ _ _ _ _ _ h=>rw[h]at u;exact absurd (aC (ar.1 u)).1 eF
    |J4 k1 k2 s' _ _ _ _ h=>rw[h]at u;exact absurd (aC (ar.1 u)).1 eF
  ·exact C2 _ hy
 ·obtain⟨w1,w2,w3⟩:=h.id j q hj M lL;rw[hR];by_cases e:j=rX a c (1-d)
  ·rw[ai e];have anf:q≠(a.e c (1-d)).2:=λz=>lL c (1-d) hc eB (aU e.symm z.symm);subst e;show((jY _ _ x).P q).L.st=1/\((jY _ _ x).P q).pe.who=0/\((jY _ _ x).P q).pe.both=false;cases x with
   |nil=>exact⟨w1,w2,w3⟩
   |cons u s=>
    show((iW.take _ _ u s).P q).L.st=1/\((iW.take _ _ u s).P q).pe.who=0/\((iW.take _ _ u s).P q).pe.both=false;have hu:=E u s rfl;rw[vI _ _ s hu,D3 s hu h9,af (λw=>anf w.1)];exact⟨w1,w2,w3⟩
  ·rw[af e];exact⟨w1,w2,w3⟩
 {rw[hR,ai rfl];exact hK.1};{rw[hR,ai rfl];exact hK.2}
theorem ain(r:iW)(i:Nat)(s:List UInt8)(y:Int):(jw r i s).K y=r.K y \/((iB s).2.2.2=0/\(r.P i).pe.both=true/\(iB s).1=y/\0<newF r.K y (iB s).2.1 (iB s).2.2.1/\(y=r.id \/(jw r i s).K y=μ ((iB s).2.1,(iB s).2.2.1))):=by
 unfold jw;simp only;split;{exact .inl rfl}
 ·rename_i h
  have Z:(iB s).2.2.2=0/\(r.P i).pe.both=true:=by
   refine⟨eB,?_⟩;cases hb:(r.P i).pe.both;{exact absurd (.inr hb) h};{rfl}
  split
  ·rename_i Y
   by_cases e:y=r.id;{exact .inr ⟨Z.1,Z.2,by rw[e];exact Y.1,by rw[e,<-Y.1];exact Y.2,.inl e⟩};{left;unfold iW.behind;split;{show(if y=r.id then _ else _)=_;rw[af e]};{rfl}}
  ·have U:∀K:Int->Option PS,K=lQ r.K (iB s).1 (iB s).2.1 (iB s).2.2.1->K y=r.K y \/((iB s).2.2.2=0/\(r.P i).pe.both=true/\(iB s).1=y/\0<newF r.K y (iB s).2.1 (iB s).2.2.1/\(y=r.id \/K y=μ ((iB s).2.1,(iB s).2.2.1))):=λK Q=>by
    rw[Q];unfold lQ;split
    ·rename_i g
     by_cases e:y=(iB s).1;{right;refine⟨Z.1,Z.2,e.symm,by rw[e];exact g,.inr ?_⟩;show(if y=(iB s).1 then _ else _)=_;rw[ai e]};{left;show(if y=(iB s).1 then _ else _)=_;rw[af e]}
    ·exact .inl rfl
   split;{exact U _ rfl};{exact U _ rfl}
theorem aeN(H:lM r)(i:Nat)(s:List UInt8)(M:(iB s).2.2.2=0)(hb:(r.P i).pe.both=true)(hs:(iB s).2.1<1000000):yE (jw r i s).K (iB s).1 (iB s).2.1 (iB s).2.2.1:=by
 have U:=(ya H i s).1.k;unfold jw at U⊢;simp only at U⊢;rw[af (by rw[hb];simp;exact M)]at U⊢;by_cases Z:(iB s).1=r.id/\0<newF r.K (iB s).1 (iB s).2.1 (iB s).2.2.1
 ·rw[ai Z];unfold iW.behind;rw[ai hs];refine⟨((iB s).2.1+1,jJ r),?_,?_⟩;{show(if(iB s).1=r.id then _ else _)=_;rw[ai Z.1]}
  ·unfold mC;have:mH ((iB s).2.1+1) (iB s).2.1=1:=by unfold mH;rw[af eB,ai eB]
   rw[ai (by rw[this];decide)];show 0<=mH ((iB s).2.1+1) (iB s).2.1;rw[this];decide
 ·rw[af Z];have Q:yE (lQ r.K (iB s).1 (iB s).2.1 (iB s).2.2.1) (iB s).1 (iB s).2.1 (iB s).2.2.1:=by
   unfold lQ;by_cases g:0<newF r.K (iB s).1 (iB s).2.1 (iB s).2.2.1;{rw[ai g];exact⟨_,by show(if(iB s).1=(iB s).1 then μ ((iB s).2.1,(iB s).2.2.1)else _)=_;rw[ai rfl],by rw[oA];exact Int.le_refl _⟩}
   ·rw[af g];cases Y:r.K (iB s).1 with
    |none=>unfold newF at g;rw[Y]at g;exact absurd (by decide:(0:Int)<1) g
    |some q=>
     rw[oB Y]at g;exact⟨q,Y,by rw[uM];omega⟩
  split;{exact Q};{exact Q}
theorem wk.keep(P:AN->Prop) {m:AN} (h:wk m b)(G:AR N k T m)(H:N<1000000)(u:k<=126)(E:∀c d,c<m.nc->d<2->m.e c d∈T)(M:P m)(step:∀(a:AN) (c d:Nat) (x:lD) (l:List lD),AR N k T a->(a.n=m.n/\a.nc=m.nc/\a.e=m.e/\a.jc=m.jc)->c<a.nc->d<2->a.F c d=x::l->P a->P (a.pop c d x l)):AR N k T b/\P b/\(b.n=m.n/\b.nc=m.nc/\b.e=m.e/\b.jc=m.jc):=by
 induction h with
 |nil=>exact⟨G,M,rfl,rfl,rfl,rfl⟩
 |snoc c d x l p hc hd hF ih=>
  obtain⟨s1,p1,U,Z,Y,Q⟩:=ih;refine⟨(s1.pop H u (λc d hc hd=>by rw[Y];exact E c d (by rw[<-Z];exact hc) hd) hc hd hF).1,step _ c d x l s1 ⟨U,Z,Y,Q⟩ hc hd hF p1,U,Z,Y,Q⟩
theorem AR.Gh {a:AN} (h:AR N k T a)(Q:N<1000000)(H:k<=126)(M:∀c d,c<a.nc->d<2->a.e c d∈T) {x:lD} (hc:c<a.nc)(hd:d<2)(hF:a.F c d=x::l)(j:Nat):pP (a.R j).K ((a.pop c d x l).R j).K:=by
 obtain⟨_,Z,Y,_⟩:=h.pop Q H M hc hd hF;obtain⟨B,U⟩:=h.env.i.own;by_cases e:j=rX a c (1-d);{rw[e,Y];have G:=(U.r _ (h.env.i.rD.en c (1-d) hc eB).1).2.1;unfold knM;split;{exact(ya G _ _).1.k};{exact pP.refl _}};{rw[(Z j e).1];exact pP.refl _}
theorem AR.Xt {a:AN} (h:AR N k T a)(hc:c<a.nc)(hd:d<2)(hb:((a.R (rX a c d)).P (a.e c d).2).pe.both=true):a.jc c=true/\rX a c d≠rX a c (1-d):=by
 have Z:(mZ a c d).both=true:=hb;cases hi:a.jc c;{rw[(h.pn c d hc hd (.inl hi)).2]at Z;exact absurd Z ik};{refine⟨rfl,λe=> ?_⟩;rw[(h.pn c d hc hd (.inr e)).2]at Z;exact absurd Z ik}
theorem AR.news {a:AN} (h:AR N k T a)(hN:N<1000000)(hk:k<=126)(hT:∀c d,c<a.nc->d<2->a.e c d∈T) {x:lD} (hc:c<a.nc)(hd:d<2)(hF:a.F c d=x::l)(j:Nat)(y:Int):((a.pop c d x l).R j).K y=(a.R j).K y \/(j=rX a c (1-d)/\a.jc c=true/\rX a c d≠rX a c (1-d)/\∃q:PS,yE (a.R (rX a c d)).K y q.1 q.2/\0<newF (a.R j).K y q.1 q.2/\(y=(j:Int)+1 \/((a.pop c d x l).R j).K y=μ q)):=by
 obtain⟨_,h1,h2,_⟩:=h.pop hN hk hT hc hd hF;obtain⟨B,hB⟩:=h.env.i.own;have M:=h.env.i.rD.en c (1-d) hc eB;by_cases e:j=rX a c (1-d)
 ·rw[e,h2];cases x with
  |nil=>exact .inl rfl
  |cons u s=>
   by_cases U:u=83
   ·subst U;show(jw (a.R (rX a c (1-d))) (a.e c (1-d)).2 s).K y=_ \/_;rcases ain (a.R (rX a c (1-d))) (a.e c (1-d)).2 s y with g|⟨g1,H,G,E,Z⟩
    ·exact .inl g
    ·right;obtain⟨i1,Q⟩:=h.Xt hc (show 1-d<2 by omega) H;have Y:=((h.env.i.fl.kn c d hc hd (83::s) (by rw[hF];simp)).1).1 s (.inl rfl) g1;rw[G]at Y;refine⟨rfl,i1,?_,((iB s).2.1,(iB s).2.2.1),Y,E,?_⟩;{rw[show 1-(1-d)=d by omega]at Q;exact λz=>Q z.symm}
     ·rcases Z with Z|Z
      {left;rw[Z];exact(hB.r _ M.1).2.2.2.1};{exact .inr Z}
   ·left;rw[I2 _ _ s U]
 ·rw[(h1 j e).1];exact .inl rfl
structure Gi(N k:Nat)(a m b:AN):Prop where
 s:AR N k [] a
 t:ym (m9 a.n) a m
 p:wk m b
 l:N+8*(m9 a.n).length<1000000
 k1:k<=126
 ms:AR (N+8*(m9 a.n).length) k (m9 a.n) m
 ko:∀j,(m.R j).K=(a.R j).K/\(m.R j).O=(a.R j).O
 mf:∀c d,c<a.nc->d<2->∃l,m.F c d=a.F c d++l/\(a.jc c=true->rX a c d≠rX a c (1-d)->l=Lc (rX a c d+1) (rX a c (1-d)+1)::(lV ((a.R (a.e c d).1).O (a.e c d).2)).flatMap DW)/\(a.jc c=false->l=[])/\(a.jc c=true->rX a c d=rX a c (1-d)->l=[Lc (rX a c d+1) 0])
 all:∀c d,c<m.nc->d<2->m.e c d∈m9 a.n
 me:m.n=a.n/\m.nc=a.nc/\m.e=a.e/\m.jc=a.jc
theorem Ty {a:AN} (Y:uh a)(c d:Nat)(hc:c<a.nc)(hd:d<2):a.e c d∈m9 a.n:=by
 obtain⟨Z,e2⟩:=Y.en c d hc hd;unfold m9;refine aT.2 ⟨(a.e c d).1,aN.2 Z,?_⟩;unfold Te;have:(a.e c d).2=0 \/(a.e c d).2=1 \/(a.e c d).2=2:=eB;rcases this with e|e|e
 {rw[show a.e c d=((a.e c d).1,0)from aU rfl e];simp};{rw[show a.e c d=((a.e c d).1,1)from aU rfl e];simp};{rw[show a.e c d=((a.e c d).1,2)from aU rfl e];simp}
theorem Gi.of {a m:AN} (s:AR N k [] a)(t:ym (m9 a.n) a m)(p:wk m b)(l:N+8*(m9 a.n).length<1000000)(E:k<=126):Gi N k a m b:=by
 obtain⟨nd,_,_⟩:=pU a.n;obtain⟨M,H,G⟩:=s.tks t nd l;have Z:=t.path.same;have Y:=Ty s.env.i.rD;refine⟨s,t,p,l,E,M,H,λc d hc hd=> ?_,λc d hc hd=> ?_,⟨Z.1,Z.2.1,Z.2.2.1,t.len⟩⟩;{obtain⟨l,U,_,Q⟩:=G c d hc hd;obtain⟨b1,b2,b3⟩:=Q (Y c d hc hd);exact⟨l,U,b1,b2,b3⟩};{rw[Z.2.2.1];exact Y c d (by rw[<-Z.2.1];exact hc) hd}
theorem Gi.keep {N k:Nat} {a m b:AN} (h:Gi N k a m b)(P:AN->Prop)(G:P m)(step:∀(z:AN) (c d:Nat) (x:lD) (l:List lD),AR (N+8*(m9 a.n).length) k (m9 a.n) z->(z.n=a.n/\z.nc=a.nc/\z.e=a.e/\z.jc=a.jc)->(∀c d,c<z.nc->d<2->z.e c d∈m9 a.n)->c<z.nc->d<2->z.F c d=x::l->P z->P (z.pop c d x l)):AR (N+8*(m9 a.n).length) k (m9 a.n) b/\P b/\(b.n=a.n/\b.nc=a.nc/\b.e=a.e/\b.jc=a.jc):=by
 obtain⟨g1,Y,U,Q,M,H⟩:=h.p.keep P h.ms h.l h.k1 h.all G λz c d x l u Z hc hd hF E=>step z c d x l u ⟨Z.1.trans h.me.1,Z.2.1.trans h.me.2.1,Z.2.2.1.trans h.me.2.2.1,Z.2.2.2.trans h.me.2.2.2⟩ (λc d hc hd=>by rw[Z.2.2.1];exact h.all c d (by rw[<-Z.2.1];exact hc) hd) hc hd hF E;exact⟨g1,Y,U.trans h.me.1,Q.trans h.me.2.1,M.trans h.me.2.2.1,H.trans h.me.2.2.2⟩
theorem Gi.sta {a m:AN} (h:Gi N k a m b)(H:∀c d,c<a.nc->d<2->a.F c d=[])(Z:∀c d,c<a.nc->d<2->b.F c d=[]):AR (N+8*(m9 a.n).length) k [] b:=by
 obtain⟨s1,_,e1,U,Q,M⟩:=h.keep (λ_=>True) trivial λ_ _ _ _ _ _ _ _ _ _ _ _=>trivial;obtain⟨_,hh⟩:=CZ h.t h.p h.s.env h.l h.k1 H Z;have Y:∀c d,rX b c d=rX a c d:=λc d=>by unfold rX;rw[Q]
 refine⟨s1.env,λc d hc hd hi hl=> ?_,s1.pn,λc d hc hd _ _ x hx=> ?_,s1.id⟩;{rw[U]at hc;rw[M]at hi;rw[Y,Y]at hl;have Z:=hh c d hc hd hi;have hb:=h.s.pb c (1-d) hc eB hi (by rw[show 1-(1-d)=d by omega];exact λz=>hl z.symm);rw[show 1-(1-d)=d by omega,af ik]at hb;obtain⟨q1,_,_⟩:=rL (q:=mZ a c (1-d)) eB;rw[q1,hb.1]at Z;have G:¬((rX a c (1-d):Int)+1=(rX a c d:Int)+1):=eB;have Z:mZ b c d=ju ((rX a c d:Int)+1) ((rX a c (1-d):Int)+1) ((rX a c d:Int)+1):=Z;unfold ju at Z;rw[af G]at Z;rw[Z,Y];refine⟨rfl,ik,?_⟩;rw[af ik];exact Int.le_refl _};{rw[U]at hc;rw[Z c d hc hd]at hx;simp at hx}
theorem Gi.mono {a m:AN} (h:Gi N k a m b)(j:Nat):pP (a.R j).K (b.R j).K:=by
 obtain⟨_,g,_⟩:=h.keep (λz=>pP (a.R j).K (z.R j).K) (by rw[(h.ko j).1];exact pP.refl _) λz c d x l U _ Y hc hd hF Z=>Z.trans (U.Gh h.l h.k1 Y hc hd hF j);exact g
theorem ML(hy:1<=y/\y<=6)(h:F y=μ q):(y,q)∈lV F:=by
 unfold lV;refine bZ.2 ⟨(y-1).toNat,aN.2 eB,?_⟩;have e:(((y-1).toNat:Nat):Int)+1=y:=eB;rw[e,h];rfl
theorem Kk(h:oK y q.1 q.2=0):DW (y,q)=[83::rN y q.1 q.2] :=by
 unfold DW;have:=DZ h;rw[ai (by show(rN y q.1 q.2).length+1<=60;omega)]
theorem Gi.spread {a m:AN} (h:Gi N k a m b)(h1:∀c d,c<a.nc->d<2->b.F c d=[])(hc:c<a.nc)(hd:d<2)(hi:a.jc c=true)(hl:rX a c d≠rX a c (1-d))(U:(a.R (rX a c d)).K y=μ q):yE (b.R (rX a c (1-d))).K y q.1 q.2:=by
 obtain⟨B,hB⟩:=h.s.env.i.own;obtain⟨C,hC⟩:=h.ms.env.i.own;have AZ:=h.s.env.i.rD.en c d hc hd;have hr:=hB.r _ AZ.1;have hm:yE (m.R (rX a c (1-d))).K y q.1 q.2 \/ ∃x∈m.F c d,∃s,x=83::s/\(iB s).2.2.2=0/\(iB s).1=y/\0<=mC (iB s).2.1 (iB s).2.2.1 q.1 q.2:=by
  cases G:(a.R (rX a c d)).O (a.e c d).2 y with
  |none=>
   left;rw[(h.ko _).1];exact h.s.env.i.fl.o c d hc hd (h.s.pb c d hc hd hi hl).2.1 y q U G
  |some u=>
   right;have hu:=hr.1.tie _ _ _ G;have huq:u=q:=by
    have e:(a.R (rX a c d)).K y=μ u:=hu;rw[U]at e;exact(Option.some.inj e).symm
   subst huq;obtain⟨l,f1,f2,_⟩:=h.mf c d hc hd;have hv:=hr.1.val y u U;have hy:=hr.2.1.P5 y (by rw[show(a.R (a.e c d).1).K y=μ u from U];rfl);refine⟨83::rN y u.1 u.2,?_,_,rfl,?_⟩;{rw[f1,f2 hi hl];refine av.2 (.inr (aP.2 (.inr (aT.2 ⟨(y,u),ML hy G,?_⟩))));rw[Kk hv];simp};{rw[od _ _ _ hv];exact⟨rfl,rfl,by rw[oA];exact Int.le_refl _⟩}
 obtain⟨_,g,e1,e2,e3,e4⟩:=h.keep (λz=>yE (z.R (rX a c (1-d))).K y q.1 q.2 \/ ∃x∈z.F c d,∃s,x=83::s/\(iB s).2.2.2=0/\(iB s).1=y/\0<=mC (iB s).2.1 (iB s).2.2.1 q.1 q.2) hm λz c' d' x l Y E hT j9 kF hF hP=>by
  have hmono:=Y.Gh h.l h.k1 hT j9 kF hF;rcases hP with g|⟨w,w1,s,w2,Q,w4,w5⟩
  ·exact .inl (g.mono (hmono _))
  ·have Z:c<z.nc:=by rw[E.2.1];exact hc
   obtain⟨em,f⟩:=(Y.env.pop h.l h.k1 j9 kF hF).2.2 c d Z hd;by_cases e:c=c'/\d=d'
   ·obtain⟨z1,z2⟩:=e;subst z1 z2;rw[ai ⟨rfl,rfl⟩]at f;rw[hF]at w1;rcases aP.1 w1 with v|v
    ·left;have hx:x=83::s:=by rw[<-v];exact w2
     obtain⟨_,_,g2,_⟩:=Y.pop h.l h.k1 hT Z hd hF;obtain⟨D,H⟩:=Y.env.i.own;have M:∀d,rX z c d=rX a c d:=λd=>by unfold rX;rw[E.2.2.1]
     rw[<-M,g2,hx];have jb:=(H.r _ (Y.env.i.rD.en c (1-d) Z eB).1).2.1;have hb:=(Y.pb c (1-d) Z eB (by rw[E.2.2.2];exact hi) (by rw[M,M,show 1-(1-d)=d by omega];exact λw=>hl w.symm)).2.1;have hle:=H.f c d Z hd x (by rw[hF];simp) s hx Q;have kL:=H.b;have:=h.l;have hk:=aeN jb (z.e c (1-d)).2 s Q hb eB;rw[w4]at hk;exact hk.trans w5
    ·right;exact⟨w,by rw[f];simp[v],s,w2,Q,w4,w5⟩
   ·right;rw[af e]at f;exact⟨w,by rw[f];simp[w1],s,w2,Q,w4,w5⟩
 rcases g with g|⟨x,hx,_⟩
 {exact g};{rw[h1 c d hc hd]at hx;simp at hx}
def Cl(a:AN)(C:Nat->Prop):Prop:=∀c d,c<a.nc->d<2->a.jc c=true->rX a c d≠rX a c (1-d)->C (rX a c d)->C (rX a c (1-d))
def Bd(C:Nat->Prop)(y:Int)(a0 a:AN):Prop:=∀x,C x->∀q:PS,(a.R x).K y=μ q->(∃x0,C x0/\yE (a0.R x0).K y q.1 q.2) \/ ∃i,C i/\(i:Int)+1=y/\yE (a.R i).K y q.1 q.2
theorem Gi.bd {a m:AN} (h:Gi N k a m b)(hC:Cl a C) {a0:AN} (hB:Bd C y a0 a):Bd C y a0 b:=by
 have hm:Bd C y a0 m:=λx hx q Z=>by
  rw[(h.ko x).1]at Z;rcases hB x hx q Z with g|⟨i,g1,Y,U⟩
  {exact .inl g};{exact .inr ⟨i,g1,Y,by rw[(h.ko i).1];exact U⟩}
 obtain⟨_,g,_⟩:=h.keep (Bd C y a0) hm λz c d x l hz E hT hc hd hF hP=>by
  have hmono:=hz.Gh h.l h.k1 hT hc hd hF;have M:∀q:PS,((∃x0,C x0/\yE (a0.R x0).K y q.1 q.2) \/ ∃i,C i/\(i:Int)+1=y/\yE (z.R i).K y q.1 q.2)->(∃x0,C x0/\yE (a0.R x0).K y q.1 q.2) \/ ∃i,C i/\(i:Int)+1=y/\yE ((z.pop c d x l).R i).K y q.1 q.2:=λq Z=>by
   rcases Z with g|⟨i,g1,Y,U⟩
   {exact .inl g};{exact .inr ⟨i,g1,Y,U.mono (hmono i)⟩}
  intro j hj q Z;rcases hz.news h.l h.k1 hT hc hd hF j y with g|⟨g1,Y,U,u,⟨v,v1,v2⟩,g5,Q⟩
  ·rw[g]at Z;exact M q (hP j hj q Z)
  ·have H:∀d,rX z c d=rX a c d:=λd=>by unfold rX;rw[E.2.2.1]
   rcases Q with Q|Q
   ·exact .inr ⟨j,hj,Q.symm,uZ Z⟩
   ·rw[Q]at Z;injection Z with Z
    subst Z;have G:C (rX z c d):=by
     have:=hC c (1-d) (by rw[<-E.2.1];exact hc) eB (by rw[<-E.2.2.2];exact Y) (by rw[<-H,<-H,show 1-(1-d)=d by omega];exact λw=>U w.symm);rw[<-H,<-H,show 1-(1-d)=d by omega]at this;exact this (by rw[<-g1];exact hj)
    refine M u ?_;rcases hP _ G v v1 with⟨x0,w1,w2⟩|⟨i,w1,w2,w3⟩
    {exact .inl ⟨x0,w1,w2.trans v2⟩};{exact .inr ⟨i,w1,w2,w3.trans v2⟩}
 exact g
def Bo(C:Nat->Prop)(i:Nat)(o:PS)(a:AN):Prop:=(a.R i).K ((i:Int)+1)=μ o/\∀x,C x->∀q:PS,(a.R x).K ((i:Int)+1)=μ q->0<=mC o.1 o.2 q.1 q.2
theorem Kl {u:PS} (h:K y=μ o)(g:0<=mC o.1 o.2 u.1 u.2):¬0<newF K y u.1 u.2:=by
 rw[oB h,uM];omega
theorem Gi.bo {a m:AN} (h:Gi N k a m b)(hC:Cl a C)(hi:C i)(hB:Bo C i o a):Bo C i o b:=by
 have hm:Bo C i o m:=⟨by rw[(h.ko i).1];exact hB.1,λx hx q Z=>hB.2 x hx q (by rw[<-(h.ko x).1];exact Z)⟩
 obtain⟨_,g,_⟩:=h.keep (Bo C i o) hm λz c d x l hz E hT hc hd hF Q=>by
  have Y:∀d,rX z c d=rX a c d:=λd=>by unfold rX;rw[E.2.2.1]
  have key:∀j,C j->((z.pop c d x l).R j).K ((i:Int)+1)=(z.R j).K ((i:Int)+1) \/(j≠i/\∃u:PS,((z.pop c d x l).R j).K ((i:Int)+1)=μ u/\0<=mC o.1 o.2 u.1 u.2):=λj M=>by
   rcases hz.news h.l h.k1 hT hc hd hF j ((i:Int)+1)with g|⟨g1,H,g3,u,⟨v,v1,v2⟩,g5,U⟩
   ·exact .inl g
   ·have G:C (rX z c d):=by
     have:=hC c (1-d) (by rw[<-E.2.1];exact hc) eB (by rw[<-E.2.2.2];exact H) (by rw[<-Y,<-Y,show 1-(1-d)=d by omega];exact λw=>g3 w.symm);rw[<-Y,<-Y,show 1-(1-d)=d by omega]at this;exact this (by rw[<-g1];exact M)
    have MZ:0<=mC o.1 o.2 u.1 u.2:=(yP (Q.2 _ G v v1) v2).1;by_cases e:j=i;{subst e;exact absurd g5 (Kl Q.1 MZ)}
    ·right;refine⟨e,u,?_,MZ⟩;rcases U with U|U
     {exact absurd eB e};{exact U}
  refine⟨?_,λj M q Z=> ?_⟩
  ·rcases key i hi with g|g
   {rw[g];exact Q.1};{exact absurd rfl g.1}
  ·rcases key j M with g|⟨_,u,g1,H⟩
   {rw[g]at Z;exact Q.2 j M q Z};{rw[g1]at Z;injection Z with Z;rw[<-Z];exact H}
 exact g
def Be(C:Nat->Prop)(y:Int)(v:Option PS)(a:AN):Prop:=∀x,C x->(a.R x).K y=v
theorem Gi.be {a m:AN} (h:Gi N k a m b)(hC:Cl a C) {v:Option PS} (hB:Be C y v a):Be C y v b:=by
 have hm:Be C y v m:=λx hx=>by rw[(h.ko x).1];exact hB x hx
 obtain⟨_,g,_⟩:=h.keep (Be C y v) hm λz c d x l hz Q hT hc hd hF U=>by
  have Z:∀d,rX z c d=rX a c d:=λd=>by unfold rX;rw[Q.2.2.1]
  intro j M;rcases hz.news h.l h.k1 hT hc hd hF j y with g|⟨g1,H,G,u,⟨w,v1,v2⟩,E,g6⟩
  ·rw[g];exact U j M
  ·have Y:C (rX z c d):=by
    have:=hC c (1-d) (by rw[<-Q.2.1];exact hc) eB (by rw[<-Q.2.2.2];exact H) (by rw[<-Z,<-Z,show 1-(1-d)=d by omega];exact λw=>G w.symm);rw[<-Z,<-Z,show 1-(1-d)=d by omega]at this;exact this (by rw[<-g1];exact M)
   rw[U _ Y]at v1;exact absurd E (Kl (by rw[U j M];exact v1) v2)
 exact g
def Adj(a:AN)(x z:Nat):Prop:=∃c d,c<a.nc/\d<2/\a.jc c=true/\rX a c d=x/\rX a c (1-d)=z/\x≠z
theorem Adj.symm {a:AN} {x z:Nat} (h:Adj a x z):Adj a z x:=by
 obtain⟨c,d,Z,h2,Y,U,Q,M⟩:=h;exact⟨c,1-d,Z,eB,Y,Q,by rw[show 1-(1-d)=d by omega];exact U,M.symm⟩
inductive Way(a:AN):Nat->Nat->Nat->Prop
 |here (x:Nat):Way a 0 x x
 |stay {k x z:Nat}:Way a k x z->Way a (k+1) x z
 |go {k x w z:Nat}:Way a k x w->Adj a w z->Way a (k+1) x z
def nZ(a:AN)(x z:Nat):Prop:=∃k,Way a k x z
theorem nZ.trans {a:AN} {w:Nat} (h:nZ a x w)(g:nZ a w z):nZ a x z:=by
 obtain⟨k,g⟩:=g
 induction g with
 |here=>exact h
 |stay _ ih=>exact ih h
 |go _ s ih=>obtain⟨j,Z⟩:=ih h;exact⟨j+1,Z.go s⟩
theorem nZ.adj {a:AN} (h:Adj a x z):nZ a x z:=⟨1,(Way.here x).go h⟩
theorem nZ.symm {a:AN} {x z:Nat} (h:nZ a x z):nZ a z x:=by
 obtain⟨k,g⟩:=h
 induction g with
 |here=>exact⟨0,Way.here _⟩
 |stay _ ih=>exact ih
 |go _ s ih=>exact(nZ.adj s.symm).trans ih
theorem Way.lt {a:AN} (U:uh a)(h:Way a k x z)(hx:x<a.n):z<a.n:=by
 induction h with
 |here=>exact hx
 |stay _ ih=>exact ih hx
 |go _ s _=>
  obtain⟨c,d,Z,h2,_,_,Y,_⟩:=s;rw[<-Y];exact(U.en c (1-d) Z eB).1
theorem Way.more {a:AN} {k x z:Nat} (h:Way a k x z):∀j,Way a (k+j) x z
 |0=>h
 |j+1=>(Way.more h j).stay
open Classical in
noncomputable def O8 (a:AN) (x k:Nat):Nat:=sm (λz=>if Way a k x z then 1 else 0) (ft a.n)
theorem zx {a:AN} (Z:uh a) {x k:Nat} (hx:x<a.n)(h:∀z,z<a.n->Way a (k+1) x z->Way a k x z):∀j z,Way a (k+j) x z->Way a k x z
 |0,_,g=>g
 |j+1,z,g=>by
  have Y:=g.lt Z hx;cases g with
  |stay g=>exact zx Z hx h j z g
  |go g s=>exact h z Y ((zx Z hx h j _ g).go s)
theorem aao(n:Nat):sm (λ_:Nat=>1) (ft n)=n:=by
 unfold sm
 induction n with
 |zero=>rfl
 |succ n ih=>rw[cg,cW,List.sum_append,ih];rfl
open Classical in
theorem aap {a:AN} (U:uh a)(hx:x<a.n)(h:nZ a x z):Way a 6 x z:=by
 obtain⟨m,M⟩:=h;have key:∀k,k+1<=O8 a x k \/ ∃j,j<k/\∀z,z<a.n->Way a (j+1) x z->Way a j x z:=λk=>by
  induction k with
  |zero=>
   left;have:=Az (f:=λ_:Nat=>0) (g:=λz=>if Way a 0 x z then 1 else 0) (y:=x) (k:=1) bX (aN.2 hx) λz _=>by
    by_cases e:z=x;{subst e;rw[ai rfl,ai (Way.here z)];exact Nat.le_refl _};{rw[af e];exact Nat.zero_le _}
   show 0+1<=O8 a x 0;unfold O8;omega
  |succ k ih=>
   rcases ih with g|⟨j,H,Y⟩
   ·by_cases hc:∀z,z<a.n->Way a (k+1) x z->Way a k x z;{exact .inr ⟨k,eB,hc⟩}
    ·left;have:∃z,z<a.n/\Way a (k+1) x z/\¬Way a k x z:=by
      by_cases hh:∃z,z<a.n/\Way a (k+1) x z/\¬Way a k x z;{exact hh}
      ·exact absurd (λz E Z=>by
        by_cases Q:Way a k x z;{exact Q}
        ·exact absurd ⟨z,E,Z,Q⟩ hh) hc
     obtain⟨z,u,z2,z3⟩:=this;have:=Az (f:=λz=>if Way a k x z then 1 else 0) (g:=λz=>if Way a (k+1) x z then 1 else 0) (y:=z) (k:=1) bX (aN.2 u) λw _=>by
      by_cases e:w=z;{subst e;rw[ai rfl,ai z2,af z3];exact Nat.le_refl _};{rw[af e];by_cases Z:Way a k x w;{rw[ai Z,ai Z.stay];exact Nat.le_refl _};{rw[af Z];exact Nat.zero_le _}}
     show k+1+1<=O8 a x (k+1);unfold O8 at g⊢;omega
   ·exact .inr ⟨j,eB,Y⟩
 rcases key 6 with g|⟨j,H,Y⟩
 ·exfalso;have:O8 a x 6<=a.n:=by
   unfold O8;refine Nat.le_trans (vS (g:=λ_=>1) λz _=> ?_) (Nat.le_of_eq (aao a.n));split;{exact Nat.le_refl _};{exact Nat.zero_le _}
  have:=U.n6;omega
 ·have G:Way a j x z:=by
   by_cases hjm:j<=m;{have:=zx U hx Y (m-j) z (by rw[show j+(m-j)=m by omega];exact M);exact this};{have:=M.more (j-m);rw[show m+(j-m)=j by omega]at this;exact this}
  have:=G.more (6-j);rw[show j+(6-j)=6 by omega]at this;exact this
structure Run(k J:Nat)(A:Nat->AN):Prop where
 r:∀j,j<J->∃N m,Gi N k (A j) m (A (j+1))
 z:∀j,j<=J->∀c d,c<(A j).nc->d<2->(A j).F c d=[]
theorem Gi.same {a m:AN} (h:Gi N k a m b):b.n=a.n/\b.nc=a.nc/\b.e=a.e/\b.jc=a.jc:=(h.keep (λ_=>True) trivial λ_ _ _ _ _ _ _ _ _ _ _ _=>trivial).2.2
theorem Run.same {k J:Nat} {A:Nat->AN} (h:Run k J A):∀j,j<=J->(A j).n=(A 0).n/\(A j).nc=(A 0).nc/\(A j).e=(A 0).e/\(A j).jc=(A 0).jc
 |0,_=>⟨rfl,rfl,rfl,rfl⟩
 |j+1,hj=>by
  obtain⟨N,m,M⟩:=h.r j eB;obtain⟨Z,Y,U,Q⟩:=Run.same h j eB;obtain⟨b1,b2,b3,b4⟩:=M.same;exact⟨b1.trans Z,b2.trans Y,b3.trans U,b4.trans Q⟩
theorem Run.spread {k J:Nat} {A:Nat->AN} (h:Run k J A) {i x z:Nat} (hw:Way (A 0) i x z):∀j,j+i<=J->∀(y:Int) (q:PS),((A j).R x).K y=μ q->yE ((A (j+i)).R z).K y q.1 q.2:=by
 induction hw with
 |here=>intro j _ y q Z;exact uZ Z
 | @stay i x z _ ih=>
   intro j hj y q Z;obtain⟨N,m,Y⟩:=h.r (j+i) eB;exact(ih j eB y q Z).mono (Y.mono z)
 | @go i x w z _ s ih=>
   intro j hj y q Z;obtain⟨u,u1,u2⟩:=ih j eB y q Z;obtain⟨N,m,Y⟩:=h.r (j+i) eB;obtain⟨e1,H,G,E⟩:=h.same (j+i) eB;obtain⟨c,d,h1,h2,h3,Q,M,h6⟩:=s;have U:∀d,rX (A (j+i)) c d=rX (A 0) c d:=λd=>by unfold rX;rw[G]
   have:=Y.spread (λc' d' j9 kF=>h.z (j+i+1) eB c' d' (by rw[Y.same.2.1];exact j9) kF) (c:=c) (d:=d) (by rw[H];exact h1) h2 (by rw[E];exact h3) (by rw[U,U,Q,M];exact h6) (y:=y) (q:=u) (by rw[U,Q];exact u1);rw[U,M]at this;exact this.trans u2
theorem Run.cl(h:Run k J A)(x:Nat)(M:j<=J):Cl (A j) (nZ (A 0) x):=λc d hc hd hi hl hC=>by
 obtain⟨e1,Y,U,Q⟩:=h.same j M;have Z:∀d,rX (A j) c d=rX (A 0) c d:=λd=>by unfold rX;rw[U]
 rw[Z,Z]at hl;rw[Z]at hC⊢;exact hC.trans (nZ.adj ⟨c,d,by rw[<-Y];exact hc,hd,by rw[<-Q];exact hi,rfl,rfl,hl⟩)
theorem Xu {L:Int->Option PS} {p:PS} (Y:K y=μ p)(U:L y=μ q)(Q:yE L y p.1 p.2)(M:yE K y q.1 q.2):p=q:=by
 obtain⟨u,u1,u2⟩:=Q;obtain⟨v,v1,v2⟩:=M;rw[U]at u1;rw[Y]at v1;injection u1 with u1
 injection v1 with v1
 subst u1 v1;rw[uM]at v2;have Z:mC q.1 q.2 p.1 p.2=0:=eB;have:=Ba.1 Z;exact aU this.1.symm this.2.symm
theorem Run.equal(h:Run k J A)(hJ:12<=J) {x0:Nat} (hx0:x0<(A 0).n)(y:Int):∃v,Be (nZ (A 0) x0) y v (A 12):=by
 obtain⟨N0,m0,r0⟩:=h.r 0 eB;have xJ:=r0.s.env.i.rD;have kL:∀x,nZ (A 0) x0 x->x<(A 0).n:=λx hx=>by obtain⟨k,G⟩:=hx;exact G.lt xJ hx0
 have H:∀x z,nZ (A 0) x0 x->nZ (A 0) x0 z->Way (A 0) 6 x z:=λx z hx hz=>aap xJ (kL x hx) (hx.symm.trans hz);have bd:∀j,j<=6->Bd (nZ (A 0) x0) y (A 0) (A j):=λj=>by
  induction j with
  |zero=>intro _ x hx q Z;exact .inl ⟨x,hx,uZ Z⟩
  |succ j ih=>
   intro hj;obtain⟨N,m,Y⟩:=h.r j eB;exact Y.bd (h.cl x0 eB) (ih eB)
 have b6:=bd 6 (Nat.le_refl _);have be:∀j i v,Be (nZ (A 0) x0) y v (A j)->j+i<=J->Be (nZ (A 0) x0) y v (A (j+i)):=λj i v hv=>by
  induction i with
  |zero=>intro _;exact hv
  |succ i ih=>
   intro hi;obtain⟨N,m,Y⟩:=h.r (j+i) eB;exact Y.be (h.cl x0 eB) (ih eB)
 by_cases jA:∃i,nZ (A 0) x0 i/\(i:Int)+1=y
 ·obtain⟨i,hi,hy⟩:=jA;subst hy;obtain⟨N6,m6,r6⟩:=h.r 6 eB;obtain⟨B,hB⟩:=r6.s.env.i.own;obtain⟨M,_,_,_⟩:=h.same 6 eB;have GJ:=hB.r i (by rw[M];exact kL i hi);obtain⟨o,U,_⟩:=GJ.2.1.own;rw[GJ.2.2.2.1]at U;have o6:Bo (nZ (A 0) x0) i o (A 6):=by
   refine⟨U,λx hx q Z=> ?_⟩;have G:yE ((A 6).R i).K ((i:Int)+1) q.1 q.2:=by
    rcases b6 x hx q Z with⟨x1,g1,u,u1,u2⟩|⟨i',g1,g2,g3⟩
    {have:=h.spread (H x1 i g1 hi) 0 eB ((i:Int)+1) u u1;exact this.trans u2};{have:i'=i:=eB;subst this;exact g3}
   obtain⟨u,u1,u2⟩:=G;rw[U]at u1;injection u1 with u1;rw[u1];exact u2
  have bo:∀j,j<=6->Bo (nZ (A 0) x0) i o (A (6+j)):=λj=>by
   induction j with
   |zero=>intro _;exact o6
   |succ j ih=>
    intro hj;obtain⟨N,m,Y⟩:=h.r (6+j) eB;exact Y.bo (h.cl x0 eB) hi (ih eB)
  have o12:=bo 6 (Nat.le_refl _);refine⟨μ o,λx hx=> ?_⟩;obtain⟨u,u1,u2⟩:=h.spread (H i x hi hx) 6 eB ((i:Int)+1) o U;have E:=o12.2 x hx u u1;rw[u1];congr 1;rw[uM]at E;have h0:mC u.1 u.2 o.1 o.2=0:=eB;have:=Ba.1 h0;exact aU this.1 this.2
 ·have left:∀x,nZ (A 0) x0 x->∀q:PS,((A 6).R x).K y=μ q->∃x1,nZ (A 0) x0 x1/\yE ((A 0).R x1).K y q.1 q.2:=λx hx q Z=>by
   rcases b6 x hx q Z with g|⟨i,g1,g2,_⟩
   {exact g};{exact absurd ⟨i,g1,g2⟩ jA}
  have up:∀x z,nZ (A 0) x0 x->nZ (A 0) x0 z->∀q:PS,((A 6).R x).K y=μ q->yE ((A 6).R z).K y q.1 q.2:=λx z hx hz q Z=>by
   obtain⟨x1,g1,u,u1,u2⟩:=left x hx q Z;exact(h.spread (H x1 z g1 hz) 0 eB y u u1).trans u2
  have vN:nZ (A 0) x0 x0:=⟨0,Way.here _⟩
  refine⟨((A 6).R x0).K y,be 6 6 _ (λx hx=> ?_) eB⟩;cases Q:((A 6).R x0).K y with
  |none=>
   cases M:((A 6).R x).K y with
   |none=>rfl
   |some q=>
    obtain⟨u,u1,_⟩:=up x x0 hx vN q M;rw[Q]at u1;exact absurd u1 ik
  |some p=>
   obtain⟨q,q1,q2⟩:=up x0 x vN hx p Q;rw[q1];congr 1;exact(Xu Q q1 ⟨q,q1,q2⟩ (up x x0 hx vN q q1)).symm
def EqA(a:AN):Prop:=∀c d,c<a.nc->d<2->a.jc c=true->rX a c d≠rX a c (1-d)->(a.R (rX a c d)).K=(a.R (rX a c (1-d))).K
def OwN(a:AN):Prop:=∀c d,c<a.nc->d<2->a.jc c=true->rX a c d≠rX a c (1-d)->∀y,(a.R (rX a c d)).O (a.e c d).2 y=ν
theorem Run.eqA(h:Run k J A)(U:12<=J):EqA (A 12):=λc d hc hd hi hl=>by
 obtain⟨e1,Y,Q,M⟩:=h.same 12 U;obtain⟨N0,m0,H⟩:=h.r 0 eB;have Z:∀d,rX (A 12) c d=rX (A 0) c d:=λd=>by unfold rX;rw[Q]
 have hx:rX (A 12) c d<(A 0).n:=by rw[Z];exact(H.s.env.i.rD.en c d (by rw[<-Y];exact hc) hd).1
 funext y
 obtain⟨v,hv⟩:=h.equal U hx y;rw[hv _ ⟨0,Way.here _⟩];rw[hv (rX (A 12) c (1-d)) (nZ.adj ⟨c,d,by rw[<-Y];exact hc,hd,by rw[<-M];exact hi,(Z d).symm,(Z (1-d)).symm,hl⟩)]
theorem aiq(i:Nat)(s:List UInt8)(h:(iB s).2.2.2=0->(r.P i).pe.both=true->r.K (iB s).1=μ ((iB s).2.1,(iB s).2.2.1))(j:Nat)(y:Int)(Z:r.O j y=ν):(jw r i s).O j y=ν:=by
 unfold jw;simp only;split;{exact Z}
 ·rename_i g
  have M:(iB s).2.2.2=0:=eB;have hb:(r.P i).pe.both=true:=by
   cases hb:(r.P i).pe.both;{exact absurd (.inr hb) g};{rfl}
  have Q:=h M hb;have Y:newF r.K (iB s).1 (iB s).2.1 (iB s).2.2.1=0:=by rw[oB Q];exact oA _ _
  rw[Y];rw[af ik];have U:pw r.K r.O i (iB s).1 (iB s).2.1 (iB s).2.2.1 j y=ν:=by
   unfold pw;rw[Y,af eF,af eF];split
   ·rename_i e
    show(if y=(iB s).1 then ν else r.O i y)=ν;split;{rfl};{rw[<-e];exact Z}
   ·exact Z
  split;{exact U};{exact U}
theorem aaq(Y:Kw r)(i:Nat)(s:List UInt8)(Q:(iB s).2.2.2=0)(hb:(r.P i).pe.both=true)(Z:(r.P i).L.st=9)(H:r.K (iB s).1=μ ((iB s).2.1,(iB s).2.2.1)):jz ((jY r i (83::s)).P i)=[65::rN (iB s).1 (iB s).2.1 (iB s).2.2.1] :=by
 have G:jY r i (83::s)=jw r i s:=by
  show r.take i 83 s=_;rw[l7,uX i s eF,af (by rw[Z];simp)];unfold mO;rw[af eF,ai rfl]
 rw[G];have M:newF r.K (iB s).1 (iB s).2.1 (iB s).2.2.1=0:=by rw[oB H];exact oA _ _
 unfold jw;simp only;rw[af (by rw[hb];simp;exact Q),M,af ik,ai eF,k9,ai rfl];have hv:oK (iB s).1 (iB s).2.1 (iB s).2.2.1=0:=qy (by rw[<-Q]);have hlen:=DZ hv;obtain⟨z,E⟩:∃z:iW,({r with K:=lQ r.K (iB s).1 (iB s).2.1 (iB s).2.2.1,O:=pw r.K r.O i (iB s).1 (iB s).2.1 (iB s).2.2.1}:iW)=z:=⟨_,rfl⟩
 have hzP:z.P i=r.P i:=by rw[<-E]
 have U:=uW (p:=r.P i) (Y.fr i) 65 (rN (iB s).1 (iB s).2.1 (iB s).2.2.1);rw[af (by rw[Z];simp;omega),jM (Y i)]at U;exact U
def FE(a:AN):Prop:=∀c d,c<a.nc->d<2->a.jc c=true->rX a c d≠rX a c (1-d)->∀x∈a.F c d,∀s,(x=83::s \/x=65::s)->(iB s).2.2.2=0->(a.R (rX a c d)).K (iB s).1=μ ((iB s).2.1,(iB s).2.2.1)
theorem Gi.paid {a m:AN} (h:Gi N k a m b)(h0:∀c d,c<a.nc->d<2->a.F c d=[])(h1:∀c d,c<a.nc->d<2->b.F c d=[])(NZ:EqA a):(∀j,(b.R j).K=(a.R j).K)/\EqA b/\OwN b:=by
 obtain⟨B,hB⟩:=h.s.env.i.own;have hrm:∀c d,rX m c d=rX a c d:=λc d=>by unfold rX;rw[h.me.2.2.1]
 have aeP:∀ {y:Int} {q:PS},oK y q.1 q.2=0->iB (rN y q.1 q.2)=(y,q.1,q.2,0):=λhv=>od _ _ _ hv
 let P:AN->Prop:=λz=>((∀j,(z.R j).K=(a.R j).K)/\FE z)/\∀c d,c<a.nc->d<2->a.jc c=true->rX a c d≠rX a c (1-d)->∀y,(z.R (rX a c d)).O (a.e c d).2 y=ν \/ ∃q:PS,(a.R (rX a c d)).K y=μ q/\(83::rN y q.1 q.2∈z.F c d \/65::rN y q.1 q.2∈z.F c (1-d))
 have hm:P m:=by
  refine⟨⟨λj=>(h.ko j).1,λc d hc hd hi hl x hx s hs Z=> ?_⟩,λc d hc hd hi hl y=> ?_⟩
  ·rw[h.me.2.1]at hc;rw[h.me.2.2.2]at hi;rw[hrm,hrm]at hl;obtain⟨l,f1,f2,_⟩:=h.mf c d hc hd;rw[f1,h0 c d hc hd,bU,f2 hi hl]at hx;rw[hrm,(h.ko _).1];have M:=hB.r _ (h.s.env.i.rD.en c d hc hd).1;rcases aP.1 hx with g|g
   ·rw[g]at hs;rcases hs with e|e<;>exact absurd (aC e).1 eF
   ·obtain⟨q,q1,q2⟩:=aT.1 g;have U:=M.1.tie _ _ _ (xZ q1);have hv:=M.1.val _ _ U;have q2:x∈DW (q.1,q.2):=q2;rw[Kk hv]at q2;have vY:=ar.1 q2;have hs':s=rN q.1 q.2.1 q.2.2:=by
     rw[vY]at hs;rcases hs with e|e
     {exact(aC e).2.symm};{exact absurd (aC e).1 eF}
    rw[hs',aeP hv];exact U
  ·rw[(h.ko _).2];cases hO:(a.R (rX a c d)).O (a.e c d).2 y with
   |none=>exact .inl rfl
   |some q=>
    right;have M:=hB.r _ (h.s.env.i.rD.en c d hc hd).1;have U:=M.1.tie _ _ _ hO;have hv:=M.1.val _ _ U;have hy:=M.2.1.P5 y (by rw[U];rfl);obtain⟨l,f1,f2,_⟩:=h.mf c d hc hd;refine⟨q,U,.inl ?_⟩;rw[f1,f2 hi hl];refine av.2 (.inr (aP.2 (.inr (aT.2 ⟨(y,q),ML hy hO,?_⟩))));rw[Kk hv];simp
 obtain⟨_,⟨⟨g1,_⟩,g3⟩,e1,e2,e3,e4⟩:=h.keep P hm λz c d x l Z E hT hc hd hF hP=>by
  obtain⟨⟨p1,p2⟩,p3⟩:=hP;have Y:∀c d,rX z c d=rX a c d:=λc d=>by unfold rX;rw[E.2.2.1]
  obtain⟨_,k1,k2,k3⟩:=Z.pop h.l h.k1 hT hc hd hF;obtain⟨D,hD⟩:=Z.env.i.own;have SH:=Z.env.i.nrm;have Ub:x∈z.F c d:=by rw[hF];simp
  have air:z.jc c=true->rX z c d≠rX z c (1-d)->(z.R (rX z c d)).K=(z.R (rX z c (1-d))).K:=λhi hl=>by
   rw[p1,p1,Y,Y];exact NZ c d (by rw[<-E.2.1];exact hc) hd (by rw[<-E.2.2.2];exact hi) (by rw[<-Y,<-Y];exact hl)
  have U:∀j,((z.pop c d x l).R j).K=(z.R j).K:=λj=>by
   funext y
   rcases Z.news h.l h.k1 hT hc hd hF j y with g|⟨g1,g2,g3,u,⟨v,v1,v2⟩,g5,_⟩
   {exact g};{rw[air g2 g3,<-g1]at v1;exact absurd g5 (Kl v1 v2)}
  have Km:∀c' d',c'<z.nc->d'<2->∃em,(z.pop c d x l).F c' d'=(if c'=c/\d'=d then l else z.F c' d')++em:=(Z.env.pop h.l h.k1 hc hd hF).2.2;have kJ:∀s,x=83::s->(iB s).2.2.2=0->((z.R (rX z c (1-d))).P (z.e c (1-d)).2).pe.both=true->(z.jc c=true/\rX z c d≠rX z c (1-d))/\(z.R (rX z c (1-d))).K (iB s).1=μ ((iB s).2.1,(iB s).2.2.1):=λs hs mS hb=>by
   obtain⟨i1,i2⟩:=Z.Xt hc (show 1-d<2 by omega) hb;rw[show 1-(1-d)=d by omega]at i2;refine⟨⟨i1,λw=>i2 w.symm⟩,?_⟩;rw[<-air i1 λw=>i2 w.symm];exact p2 c d hc hd i1 (λw=>i2 w.symm) x Ub s (.inl hs) mS
  have hO:∀j p y,(z.R j).O p y=ν->((z.pop c d x l).R j).O p y=ν:=λj p y Q=>by
   by_cases e:j=rX z c (1-d)
   ·rw[e]at Q⊢;rw[k3];cases x with
    |nil=>exact Q
    |cons u s=>
     by_cases h83:u=83;{subst h83;exact aiq (z.e c (1-d)).2 s (λa1 a2=>(kJ s rfl a1 a2).2) p y Q}
     ·by_cases h65:u=65
      ·subst h65;show(kQ (z.R (rX z c (1-d))) (z.e c (1-d)).2 s).O p y=ν;unfold kQ;simp only;split
       ·show(if _ then yU _ _ else _) y=ν;split
        ·rename_i g
         show(if y=_ then ν else _)=ν;split;{rfl};{rw[<-g.1];exact Q}
        ·exact Q
       ·exact Q
      ·rw[I3 _ _ s h83 h65];exact Q
   ·rw[(k1 j e).2];exact Q
  refine⟨⟨λj=>(U j).trans (p1 j),λc' d' j9 H ll Yo w hw s hs mS=> ?_⟩,λc' d' j9 H ll Yo y=> ?_⟩
  ·
   have Tz:c'<z.nc:=j9;have ais:rX z c' d'≠rX z c' (1-d'):=Yo;show((z.pop c d x l).R (rX z c' d')).K _=_;rw[U];have C2:∀v,v∈(z.lR c d l).F c' d'->v∈z.F c' d':=λv hv=>by
    rw[tK]at hv;split at hv;{rename_i e;rw[e.1,e.2,hF];simp[hv]};{exact hv}
   obtain⟨m1,_⟩:=qM (SH.emp (z.e c (1-d)).1) (z.e c (1-d)).2 x;unfold AN.pop at hw;rw[vZ]at hw;split at hw
   ·rename_i ait
    rcases av.1 hw with u|u
    ·exact p2 c' d' Tz H ll ais w (C2 w u) s hs mS
    ·cases m1 ((z.lR c d l).e c' d').2 with
     |none h=>rw[h]at u;simp at u
     |link s' _ _ _ h=>rw[h]at u;obtain⟨v,hv⟩:=sD u;rw[hv]at hs;rcases hs with e|e<;>exact absurd (aC e).1 eF
     |J4 u1 u2 s' _ _ _ _ h=>rw[h]at u;rw[ar.1 u]at hs;rcases hs with e|e<;>exact absurd (aC e).1 eF
     |heard s' vY hp' _ TK qK _ _ h=>
      rw[h]at u;have hw':=ar.1 u;have hv:oK (iB s').1 (iB s').2.1 (iB s').2.2.1=0:=qy (by rw[<-TK]);have T9:s=rN (iB s').1 (iB s').2.1 (iB s').2.2.1:=by
       rw[hw']at hs;rcases hs with e|e
       {exact absurd (aC e).1 eF};{exact(aC e).2.symm}
      rw[T9,od _ _ _ hv];have Au:=Z.env.i.rD.ds c' d' c (1-d) Tz H hc eB (aU ait.2 hp');rw[Au.1,Au.2];exact(kJ s' vY TK qK).2
   ·exact p2 c' d' Tz H ll ais w (C2 w hw) s hs mS
  ·
   rcases p3 c' d' j9 H ll Yo y with g|⟨q,q1,q2⟩
   ·exact .inl (hO _ _ _ g)
   ·have Tz:c'<z.nc:=by rw[E.2.1];exact j9
    have M:=hB.r _ (h.s.env.i.rD.en c' d' j9 H).1;have hv:=M.1.val y q q1;have hzX:(z.R (rX z c' d')).K y=μ q:=by rw[p1,Y];exact q1
    have hzZ:(z.R (rX z c' (1-d'))).K y=μ q:=by rw[p1,Y,<-NZ c' d' j9 H ll Yo];exact q1
    rcases q2 with q2|q2
    ·by_cases e:c'=c/\d'=d
     ·obtain⟨z1,z2⟩:=e;subst z1 z2;rw[hF]at q2;rcases aP.1 q2 with v|v
      {right;refine⟨q,q1,.inr ?_⟩;have oQ:=Z.pb c' (1-d') hc eB (by rw[E.2.2.2];exact ll) (by rw[Y,Y,show 1-(1-d')=d' by omega];exact λw=>Yo w.symm);have h9:((z.R (z.e c' (1-d')).1).P (z.e c' (1-d')).2).L.st=9:=Z.env.o c' (1-d') hc eB (by rw[E.2.2.2];exact ll);have hp:=od _ _ _ hv;have V8:=aaq (SH.emp (z.e c' (1-d')).1) (z.e c' (1-d')).2 (rN y q.1 q.2) (by rw[hp]) oQ.2.1 h9 (by rw[hp];exact hzZ);rw[hp]at V8;rw[<-v];unfold AN.pop;rw[vZ,zq,ai ⟨⟨hc,eB⟩,rfl⟩,V8];simp};{right;obtain⟨em,f⟩:=Km c' d' hc hd;rw[ai ⟨rfl,rfl⟩]at f;exact⟨q,q1,.inl (by rw[f];simp[v])⟩}
     ·right;obtain⟨em,f⟩:=Km c' d' Tz H;rw[af e]at f;exact⟨q,q1,.inl (by rw[f];simp[q2])⟩
    ·by_cases e:c'=c/\1-d'=d
     ·obtain⟨z1,z2⟩:=e;subst z1;have Hl:1-d=d':=eB;rw[z2,hF]at q2;rcases aP.1 q2 with v|v
      ·left;have hX:rX a c' d'=rX z c' (1-d):=by rw[Y,Hl]
       rw[hX,k3,<-v];show(kQ (z.R (rX z c' (1-d))) (z.e c' (1-d)).2 (rN y q.1 q.2)).O (a.e c' d').2 y=ν;have hp:=od _ _ _ hv;unfold kQ;simp only;rw[hp];simp only;rw[ai trivial];have hK0:newF (z.R (rX z c' (1-d))).K y q.1 q.2=0:=by rw[Hl,oB hzX];exact oA _ _
       show(if(a.e c' d').2=(z.e c' (1-d)).2/\0<=newF (z.R (rX z c' (1-d))).K y q.1 q.2 then yU ((z.R (rX z c' (1-d))).O (z.e c' (1-d)).2) y else _) y=ν;rw[ai ⟨by rw[E.2.2.1,Hl],by rw[hK0];exact Int.le_refl _⟩];show(if y=y then ν else _)=ν;rw[ai rfl]
      ·right;obtain⟨em,f⟩:=Km c' (1-d') hc eB;rw[ai ⟨rfl,z2⟩]at f;exact⟨q,q1,.inr (by rw[f];simp[v])⟩
     ·right;obtain⟨em,f⟩:=Km c' (1-d') Tz eB;rw[af e]at f;exact⟨q,q1,.inr (by rw[f];simp[q2])⟩
 have G:∀c d,rX b c d=rX a c d:=λc d=>by unfold rX;rw[e3]
 refine⟨g1,λc d hc hd hi hl=> ?_,λc d hc hd hi hl y=> ?_⟩;{rw[g1,g1,G,G];exact NZ c d (by rw[<-e2];exact hc) hd (by rw[<-e4];exact hi) (by rw[<-G,<-G];exact hl)}
 ·have:=g3 c d (by rw[<-e2];exact hc) hd (by rw[<-e4];exact hi) (by rw[<-G,<-G];exact hl) y;rw[G,e3];rcases this with g|⟨q,_,g|g⟩
  {exact g};{rw[h1 c d (by rw[<-e2];exact hc) hd]at g;simp at g};{rw[h1 c (1-d) (by rw[<-e2];exact hc) eB]at g;simp at g}
structure Fl(D N k:Nat)(y:ja):Prop where
 ok:ki y D 0
 g:GN y
 f:jN y
 e:Env N k (iT y)
 s:Still y
theorem Fl.st {y:ja} (h:Fl D N k y):St D N k y:=⟨h.ok,h.g,h.f,h.e.i⟩
theorem Fl.nil {y:ja} (h:Fl D N k y)(c d:Nat)(hc:c<(iT y).nc)(hd:d<2):(iT y).F c d=[] :=h.s.f c d hc hd
theorem Fl.round {D N k:Nat} {y:ja} (h:Fl D N k y)(Z:D<=800000000)(H:N+144<1000000)(G:k+1<=126):∃m,ym (m9 (iT y).n) (iT y) m/\wk m (iT y.round)/\Fl (D+1300000) (N+144) k y.round/\∀c d,c<y.nc->d<2->(y.C c).jc=true->mZ (iT y.round) c d=ju ((rX (iT y) c d:Int)+1) ((rX (iT y) c (1-d):Int)+1) (iV (mZ (iT y) c (1-d))).who:=by
 obtain⟨m,U,Q,M⟩:=h.st.light h.s Z H G;obtain⟨_,len,_⟩:=pU y.n;have n6:=h.ok.n6;have hl:N+8*(m9 (iT y).n).length<1000000:=by show N+8*(m9 y.n).length<_;rw[len];omega
 have u:∀c d,c<(iT y).nc->d<2->(iT y.round).F c d=[] :=λc d hc hd=>M.f c d (by rw[(kX y).2.1];exact hc) hd;obtain⟨Y,E⟩:=CZ (a:=iT y) U Q h.e hl eB h.nil u;refine⟨m,U,Q,⟨h.ok.round Z,h.g.round h.ok Z,h.f.round h.ok Z,⟨Y.i.mono (by show N+8*(m9 y.n).length<=_;rw[len];omega) λ_=>Nat.le_refl _,Y.o,Y.nl⟩,M⟩,λc d hc hd hi=>E c d hc hd hi⟩
theorem St.fl {y:ja} (h:St D N k y)(hD:D<=780000000)(hN:N+20*144<1000000)(E:k+8<=126):Fl (D+1300000*7) (N+144*7) (k+7) (mK y 7):=by
 have M:=h.opens eB eB E 6 (Nat.le_refl _);simp only[Nat.reduceAdd,Nat.reduceSub]at M;obtain⟨Z,Y,H⟩:=M;obtain⟨G,U,_,Q⟩:=yb y 7;obtain⟨z,u⟩:=fq (mK y 7);rw[u]at Z Y H G U Q⊢;exact⟨Z.ok,Z.g,Z.f,⟨Z.i,λc d hc hd hi=>(H c (by rw[<-U];exact hc) (by rw[<-(Q c).2];exact hi)).open hd,λc d hc hd x hx=>by rw[Y.f c d hc hd]at hx;simp at hx⟩,Y⟩
structure Fs(D N k:Nat)(y:ja):Prop where
 ok:ki y D 0
 g:GN y
 f:jN y
 s:AR N k [] (iT y)
 z:Still y
theorem Fs.fl {y:ja} (h:Fs D N k y):Fl D N k y:=⟨h.ok,h.g,h.f,h.s.env,h.z⟩
theorem Fl.two {y:ja} (h:Fl D N k y)(hD:D<=790000000)(hN:N+3*144<1000000)(hk:k+1<=126):Fs (D+1300000*2) (N+144*2) k (mK y 2):=by
 obtain⟨_,_,_,h1,p1⟩:=h.round eB eB hk;obtain⟨_,_,_,Z,p2⟩:=h1.round eB eB hk;obtain⟨s1,s2,_,M⟩:=kX y;obtain⟨t1,t2,_,t4⟩:=kX y.round;have lE:∀c d,rX (iT y.round) c d=rX (iT y) c d:=λc d=>by show((y.round.C c).e d).1=_;rw[(M c).1];rfl
 have U:∀c d,rX (iT y.round.round) c d=rX (iT y) c d:=λc d=>by show((y.round.round.C c).e d).1=_;rw[(t4 c).1,(M c).1];rfl
 have pQ:(iT y.round.round).nc=y.nc:=t2.trans s2;have u:∀c,(iT y.round.round).jc c=(y.C c).jc:=λc=>((t4 c).2).trans (M c).2;obtain⟨X,hX⟩:=Z.e.i.lk;obtain⟨B,hB⟩:=Z.e.i.own;have H:∀c d,c<(iT y.round.round).nc->d<2->(mZ (iT y.round.round) c d).who=0->(mZ (iT y.round.round) c d).both=false:=λc d hc hd Q=>by
  have E:=Z.e.i.rD.en c d hc hd;have hr:=hB.r _ E.1;have G:=hr.2.1.pe ((iT y.round.round).e c d).2 (by rw[hr.2.2.2.2];exact E.2);cases hb:(mZ (iT y.round.round) c d).both;{rfl};{have:=G.both hb;unfold mZ at Q;omega}
 have Y:∀c d,c<y.nc->d<2->(y.C c).jc=true->mZ (iT y.round.round) c d=ju ((rX (iT y) c d:Int)+1) ((rX (iT y) c (1-d):Int)+1) (iV (ju ((rX (iT y) c (1-d):Int)+1) ((rX (iT y) c d:Int)+1) (iV (mZ (iT y) c d)).who)).who:=λc d hc hd hi=>by
  rw[p2 c d (by rw[s2];exact hc) hd (by rw[(M c).2];exact hi),p1 c (1-d) hc eB hi,lE,lE,show 1-(1-d)=d by omega]
 refine⟨Z.ok.mono eB (Nat.le_refl _),Z.g,Z.f,⟨⟨Z.e.i.mono eB λ_=>Nat.le_refl _,Z.e.o,Z.e.nl⟩,λc d hc hd hi hl=> ?_,λc d hc hd AW=> ?_,λc d hc hd _ _ x hx=> ?_,λi p hi G lL=> ?_⟩,Z.s⟩;{rw[show(iT (mK y 2))=iT y.round.round from rfl]at*;rw[U,U]at hl;rw[Y c d (by rw[<-pQ];exact hc) hd (by rw[<-u];exact hi),U];have jx:¬((rX (iT y) c (1-d):Int)+1=(rX (iT y) c d:Int)+1):=eB;have TA:¬((rX (iT y) c d:Int)+1=(rX (iT y) c (1-d):Int)+1):=eB;unfold ju;rw[af jx,af TA];unfold iV;rw[af (by show¬(4:Int)<=1;decide)];refine⟨rfl,ik,?_⟩;rw[af ik];exact Int.le_refl _}
 ·rw[show(iT (mK y 2))=iT y.round.round from rfl]at*;have Q:(mZ (iT y.round.round) c d).who=0:=by
   cases hi:(iT y.round.round).jc c;{by_cases g:(mZ (iT y.round.round) c d).who=0;{exact g};{have:=Z.e.i.fl.gate c d hc hd g;have:=(hX.dn c hc hi d hd).2.1;omega}}
   ·have hl:rX (iT y) c d=rX (iT y) c (1-d):=by
     rcases AW with g|g
     {rw[hi]at g;exact absurd g ik};{rw[U,U]at g;exact g}
    rw[Y c d (by rw[<-pQ];exact hc) hd (by rw[<-u];exact hi)];unfold ju;rw[ai (by rw[hl])];rfl
  exact⟨Q,H c d hc hd Q⟩
 {rw[show(iT (mK y 2))=iT y.round.round from rfl]at*;rw[Z.s.f c d hc hd]at hx;simp at hx};{have:=Z.ok.idle i p hi G λc d hc hd=>lL c d hc hd;have Y:((y.round.round.R i).P p).pe=nobody:=this.pe;exact⟨this.st,by show((y.round.round.R i).P p).pe.who=0;rw[Y];rfl,by show((y.round.round.R i).P p).pe.both=false;rw[Y];rfl⟩}
theorem Fs.round {D N k:Nat} {y:ja} (h:Fs D N k y)(M:D<=800000000)(H:N+144<1000000)(G:k+1<=126):∃m,Gi N k (iT y) m (iT y.round)/\Fs (D+1300000) (N+144) k y.round:=by
 obtain⟨m,U,Q,Z,_⟩:=h.fl.round M H G;obtain⟨_,len,_⟩:=pU y.n;have n6:=h.ok.n6;have hl:N+8*(m9 (iT y).n).length<1000000:=by show N+8*(m9 y.n).length<_;rw[len];omega
 have Y:=Gi.of h.s U Q hl eB;have hs:=Y.sta h.fl.nil λc d hc hd=>Z.nil c d (by show c<y.round.nc;rw[(kX y).2.1];exact hc) hd;refine⟨m,Y,Z.ok,Z.g,Z.f,?_,Z.s⟩;have E:N+8*(m9 (iT y).n).length<=N+144:=by show N+8*(m9 y.n).length<=_;rw[len];omega
 exact⟨⟨hs.env.i.mono E λ_=>Nat.le_refl _,hs.env.o,hs.env.nl⟩,hs.pb,hs.pn,hs.hh,hs.id⟩
theorem AU(y:ja)(i:Nat):∀j,mK y (i+j)=mK (mK y i) j
 |0=>rfl
 |j+1=>by show(mK y (i+j)).round=(mK (mK y i) j).round;rw[AU y i j]
theorem Fs.many {D N k:Nat} {y:ja} (h:Fs D N k y)(Y:k+1<=126):∀j,D+1300000*j<=800000000->N+144*(j+1)<1000000->Fs (D+1300000*j) (N+144*j) k (mK y j)
 |0,_,_=>h
 |j+1,hD,hN=>by
  have M:=h.many Y j eB eB;obtain⟨m,_,Z⟩:=M.round eB eB Y;have U:D+1300000*j+1300000=D+1300000*(j+1):=eB;have Q:N+144*j+144=N+144*(j+1):=eB;rw[U,Q]at Z;exact Z
structure Fin(D N k:Nat)(y:ja):Prop where
 s:Fs D N k y
 e:EqA (iT y)
 o:OwN (iT y)
theorem Fin.round {D N k:Nat} {y:ja} (h:Fin D N k y)(Y:D<=800000000)(U:N+144<1000000)(Q:k+1<=126):Fin (D+1300000) (N+144) k y.round/\∀j,((iT y.round).R j).K=((iT y).R j).K:=by
 obtain⟨m,M,Z⟩:=h.s.round Y U Q;obtain⟨H,G,p3⟩:=M.paid h.s.fl.nil (λc d hc hd=>Z.fl.nil c d (by show c<y.round.nc;rw[(kX y).2.1];exact hc) hd) h.e;exact⟨⟨Z,G,p3⟩,H⟩
theorem Fs.fin {y:ja} (h:Fs D N k y)(Q:k+1<=126)(hD:D+1300000*14<=800000000)(hN:N+144*15<1000000):Fin (D+1300000*13) (N+144*13) k (mK y 13):=by
 have run:Run k 12 λj=>iT (mK y j):=by
  refine⟨λj u=> ?_,λj u c d hc hd=> ?_⟩;{obtain⟨m,M,_⟩:=(h.many Q j eB eB).round eB eB Q;exact⟨_,m,M⟩};{exact(h.many Q j eB eB).fl.nil c d hc hd}
 have Z:=h.many Q 12 eB eB;have heq:=run.eqA (Nat.le_refl _);have E:mK y 13=(mK y 12).round:=rfl;have U:EqA (iT (mK y 12)):=heq;rw[E];obtain⟨z,hz⟩:=fq (mK y 12);rw[hz]at Z U⊢;obtain⟨m,M,Y⟩:=Z.round eB eB Q;obtain⟨_,p2,p3⟩:=M.paid Z.fl.nil (λc d hc hd=>Y.fl.nil c d (by show c<z.round.nc;rw[(kX z).2.1];exact hc) hd) U;have H:D+1300000*12+1300000=D+1300000*13:=eB;have G:N+144*12+144=N+144*13:=eB;rw[H,G]at Y;exact⟨Y,p2,p3⟩
theorem Fin.many {D N k:Nat} {y:ja} (h:Fin D N k y)(Y:k+1<=126):∀j,D+1300000*j<=800000000->N+144*(j+1)<1000000->Fin (D+1300000*j) (N+144*j) k (mK y j)/\∀i,((iT (mK y j)).R i).K=((iT y).R i).K
 |0,_,_=>⟨h,λ_=>rfl⟩
 |j+1,hD,hN=>by
  obtain⟨M,k1⟩:=h.many Y j eB eB;obtain⟨Z,k2⟩:=M.round eB eB Y;have U:D+1300000*j+1300000=D+1300000*(j+1):=eB;have Q:N+144*j+144=N+144*(j+1):=eB;rw[U,Q]at Z;exact⟨Z,λi=>(k2 i).trans (k1 i)⟩
theorem St.settled {y:ja} (h:St D N k y)(hD:D<=600000000)(hN:N+50*144<1000000)(G:k+8<=126):Fin (D+1300000*45) (N+144*45) (k+7) (mK y 45):=by
 have M:=h.fl eB eB G;have H:=M.two eB eB eB;have Y:=H.fin eB eB eB;have Z:=(Y.many eB 23 eB eB).1;rw[show mK (mK (mK (mK y 7) 2) 13) 23=mK y 45 by rw[<-AU,<-AU,<-AU]]at Z;have U:D+1300000*7+1300000*2+1300000*13+1300000*23=D+1300000*45:=eB;have Q:N+144*7+144*2+144*13+144*23=N+144*45:=eB;rw[U,Q]at Z;exact Z
theorem TB {many:Nat} (Z:ki (j2 many L) D 0):St D 2 0 (j2 many L):=by
 have u:∀i,i<many->(1:Int)<=(i:Int)+1/\(i:Int)+1<=6:=λi hi=>by have:=Z.n6;have:(j2 many L).n=many:=rfl;omega
 have Q:∀i p,i<many->p<3->1<=pL L i p/\pL L i p<=20:=λi p hi hp=>Z.ms i p hi hp;have hF:∀c d,(iT (j2 many L)).F c d=[] :=λc d=>by
  show(if c<L.length/\d<2 then uC (j2 many L) c d else [])=[]
  split;{rfl};{rfl}
 have hRr:∀i,(iT (j2 many L)).R i=jZ ((i:Int)+1) 3 (pL L i):=λi=>rfl;have G:∀c d,mZ (iT (j2 many L)) c d=nobody:=λc d=>rfl;have hK:∀(i:Nat) (x:Int) (q:PS),(jZ ((i:Int)+1) 3 (pL L i)).K x=μ q->x=(i:Int)+1/\q=(1,[]):=λi x q h=>by
  have U:(if x=(i:Int)+1 then μ ((1:Int),([] :List jQ))else ν)=μ q:=h;split at U;{rename_i e;injection U with U;exact⟨e,U.symm⟩};{exact absurd U ik}
 have jA:∀i,i<many->Own (jZ ((i:Int)+1) 3 (pL L i)):=λi hi=>by
  refine⟨λp x q h=>h,λx q h=> ?_,?_⟩;{obtain⟨M,Y⟩:=hK i x q h;rw[M,Y];have:=u i hi;unfold oK;rw[af eB,af ik];rfl}
  ·have M:Bw (jZ ((i:Int)+1) 3 (pL L i)).K (jZ ((i:Int)+1) 3 (pL L i)).id=[] :=by
    show(match (if(i:Int)+1=(i:Int)+1 then some ((1:Int),([] :List jQ))else none)with|none=>[] |some q=>q.2)=_;rw[ai rfl]
   rw[M];have Y:∀n k,j1 (jZ ((i:Int)+1) 3 (pL L i)).P n k=ν:=λn k=>by
    induction k with
    |zero=>rfl
    |succ k ih=>unfold j1;rw[af (λh=>absurd h.1 (show¬false=true by simp)),ih]
   unfold jJ;simp only[Y,Option.map_none];rfl
 refine⟨Z,FH many L,O0 many L,Z.rD,xy _,⟨1,λi hi=>⟨jA i hi,Ao (u i hi) (Q i · hi),λx q h=> ?_,rfl,rfl⟩,λc d _ _ x hx=> ?_,?_,Nat.le_refl _,Q⟩,⟨λ_ _ _=>false,λc hc hi=> ?_,λc hc hi d hd=> ?_⟩,?_⟩;{obtain⟨_,Y⟩:=hK i x q h;rw[Y];exact Int.le_refl _};{rw[hF]at hx;simp at hx}
 ·have w0:(iT (j2 many L)).W sw=0:=by
   unfold AN.W;rw[tM (g:=λ_=>0) λx _=>by show sm sw ((iT (j2 many L)).F x.1 x.2)=0;rw[hF];rfl];generalize Ti (iT (j2 many L)).nc=m
   induction m with
   |nil=>rfl
   |cons x l ih=>simpa[sm]using ih
  have c0:sm (λi=>rJ ((iT (j2 many L)).R i)) (ft (iT (j2 many L)).n)=0:=by
   rw[tM (g:=λ_=>0) λi _=>by rfl];generalize ft (iT (j2 many L)).n=m
   induction m with
   |nil=>rfl
   |cons x l ih=>simpa[sm]using ih
  omega
 {exact absurd (show false=true from hi) ik};{have E:=Z.en c d hc hd;have H:=Z.n6;obtain⟨z1,z2,z3⟩:=MH (i:=((iT (j2 many L)).e c d).1) (p:=((iT (j2 many L)).e c d).2) (Nat.lt_of_lt_of_le E.1 H) E.2 (pL L ((iT (j2 many L)).e c d).1);have hl:kf (iT (j2 many L)) c d=(Ie ((((iT (j2 many L)).e c d).1:Int)+1) (pL L ((iT (j2 many L)).e c d).1) ((iT (j2 many L)).e c d).2).L:=rfl;rw[hl];exact⟨z1,z2,by rw[z3];exact Int.natCast_nonneg _,hF c d⟩};{refine⟨λc d _ _ h=>absurd (by rw[G];rfl) h,λc d _ _ h=>absurd (by rw[G];rfl) h,λc d _ _ x hx=> ?_,λc d _ _ h=> ?_⟩;{rw[hF]at hx;simp at hx};{rw[G]at h;exact absurd h (by simp[nobody])}}
def lh(r s:iW):Prop:=∀p,(s.P p).m=(r.P p).m
theorem lh.trans {r s t:iW} (h:lh r s)(g:lh s t):lh r t:=λp=>(g p).trans (h p)
theorem lh.meet(r:iW)(i:Nat)(q:lK):lh r (r.meet i q):=λp=>(kB r i q p).2.2.1
theorem lh.jh(r:iW)(i:Nat)(q:jI)(h:q.m=(r.P i).m):lh r (r.jh i q):=λp=>by
 rw[k9];split;{rename_i e;rw[e,h]};{rfl}
theorem lh.state(r:iW)(i:Nat)(s:List UInt8):lh r (jw r i s):=by
 unfold jw;simp only;split;{exact λ_=>rfl};{split;{unfold iW.behind;split<;>exact λ_=>rfl};{split;{exact λp=>(lh.jh _ i _ (sT _ _ _).1) p};{exact λ_=>rfl}}}
theorem lh.heard(r:iW)(i:Nat)(s:List UInt8):lh r (kQ r i s):=by
 unfold kQ;simp only;split<;>exact λ_=>rfl
theorem lh.send(r:iW)(t:zD):lh r (r.send t):=λp=>((nJ r t).2.2.2.2 p).1
theorem lh.link(h:Kw r)(i:Nat)(c:UInt8)(s:List UInt8):lh r (kg r i c s):=λp=>((AA h i c s).2.2.1 p).2.1
theorem lh.jY {r:iW} (h:Kw r)(i:Nat)(x:lD):lh r (jY r i x):=by
 cases x with
 |nil=>exact λ_=>rfl
 |cons c s=>
  show lh r (r.take i c s);rw[l7];refine(lh.link h i c s).trans ?_;split;{exact lh.meet _ _ _}
  ·unfold mO;split;{split;{exact lh.meet _ _ _};{exact λ_=>rfl}}
   ·split;{exact lh.state _ _ _}
    ·split;{exact lh.heard _ _ _}
     ·split
      ·unfold rS
       first
        |(split
          ·exact lh.send _ _
          ·exact λ_=>rfl)
        |exact lh.send _ _
      ·exact λ_=>rfl
theorem lh.jj(r:iW)(i:Nat):lh r (r.jj i):=by
 rw[lA];have Z:lh r (jo r i):=λp=>(mB r i p).1;split;{exact Z.trans (lh.meet _ _ _)};{exact(Z.trans (lh.meet _ _ _)).trans λp=>((qe _ i).2.2.2.2 p).1}
theorem lh.iZ(r:iW)(i:Nat)(up:Bool):lh r (r.iZ i up).1:=by
 unfold iW.iZ;simp only;split;{exact λ_=>rfl};{refine(lh.jh r i _ ?_).trans (lh.meet _ _ _);unfold jI.iZ;simp only;by_cases e:(lr (r.P i).L (if up=true then 0 else 1)).2.2≠0;{rw[ai e]};{rw[af e,(xd _ _).1]}}
def D4(a:AN):Prop:=∀i p,i<a.n->((a.R i).P p).m=a.ms i p
theorem D4.op {a:AN} (h:D4 a)(i:Nat) {s:iW} (hs:lh (a.R i) s):D4 (a.op i s):=λj p Z=>by
 show(((a.op i s).R j).P p).m=a.ms j p;rw[Ke];split
 ·rename_i e
  subst e;exact(hs p).trans (h j p Z)
 ·exact h j p Z
theorem D4.nW {a:AN} (h:D4 a)(c d:Nat)(up:Bool):D4 (a.nW c d up):=h.op _ (lh.iZ _ _ _)
theorem D4.step {a:AN} (s:ni a T S b)(Y:Norm a)(h:D4 a):D4 b:=by
 cases s with
 |lost hl=>
  obtain⟨e,_⟩:=hl;rw[e];exact h
 |tick i p hi hp=>exact h.op i (lh.jj _ _)
 |pop c d x l hc hd hF=>exact D4.op (a:=a.lR c d l) h _ (lh.jY (Y.emp _) _ _)
 |send i t tx hi Z h6 hl=>exact h.op i (lh.send _ _)
 |iZ c hc hi h0 Z=>exact D4.nW (D4.nW h c 0 true) c 1 true
 |draw c hc hi=>exact D4.nW (D4.nW h c 0 false) c 1 false
 |anew i m hi hx=>
  intro j p U;show((j6 a.R i (jZ ((i:Int)+1) 3 (a.ms i)) j).P p).m=a.ms j p;by_cases e:j=i;{subst e;rw[iQ];rfl};{rw[iI _ _ e];exact h j p U}
theorem D4.path {a:AN} (s:j5 a T S b)(Z:Norm a)(h:D4 a):D4 b:=by
 induction s with
 |nil=>exact h
 |snoc p q ih=>exact D4.step q (p.norm Z) ih
theorem Xv(many:Nat)(L:List pz):D4 (iT (j2 many L)):=λ_ _ _=>rfl
def InS(S:Nat->Prop)(H:Nat->HP):Prop:=∀x,x<7->(H x).far≠0->S x
theorem TC {C D:k8} {S:Nat->Prop} (E:∀x y,x<7->y<7->S x->C x y≠0->S y)(h:∀x y,x<7->y<7->S x->C x y=D x y)(r:Nat) {b:Nat} (hb:b<7)(Q:n<7) {H:Nat->HP} (Z:InS S H):pJ C r b n H=pJ D r b n H/\InS S (pJ C r b n H):=by
 unfold pJ;by_cases Y:(H b).far=0;{rw[ai (.inl Y),ai (.inl Y)];exact⟨rfl,Z⟩}
 ·have U:=Z b hb Y;rw[<-h b n hb Q U];refine⟨rfl,?_⟩;split;{exact Z}
  ·rename_i e
   split
   ·intro x hx hf;simp only[rP]at hf;split at hf
    ·rename_i M
     rw[M];exact E b n hb Q U (λG=>e (.inr (.inl G)))
    ·exact Z x hx hf
   ·exact Z
theorem MN {C D:k8} {S:Nat->Prop} (Y:∀x y,x<7->y<7->S x->C x y≠0->S y)(h:∀x y,x<7->y<7->S x->C x y=D x y)(r:Nat) {b:Nat} (hb:b<7) {H:Nat->HP} (Z:InS S H):∀n,n<=7->pX C r b H n=pX D r b H n/\InS S (pX C r b H n)
 |0,_=>⟨rfl,Z⟩
 |n+1,hn=>by
  obtain⟨e,hi⟩:=MN Y h r hb Z n eB;obtain⟨Q,U⟩:=TC Y h r hb (show n<7 by omega) hi;refine⟨?_,U⟩;show pJ C r b n (pX C r b H n)=pJ D r b n (pX D r b H n);rw[<-e,Q]
theorem QD {C D:k8} {S:Nat->Prop} (Y:∀x y,x<7->y<7->S x->C x y≠0->S y)(h:∀x y,x<7->y<7->S x->C x y=D x y)(r:Nat) {H:Nat->HP} (Z:InS S H):∀b,b<=7->Df C r H b=Df D r H b/\InS S (Df C r H b)
 |0,_=>⟨rfl,Z⟩
 |b+1,hb=>by
  obtain⟨e,hi⟩:=QD Y h r Z b eB;obtain⟨Q,U⟩:=MN Y h r (show b<7 by omega) hi 7 (Nat.le_refl _);refine⟨?_,U⟩;show pX C r b (Df C r H b) 7=pX D r b (Df D r H b) 7;rw[<-e,Q]
theorem xG {C D:k8} {S:Nat->Prop} (Q:∀x y,x<7->y<7->S x->C x y≠0->S y)(h:∀x y,x<7->y<7->S x->C x y=D x y) {r:Nat} (U:r<7)(Y:S r):∀k,jF C r k=jF D r k/\InS S (jF C r k)
 |0=>by
  refine⟨?_,?_⟩
  ·funext x
   show lS C r 7 x=lS D r 7 x;unfold lS;by_cases hx:x<7;{rw[h r x U hx Y]};{rw[af (λe=>hx e.1),af (λe=>hx e.1)]}
  ·intro x hx hf;refine Q r x U hx Y λe=>hf ?_;show(lS C r 7 x).far=0;unfold lS;rw[af (by rw[e];exact λZ=>absurd Z.2 eF)];rfl
 |k+1=>by
  obtain⟨e,hi⟩:=xG Q h U Y k;obtain⟨Z,M⟩:=QD Q h r hi 7 (Nat.le_refl _);refine⟨?_,M⟩;show Df C r (jF C r k) 7=Df D r (jF D r k) 7;rw[<-e,Z]
theorem TD {C D:k8} {S:Nat->Prop} (Z:∀x y,x<7->y<7->S x->C x y≠0->S y)(h:∀x y,x<7->y<7->S x->C x y=D x y) {r:Nat} (Q:r<7)(U:S r):qq (kE C) r=qq (kE D) r:=by
 unfold qq;have Y:∀x y,x<7->y<7->S x->kE C x y=kE D x y:=λx y hx hy hs=>by
  unfold kE;rw[<-h x y hx hy hs];by_cases e:C x y=0;{rw[e];simp};{rw[<-h y x hy hx (Z x y hx hy hs e)]}
 rw[(xG (λx y hx hy hs hc=>Z x y hx hy hs (λe=>hc (by unfold kE;rw[e];simp))) Y Q U 6).1]
def Least(S:Int->Prop)(v:Int):Prop:=(v=0/\∀m,¬S m) \/(S v/\∀m,S m->v<=m)
theorem Least.uniq {S Z:Int->Prop} {w:Int} (h:Least S v)(g:Least Z w)(e:∀m,S m↔Z m):v=w:=by
 rcases h with⟨Y,Q⟩|⟨Y,Q⟩
 ·rcases g with⟨g1,_⟩|⟨g1,_⟩
  {rw[Y,g1]};{exact absurd ((e w).2 g1) (Q w)}
 ·rcases g with⟨_,U⟩|⟨g1,U⟩
  {exact absurd ((e v).1 Y) (U v)};{have:=Q w ((e w).2 g1);have:=U v ((e v).1 Y);omega}
theorem Least.pos {S:Int->Prop} (h:Least S v)(U:∀m,S m->1<=m):(0<v↔∃m,S m)/\0<=v:=by
 rcases h with⟨Z,Y⟩|⟨Z,Y⟩
 {exact⟨⟨λe=>eB,λ⟨m,Q⟩=>absurd Q (Y m)⟩,eB⟩};{exact⟨⟨λ_=>⟨v,Z⟩,λ_=>by have:=U v Z;omega⟩,by have:=U v Z;omega⟩}
def vU(P:Nat->jI)(n:Int)(k:Nat):Int:=match j1 P n k with|none=>0|some b=>(P b).m
theorem Gj(P:Nat->jI)(n:Int):∀k,Least (λm=>∃p,p<k/\(P p).pe.both=true/\(P p).pe.who=n/\(P p).m=m) (vU P n k)/\(j1 P n k=ν->∀p,p<k->¬((P p).pe.both=true/\(P p).pe.who=n))
 |0=>⟨.inl ⟨rfl,λm ⟨p,H,_⟩=>absurd H eB⟩,λ_ p H=>absurd H eB⟩
 |k+1=>by
  obtain⟨ih,ih2⟩:=Gj P n k;by_cases hb:CA P n k
  ·have e:=xT hb;refine⟨?_,λQ=>by rw[e]at Q;exact absurd Q ik⟩;have ev:vU P n (k+1)=(P k).m:=by unfold vU;rw[e]
   rw[ev];refine .inr ⟨⟨k,eB,hb.1,hb.2.1,rfl⟩,?_⟩;rintro m ⟨p,H,Z,Y,rfl⟩;by_cases G:p=k;{rw[G];exact Int.le_refl _}
   ·have kL:p<k:=eB;have M:=hb.2.2;unfold vU at ih;cases E:j1 P n k with
    |none=>exact absurd ⟨Z,Y⟩ (ih2 E p kL)
    |some b=>
     rw[E]at M ih;simp only[decide_eq_true_eq]at M;simp only at ih;rcases ih with⟨_,U⟩|⟨_,U⟩
     {exact absurd ⟨p,kL,Z,Y,rfl⟩ (U _)};{have:=U _ ⟨p,kL,Z,Y,rfl⟩;omega}
  ·have e:=wT hb;have ev:vU P n (k+1)=vU P n k:=by unfold vU;rw[e]
   rw[ev,e];have key:j1 P n k=ν->¬((P k).pe.both=true/\(P k).pe.who=n):=λQ u=>hb ⟨u.1,u.2,by rw[Q]⟩;refine⟨?_,λQ p H=> ?_⟩
   ·rcases ih with⟨i1,U⟩|⟨⟨p,i1,i3,i4,i5⟩,U⟩
    ·have hn:j1 P n k=ν:=by
      cases E:j1 P n k with
      |none=>rfl
      |some b=>
       have:=oR E;exact absurd ⟨b,this.1,this.2.1,this.2.2,rfl⟩ (U _)
     refine .inl ⟨i1,?_⟩;rintro m ⟨p,H,Z,Y,M⟩;by_cases G:p=k;{subst G;exact key hn ⟨Z,Y⟩};{exact U m ⟨p,eB,Z,Y,M⟩}
    ·refine .inr ⟨⟨p,eB,i3,i4,i5⟩,?_⟩;rintro m ⟨q,E,Z,Y,M⟩;by_cases h:q=k
     ·subst h;have h5:¬(match j1 P n q with|none=>true|some b=>decide ((P q).m<(P b).m))=true:=λu=>hb ⟨Z,Y,u⟩;unfold vU;cases Hm:j1 P n q with
      |none=>exact absurd ⟨Z,Y⟩ (key Hm)
      |some b=>
       rw[Hm]at h5;simp only[decide_eq_true_eq]at h5;simp only;omega
     ·exact U m ⟨q,eB,Z,Y,M⟩
   ·by_cases G:p=k;{subst G;exact key Q};{exact ih2 Q p eB}
theorem Xw(P:Nat->jI)(n:Int)(k:Nat)(Z:∀p,p<k->1<=(P p).m)(j:Int):((j1 P n k).map λb=>(j,(P b).m))=if 0<vU P n k then μ (j,vU P n k)else ν:=by
 unfold vU;cases Y:j1 P n k with
 |none=>simp
 |some b=>
  have:=Z b (oR Y).1;simp only[Option.map_some];rw[ai eB]
def Jn(jc:Nat->Bool)(e:Nat->Nat->Nat×Nat)(x z c:Nat):Prop:=jc c=true/\x≠z/\(((e c 0).1=x/\(e c 1).1=z) \/((e c 0).1=z/\(e c 1).1=x))
instance(jc:Nat->Bool)(e:Nat->Nat->Nat×Nat)(x z c:Nat):Decidable (Jn jc e x z c):=by unfold Jn;infer_instance
def I4(jc:Nat->Bool)(e:Nat->Nat->Nat×Nat)(cm:Nat->Int)(x z:Nat):Nat->Int
 |0=>0
 |k+1=>if Jn jc e x z k/\(I4 jc e cm x z k=0 \/cm k<I4 jc e cm x z k)then cm k else I4 jc e cm x z k
theorem sX(jc:Nat->Bool)(e:Nat->Nat->Nat×Nat)(cm:Nat->Int)(x z:Nat):∀k,(∀c,c<k->1<=cm c)->Least (λm=>∃c,c<k/\Jn jc e x z c/\cm c=m) (I4 jc e cm x z k)
 |0,_=>.inl ⟨rfl,λm ⟨p,E,_⟩=>absurd E eB⟩
 |k+1,h=>by
  have ih:=sX jc e cm x z k (λc hc=>h c eB);have hk:=h k eB;show Least _ (if Jn jc e x z k/\(I4 jc e cm x z k=0 \/cm k<I4 jc e cm x z k)then cm k else I4 jc e cm x z k);generalize I4 jc e cm x z k=v at ih⊢;by_cases Q:Jn jc e x z k
  ·by_cases hv:v=0 \/cm k<v
   ·rw[ai ⟨Q,hv⟩];refine .inr ⟨⟨k,eB,Q,rfl⟩,?_⟩;rintro m ⟨c,hc,Y,rfl⟩;by_cases Z:c=k;{rw[Z];exact Int.le_refl _}
    ·rcases ih with⟨_,U⟩|⟨⟨c2,i1,M,H⟩,U⟩
     {exact absurd ⟨c,eB,Y,rfl⟩ (U _)};{have:=U _ ⟨c,eB,Y,rfl⟩;have:=h c2 eB;omega}
   ·rw[af (λZ=>hv Z.2)];rcases ih with⟨i1,U⟩|⟨⟨c2,i1,M,H⟩,U⟩
    {exact absurd (.inl i1) hv};{refine .inr ⟨⟨c2,eB,M,H⟩,?_⟩;rintro m ⟨c,hc,Y,rfl⟩;by_cases Z:c=k;{rw[Z];omega};{exact U _ ⟨c,eB,Y,rfl⟩}}
  ·rw[af (λZ=>Q Z.1)];rcases ih with⟨i1,U⟩|⟨⟨c2,i1,M,H⟩,U⟩
   {refine .inl ⟨i1,?_⟩;rintro m ⟨c,hc,Y,G⟩;by_cases Z:c=k;{subst Z;exact Q Y};{exact U m ⟨c,eB,Y,G⟩}};{refine .inr ⟨⟨c2,eB,M,H⟩,?_⟩;rintro m ⟨c,hc,Y,rfl⟩;by_cases Z:c=k;{subst Z;exact absurd Y Q};{exact U _ ⟨c,eB,Y,rfl⟩}}
def I5(a:AN)(cm:Nat->Int)(x:Nat):List jQ:=(ft a.n).filterMap λz=>if 0<I4 a.jc a.e cm x z a.nc then μ ((z:Int)+1,I4 a.jc a.e cm x z a.nc)else ν
def I6(a:AN)(cm:Nat->Int):Int->Option PS:=λx=>if 1<=x/\x<=(a.n:Int)then μ (1,I5 a cm (x-1).toNat)else ν
def CmA(a:AN)(cm:Nat->Int):Prop:=∀c d,c<a.nc->d<2->a.ms (a.e c d).1 (a.e c d).2=cm c
theorem aeR(a:AN)(i p:Nat):(∃c d,c<a.nc/\d<2/\a.e c d=(i,p)) \/ ∀c d,c<a.nc->d<2->a.e c d≠(i,p):=by
 by_cases h:∃c d,c<a.nc/\d<2/\a.e c d=(i,p)
 {exact .inl h};{exact .inr λc d hc hd e=>h ⟨c,d,hc,hd,e⟩}
theorem Gk {α:Type} (f:Nat->Option α)(n m:Nat)(h:∀j,n<=j->f j=ν)(hn:n<=m):(ft m).filterMap f=(ft n).filterMap f:=by
 obtain⟨k,rfl⟩:∃k,m=n+k:=⟨m-n,eB⟩
 rw[List.range_add,bJ];have:(List.map (λx=>n+x) (ft k)).filterMap f=[] :=by
  rw[cX];intro j Z;obtain⟨i,_,rfl⟩:=bK.1 Z;exact h _ eB
 rw[this,aB]
theorem aiw(h:d<2):d=0 \/d=1:=eB
theorem Jn.adj {a:AN} (hc:c<a.nc)(h:Jn a.jc a.e x z c):Adj a x z:=by
 obtain⟨Y,U,Z|Z⟩:=h;{exact⟨c,0,hc,eB,Y,Z.1,Z.2,U⟩};{exact⟨c,1,hc,eB,Y,Z.2,Z.1,U⟩}
theorem Jn.of {a:AN} (hd:d<2)(hi:a.jc c=true)(hx:rX a c d≠rX a c (1-d)):Jn a.jc a.e (rX a c d) (rX a c (1-d)) c:=by
 refine⟨hi,hx,?_⟩;rcases aiw hd with rfl|rfl
 {exact .inl ⟨rfl,rfl⟩};{exact .inr ⟨rfl,rfl⟩}
theorem AR.joins {a:AN} (h:AR N k [] a)(u:uh a)(hM:D4 a) {cm:Nat->Int} (hC:CmA a cm)(hx:x<a.n)(z:Nat)(m:Int):
 (∃p,p<3/\((a.R x).P p).pe.both=true/\((a.R x).P p).pe.who=(z:Int)+1/\((a.R x).P p).m=m)↔∃c,c<a.nc/\Jn a.jc a.e x z c/\cm c=m:=by
 constructor
 ·rintro⟨p,hp,E,h2,h3⟩;rcases aeR a x p with⟨c,d,hc,hd,Q⟩|hn
  ·have oQ:mZ a c d=((a.R x).P p).pe:=by unfold mZ;rw[Q]
   have G:rX a c d=x:=by unfold rX;rw[Q]
   by_cases hl:a.jc c=false \/rX a c d=rX a c (1-d);{have:=(h.pn c d hc hd hl).2;rw[oQ,E]at this;exact absurd this eF}
   ·have hi:a.jc c=true:=by
     cases e:a.jc c with
     |true=>rfl
     |false=>exact absurd (.inl e) hl
    have jx:rX a c d≠rX a c (1-d):=λe=>hl (.inr e);have hw:=(h.pb c d hc hd hi jx).1;rw[oQ,h2]at hw;have hz:rX a c (1-d)=z:=eB;refine⟨c,hc,?_,?_⟩;{have:=Jn.of hd hi jx;rw[G,hz]at this;exact this};{rw[<-hC c d hc hd,Q,<-h3];exact(hM x p hx).symm}
  ·have:=(h.id x p hx hp hn).2.2;rw[E]at this;exact absurd this eF
 ·rintro⟨c,hc,M,rfl⟩;have key:∀d,d<2->rX a c d=x->rX a c (1-d)=z->∃p,p<3/\((a.R x).P p).pe.both=true/\((a.R x).P p).pe.who=(z:Int)+1/\((a.R x).P p).m=cm c:=by
   intro d hd Z Y;have H:=h.pb c d hc hd M.1 (by rw[Z,Y];exact M.2.1);unfold mZ at H;have U:(a.e c d).1=x:=Z;refine⟨(a.e c d).2,(u.en c d hc hd).2,?_,?_,?_⟩;{rw[<-U];exact H.2.1};{rw[<-U,H.1,Y]};{rw[<-U,hM _ _ (u.en c d hc hd).1,hC c d hc hd]}
  rcases M.2.2 with⟨Z,Y⟩|⟨Z,Y⟩
  {exact key 0 eB Z Y};{exact key 1 eB Y Z}
theorem zy {a:AN} (h:AR N k [] a)(u:D4 a) {cm:Nat->Int} (hC:CmA a cm)(hx:x<a.n):I5 a cm x=jJ (a.R x):=by
 have Z:=h.env.i.rD;obtain⟨B,U⟩:=h.env.i.own;obtain⟨aar,jb,_,pS,hn⟩:=U.r x hx;have Y:∀c,c<a.nc->1<=cm c:=λc hc=>by
  rw[<-hC c 0 hc eB];exact(U.ms _ _ (Z.en c 0 hc eB).1 (Z.en c 0 hc eB).2).1
 have key:∀z,I4 a.jc a.e cm x z a.nc=vU (a.R x).P ((z:Int)+1) 3:=λz=>
  (sX a.jc a.e cm x z a.nc Y).uniq (Gj _ _ 3).1 λm=>(h.joins Z u hC hx z m).symm
 unfold I5 jJ;rw[hn];have E:(ft 6).filterMap (λ(j:Nat)=>(j1 (a.R x).P ((j:Int)+1) 3).map λb=>((j:Int)+1,((a.R x).P b).m))=(ft 6).filterMap λz=>if 0<I4 a.jc a.e cm x z a.nc then μ ((z:Int)+1,I4 a.jc a.e cm x z a.nc)else ν:=by
  congr 1
  funext j
  rw[key j,Xw _ _ _ (λp Q=>(jb.m p eB).1)]
 rw[E,Gk _ a.n 6 _ Z.n6];intro j hj;have Q:=(sX a.jc a.e cm x j a.nc Y).pos (by rintro m ⟨c,hc,_,rfl⟩;exact Y c hc);rw[af];intro e;obtain⟨m,c,hc,M,_⟩:=Q.1.1 e;have a0:=(Z.en c 0 hc eB).1;have a1:=(Z.en c 1 hc eB).1;rcases M.2.2 with⟨H,G⟩|⟨H,G⟩
 {omega};{omega}
theorem nZ.ind {a:AN} (P:Nat->Prop)(Z:P x)(hs:∀w z,P w->Adj a w z->P z)(h:nZ a x z):P z:=by
 obtain⟨k,w⟩:=h
 induction w with
 |here=>exact Z
 |stay _ ih=>exact ih Z
 |go _ g ih=>exact hs _ _ (ih Z) g
theorem EqA.conn {a:AN} (h:EqA a)(hc:nZ a x z):(a.R z).K=(a.R x).K:=by
 refine nZ.ind (λz=>(a.R z).K=(a.R x).K) rfl ?_ hc;rintro w v e ⟨c,d,U,Q,M,Z,Y,H⟩;have:=h c d U Q M (by rw[Z,Y];exact H);rw[Z,Y]at this;rw[<-this,e]
theorem zA(h:K (x:Int)=μ q)(y:Nat):qu K x y=TY q.2 y:=by
 unfold qu TY;rw[h]
theorem aas {y:Nat} (h:TY es y≠0):∃m,((y:Int),m)∈es:=by
 unfold TY at h;cases hf:es.find? λe=>e.1==(y:Int)with
 |none=>rw[hf]at h;exact absurd rfl h
 |some e=>
  have Z:=iN hf;have Y:=dE hf;refine⟨e.2,?_⟩;have U:e.1=(y:Int):=by simpa using Z
  rw[<-U];exact Y
theorem TE {a:AN} (h:AR N k [] a)(hE:EqA a)(hM:D4 a) {cm:Nat->Int} (hC:CmA a cm)(hx:x<a.n):lv (a.R x)=qq (kE (qu (I6 a cm))) (x+1):=by
 have Q:=h.env.i.rD;have hn6:=Q.n6;obtain⟨B,M⟩:=h.env.i.own;have G:∀i,i<a.n->nZ a x i->∀y,qu (a.R x).K (i+1) y=TY (jJ (a.R i)) y/\qu (I6 a cm) (i+1) y=TY (jJ (a.R i)) y:=by
  intro i hi hc y;obtain⟨Y,jb,_,pS,hn⟩:=M.r i hi;obtain⟨q,hq,_⟩:=jb.own;have Z:=Y.own;have e1:((i+1:Nat):Int)=(a.R i).id:=by rw[pS];push_cast;rfl
  constructor
  ·rw[<-hE.conn hc];have:(a.R i).K ((i+1:Nat):Int)=μ q:=by rw[e1];exact hq
   rw[zA this];unfold Bw at Z;rw[hq]at Z;simp only at Z;rw[Z]
  ·have:I6 a cm ((i+1:Nat):Int)=μ (1,jJ (a.R i)):=by
    unfold I6;rw[ai ⟨eB,eB⟩];have:(((i+1:Nat):Int)-1).toNat=i:=eB;rw[this,zy h hM hC hi]
   rw[zA this]
 unfold lv;have U:(a.R x).id.toNat=x+1:=by rw[(M.r x hx).2.2.2.1];omega
 rw[U];refine TD (S:=λy=>∃i,i<a.n/\y=i+1/\nZ a x i) ?_ ?_ eB ⟨x,hx,rfl,0,.here x⟩
 ·rintro s y hs hy ⟨i,hi,rfl,hc⟩ jx;rw[(G i hi hc y).1,<-zy h hM hC hi]at jx;obtain⟨m,hm⟩:=aas jx;unfold I5 at hm;obtain⟨z,hz,E⟩:=bZ.1 hm;have MY:z<a.n:=aN.1 hz;split at E
  ·rename_i e
   have u:∀c,c<a.nc->1<=cm c:=λc hc=>by
    rw[<-hC c 0 hc eB];exact(M.ms _ _ (Q.en c 0 hc eB).1 (Q.en c 0 hc eB).2).1
   obtain⟨m2,c,hcc,hj,_⟩:=((sX a.jc a.e cm i z a.nc u).pos (by rintro m ⟨c,hc,_,rfl⟩;exact u c hc)).1.1 e;have H:y=z+1:=by
    have:=congrArg (λo=>o.map Prod.fst) E;simp only[Option.map_some,Option.some.injEq]at this;omega
   exact⟨z,MY,H,hc.trans (nZ.adj (hj.adj hcc))⟩
  ·exact absurd E ik
 ·rintro s y hs hy ⟨i,hi,rfl,hc⟩;rw[(G i hi hc y).1,(G i hi hc y).2]
structure pF(w0 w:ew)(N:Nat)(X:Nat->Prop)(n:ja):Prop where
 ex:∃y,jS w y n/\y.N=N/\(∀b,y.all n.n b->w0.heap.size<=b)/\∀b,y.ext b↔X b
 ox:eH w0 w
theorem pF.Xx {many:Int} (h:SP w many L X e w')(Z:oc many L=0)(hb:eH w0 w):∃N,e=ρ (τ #[π (μ ⟨N,0,ν⟩),η])/\pF w0 w' N X (j2 many.toNat L):=by
 obtain⟨_,Y,U⟩:=h;obtain⟨y,H,Q,M,hx⟩:=Y Z;exact⟨y.N,H,⟨y,Q,rfl,λb G=>Nat.le_trans hb.size (M b G),hx⟩,fP hb U⟩
theorem pF.aeS {many:Int} (h:SP w many L X e w')(Z:oc many L≠0)(hb:eH w0 w):e=ρ (τ #[π ν,jB (oc many L)])/\eH w0 w':=by
 obtain⟨Y,_,U⟩:=h;exact⟨Y Z,fP hb U⟩
theorem pF.still {n:ja} (h:pF w0 w N X n)(hb:eH w w'):pF w0 w' N X n:=by
 obtain⟨⟨y,Y,Z,U,hx⟩,Q⟩:=h;exact⟨⟨y,Y.below hb,Z,U,hx⟩,fP Q hb⟩
theorem pF.tab {n:ja} (h:pF w0 w N X n)(Z:jt w0):jt w:=Z.below h.ox
theorem pF.went {y:Yt} {n n':ja} (Q:jS W y n)(M:∀b,y.all n.n b->w0.heap.size<=b)(hx:∀b,y.ext b↔X b)(hb:eH w0 W)(hn:n'.n=n.n)(h:iR W w' y n' n.n):
 pF w0 w' y.N X n'/\∀b,X b->w'.heap[b]? =W.heap[b]? :=by
 obtain⟨⟨y',H,hs,u,G⟩,Y⟩:=h;have kL:∀b,X b->b<W.heap.size:=λb Z=>Q.lt (.inr ((hx b).2 Z));have U:∀b,X b->¬y.all n.n b:=λb Z e=>by
  rcases e with e|⟨j,E,e⟩
  {exact Q.nx b ((hx b).2 Z) e};{exact Q.LJ E (.inr (.inl ((hx b).2 Z))) e}
 refine⟨⟨⟨y',H,hs.N,λb Z=> ?_,λb=>(G b).trans (hx b)⟩,?_⟩,λb Z=>Y.block b (kL b Z) (U b Z)⟩
 ·rw[hn]at Z;rcases u b Z with e|e
  {exact M b e};{exact Nat.le_trans hb.size e}
 ·refine⟨Y.os.trans hb.os,Y.tape.trans hb.tape,Y.output.trans hb.output,Nat.le_trans hb.size Y.size,λb Z=> ?_⟩;refine(Y.block b (Nat.lt_of_lt_of_le Z hb.size) (λe=> ?_)).trans (hb.block b Z);have:=M b e;omega
theorem pF.call {n n':ja} {f:FuncId} {args:Array eA} {E:Ending->Prop} (h:pF w0 W N X n)(M:n'.n=n.n)
 (k:∀y,jS W y n->y.N=N->fc fe f args W λe w'=>E e/\iR W w' y n' n.n):fc fe f args W λe w'=>E e/\pF w0 w' N X n'/\∀b,X b->w'.heap[b]? =W.heap[b]? :=by
 obtain⟨⟨y,Y,Z,U,hx⟩,hb⟩:=h;refine(k y Y Z).mono ?_;rintro e w' ⟨Q,H⟩;have:=pF.went Y U hx hb M H;rw[Z]at this;exact⟨Q,this⟩
def ja.rounds(y:ja):Nat->ja
 |0=>y
 |k+1=>(y.rounds k).round
def Yp:List pz:=[⟨1,0,2,0,3⟩]
def O9:ja:=((j2 2 Yp).iZ 0 true).1
theorem aat:lv ((O9.rounds 6).R 1)=[⟨1,3,1⟩] :=ga
theorem aau:((j2 2 Yp).iZ 0 true).2=0:=ga
theorem Pa:oc 2 Yp=0:=ga
theorem MO(y:ja):∀k,(y.rounds k).n=y.n
 |0=>rfl
 |k+1=>(kX (y.rounds k)).1.trans (MO y k)
theorem Cc {y:ja} {D:Nat} (h:ki y D 0)(Z:D<=100000000):∀k,k<=100->ki (y.rounds k) (D+1300000*k) 0
 |0,_=>h
 |k+1,hk=>((Cc h Z k eB).round eB).mono eB (Nat.le_refl _)
theorem abZ:ki O9 2 0:=(Av (vF Pa)).iZ eB 0 true
theorem TF(w:ew)(hT:jt w):fc fe 42 #[] w λe w'=>e=ρ (.bool true)/\eH w w':=by
 obtain⟨W0,nL⟩:=fq (w.alloc (γ #[ι κ 1,ι κ 0,ι κ 2,ι κ 0,ι κ 3] 81));have hb:=gK w (γ #[ι κ 1,ι κ 0,ι κ 2,ι κ 0,ι κ 3] 81);have hc:=λj=>ak w #[ι κ 1,ι κ 0,ι κ 2,ι κ 0,ι κ 3] 81 (0,0) j;rw[nL]at hb;rw[nL]at hc;have hL:Ar W0 (μ ⟨w.heap.size,0,ν⟩) Yp:=λj hj=>by
  obtain rfl:j=0:=by simp[Yp]at hj;exact hj
  exact⟨w.heap.size,0,rfl,hc 0,hc 1,hc 2,hc 3,hc 4⟩
 have jy:fc fe 36 #[ι κ 2,σ (μ ⟨w.heap.size,0,ν⟩) 1 1] W0 λe w'=>∃N,e=ρ (τ #[π (μ ⟨N,0,ν⟩),η])/\pF w w' N (λ_=>False) (j2 2 Yp):=by
  refine(Ql 2 (μ ⟨w.heap.size,0,ν⟩) 1 Yp W0 hL eF (jt.below (w:=w) hT hb) (λ_=>False) (λb qK=>qK.elim)).mono ?_;rintro e w' h;exact pF.Xx h Pa hb
 have u:∀W N,pF w W N (λ_=>False) (j2 2 Yp)->fc fe 57 #[π (μ ⟨N,0,ν⟩),ι κ 0,.bool true] W λe w'=>e=ρ η/\pF w w' N (λ_=>False) (O9.rounds 0):=by
  intro W N hA;refine(hA.call (E:=λe=>e=ρ η) (n':=O9) rfl λy U M=> ?_).mono (λe w' h=>⟨h.1,h.2.1⟩);rw[<-M];refine(L8 y (j2 2 Yp) 0 0 true W U (hA.tab hT) (Av (vF Pa)) eB).mono ?_;rintro e w' ⟨rfl,hw⟩;rw[aau];exact⟨rfl,hw⟩
 have Gl:∀W N k,k<6->pF w W N (λ_=>False) (O9.rounds k)->fc fe 54 #[π (μ ⟨N,0,ν⟩)] W λe w'=>e=ρ (τ #[])/\pF w w' N (λ_=>False) (O9.rounds (k+1)):=by
  intro W N k hk hA;refine(hA.call (E:=λe=>e=ρ (τ #[])) (n':=O9.rounds (k+1)) (kX (O9.rounds k)).1 λy U M=> ?_).mono (λe w' h=>⟨h.1,h.2.1⟩);rw[<-M];exact BP y (O9.rounds k) (2+1300000*k) W U (hA.tab hT) (Cc abZ eB k eB) eB
 have Kn:∀W N,pF w W N (λ_=>False) (O9.rounds 6)->fc fe 40 #[π (μ ⟨N,0,ν⟩),ι κ 2] W λe w'=>∃R,e=ρ (τ #[π (μ ⟨R,0,ν⟩),η])/\eH w w'/\fc fe 64 #[π (μ ⟨R,0,ν⟩)] w' λe w2=>∃b c,e=ρ (σ b 1 c)/\NM w2 b 1 [⟨1,3,1⟩] /\eH w w2:=by
  intro W N hA;obtain⟨⟨y,U,M,ha,hx⟩,iY⟩:=hA;rw[<-M];have hn:(O9.rounds 6).n=2:=MO O9 6;refine(zk y (O9.rounds 6) 1 W U (by rw[hn];decide)).mono ?_;rintro e w' ⟨rfl,rfl⟩;refine⟨(y.z 1).R,rfl,iY,?_⟩;have jb:=(Cc abZ eB 6 eB).ok 1 (by rw[hn];decide);refine(BG (y.z 1) ((O9.rounds 6).R 1) W (U.rt 1 (by rw[hn];decide)) jb.P5).mono ?_;rintro e w2 ⟨b,c,rfl,⟨Y,_⟩,m7⟩;rw[aat]at Y⊢;exact⟨b,c,rfl,Y,fP iY m7⟩
 have kJ:∀W b c W2,eH w W->NM W b 1 [⟨1,3,1⟩]->W2=W.alloc (γ #[ι κ 1,ι κ 3,ι κ 1] 98)->fc fe 46 #[σ b 1 c,σ (μ ⟨W.heap.size,0,ν⟩) 1 1] W2 λe w'=>e=ρ (.bool true)/\eH w w':=by
  rintro W b c W2 hbW Y rfl;have m7:=gK W (γ #[ι κ 1,ι κ 3,ι κ 1] 98);have TQ:=λj=>ak W #[ι κ 1,ι κ 3,ι κ 1] 98 (0,0) j;refine(Jy b (μ ⟨W.heap.size,0,ν⟩) 1 c 1 [⟨1,3,1⟩] _ (Y.below m7) ⟨rfl,.inr ⟨W.heap.size,0,rfl,λj h hj=> ?_⟩⟩ eB).mono ?_
  ·obtain⟨l,v⟩:=aK.1 hj;obtain rfl:j=0:=by simp at l;exact l
   obtain rfl:_=h:=v;exact⟨TQ 0,TQ 1,TQ 2⟩
  ·rintro e w' ⟨rfl,r9⟩;exact⟨rfl,fP hbW (fP m7 r9)⟩
 have DN:Hid _:=nL;have HR:Hid _:=Gl;obtain⟨Q,hQ⟩:∃Q:Nat->ja,Q=O9.rounds:=⟨_,rfl⟩
 clear nL hb hc hL Gl;rw[<-hQ]at u HR Kn;generalize j2 2 Yp=z0 at jy u;clear hQ
 go_in
 go_wp2_with(fail)
 try rw[DN.out]
 go_wp2_with(fail);refine jy.mono ?_;rintro e w1 ⟨N,rfl,hA⟩;have h1:=u w1 N hA;clear jy u hA;go_wp2_with(fail);refine h1.mono ?_;rintro e w2 ⟨rfl,hA⟩;have HA:Hid _:=hA;clear h1 hA
 go_wp2
 go_loopw [3] (λx wr=>∃k:Nat,k<=6/\x=ι κ k/\pF w wr N (λ_=>False) (Q k)) (λx _=>6-(fh x).toNat)
 case atStart=>exact⟨0,Nat.zero_le _,rfl,HA.out⟩
 case round=>
  obtain⟨k,hk,rfl,Z⟩:=hrel;obtain⟨V,rfl⟩:∃V,V=wr:=⟨_,rfl⟩
  by_cases kL:k<6
  ·have n9:(k:Int)<6:=eB;have G:=HR.out V N k kL Z;clear Z;go_wp2_with(fail);refine G.mono ?_;rintro e w3 ⟨rfl,hA3⟩;have HA3:Hid _:=hA3;clear G hA3
   go_wp2
   go_roundw
   case rel=>exact⟨k+1,eB,by go_num,HA3.out⟩
   case measure=>simp[fh];omega
  ·have yc:¬(k:Int)<6:=eB;obtain rfl:k=6:=eB;have G:=Kn V N Z;clear Z Kn;go_wp2_with(fail);refine G.mono ?_;rintro e w3 ⟨R,rfl,r9,hh⟩;have Ez:Hid _:=r9;clear G r9;go_wp2_with(fail);refine hh.mono ?_;rintro e w4 ⟨b,c,rfl,Y,OJ⟩;obtain⟨W5,M3⟩:∃W5,W5=w4.alloc (γ #[ι κ 1,ι κ 3,ι κ 1] 98):=⟨_,rfl⟩
   have hs:=kJ w4 b c W5 OJ Y M3;have HW5:Hid _:=M3.symm;clear hh Y OJ kJ M3;go_wp2_with(fail)
   try rw[HW5.out]
   go_wp2_with(fail);refine hs.mono ?_;rintro e w6 ⟨rfl,H⟩;have MX:Hid _:=H;clear hs H
   go_wp2
   go_ret;exact⟨rfl,MX.out⟩
theorem Du(a:Option eh)(n cap:Nat)(w:ew)(_hn:n<=maxLen):fc fe 35 #[σ a n cap] w λe w'=>e=ρ (.bool (decide (n<=12)))/\w=w':=by
 by_cases h:n<=12
 ·have Z:(n:Int)<=12:=eB
  go_in
  go_wp2
  go_ret;exact⟨by simp[h],rfl⟩
 ·have Z:¬(n:Int)<=12:=eB
  go_in
  go_wp2
  go_ret;exact⟨ik,rfl⟩
def C5(w0:ew)(N:Nat)(X:Nat->Prop)(m nc i:Nat)(n:ja)(w:ew):Prop:=pF w0 w N X n/\GN n/\ki n (1300000*i) 0/\n.n=m/\n.nc=nc
theorem C5.act {w0:ew} {N:Nat} {X:Nat->Prop} {m nc i:Nat} {n:ja} {W:ew} (h:C5 w0 N X m nc i n W)(H:jt w0)(hi:i<=300)(v:AV):
 fc fe 59 #[π (μ ⟨N,0,ν⟩),.agg #[.string v.kind,ι κ v.a,ι κ v.b,ι κ v.c,ι κ v.d,.string v.s,ι κ v.PX,ι κ v.pid,σ v.po v.pn v.EK,ι κ v.x.own,ι κ v.x.seq,σ v.x.a v.x.n v.x.cap]] W λe w'=>e=ρ (τ #[])/\C5 w0 N X m nc (i+1) (tT n v) w'/\∀b,X b->w'.heap[b]? =W.heap[b]? :=by
 obtain⟨hA,U,Y,hn,hc⟩:=h;obtain⟨s1,s2,_,_⟩:=SU n v;refine(hA.call (E:=λe=>e=ρ (τ #[])) (n':=tT n v) s1 λy M Q=> ?_).mono ?_;{rw[<-Q];exact Dy y n (1300000*i) v W M (hA.tab H) Y eB};{rintro e w' ⟨u,Z,G⟩;exact⟨u,⟨Z,(U.act Y eB v).1,(Y.act eB v).mono eB (Nat.le_refl _),s1.trans hn,s2.trans hc⟩,G⟩}
theorem C5.new {many:Int} (h:SP w many L X e w')(Z:oc many L=0)(hb:eH w0 w):∃N,e=ρ (τ #[π (μ ⟨N,0,ν⟩),η])/\C5 w0 N X many.toNat L.length 0 (j2 many.toNat L) w':=by
 obtain⟨N,Y,hA⟩:=pF.Xx h Z hb;exact⟨N,Y,hA,FH _ _,Av (vF Z),rfl,rfl⟩
def rb(y:ja)(V:Nat->AV):Nat->ja
 |0=>y
 |k+1=>tT (rb y V k) (V k)
theorem pF.write {n:ja} (h:pF w0 W N X n)(hs:W.heap.size<=W'.heap.size)(Q:∀k,k<W.heap.size->¬X k->W'.heap[k]? =W.heap[k]?)(u:∀k,X k->w0.heap.size<=k)
 (ho:W'.os=W.os) (ht:W'.tape=W.tape) (hu:W'.output=W.output) (Z:Nat->Prop) (hZ:∀k,Z k->W.heap.size<=k/\k<W'.heap.size):pF w0 W' N (λb=>X b \/Z b) n:=by
 obtain⟨⟨y,E,G,ha,hx⟩,hb⟩:=h;obtain⟨y',H,U,ha',M⟩:=E.beside hs (λk vm jx=>Q k vm (λe=>jx ((hx k).2 e))) Z hZ;refine⟨⟨y',H,U.N.trans G,λb Y=>ha b ((ha' b).1 Y),λb=> ?_⟩,ho.trans hb.os,ht.trans hb.tape,hu.trans hb.output,Nat.le_trans hb.size hs,λb Y=> ?_⟩;{rw[M b,hx b]};{refine(Q b (Nat.lt_of_lt_of_le Y hb.size) (λe=> ?_)).trans (hb.block b Y);have:=u b e;omega}
theorem pF.Xy {Y:Nat->Prop} {n:ja} (h:pF w0 W N X n)(e:∀b,X b↔Y b):pF w0 W N Y n:=by
 obtain⟨⟨y,U,Z,Q,hx⟩,hb⟩:=h;exact⟨⟨y,U,Z,Q,λb=>(hx b).trans (e b)⟩,hb⟩
structure pC(w:ew)(N g m:Nat)(L:List pz)(V:Nat->AV)(i j:Nat)(W:ew):Prop where
 g0:w.heap.size<=g
 at_:C5 w N (λb=>b=g) m L.length i (rb (j2 m L) V i) W
 row:qR W g 0 L.length (λk=>.bool ((rb (j2 m L) V j).C k).jc)
def oD(m:Nat):Array eA:=Array.replicate m (.bool false)
theorem aiz(W:ew):(il 87 (ι κ 0) (ι κ 0)).run fe W=.ok (σ (μ ⟨W.heap.size,0,ν⟩) 0 0) (W.alloc (γ (oD 0) 4)):=ga
theorem aiA(W:ew):(il 87 (ι κ 1) (ι κ 1)).run fe W=.ok (σ (μ ⟨W.heap.size,0,ν⟩) 1 1) (W.alloc (γ (oD 1) 4)):=ga
theorem aiB(W:ew):(il 87 (ι κ 2) (ι κ 2)).run fe W=.ok (σ (μ ⟨W.heap.size,0,ν⟩) 2 2) (W.alloc (γ (oD 2) 4)):=ga
theorem aiC(W:ew):(il 87 (ι κ 3) (ι κ 3)).run fe W=.ok (σ (μ ⟨W.heap.size,0,ν⟩) 3 3) (W.alloc (γ (oD 3) 4)):=ga
theorem aiD(W:ew):(il 87 (ι κ 4) (ι κ 4)).run fe W=.ok (σ (μ ⟨W.heap.size,0,ν⟩) 4 4) (W.alloc (γ (oD 4) 4)):=ga
theorem aiE(W:ew):(il 87 (ι κ 5) (ι κ 5)).run fe W=.ok (σ (μ ⟨W.heap.size,0,ν⟩) 5 5) (W.alloc (γ (oD 5) 4)):=ga
theorem aiF(W:ew):(il 87 (ι κ 6) (ι κ 6)).run fe W=.ok (σ (μ ⟨W.heap.size,0,ν⟩) 6 6) (W.alloc (γ (oD 6) 4)):=ga
theorem aiG(W:ew):(il 87 (ι κ 7) (ι κ 7)).run fe W=.ok (σ (μ ⟨W.heap.size,0,ν⟩) 7 7) (W.alloc (γ (oD 7) 4)):=ga
theorem aiH(W:ew):(il 87 (ι κ 8) (ι κ 8)).run fe W=.ok (σ (μ ⟨W.heap.size,0,ν⟩) 8 8) (W.alloc (γ (oD 8) 4)):=ga
theorem aiI(W:ew):(il 87 (ι κ 9) (ι κ 9)).run fe W=.ok (σ (μ ⟨W.heap.size,0,ν⟩) 9 9) (W.alloc (γ (oD 9) 4)):=ga
theorem anj(p:Nat)(hp:p<=9)(W:ew):(il 87 (ι κ (p:Int)) (ι κ (p:Int))).run fe W=.ok (σ (μ ⟨W.heap.size,0,ν⟩) p p) (W.alloc (γ (oD p) 4)):=by
 have:p=0 \/p=1 \/p=2 \/p=3 \/p=4 \/p=5 \/p=6 \/p=7 \/p=8 \/p=9:=eB;rcases this with rfl|rfl|rfl|rfl|rfl|rfl|rfl|rfl|rfl|rfl
 {exact aiz W};{exact aiA W};{exact aiB W};{exact aiC W};{exact aiD W};{exact aiE W};{exact aiF W};{exact aiG W};{exact aiH W};{exact aiI W}
theorem pC.new {w W:ew} {N m:Nat} {L:List pz} {V:Nat->AV} (h:C5 w N (λ_=>False) m L.length 0 (j2 m L) W):pC w N W.heap.size m L V 0 0 (W.alloc (γ (oD L.length) 4)):=by
 obtain⟨hA,Y,H,M,hc⟩:=h;refine⟨hA.ox.size,⟨?_,Y,H,M,hc⟩,?_⟩;{refine(pF.write hA (W':=W.alloc (γ (oD L.length) 4)) ik (λk Q _=>aV _ _ _ Q) (λk e=>e.elim) rfl rfl rfl (λb=>b=W.heap.size) (λk e=>by subst e;simp)).Xy (λb=>ik)}
 ·have Z:ji (W.alloc (γ (oD L.length) 4)) W.heap.size (oD L.length) 4:=ji.new W _ _;intro j U;have e:(oD L.length)[j]? =μ (.bool false):=by simp[oD,U]
  refine⟨?_,?_⟩;{rw[Nat.zero_add,Z.cell j,e];rfl};{rw[Nat.zero_add];exact Z.frozen j}
theorem pC.act {w:ew} {N g m:Nat} {L:List pz} {V:Nat->AV} {i:Nat} {W:ew} (h:pC w N g m L V i i W)(U:jt w)(hi:i<=100):
 fc fe 59 #[π (μ ⟨N,0,ν⟩),.agg #[.string (V i).kind,ι κ (V i).a,ι κ (V i).b,ι κ (V i).c,ι κ (V i).d,.string (V i).s,ι κ (V i).PX,ι κ (V i).pid,σ (V i).po (V i).pn (V i).EK,ι κ (V i).x.own,ι κ (V i).x.seq,σ (V i).x.a (V i).x.n (V i).x.cap]] W λe w'=>e=ρ (τ #[])/\pC w N g m L V (i+1) i w':=by
 refine(h.at_.act U eB (V i)).mono ?_;rintro e w' ⟨Q,Z,Y⟩;exact⟨Q,h.g0,Z,h.row.keep (Y g rfl)⟩
theorem pC.jc {w:ew} {N g m:Nat} {L:List pz} {V:Nat->AV} {i:Nat} {W:ew} (h:pC w N g m L V i i W)(hi:i<=100)(k:Nat)(Y:k<L.length):
 ((rb (j2 m L) V (i+1)).C k).jc=if BV (V i)=true/\(k:Int)=(V i).a then(V i).b==1 else((rb (j2 m L) V i).C k).jc:=by
 obtain⟨_,Z,U,_,hc⟩:=h.at_;exact(Z.act U eB (V i)).2 k (by rw[hc];exact Y)
theorem pC.same(h:pC w N g m L V (i+1) i W)(Y:∀k,k<L.length->((rb (j2 m L) V (i+1)).C k).jc=((rb (j2 m L) V i).C k).jc)(U:g<W.heap.size)(hb:eH W W'):pC w N g m L V (i+1) (i+1) W':=by
 obtain⟨hA,Z,H,M,hc⟩:=h.at_;exact⟨h.g0,⟨hA.still hb,Z,H,M,hc⟩,(h.row.congr (λk Q=>by show iO _=iO _;rw[Y k Q])).keep (hb.block g U)⟩
theorem pC.gl(h:pC w N g m L V i j W):g<W.heap.size:=by
 obtain⟨⟨⟨y,Z,_,_,hx⟩,_⟩,_⟩:=h.at_;exact Z.lt (.inr ((hx g).2 rfl))
theorem pC.set {w:ew} {N g m:Nat} {L:List pz} {V:Nat->AV} {i k:Nat} {W W1:ew} {b:Bool} (h:pC w N g m L V (i+1) i W)(M:k<L.length)
 (U:∀x,x<L.length->((rb (j2 m L) V (i+1)).C x).jc=if x=k then b else((rb (j2 m L) V i).C x).jc) (hb:eH W W1):pC w N g m L V (i+1) (i+1) (W1.setCell ⟨g,k,ν⟩ (.bool b)):=by
 have Q:=h.gl;obtain⟨hA,Y,G,H,hc⟩:=h.at_;have hA1:=hA.still hb;refine⟨h.g0,⟨?_,Y,G,H,hc⟩,?_⟩;{refine(pF.write hA1 (W':=W1.setCell ⟨g,k,ν⟩ (.bool b)) ik (λx _ E=>aq _ _ _ x (λe=>E e)) (λx e=>by rw[e];exact h.g0) rfl rfl rfl (λ_=>False) (λ_ e=>e.elim)).Xy (λb=>ik)}
 ·have Z:=((h.row.keep (hb.block g Q)).set k M (.bool b))
  rw[Nat.zero_add]at Z;refine Z.congr (λx hx=> ?_);show tR _ k (.bool b) x=iO _;rw[U x hx];by_cases e:x=k;{rw[e,qt,ai rfl]};{rw[jV _ _ e,af e]}
def ab1(w:ew)(many:Int)(L:List pz)(n2:Nat)(V:Nat->AV)(e:Ending)(w':ew):Prop:=
 (e=ρ (τ #[π ν,σ ν 0 0,.bool false])/\eH w w') \/
 (oc many L=0/\n2<=40/\∃N g,e=ρ (τ #[π (μ ⟨N,0,ν⟩),σ (μ ⟨g,0,ν⟩) L.length L.length,.bool true])/\pC w N g many.toNat L V n2 n2 w')
theorem pC.ox {w:ew} {N g m:Nat} {L:List pz} {V:Nat->AV} {i j:Nat} {W:ew} (h:pC w N g m L V i j W):eH w W:=h.at_.1.ox
theorem Pb(many:Int)(a:Option eh)(n cap:Nat)(L:List pz)(a2:Option eh)(Y cap2:Nat)(V:Nat->AV)(E:Nat->List jQ)(w:ew)(hL:Ar w a L)(hl:L.length=n)(hn:n<=maxLen)(hA:EL w a2 Y V E)(hT:jt w):
 fc fe 43 #[ι κ many,σ a n cap,σ a2 Y cap2] w λe w'=>ab1 w many L Y V e w':=by
 have Z:=Du a n cap w hn;have hla:fc fe 16 #[σ a2 Y cap2,ι κ 40] w λe w'=>(∃b:Bool,e=ρ (.bool b)/\(b=true->Y<=40))/\eH w w':=by
  refine(GX a2 Y cap2 V E 40 w hA eB).mono ?_;rintro e w' ⟨⟨b,he,kO⟩,m7⟩;exact⟨⟨b,he,λhx=>by have:=(kO hx).1;omega⟩,m7⟩
 have jy:∀W,n<=12->eH w W->fc fe 36 #[ι κ many,σ a n cap] W λe w'=>SP W many L (λ_=>False) e w':=by
  intro W H hb;rw[<-hl];exact Ql many a cap L W (hL.below hb) eB (jt.below (w:=w) hT hb) (λ_=>False) (λb qK=>qK.elim)
 have HA:Hid _:=hA;have HT:Hid (jt w):=hT;have HL:Hid _:=hl;clear hL hA hT hl;by_cases H:n<=12
 case neg=>
  have hd:decide (n<=12)=false:=by simpa using H
  rw[hd]at Z
  go_in
  go_wp2_with(fail);refine Z.mono ?_;rintro e w2 ⟨rfl,rfl⟩;clear Z hla jy;go_wp2_with(fail);refine aE (v:=τ #[π ν,σ ν 0 0,.bool false]) (by simp[results,results43,go_sem]) rfl ?_;exact .inl ⟨rfl,au _ _⟩
 case pos=>
  have hd:decide (n<=12)=true:=by simpa using H
  rw[hd]at Z
  go_in
  go_wp2_with(fail);refine Z.mono ?_;rintro e w2 ⟨rfl,rfl⟩;clear Z;go_wp2_with(fail);refine hla.mono ?_;rintro e w2 ⟨⟨b,rfl,aiJ⟩,m7⟩;have tP:=jy w2 H m7;have A2:Hid _:=m7;have ank:Hid _:=aiJ;clear hla jy m7 aiJ;cases b
  case false=>
   go_wp2_with(fail);refine aE (v:=τ #[π ν,σ ν 0 0,.bool false]) (by simp[results,results43,go_sem]) rfl ?_;exact .inl ⟨rfl,A2.out⟩
  case true=>
   have h40:Y<=40:=ank.out rfl;go_wp2_with(fail);refine tP.mono ?_;rintro e w3 hP;clear tP;by_cases G:oc many L=0
   case neg=>
    obtain⟨rfl,r9⟩:=pF.aeS hP G A2.out;have Ez:Hid _:=r9;have he:jB (oc many L)=.iface 128 (ι κ ((oc many L:Nat):Int)):=UK G;rw[he];clear hP r9 G he;go_wp2_with(fail);refine aE (v:=τ #[π ν,σ ν 0 0,.bool false]) (by simp[results,results43,go_sem]) rfl ?_;exact .inl ⟨rfl,Ez.out⟩
   case pos=>
    obtain⟨N,rfl,hG0⟩:=C5.new hP G A2.out;have hm:=(vF G).m;have hl9:=(vF G).l;obtain⟨m,rfl⟩:∃m:Nat,many=(m:Int):=⟨many.toNat,eB⟩
    rw[Int.toNat_natCast]at hG0;have hp0:=pC.new (V:=V) hG0;rw[HL.out]at hl9;have hmk:=anj n hl9;obtain⟨w4,Qi⟩:=fq (w3.alloc (γ (oD n) 4));obtain⟨g,hg⟩:=fq (w3.heap.size);rw[HL.out,Qi,hg]at hp0;have LP:Hid _:=Qi;have HG:Hid _:=hg;have HP0:Hid _:=hp0;have H0:Hid _:=G;clear hP G hG0 hp0 Qi hg;go_wp2_with(fail)
    try rw[LP.out]
    try rw[HG.out]
    go_wp2
    go_loopw [12] (λx wr=>∃i:Nat,i<=Y/\x=ι κ i/\pC w N g m L V i i wr) (λx _=>Y-(fh x).toNat)
    case atStart=>exact⟨0,Nat.zero_le _,rfl,HP0.out⟩
    case round=>
     obtain⟨i,hi,rfl,hG⟩:=hrel;obtain⟨V0,rfl⟩:∃V0,V0=wr:=⟨_,rfl⟩
     by_cases kL:i<Y
     case neg=>
      have yc:¬(i:Int)<(Y:Int):=eB;obtain rfl:i=Y:=eB;have HR:Hid _:=hG;clear hG;go_wp2_with(fail);refine aE (v:=τ #[π (μ ⟨N,0,ν⟩),σ (μ ⟨g,0,ν⟩) n n,.bool true]) (by simp[results,results43,go_sem]) rfl ?_;refine .inr ⟨H0.out,h40,N,g,?_,?_⟩;{rw[HL.out]};{exact HR.out}
     case pos=>
      have n9:(i:Int)<(Y:Int):=eB;rcases HA.out.row with h1|⟨b,off,rfl,jf⟩
      {omega};have TL:=jf i kL;have hv:=TL.below hG.ox;have HV:Hid (∀W,eH w W->(V i).at_ W b (off+i*12)):=λW hb=>TL.below hb;have M:=hG.act HT.out eB;have HI:Hid (∀k,k<L.length->((rb (j2 m L) V (i+1)).C k).jc=if BV (V i)=true/\(k:Int)=(V i).a then(V i).b==1 else((rb (j2 m L) V i).C k).jc):=hG.jc eB;clear jf hG TL;generalize V i=v at hv M HV HI;obtain⟨vk,va,vb,vc,vd,vs,vpc,vpi,vpo,Yc,Cy,⟨xo,xq,xa,xn,xc⟩⟩:=v;obtain⟨c0,c1,c2,c3,c4,c5,c6,c7,c8,c9,Un,Yy⟩:=hv;simp only at c0 c1 c2 c3 c4 c5 c6 c7 c8 c9 Un Yy M;have gl:=ag _ _ c0;have ge:off+i*12+0=off+i*12:=rfl;go_wp2_with(fail);refine M.mono ?_;rintro e u ⟨rfl,U⟩;have ab2:=U.ox;obtain⟨d0,d1,d2,_⟩:=HV.out u ab2;simp only at d0 d1 d2;have gl5:=ag _ _ d0;have Q:Hid _:=U;have HS:Hid ((∀k,k<L.length->((rb (j2 m L) V (i+1)).C k).jc=((rb (j2 m L) V i).C k).jc)->pC w N g m L V (i+1) (i+1) u):=λhe=>U.same he U.gl (au _ _);clear M c0 c1 c2 c3 c4 c5 c6 c7 c8 c9 Un Yy gl U ab2;cases k1:(vk.toList==[112,108,117,103])
      case false=>
       go_wp2
       go_roundw
       case rel=>
        refine⟨i+1,eB,by go_num,HS.out λk hk=> ?_⟩;rw[HI.out k hk,af (λe=>by have e1:(vk.toList==[112,108,117,103])=true:=e.1;rw[k1]at e1;cases e1)]
       case measure=>simp[fh];omega
      case true=>
       by_cases ha0:0<=va
       case neg=>
        go_wp2
        go_roundw
        case rel=>
         refine⟨i+1,eB,by go_num,HS.out λk hk=> ?_⟩;rw[HI.out k hk,af (λe=>by have e1:(k:Int)=va:=e.2;omega)]
        case measure=>simp[fh];omega
       case pos=>
        by_cases han:va<(n:Int)
        case neg=>
         go_wp2
         go_roundw
         case rel=>
          refine⟨i+1,eB,by go_num,HS.out λk hk=> ?_⟩;have hln:=HL.out;rw[HI.out k hk,af (λe=>by have e1:(k:Int)=va:=e.2;omega)]
         case measure=>simp[fh];omega
        case pos=>
         obtain⟨k,rfl⟩:∃k:Nat,va=(k:Int):=⟨va.toNat,eB⟩
         have Bh:k<n:=eB;have TS:=Q.out.gl;have hcell:=Q.out.row.cell k (by rw[HL.out];exact Bh);have TV:=Q.out.row.fz k (by rw[HL.out];exact Bh);rw[Nat.zero_add]at hcell TV;have Yg:Hid (pC w N g m L V (i+1) (i+1) (u.drew.setCell ⟨g,k,ν⟩ (.bool (vb==1)))):=by
          refine Q.out.set (by rw[HL.out];exact Bh) (λx hx=> ?_) (jl u);rw[HI.out x hx];by_cases e:x=k;{rw[ai ⟨k1,by show(x:Int)=(k:Int);rw[e]⟩,ai e]};{rw[af (λh=>e (by have h2:(x:Int)=(k:Int):=h.2;omega)),af e]}
         generalize ((rb (j2 m L) V i).C k).jc=old at hcell;have F0:u.drew.cell? ⟨b,off+i*12,ν⟩=μ (.string vk)/\u.drew.cell? ⟨b,off+i*12+1,ν⟩=μ (ι κ (k:Int))/\u.drew.cell? ⟨b,off+i*12+2,ν⟩=μ (ι κ vb)/\u.drew.cell? ⟨g,k,ν⟩=μ (.bool old):=⟨d0,d1,d2,hcell⟩
         go_upto_region 12 with(fail)
         go_region
         all_goals
          go_wp2
          go_roundw
          case rel=>exact⟨i+1,eB,by go_num,Yg.out⟩
          case measure=>simp[fh];omega
theorem xH(r:iW):jJ r.core=jJ r:=pj rfl λ_=>⟨rfl,rfl,rfl⟩
theorem Gm:∀ {E:List (Int×Int×Int)} {x:Int×Int×Int},(nV E).Nodup->x∈E->lg E x.1 x.2.1=μ x.2.2
 |[],_,_,hx=>absurd hx ik
 |y::E,x,hn,hx=>by
  have Z:(nV E).Nodup/\(y.1,y.2.1)∉nV E:=by
   have:(nV (y::E))=(y.1,y.2.1)::nV E:=rfl;rw[this,bw]at hn;exact⟨hn.2,hn.1⟩
  show(if y.1=x.1/\y.2.1=x.2.1 then μ y.2.2 else lg E x.1 x.2.1)=μ x.2.2;rcases aP.1 hx with e|h
  {rw[e,ai ⟨rfl,rfl⟩]};{rw[af];{exact Gm Z.1 h};{rintro⟨Y,U⟩;refine Z.2 ?_;rw[Y,U];exact List.mem_map_of_mem (f:=λx:Int×Int×Int=>(x.1,x.2.1)) h}}
def He(L:List pz)(c:Nat):Int:=(L.getD c ⟨1,0,1,0,1⟩).m
theorem lU.cm {many:Int} (h:lU many L)(c d:Nat)(hc:c<L.length):pL L ((nh L c).e d).1 ((nh L c).e d).2=He L c:=by
 have U:L[c] ∈L:=aF hc;obtain⟨_,M,H⟩:=h.c _ U;have k1:=nu M;have k2:=nu H;have Q:He L c=L[c].m:=by
  unfold He;rw[aG,aw hc];rfl
 rw[Q,uf L c d hc];unfold pL;have m1:(L[c].a,L[c].pa,L[c].m)∈kK L:=by
  unfold kK;exact aT.2 ⟨L[c],U,ik⟩
 have m2:(L[c].b,L[c].pb,L[c].m)∈kK L:=by
  unfold kK;exact aT.2 ⟨L[c],U,ik⟩
 split;{have:=Gm h.nd m1;have Z:(((L[c].a-1).toNat:Nat):Int)+1=L[c].a:=eB;have Y:((L[c].pa.toNat:Nat):Int)=L[c].pa:=eB;simp only;rw[Z,Y];simp only at this;rw[this];rfl};{have:=Gm h.nd m2;have Z:(((L[c].b-1).toNat:Nat):Int)+1=L[c].b:=eB;have Y:((L[c].pb.toNat:Nat):Int)=L[c].pb:=eB;simp only;rw[Z,Y];simp only at this;rw[this];rfl}
structure Wh(m:Nat)(L:List pz)(D N k:Nat)(y:ja):Prop where
 s:St D N k y
 ma:D4 (iT y)
 n:y.n=m
 nc:y.nc=L.length
 e:∀x,(y.C x).e=(nh L x).e
 ms:y.ms=pL L
theorem Wh.new {many:Int} (h:lU many L):Wh many.toNat L D 2 0 (j2 many.toNat L):=
 ⟨TB ((Av h).mono (Nat.zero_le _) (Nat.le_refl _)),Xv _ _,rfl,rfl,λ_=>rfl,rfl⟩
theorem Wh.QF {D' N' k':Nat} {y y':ja} (h:Wh m L D N k y)(hs:St D' N' k' y')(p:j5 (iT y) T S (iT y')):Wh m L D' N' k' y':=by
 obtain⟨Z,Y,U,Q⟩:=p.same;exact⟨hs,h.ma.path p (xy y),Z.trans h.n,Y.trans h.nc,λx=>(cy U x).trans (h.e x),Q.trans h.ms⟩
theorem Wh.act {m:Nat} {L:List pz} {D N k:Nat} {y:ja} (h:Wh m L D N k y)(Z:D<=800000000)(Y:N+144<1000000)(U:k+1<=126)(v:AV):Wh m L (D+1300000) (N+144) (k+1) (tT y v):=by
 obtain⟨T,_,p⟩:=Mx h.s.f h.s.g h.s.ok Z v;exact h.QF (h.s.act Z Y U v) p
theorem Wh.Xz {m:Nat} {L:List pz} {D N k:Nat} {y:ja} (V:Nat->AV)(h:Wh m L D N k y):∀i,D+1300000*i<=800000000->N+144*(i+1)<1000000->k+i+1<=126->Wh m L (D+1300000*i) (N+144*i) (k+i) (rb y V i)
 |0,_,_,_=>h
 |i+1,hD,hN,hk=>by
  have ih:=Wh.Xz V h i eB eB eB;have:=ih.act eB eB eB (V i);have Z:D+1300000*(i+1)=D+1300000*i+1300000:=eB;have Y:N+144*(i+1)=N+144*i+144:=eB;rw[Z,Y];exact this
theorem I7 {D:Nat} (y:ja):∀j,(∀i,i<j->∃Z,Z<=D/\ki (mK y i) Z 0/\jN (mK y i))->D<=800000000->∃T,j5 (iT y) T [] (iT (mK y j))
 |0,_,_=>⟨[],.nil _⟩
 |j+1,h,hD=>by
  obtain⟨T,p⟩:=I7 y j (λi hi=>h i eB) hD;obtain⟨Z,h1,Y,U⟩:=h j eB;have q:=zu U Y eB;exact⟨_,p.trans q⟩
theorem St.XA {D N k:Nat} {y:ja} (h:St D N k y):∀i,D+1300000*i<=800000000->ki (mK y i) (D+1300000*i) 0/\jN (mK y i)
 |0,_=>⟨h.ok,h.f⟩
 |i+1,hD=>by
  obtain⟨Z,U⟩:=St.XA h i eB;have n6:=Z.n6;have Y:D+1300000*(i+1)=D+1300000*i+1300000:=eB;rw[Y];exact⟨Z.round eB,U.round Z eB⟩
structure o9(m:Nat)(L:List pz)(jc:Nat->Bool)(D N k:Nat)(z:ja):Prop where
 f:Fin D N k z
 ma:D4 (iT z)
 n:z.n=m
 nc:z.nc=L.length
 e:∀x,(z.C x).e=(nh L x).e
 ms:z.ms=pL L
 jc:∀x,(z.C x).jc=jc x
theorem Fin.st {D N k:Nat} {y:ja} (h:Fin D N k y):St D N k y:=h.s.fl.st
theorem Wh.settled {m:Nat} {L:List pz} {D N k:Nat} {y:ja} (h:Wh m L D N k y)(U:D<=600000000)(Q:N+50*144<1000000)(M:k+8<=126):o9 m L (λx=>(y.C x).jc) (D+1300000*45) (N+144*45) (k+7) (mK y 45):=by
 have hf:=h.s.settled U Q M;have H:=h.s.XA;obtain⟨T,p⟩:=I7 (D:=D+1300000*45) y 45 (λi hi=>⟨D+1300000*i,eB,H i eB⟩) eB;have Z:=h.QF hf.st p;obtain⟨_,_,_,Y⟩:=yb y 45;exact⟨hf,Z.ma,Z.n,Z.nc,Z.e,Z.ms,λx=>(Y x).2⟩
def qh(m:Nat)(L:List pz)(jc:Nat->Bool)(x:Nat):List jQ:=(ft m).filterMap λz=>if 0<I4 jc (λc=>(nh L c).e) (He L) x z L.length then μ ((z:Int)+1,I4 jc (λc=>(nh L c).e) (He L) x z L.length)else ν
def oj(m:Nat)(L:List pz)(jc:Nat->Bool):Int->Option PS:=λx=>if 1<=x/\x<=(m:Int)then μ (1,qh m L jc (x-1).toNat)else ν
theorem o9.a {jc:Nat->Bool} {z:ja} (h:o9 m L jc D N k z):(iT z).n=m/\(iT z).nc=L.length/\(iT z).e=(λc=>(nh L c).e)/\(iT z).jc=jc/\(iT z).ms=pL L:=
 ⟨h.n,h.nc,funext h.e,funext h.jc,h.ms⟩
theorem o9.cm {many:Int} {m:Nat} {L:List pz} {jc:Nat->Bool} {D N k:Nat} {z:ja} (h:o9 m L jc D N k z)(hc:lU many L):CmA (iT z) (He L):=by
 obtain⟨a1,Z,Y,a4,U⟩:=h.a;intro c d hcc hd;rw[Y,U];exact hc.cm c d (by rw[Z]at hcc;exact hcc)
theorem o9.ab3 {many:Int} {jc:Nat->Bool} {z:ja} (h:o9 m L jc D N k z)(hc:lU many L)(hx:x<m):qh m L jc x=jJ (z.R x):=by
 have e:=zy h.f.s.s h.ma (h.cm hc) (x:=x) (by rw[h.a.1];exact hx);obtain⟨Z,Y,U,Q,a5⟩:=h.a;unfold I5 at e;rw[Z,Y,U,Q]at e;exact e.trans (xH (z.R x))
theorem o9.aiL {many:Int} {jc:Nat->Bool} {z:ja} (h:o9 m L jc D N k z)(hc:lU many L)(hx:x<m):lv (z.R x)=qq (kE (qu (oj m L jc))) (x+1):=by
 have e:=TE h.f.s.s h.f.e h.ma (h.cm hc) (x:=x) (by rw[h.a.1];exact hx);obtain⟨Z,Y,U,Q,a5⟩:=h.a;have M:I6 (iT z) (He L)=oj m L jc:=by
  funext y
  unfold I6 I5 oj qh;rw[Z,Y,U,Q]
 rw[M]at e;exact e
theorem o9.own {m:Nat} {L:List pz} {jc:Nat->Bool} {D N k:Nat} {z:ja} (h:o9 m L jc D N k z) {x:Nat} (hx:x<m):∃q:PS,(z.R x).K ((x:Int)+1)=μ q/\q.2=jJ (z.R x)/\oK ((x:Int)+1) q.1 q.2=0:=by
 obtain⟨B,U⟩:=h.f.s.s.env.i.own;obtain⟨Z,Q,_,M,hn⟩:=U.r x (by rw[h.a.1];exact hx);obtain⟨q,Y,hs⟩:=Q.own;have e:=Z.own;unfold Bw at e;rw[Y]at e;rw[M]at Y hs;exact⟨q,Y,e.trans (xH (z.R x)),hs⟩
theorem o9.same {jc:Nat->Bool} {z:ja} (h:o9 m L jc D N k z) {v:Nat} (hc:nZ (iT z) x v):(z.R v).K=(z.R x).K:=h.f.e.conn hc
theorem C5.round {w0:ew} {N:Nat} {X:Nat->Prop} {m nc i:Nat} {n:ja} {W:ew} (h:C5 w0 N X m nc i n W)(H:jt w0)(hi:i<=300):
 fc fe 54 #[π (μ ⟨N,0,ν⟩)] W λe w'=>e=ρ (τ #[])/\C5 w0 N X m nc (i+1) n.round w'/\∀b,X b->w'.heap[b]? =W.heap[b]? :=by
 obtain⟨hA,U,Y,hn,hc⟩:=h;obtain⟨s1,s2,_,_⟩:=kX n;refine(hA.call (E:=λe=>e=ρ (τ #[])) (n':=n.round) s1 λy M Q=> ?_).mono ?_;{rw[<-Q];exact BP y n (1300000*i) W M (hA.tab H) Y eB};{rintro e w' ⟨u,Z,G⟩;exact⟨u,⟨Z,U.round Y eB,(Y.round eB).mono eB (Nat.le_refl _),s1.trans hn,s2.trans hc⟩,G⟩}
theorem Pc {y:ja} (h:C5 w0 N X m nc i y W)(E:jt w0)(hi:i<=200):
 fc fe 44 #[π (μ ⟨N,0,ν⟩)] W λe w'=>e=ρ (τ #[])/\C5 w0 N X m nc (i+45) (mK y 45) w'/\∀b,X b->w'.heap[b]? =W.heap[b]? :=by
 have H:∀k V,k<45->(C5 w0 N X m nc (i+k) (mK y k) V/\∀b,X b->V.heap[b]? =W.heap[b]?)->fc fe 54 #[π (μ ⟨N,0,ν⟩)] V λe w'=>e=ρ (τ #[])/\(C5 w0 N X m nc (i+(k+1)) (mK y (k+1)) w'/\∀b,X b->w'.heap[b]? =W.heap[b]?):=by
  rintro k V hk ⟨hA,hX⟩;refine(hA.round E eB).mono ?_;rintro e w' ⟨he,h1,h2⟩;exact⟨he,h1,λb hb=>(h2 b hb).trans (hX b hb)⟩
 obtain⟨Q,Y⟩:∃Q:Nat->ew->Prop,Q=λk V=>C5 w0 N X m nc (i+k) (mK y k) V/\∀b,X b->V.heap[b]? =W.heap[b]? :=⟨_,rfl⟩
 have Z:∀k V,k<45->Q k V->fc fe 54 #[π (μ ⟨N,0,ν⟩)] V λe w'=>e=ρ (τ #[])/\Q (k+1) w':=by
  rw[Y];exact H
 have G:Q 0 W:=by rw[Y];exact⟨h,λ_ _=>rfl⟩
 have u:∀V,Q 45 V->C5 w0 N X m nc (i+45) (mK y 45) V/\∀b,X b->V.heap[b]? =W.heap[b]? :=λV hv=>by rw[Y]at hv;exact hv
 have HR:Hid _:=Z;have HE:Hid _:=u;have H0:Hid (Q 0 W):=G;clear H Z G u h E Y
 go_in
 go_wp2
 go_loopw [2] (λx wr=>∃k:Nat,k<=45/\x=ι κ k/\Q k wr) (λx _=>45-(fh x).toNat)
 case atStart=>exact⟨0,Nat.zero_le _,rfl,H0.out⟩
 case round=>
  obtain⟨k,hk,rfl,U⟩:=hrel;obtain⟨V,rfl⟩:∃V,V=wr:=⟨_,rfl⟩
  by_cases kL:k<45
  ·have n9:(k:Int)<45:=eB;have Z:=HR.out k V kL U;clear U;go_wp2_with(fail);refine Z.mono ?_;rintro e w3 ⟨rfl,hA3⟩;have M:Hid (Q (k+1) w3):=hA3;clear Z hA3
   go_wp2
   go_roundw
   case rel=>exact⟨k+1,eB,by go_num,M.out⟩
   case measure=>simp[fh];omega
  ·have yc:¬(k:Int)<45:=eB;obtain rfl:k=45:=eB;have HQ:Hid (Q 45 V):=U;clear U
   go_wp2
   first|go_end0|refine iX rfl rfl ?_
   exact⟨rfl,HE.out V HQ.out⟩
theorem C5.aeT {y:ja} (h:C5 w0 N X m nc i y W)(hx:x<m):
 ∃R,(∀V,eH W V->fc fe 40 #[π (μ ⟨N,0,ν⟩),ι κ ((x:Int)+1)] V λe w'=>e=ρ (τ #[π (μ ⟨R,0,ν⟩),η])/\V=w')/\∀V,eH W V->fc fe 64 #[π (μ ⟨R,0,ν⟩)] V λe Q=>∃b c,e=ρ (σ b (lv (y.R x)).length c)/\HsN V Q b (lv (y.R x)).length (lv (y.R x))/\eH V Q:=by
 obtain⟨⟨⟨z,U,M,ha,hxx⟩,iY⟩,hG,H,Y,hc⟩:=h;refine⟨(z.z x).R,λV Z=> ?_,λV Z=> ?_⟩;{rw[<-M];exact zk z y x V (U.below Z) (by rw[Y];exact hx)};{exact BG (z.z x) (y.R x) V ((U.below Z).rt x (by rw[Y];exact hx)) (H.ok x (by rw[Y];exact hx)).P5}
theorem TG {y:ja} (h:C5 w0 N X m nc i y W)(hx:x<m)(V:ew)(M:eH W V):
 fc fe 47 #[π (μ ⟨N,0,ν⟩),ι κ ((x:Int)+1)] V λe Z=>∃b c,e=ρ (σ b (lv (y.R x)).length c)/\HsN V Z b (lv (y.R x)).length (lv (y.R x))/\eH V Z:=by
 obtain⟨R,Y,U⟩:=h.aeT hx;have k1:=Y V M;have k2:=U V M;clear Y U h;generalize lv (y.R x)=L at k2⊢
 go_in
 go_wp2_with(fail);refine k1.mono ?_;rintro e w1 ⟨rfl,rfl⟩;clear k1;go_wp2_with(fail);refine k2.mono ?_;rintro e Z ⟨b,c,rfl,Q,hb⟩;have HH:Hid _:=Q;have H:Hid _:=hb;clear k2 Q hb
 go_wp2
 go_ret;exact⟨b,c,rfl,HH.out,H.out⟩
theorem C5.XB {y:ja} (h:C5 w0 N X m nc i y W)(hx:x<m):
 ∃R,(∀V,eH W V->fc fe 40 #[π (μ ⟨N,0,ν⟩),ι κ ((x:Int)+1)] V λe w'=>e=ρ (τ #[π (μ ⟨R,0,ν⟩),η])/\V=w')/\∀V,eH W V->fc fe 50 #[π (μ ⟨R,0,ν⟩)] V λe w'=>∃a n cap S E,e=ρ (σ a n cap)/\uv w' a n S E/\tD (y.R x).K n S E/\n<=6/\acL V a n cap S/\eH V w':=by
 obtain⟨⟨⟨z,Y,Q,ha,hxx⟩,iY⟩,hG,jb,U,hc⟩:=h;refine⟨(z.z x).R,λV Z=> ?_,λV Z=> ?_⟩;{rw[<-Q];exact zk z y x V (Y.below Z) (by rw[U];exact hx)};{exact LA (z.z x) (y.R x) V ((Y.below Z).rt x (by rw[U];exact hx))}
theorem aaw(a:Option eh)(n cap:Nat)(S:Nat->SV)(E:Nat->List jQ)(k:Int)(w:ew)(h:uv w a n S E)(hn:n<=1000)(j:Nat)(hj:j<n)(X5:(S j).own=k)(hb:∀i,i<j->(S i).own≠k):
 fc fe 49 #[σ a n cap,ι κ k] w λe w'=>e=ρ (.agg #[ι κ (S j).own,ι κ (S j).seq,σ (S j).a (S j).n (S j).cap])/\eH w w':=by
 have HS:Hid _:=h;have HB:Hid _:=hb;clear h hb
 go_in
 go_wp2_with(fail);obtain⟨W0,nL⟩:=fq (w.alloc (γ #[ι κ 0,ι κ 0,σ ν 0 0] 40));obtain⟨B,Y⟩:=fq (w.heap.size);have DN:Hid (ji W0 B #[ι κ 0,ι κ 0,σ ν 0 0] 40/\eH w W0):=by
  rw[<-nL,<-Y];exact⟨ji.new w _ _,gK _ _⟩
 try rw[nL]
 try rw[Y]
 have Vs:Hid _:=Y;clear nL Y
 go_wp2
 go_loopw [5] (λi wr=>∃x:Nat,x<=j/\i=ι κ x/\ji wr B #[ι κ 0,ι κ 0,σ ν 0 0] 40/\eH w wr) (λi _=>n-(fh i).toNat)
 case atStart=>exact⟨0,Nat.zero_le _,rfl,DN.out.1,DN.out.2⟩
 case round=>
  obtain⟨x,hx,rfl,Z,U⟩:=hrel;obtain⟨V,rfl⟩:∃V,V=wr:=⟨_,rfl⟩
  have G:x<n:=eB;have kL:(x:Int)<(n:Int):=eB;have hx0:(0:Int)<=(x:Int):=eB;have hs:=HS.out.below U;rcases hs.row with h0|⟨b,off,rfl,hcs⟩
  {omega};obtain⟨c0,c1,c2⟩:=hcs x G;have bl:=ag _ _ c0;have M:Hid _:=U;have Q:Hid (ji V B #[ι κ 0,ι κ 0,σ ν 0 0] 40):=Z;clear hs hcs;by_cases H:x=j;{subst H;subst X5;have d0:V.cell? ⟨B,0,ν⟩=μ (ι κ 0):=Z.cell 0;have d1:V.cell? ⟨B,1,ν⟩=μ (ι κ 0):=Z.cell 1;have d2:V.cell? ⟨B,2,ν⟩=μ (σ ν 0 0):=Z.cell 2;have f0:=Z.frozen 0;have f1:=Z.frozen 1;have f2:=Z.frozen 2;have sl:=Z.lt;have u:(b==B)=false \/True:=.inr trivial;obtain⟨e1,e2,e3,e4⟩:=vD (a:=ι κ (S x).own) (b:=ι κ (S x).seq) (c:=σ (S x).a (S x).n (S x).cap) Z rfl (by rw[Vs.out];exact Nat.le_refl _) U;have E3:Hid _:=e3;clear Z U u e4;go_wp2_with(fail);refine aE (v:=.agg #[ι κ (S x).own,ι κ (S x).seq,σ (S x).a (S x).n (S x).cap]) (by simp[results,results49,go_sem,d0,d1,d2]) rfl ?_;exact⟨rfl,E3.out⟩}
  ·have u:=HB.out x eB;have TA:((S x).own==k)=false:=by simpa using u
   clear Z U
   go_wp2
   go_roundw
   case rel=>exact⟨x+1,eB,by go_num,Q.out,M.out⟩
   case measure=>simp[fh];omega
theorem aeU {y:Nat} (h:TY es y≠0):((y:Int),TY es y)∈es:=by
 unfold TY at h⊢;cases hf:es.find? λe=>e.1==(y:Int)with
 |none=>rw[hf]at h;exact absurd rfl h
 |some e=>
  have Z:=iN hf;have Y:=dE hf;have U:e.1=(y:Int):=by simpa using Z
  simp only[Option.map_some,Option.getD_some];rw[<-U];exact Y
theorem Cd {many:Int} (hc:lU many L)(jc:Nat->Bool) {a b:Nat} (h:qu (oj m L jc) a b≠0):∃x z,x<m/\z<m/\a=x+1/\b=z+1/\0<qu (oj m L jc) a b/\∃c,c<L.length/\Jn jc (λc=>(nh L c).e) x z c:=by
 cases Z:oj m L jc (a:Int)with
 |none=>
  unfold qu at h;rw[Z]at h;exact absurd rfl h
 |some q=>
  have hq:1<=(a:Int)/\(a:Int)<=(m:Int)/\q=(1,qh m L jc ((a:Int)-1).toNat):=by
   unfold oj at Z;split at Z
   ·rename_i e
    exact⟨e.1,e.2,(Option.some.inj Z).symm⟩
   ·exact absurd Z ik
  obtain⟨q1,q2,q3⟩:=hq;rw[zA Z]at h⊢;rw[q3]at h⊢;simp only at h⊢;have Y:=aeU h;generalize TY (qh m L jc ((a:Int)-1).toNat) b=v at Y⊢;unfold qh at Y;obtain⟨z,hz,U⟩:=bZ.1 Y;have M:=aN.1 hz;split at U
  ·rename_i e
   have Q:=Option.some.inj U;have H:=congrArg Prod.fst Q;have G:=congrArg Prod.snd Q;simp only at H G;have hp:=(sX jc (λc=>(nh L c).e) (He L) ((a:Int)-1).toNat z L.length (λc hcc=>by
    unfold He;rw[aG,aw hcc];exact(hc.c _ (aF hcc)).1.1)).pos (by
     rintro m ⟨c,hcc,_,rfl⟩;unfold He;rw[aG,aw hcc];exact(hc.c _ (aF hcc)).1.1)
   obtain⟨_,c,E,u,_⟩:=hp.1.1 e;exact⟨((a:Int)-1).toNat,z,eB,M,eB,eB,eB,c,E,u⟩
  ·exact absurd U ik
theorem Ce {many:Int} (hc:lU many L)(jc:Nat->Bool)(a b:Nat):0<=kE (qu (oj m L jc)) a b/\kE (qu (oj m L jc)) a a=0/\(kE (qu (oj m L jc)) a b≠0->∃x z,x<m/\z<m/\a=x+1/\b=z+1/\∃c,c<L.length/\Jn jc (λc=>(nh L c).e) x z c):=by
 have Z:∀a b,0<=qu (oj m L jc) a b:=λa b=>by
  by_cases e:qu (oj m L jc) a b=0;{omega};{obtain⟨_,_,_,_,_,_,h,_⟩:=Cd hc jc e;omega}
 refine⟨?_,?_,λh=> ?_⟩;{unfold kE;split;{exact Z a b};{exact Int.le_refl _}}
 ·unfold kE;split
  ·rename_i e
   obtain⟨x,z,_,_,e1,Y,_,c,_,G⟩:=Cd (m:=m) hc jc (a:=a) (b:=a) (λY=>by rw[Y]at e;exact absurd e (Int.lt_irrefl 0));exact absurd (by omega:x=z) G.2.1
  ·rfl
 ·unfold kE at h;split at h;{obtain⟨x,z,Z,U,Q,M,_,H⟩:=Cd hc jc h;exact⟨x,z,Z,U,Q,M,H⟩};{exact absurd rfl h}
theorem o9.reach {jc:Nat->Bool} {z:ja} (h:o9 m L jc D N k z)(hc:lU (m:Int) L)(hx:x<m)(hp:p∈lv (z.R x)):∃v,v<m/\p.dst=(v:Int)+1/\nZ (iT z) x v:=by
 obtain⟨a1,a2,a3,a4,a5⟩:=h.a;have U:=h.aiL hc hx;obtain⟨G,E⟩:=fq (kE (qu (oj m L jc)));rw[E]at U;rw[U]at hp;obtain⟨j,hj,oQ,hf⟩:=(Vn G (x+1) p).1 hp;rw[<-E]at hf oQ;have hm:=hc.m;have qT:∀u w,u<7->w<7->(∃i,i<m/\u=i+1/\nZ (iT z) x i)->kE (qu (oj m L jc)) u w≠0->∃i,i<m/\w=i+1/\nZ (iT z) x i:=by
  rintro u w _ _ ⟨i,hi,rfl,Y⟩ jx;obtain⟨y,v,Q,Z,M,h4,c,h5,H⟩:=(Ce hc jc (i+1) w).2.2 jx;obtain rfl:i=y:=eB;rw[<-a3,<-a4]at H;exact⟨v,Z,h4,Y.trans (nZ.adj (H.adj (by rw[a2];exact h5)))⟩
 have hS:=(xG qT (λ_ _ _ _ _=>rfl) (show x+1<7 by omega) ⟨x,hx,rfl,0,.here x⟩ 6).2 j hj (by unfold zZ at hf;omega);obtain⟨v,Q,Z,M⟩:=hS;have hd:=(EC (λa b=>(Ce hc jc a b).1) (Ce hc jc (x+1) 0).2.1 j hf).1;exact⟨v,Q,by rw[oQ,hd,Z];omega,M⟩
theorem o9.tell {jc:Nat->Bool} {z:ja} (h:o9 m L jc D N k z)(hc:lU (m:Int) L)(hx:x<m)(M:p∈lv (z.R x)):∃v,v<m/\p.dst=(v:Int)+1/\∃q:PS,(z.R x).K ((v:Int)+1)=μ q/\(z.R v).K ((v:Int)+1)=μ q/\1<=q.1:=by
 obtain⟨v,Z,Y,U⟩:=h.reach hc hx M;obtain⟨q,q1,q2,q3⟩:=h.own Z;obtain⟨B,Q⟩:=h.f.s.s.env.i.own;obtain⟨_,H,_,G,_⟩:=Q.r v (by rw[h.a.1];exact Z);have hs:=H.seq.1;have e:y8 ((iT z).R v).K ((iT z).R v).id=q.1:=by
  rw[G];unfold y8;have:((iT z).R v).K ((v:Int)+1)=μ q:=q1;rw[this]
 rw[e]at hs;exact⟨v,Z,Y,q,by rw[<-h.same U];exact q1,q1,hs⟩
structure XC(w wr:ew)(v:eA)(x:Nat)(out:List SV)(Es:Nat->List jQ):Prop where
 len:out.length=x
 row:Row wr 3 v x (K8 out)
 own:∀j,v.ownBlock=μ j->w.heap.size<=j
 el:∀j,j<x->∃s,out[j]? =μ s/\s.own=(j:Int)+1/\s.seq=1/\jm wr s.a s.n (Es j)/\kY s.a s.cap/\s.n<=maxLen/\∀b,eD (σ s.a s.n s.cap)=μ b->w.heap.size<=b/\b<wr.heap.size/\v.ownBlock≠μ b
 ox:eH w wr
theorem XC.below {w wr W':ew} {v:eA} {x:Nat} {out:List SV} {Es:Nat->List jQ} (h:XC w wr v x out Es)(hb:eH wr W'):XC w W' v x out Es:=by
 refine⟨h.len,h.row.below hb,h.own,λj u=> ?_,fP h.ox hb⟩;obtain⟨s,U,Q,M,H,G,E,Z⟩:=h.el j u;exact⟨s,U,Q,M,H.below hb,G,E,λb Y=>⟨(Z b Y).1,Nat.lt_of_lt_of_le (Z b Y).2.1 hb.size,(Z b Y).2.2⟩⟩
theorem XC.step {v v':eA} {s:SV} (h:XC w W v x out Es)(E:∀j,v.ownBlock=μ j->j<wr.heap.size)(G:W.grownBy W' v.ownBlock)
 (hr:Row W' 3 v' (x+1) (K8 out++ [ι κ s.own,ι κ s.seq,σ s.a s.n s.cap])) (hv:∀g,v'.ownBlock=μ g->v.ownBlock=μ g \/W.heap.size<=g)
 (h1:s.own=(x:Int)+1) (M:s.seq=1) (ho:jm W s.a s.n (Es x)) (hn:kY s.a s.cap) (hm:s.n<=maxLen) (hb:∀b,eD (σ s.a s.n s.cap)=μ b->w.heap.size<=b/\wr.heap.size<=b/\b<W.heap.size):XC w W' v' (x+1) (out++ [s]) Es:=by
 have u:∀i,i<W.heap.size->v.ownBlock≠μ i->W'.heap[i]? =W.heap[i]? :=λi hi M=>G.block i hi (λe=>M e.symm);refine⟨by rw[aA,h.len];rfl,?_,?_,λj hj=> ?_,h.ox.grown G h.ox.size h.own⟩;{rw[K9];exact hr}
 ·intro j hj;rcases hv j hj with e|e
  {exact h.own j e};{exact Nat.le_trans h.ox.size e}
 ·by_cases e:j=x
  ·subst e;refine⟨s,by rw[bB (by rw[h.len];exact Nat.le_refl _),h.len,Nat.sub_self];rfl,h1,M,?_,hn,hm,λb H=> ?_⟩;{refine ho.kept (cap:=s.cap) λk U=>u k (hb k U).2.2 (λZ=> ?_);have:=E k Z;have:=(hb k U).2.1;omega}
   ·obtain⟨c1,c2,c3⟩:=hb b H;refine⟨c1,Nat.lt_of_lt_of_le c3 G.size,λZ=> ?_⟩;rcases hv b Z with Y|Y
    {have:=E b Y;omega};{omega}
  ·obtain⟨t,a1,a2,a3,a4,a5,a6,Q⟩:=h.el j eB;refine⟨t,by rw[bH (by rw[h.len];omega)];exact a1,a2,a3,?_,a5,a6,λb H=> ?_⟩;{exact a4.kept (cap:=t.cap) λk U=>u k (Q k U).2.1 (Q k U).2.2}
   ·obtain⟨c1,c2,c3⟩:=Q b H;refine⟨c1,Nat.lt_of_lt_of_le c2 G.size,λZ=> ?_⟩;rcases hv b Z with Y|Y
    {exact c3 Y};{omega}
def QG(w:ew)(m:Nat)(Es:Nat->List jQ)(e:Ending)(w':ew):Prop:=
 ∃b c S,e=ρ (σ b m c)/\uv w' b m S Es/\(∀j,j<m->(S j).own=(j:Int)+1/\(S j).seq=1)/\eH w w'
theorem XC.done {ao:Option eh} {cp:Nat} (h:XC w wr (σ ao n cp) m out Es):n=m/\QG w m Es (ρ (σ ao n cp)) wr:=by
 have hn:n=m:=by
  rcases h.row.2 with⟨e,u⟩|⟨g,cap,e,_⟩
  {simp at e;omega};{simp at e;omega}
 refine⟨hn,ao,cp,λj=>out.getD j SV.zero,by rw[hn],⟨?_,λj U=> ?_⟩,λj U=> ?_,h.ox⟩
 ·rcases h.row.2 with⟨e,u⟩|⟨g,cap,e,_,_,_,hc,_⟩
  ·exact .inl u
  ·refine .inr ⟨g,0,by simp at e;exact e.1,λj U=> ?_⟩;obtain⟨s,Z,_⟩:=h.el j U;obtain⟨b1,b2,b3⟩:=Jq out j s Z;have Y:out.getD j SV.zero=s:=by rw[aG,Z];rfl
   rw[Y,Nat.zero_add];exact⟨hc _ _ b1,hc _ _ b2,hc _ _ b3⟩
 ·obtain⟨s,Z,Q,M,H,G,E,a7⟩:=h.el j U;have Y:out.getD j SV.zero=s:=by rw[aG,Z];rfl
  rw[Y];exact⟨H,G,E⟩
 ·obtain⟨s,Z,Q,M,H,G,E,a7⟩:=h.el j U;have Y:out.getD j SV.zero=s:=by rw[aG,Z];rfl
  refine⟨?_,?_⟩;{show(out.getD j SV.zero).own=_;rw[Y,Q]};{show(out.getD j SV.zero).seq=_;rw[Y,M]}
theorem XD {many:Int} (h:lU many L)(jc:Nat->Bool)(x z k:Nat)(M:k<L.length):Jn jc (λc=>(nh L c).e) x z k↔jc k=true/\x≠z/\((L[k].a=(x:Int)+1/\L[k].b=(z:Int)+1) \/(L[k].a=(z:Int)+1/\L[k].b=(x:Int)+1)):=by
 obtain⟨_,H,G⟩:=h.c _ (aF M);have k1:=nu H;have k2:=nu G;unfold Jn;simp only;rw[uf L k 0 M,uf L k 1 M,ai rfl,af eF];simp only;constructor;{rintro⟨Z,Y,⟨U,Q⟩|⟨U,Q⟩⟩;{exact⟨Z,Y,.inl ⟨eB,eB⟩⟩};{exact⟨Z,Y,.inr ⟨eB,eB⟩⟩}};{rintro⟨Z,Y,⟨U,Q⟩|⟨U,Q⟩⟩;{exact⟨Z,Y,.inl ⟨eB,eB⟩⟩};{exact⟨Z,Y,.inr ⟨eB,eB⟩⟩}}
theorem XE(h:f k=ν):(ft (k+1)).filterMap f=(ft k).filterMap f:=by
 rw[cg,bJ];simp[h]
theorem XF {o:jQ} (h:f k=μ o):(ft (k+1)).filterMap f=(ft k).filterMap f++ [o] :=by
 rw[cg,bJ];simp[h]
theorem aeV(f:Nat->Option jQ):∀k,((ft k).filterMap f).length<=k:=λk=>by
 have:=dJ f (ft k)
 rwa [dA]at this
theorem XG(m:Nat)(a:Option eh)(n cap g:Nat)(L:List pz)(jc:Nat->Bool)(w:ew)(hL:Ar w a L)(hl:L.length=n)(hc:lU (m:Int) L)(hi:qR w g 0 n (λk=>.bool (jc k))):
 fc fe 45 #[ι κ (m:Int),σ a n cap,σ (μ ⟨g,0,ν⟩) n n] w λe w'=>QG w m (qh m L jc) e w':=by
 obtain⟨i0,PH,oN,nG,mS⟩:=aX infoState;obtain⟨i9,hi9,anm,ano,anp⟩:=aX zP;have hm6:=hc.m;have hn9:=hc.l;rw[hl]at hn9;have XH:∀W k,eH w W->(hk:k<n)->∃A B M:Int,∃b off,a=μ ⟨b,off,ν⟩/\(∃pa pb:Int,W.cell? ⟨b,off+k*5,ν⟩=μ (ι κ A)/\W.cell? ⟨b,off+k*5+1,ν⟩=μ (ι κ pa)/\W.cell? ⟨b,off+k*5+2,ν⟩=μ (ι κ B)/\W.cell? ⟨b,off+k*5+3,ν⟩=μ (ι κ pb)/\W.cell? ⟨b,off+k*5+4,ν⟩=μ (ι κ M))/\W.cell? ⟨g,k,ν⟩=μ (.bool (jc k))/\∀x z,I4 jc (λc=>(nh L c).e) (He L) x z (k+1)=if(jc k=true/\x≠z/\((A=(x:Int)+1/\B=(z:Int)+1) \/(A=(z:Int)+1/\B=(x:Int)+1)))/\(I4 jc (λc=>(nh L c).e) (He L) x z k=0 \/M<I4 jc (λc=>(nh L c).e) (He L) x z k)then M else I4 jc (λc=>(nh L c).e) (He L) x z k:=by
  intro W k hW hk;have sv:k<L.length:=eB;obtain⟨b,off,Dz,c0,c1,c2,c3,c4⟩:=(hL.below hW) k sv;have hci:=((hi.below eB hW).cell k hk)
  rw[Nat.zero_add]at hci;refine⟨L[k].a,L[k].b,L[k].m,b,off,Dz,⟨_,_,c0,c1,c2,c3,c4⟩,hci,λx z=> ?_⟩;show(if Jn jc (λc=>(nh L c).e) x z k/\_ then He L k else _)=_;have Gw:He L k=L[k].m:=by
   unfold He;rw[aG,aw sv];rfl
  rw[Gw];refine ite_congr (propext ⟨λh=>⟨(XD hc jc x z k sv).1 h.1,h.2⟩,λh=>⟨(XD hc jc x z k sv).2 h.1,h.2⟩⟩) (λ_=>rfl) (λ_=>rfl)
 obtain⟨ls,hls⟩:∃ls:Nat->Nat->Nat->Int,ls=I4 jc (λc=>(nh L c).e) (He L):=⟨_,rfl⟩
 obtain⟨F,hF⟩:∃F:Nat->Nat->Option jQ,F=λx z=>if 0<ls x z n then μ ((z:Int)+1,ls x z n)else ν:=⟨_,rfl⟩
 obtain⟨Es,hEs⟩:∃Es:Nat->List jQ,Es=qh m L jc:=⟨_,rfl⟩
 have hE2:∀x,Es x=(ft m).filterMap (F x):=λx=>by rw[hEs,hF,hls,<-hl];rfl
 have aiN:∀x z,ls x z 0=0:=λx z=>by rw[hls];rfl
 have qN:∀x z,0<=ls x z n:=λx z=>by
  rw[hls,<-hl];refine((sX jc _ (He L) x z L.length ?_).pos ?_).2
  all_goals
   have hp:∀c,c<L.length->1<=He L c:=λc hcc=>by
    unfold He;rw[aG,aw hcc];exact(hc.c _ (aF hcc)).1.1
   first
    |exact hp
    |(rintro m ⟨c,hcc,_,rfl⟩;exact hp c hcc)
 rw[<-hEs];simp only[<-hls]at XH;have HRd:Hid _:=XH;have HE2:Hid _:=hE2;have HF:Hid _:=hF;have HLS:Hid _:=aiN;have anr:Hid _:=qN;clear XH hE2 hF aiN qN hls hEs hL hc hi hl
 go_in
 go_wp2
 go_loopw [7,8] (λv i wr=>∃(x:Nat) (ao:Option eh) (k cp:Nat) (out:List SV),x<=m/\v=σ ao k cp/\i=ι κ ((x:Int)+1)/\XC w wr (σ ao k cp) x out Es) (λ_ i _=>m+1-(fh i).toNat)
 case atStart=>exact⟨0,ν,0,0,[],Nat.zero_le _,rfl,rfl,⟨rfl,Row.nil w 3,λj hj=>ny hj,λj hj=>absurd hj eB,au _ _⟩⟩
 case round=>
  obtain⟨x,ao,k0,cp,out,hx,rfl,rfl,hI⟩:=hrel;obtain⟨W1,rfl⟩:∃W1,W1=wr:=⟨_,rfl⟩
  have HI:Hid _:=hI;clear hI;by_cases Ub:x<m
  case neg=>
   have yc:¬(x:Int)+1<=(m:Int):=eB;obtain rfl:x=m:=eB;obtain⟨rfl,hP⟩:=HI.out.done;have HP:Hid (QG w k0 Es (ρ (σ ao k0 cp)) W1):=hP;clear hP;go_wp2_with(fail);refine aE (v:=σ ao k0 cp) (by simp[results,results45,go_sem]) rfl ?_;exact HP.out
  case pos=>
   have kL:(x:Int)+1<=(m:Int):=eB;obtain⟨W2,nK⟩:=fq (W1.alloc (γ #[ι κ ((x:Int)+1),ι κ 1,σ ν 0 0] 40));have U9:Hid _:=nK;obtain⟨S,hS⟩:=fq (W1.heap.size);have HS:Hid _:=hS;have A2:Hid (ji W2 S #[ι κ ((x:Int)+1),ι κ 1,σ ν 0 0] 40/\eH W1 W2):=by
    rw[<-nK,<-hS];exact⟨ji.new W1 _ _,gK _ _⟩
   clear nK hS;go_wp2_with(fail)
   try rw[U9.out]
   try rw[HS.out]
   go_wp2
   go_loopw [10] (λi wr=>∃(z:Nat) (G:Option eh) (Z E:Nat),z<=m/\i=ι κ ((z:Int)+1)/\ji wr S #[ι κ ((x:Int)+1),ι κ 1,σ G Z E] 40/\Row wr 2 (σ G Z E) Z (je ((ft z).filterMap (F x)))/\(∀j,eD (σ G Z E)=μ j->S<j)/\eH W1 wr) (λi _=>m+1-(fh i).toNat)
   case atStart=>exact⟨0,ν,0,0,Nat.zero_le _,rfl,A2.out.1,by simpa[je]using Row.nil W2 2,λj hj=>by simp[eD]at hj,A2.out.2⟩
   case round=>
    obtain⟨z,G,Z,E,hz,rfl,oP,jf,jA,iY⟩:=hrel;obtain⟨W3,rfl⟩:∃W3,W3=wr:=⟨_,rfl⟩
    have HBl:Hid (ji W3 S #[ι κ ((x:Int)+1),ι κ 1,σ G Z E] 40):=oP;have wI:Hid (Row W3 2 (σ G Z E) Z (je ((ft z).filterMap (F x)))):=jf;have Bq:Hid _:=jA;have aax:Hid _:=iY;have hke:Z<=z:=by
     have h1:=jf.1;rw[lH]at h1;have:=aeV (F x) z;omega
    clear oP jf jA iY;by_cases hzm:z<m
    case neg=>
     have yc:¬(z:Int)+1<=(m:Int):=eB;obtain rfl:z=m:=eB;have c0:W3.cell? ⟨S,0,ν⟩=μ (ι κ ((x:Int)+1)):=HBl.out.cell 0;have c1:W3.cell? ⟨S,1,ν⟩=μ (ι κ 1):=HBl.out.cell 1;have c2:W3.cell? ⟨S,2,ν⟩=μ (σ G Z E):=HBl.out.cell 2;have fz0:=HBl.out.frozen 0;have sl:=HBl.out.lt;have tu:Row W3 3 (σ ao k0 cp) x (K8 out):=HI.out.row.below aax.out;have GF:x=k0:=by
      rcases tu.2 with⟨e,h0⟩|⟨g,cap,e,_⟩
      {simp at e;omega};{simp at e;omega}
     subst GF;go_wp2_with(at_builtin;go_must(refine iU _ rfl (.tmp 91) (.tmp 93) 91 rfl 40 i0 (.agg #[ι κ 0,ι κ 0,σ ν 0 0]) 3 40 underlying91 PH oN nG mS rfl eF (σ ao x cp) x (K8 out) rfl (tu.alloc _) _ 1 1 [ι κ ((x:Int)+1),ι κ 1,σ G Z E] rfl rfl eF (Cn _ _ _ _ _ _ ik) (UY _ _ _ _ _) (by unfold maxLen;omega) eB ?_));intro g' jH w9 hr9 hg9 MP;have kC:XC w w9 (σ (μ ⟨g',0,ν⟩) (x+1) jH) (x+1) (out++ [⟨(x:Int)+1,1,G,Z,E⟩]) Es:=by
      have GM:eH W3 (W3.alloc (γ #[ι κ ((x:Int)+1),ι κ 1,σ G Z E] 40)):=gK _ _;refine XC.step (s:=⟨(x:Int)+1,1,G,Z,E⟩) (wr:=W1) ((HI.out.below aax.out).below GM) (λj hj=>HI.out.row.lt j hj) hg9 hr9 ?_ rfl rfl ?_ ?_ ?_ ?_
      ·intro g hg;have:g'=g:=by simpa[eD]using hg
       subst this;rcases MP with e|e
       {exact .inl e};{exact .inr (Nat.le_trans (Nat.le_of_eq ik) e)}
      ·have:=wI.out.opts;rw[<-HE2.out x]at this;exact this.below GM
      ·intro e;rcases wI.out.2 with⟨e2,_⟩|⟨g,cap,e2,_⟩
       {simp at e2;exact e2.2.2};{simp only[Value.slice.injEq]at e2;rw[e2.1]at e;exact absurd e ik}
      {show Z<=maxLen;unfold maxLen;omega};{intro b hb;have h1:=Bq.out b hb;have h2:=wI.out.lt b hb;have h3:=HI.out.ox.size;have h4:=HS.out;exact⟨eB,eB,Nat.lt_of_lt_of_le h2 GM.size⟩}
     have Y:Hid _:=kC;clear kC hr9 hg9 MP
     go_wp2
     go_roundw
     case rel=>exact⟨x+1,_,_,jH,_,eB,rfl,by go_num,Y.out⟩
     case measure=>simp[fh];omega
    case pos=>
     have hzl:(z:Int)+1<=(m:Int):=eB;have HW3:Hid (eH w W3):=fP HI.out.ox aax.out
     go_wp2
     go_loopw [11,12] (λl i wr=>∃k:Nat,k<=n/\l=ι κ (ls x z k)/\i=ι κ k/\eH W3 wr) (λ_ i _=>n-(fh i).toNat)
     case atStart=>exact⟨0,Nat.zero_le _,by rw[HLS.out],rfl,au _ _⟩
     case round=>
      obtain⟨k,hk,rfl,rfl,OJ⟩:=hrel;obtain⟨W4,rfl⟩:∃W4,W4=wr:=⟨_,rfl⟩
      have TH:Hid _:=OJ;clear OJ;by_cases Bh:k<n
      case pos=>
       have agb:(k:Int)<(n:Int):=eB;have GF:(0:Int)<=(k:Int):=eB;obtain⟨A,B,M,b,off,rfl,⟨pa,pb,c0,c1,c2,c3,c4⟩,ci,kC⟩:=HRd.out W4 k (fP HW3.out TH.out) Bh;have bl:=ag _ _ c0;have gl:=ag _ _ ci;have Y:Hid (ls x z (k+1)=if(jc k=true/\x≠z/\((A=(x:Int)+1/\B=(z:Int)+1) \/(A=(z:Int)+1/\B=(x:Int)+1)))/\(ls x z k=0 \/M<ls x z k)then M else ls x z k):=kC x z;clear kC;have GM:=λo=>gK W4 o;obtain⟨l1,Jd⟩:=fq (ls x z (k+1));have XI:Hid _:=Jd;rw[Jd]at Y;clear Jd;obtain⟨Q,wA⟩:=fq (ls x z k);rw[wA]at Y⊢;clear wA;have NR:Hid (∀o,eH W3 (W4.alloc o)):=λo=>fP TH.out (GM o);clear GM;cases U:jc k
       case false=>
        rw[U]at ci;have H:Hid (l1=Q):=by show _=_;rw[Y.out,af (λh=>by obtain⟨⟨q1,q2,q3⟩,q4⟩:=h;first|exact absurd q1 eF|exact absurd (U.symm.trans q1) eF|omega)]
        clear Y
        go_wp2
        go_roundw
        case rel=>exact⟨k+1,eB,by rw[XI.out,H.out],by go_num,NR.out _⟩
        case measure=>simp[fh];omega
       case true=>
        rw[U]at ci;by_cases u:x≠z
        case neg=>
         have WT:(z:Int)+1=(x:Int)+1:=eB;have H:Hid (l1=Q):=by show _=_;rw[Y.out,af (λh=>by obtain⟨⟨q1,q2,q3⟩,q4⟩:=h;first|exact absurd q1 eF|exact absurd (U.symm.trans q1) eF|omega)]
         clear Y
         go_wp2
         go_roundw
         case rel=>exact⟨k+1,eB,by rw[XI.out,H.out],by go_num,NR.out _⟩
         case measure=>simp[fh];omega
        case pos=>
         have WT:¬(z:Int)+1=(x:Int)+1:=eB;by_cases h1:A=(x:Int)+1
         case pos=>
          by_cases h2:B=(z:Int)+1
          case pos=>
           by_cases Gn:Q=0
           case pos=>
            have H:Hid (l1=M):=by show _=_;rw[Y.out,ai (by first|exact⟨⟨U,u,.inl ⟨h1,h2⟩⟩,.inl Gn⟩|exact⟨⟨U,u,.inl ⟨h1,h2⟩⟩,.inr Da⟩|exact⟨⟨U,u,.inr ⟨h3,h4⟩⟩,.inl Gn⟩|exact⟨⟨U,u,.inr ⟨h3,h4⟩⟩,.inr Da⟩)]
            clear Y
            go_wp2
            go_roundw
            case rel=>exact⟨k+1,eB,by rw[XI.out,H.out],by go_num,NR.out _⟩
            case measure=>simp[fh];omega
           case neg=>
            have mS:(Q==0)=false:=by simpa using Gn
            have MY:((z:Int)+1 !=(x:Int)+1)=true:=by simp;omega
            by_cases Da:M<Q
            case pos=>
             have H:Hid (l1=M):=by show _=_;rw[Y.out,ai (by first|exact⟨⟨U,u,.inl ⟨h1,h2⟩⟩,.inl Gn⟩|exact⟨⟨U,u,.inl ⟨h1,h2⟩⟩,.inr Da⟩|exact⟨⟨U,u,.inr ⟨h3,h4⟩⟩,.inl Gn⟩|exact⟨⟨U,u,.inr ⟨h3,h4⟩⟩,.inr Da⟩)]
             clear Y
             go_wp2
             go_roundw
             case rel=>exact⟨k+1,eB,by rw[XI.out,H.out],by go_num,NR.out _⟩
             case measure=>simp[fh];omega
            case neg=>
             have ant:decide (M<Q)=false:=by simpa using Da
             have H:Hid (l1=Q):=by show _=_;rw[Y.out,af (λh=>by obtain⟨⟨q1,q2,q3⟩,q4⟩:=h;first|exact absurd q1 eF|exact absurd (U.symm.trans q1) eF|omega)]
             clear Y
             go_wp2
             go_roundw
             case rel=>exact⟨k+1,eB,by rw[XI.out,H.out],by go_num,NR.out _⟩
             case measure=>simp[fh];omega
          case neg=>
           have h3:¬A=(z:Int)+1:=eB;have H:Hid (l1=Q):=by show _=_;rw[Y.out,af (λh=>by obtain⟨⟨q1,q2,q3⟩,q4⟩:=h;first|exact absurd q1 eF|exact absurd (U.symm.trans q1) eF|omega)]
           clear Y
           go_wp2
           go_roundw
           case rel=>exact⟨k+1,eB,by rw[XI.out,H.out],by go_num,NR.out _⟩
           case measure=>simp[fh];omega
         case neg=>
          by_cases h3:A=(z:Int)+1
          case pos=>
           by_cases h4:B=(x:Int)+1
           case pos=>
            by_cases Gn:Q=0
            case pos=>
             have H:Hid (l1=M):=by show _=_;rw[Y.out,ai (by first|exact⟨⟨U,u,.inl ⟨h1,h2⟩⟩,.inl Gn⟩|exact⟨⟨U,u,.inl ⟨h1,h2⟩⟩,.inr Da⟩|exact⟨⟨U,u,.inr ⟨h3,h4⟩⟩,.inl Gn⟩|exact⟨⟨U,u,.inr ⟨h3,h4⟩⟩,.inr Da⟩)]
             clear Y
             go_wp2
             go_roundw
             case rel=>exact⟨k+1,eB,by rw[XI.out,H.out],by go_num,NR.out _⟩
             case measure=>simp[fh];omega
            case neg=>
             have mS:(Q==0)=false:=by simpa using Gn
             have MY:((z:Int)+1 !=(x:Int)+1)=true:=by simp;omega
             by_cases Da:M<Q
             case pos=>
              have H:Hid (l1=M):=by show _=_;rw[Y.out,ai (by first|exact⟨⟨U,u,.inl ⟨h1,h2⟩⟩,.inl Gn⟩|exact⟨⟨U,u,.inl ⟨h1,h2⟩⟩,.inr Da⟩|exact⟨⟨U,u,.inr ⟨h3,h4⟩⟩,.inl Gn⟩|exact⟨⟨U,u,.inr ⟨h3,h4⟩⟩,.inr Da⟩)]
              clear Y
              go_wp2
              go_roundw
              case rel=>exact⟨k+1,eB,by rw[XI.out,H.out],by go_num,NR.out _⟩
              case measure=>simp[fh];omega
             case neg=>
              have ant:decide (M<Q)=false:=by simpa using Da
              have H:Hid (l1=Q):=by show _=_;rw[Y.out,af (λh=>by obtain⟨⟨q1,q2,q3⟩,q4⟩:=h;first|exact absurd q1 eF|exact absurd (U.symm.trans q1) eF|omega)]
              clear Y
              go_wp2
              go_roundw
              case rel=>exact⟨k+1,eB,by rw[XI.out,H.out],by go_num,NR.out _⟩
              case measure=>simp[fh];omega
           case neg=>
            have H:Hid (l1=Q):=by show _=_;rw[Y.out,af (λh=>by obtain⟨⟨q1,q2,q3⟩,q4⟩:=h;first|exact absurd q1 eF|exact absurd (U.symm.trans q1) eF|omega)]
            clear Y
            go_wp2
            go_roundw
            case rel=>exact⟨k+1,eB,by rw[XI.out,H.out],by go_num,NR.out _⟩
            case measure=>simp[fh];omega
          case neg=>
           have H:Hid (l1=Q):=by show _=_;rw[Y.out,af (λh=>by obtain⟨⟨q1,q2,q3⟩,q4⟩:=h;first|exact absurd q1 eF|exact absurd (U.symm.trans q1) eF|omega)]
           clear Y
           go_wp2
           go_roundw
           case rel=>exact⟨k+1,eB,by rw[XI.out,H.out],by go_num,NR.out _⟩
           case measure=>simp[fh];omega
      case neg=>
       have yc:¬(k:Int)<(n:Int):=eB;obtain rfl:k=n:=eB;have hp:=anr.out x z;have Pf:ji W4 S #[ι κ ((x:Int)+1),ι κ 1,σ G Z E] 40:=HBl.out.below TH.out;have QH:=wI.out.below TH.out;have anu:Hid (ji W4 S #[ι κ ((x:Int)+1),ι κ 1,σ G Z E] 40):=Pf;have XJ:Hid (eH W1 W4):=fP aax.out TH.out;have HFx:Hid (F x z=if 0<ls x z k then μ ((z:Int)+1,ls x z k)else ν):=by show _=_;rw[HF.out]
       generalize ls x z k=Q at HFx hp⊢;by_cases hl:Q=0
       ·subst hl;have HN:Hid ((ft (z+1)).filterMap (F x)=(ft z).filterMap (F x)):=XE (by rw[HFx.out];rfl);have aiO:Hid (Row W4 2 (σ G Z E) Z (je ((ft z).filterMap (F x)))):=QH;clear QH Pf
        go_wp2
        go_roundw
        case rel=>exact⟨z+1,G,Z,E,eB,by go_num,anu.out,by rw[HN.out];exact aiO.out,Bq.out,XJ.out⟩
        case measure=>simp[fh];omega
       ·have Jd:0<Q:=eB;have HN:Hid ((ft (z+1)).filterMap (F x)=(ft z).filterMap (F x)++ [((z:Int)+1,Q)]):=XF (by rw[HFx.out,ai Jd]);have c2:W4.cell? ⟨S,2,ν⟩=μ (σ G Z E):=Pf.cell 2;have f2:=Pf.frozen 2;have sl:=Pf.lt;go_wp2_with(at_builtin;go_must(refine iU _ rfl (.tmp 84) (.tmp 88) 38 rfl 123 i9 (.agg #[ι κ 0,ι κ 0]) 2 16 underlying38 hi9 anm ano anp rfl eF (σ G Z E) Z (je ((ft z).filterMap (F x))) rfl (QH.alloc _) _ 1 1 [ι κ ((z:Int)+1),ι κ Q] rfl rfl eF (nF _ _ _ _ _ ik) (l8 _ _ _ _) (by unfold maxLen;omega) eB ?_));intro g' jH w9 hr9 hg9 MP;rw[show [ι .i64 ((z:Int)+1),ι .i64 Q] =[ι .i64 (((z:Int)+1,Q):jQ).1,ι .i64 (((z:Int)+1,Q):jQ).2]from rfl,<-mN,<-HN.out]at hr9;have GM:=gK W4 (γ #[ι κ ((z:Int)+1),ι κ Q] 123);have hS9:¬eD (σ G Z E)=μ S:=λe=>absurd (Bq.out S e) eB;have XK:ji w9 S #[ι κ ((x:Int)+1),ι κ 1,σ G Z E] 40:=by
         have h1:=Pf.below GM;unfold ji at h1⊢;rw[hg9.block S (Nat.lt_of_lt_of_le sl GM.size) (λe=>hS9 e.symm)];exact h1
        have hSW:=HS.out;have ab5:eH W1 w9:=(fP XJ.out GM).grown hg9 (Nat.le_trans XJ.out.size GM.size) (λj hj=>by have:=Bq.out j hj;omega);have hgn:S<g':=by
         rcases MP with e|e
         {exact Bq.out g' e};{have:=GM.size;omega}
        have Gq:=XK.set 2 (σ (μ ⟨g',0,ν⟩) (Z+1) jH);have anw:Hid (ji (w9.setCell ⟨S,2,ν⟩ (σ (μ ⟨g',0,ν⟩) (Z+1) jH)) S #[ι κ ((x:Int)+1),ι κ 1,σ (μ ⟨g',0,ν⟩) (Z+1) jH] 40):=Gq;have aiP:Hid (Row (w9.setCell ⟨S,2,ν⟩ (σ (μ ⟨g',0,ν⟩) (Z+1) jH)) 2 (σ (μ ⟨g',0,ν⟩) (Z+1) jH) (Z+1) (je ((ft (z+1)).filterMap (F x)))):=by
         refine hr9.keep ik λj hj=> ?_;have:g'=j:=by simpa[eD]using hj
         exact aq _ _ _ _ (by show j≠S;omega)
        have aiQ:Hid (eH W1 (w9.setCell ⟨S,2,ν⟩ (σ (μ ⟨g',0,ν⟩) (Z+1) jH))):=ab5.setCell (p:=⟨S,2,ν⟩) (by show W1.heap.size<=S;omega) _;have d2:w9.cell? ⟨S,2,ν⟩=μ (σ G Z E):=XK.cell 2;have e2:=XK.frozen 2;have sl9:=XK.lt;clear hr9 hg9 MP Gq ab5 XK GM QH Pf hS9
        go_wp2
        go_roundw
        case rel=>exact⟨z+1,_,Z+1,jH,eB,by go_num,anw.out,aiP.out,λj hj=>kS (B:=S+1) hgn hj,aiQ.out⟩
        case measure=>simp[fh];omega
theorem I8(C:k8)(r:Nat):(qq C r).length<=7:=rQ _ _
theorem o9.lists {jc:Nat->Bool} {z:ja} (h:o9 m L jc D N k z)(hc:lU (m:Int) L) {S:Nat->SV} (Y:∀j,j<m->(S j).own=(j:Int)+1/\(S j).seq=1):tD (oj m L jc) m S (qh m L jc):=by
 have hm:=hc.m;refine⟨λj Z=>⟨?_,?_⟩,λj Z=> ?_,λk hk hs=> ?_,λi j hij Z=> ?_⟩;{rw[(Y j Z).1];unfold sd;omega};{rw[(Y j Z).1,(Y j Z).2];unfold oj;rw[ai ⟨eB,eB⟩];have:((j:Int)+1-1).toNat=j:=eB;rw[this]};{rw[(Y j Z).1,(Y j Z).2,h.ab3 hc Z];obtain⟨B,U⟩:=h.f.s.s.env.i.own;obtain⟨_,Q,_,M,_⟩:=U.r j (by rw[h.a.1];exact Z);have:=Ah Q (seq:=1) ⟨eB,eB⟩;rw[M]at this;exact(congrArg _ (xH (z.R j)).symm).trans this}
 ·unfold oj at hs;split at hs
  ·rename_i e
   exact⟨(k-1).toNat,eB,by rw[(Y (k-1).toNat eB).1];omega⟩
  ·exact absurd hs ik
 ·rw[(Y i eB).1,(Y j Z).1];omega
structure aeW(W:ew)(N m:Nat)(sb:Option eh)(sc:Nat)(H:Nat->List HP):Prop where
 a:∀x,x<m->∀V,eH W V->fc fe 47 #[π (μ ⟨N,0,ν⟩),ι κ ((x:Int)+1)] V λe w2=>∃b c,e=ρ (σ b (H x).length c)/\NM w2 b (H x).length (H x)/\eH V w2
 b:∀x,x<m->∀V,eH W V->fc fe 48 #[σ sb m sc,ι κ ((x:Int)+1)] V λe w2=>∃b c,e=ρ (σ b (H x).length c)/\NM w2 b (H x).length (H x)/\eH V w2
 n:∀x,(H x).length<=1000
theorem aeW.of {Ng:Nat} {W2:ew} {jc:Nat->Bool} {z:ja} {sb:Option eh} {sc:Nat} {S:Nat->SV} (hA:C5 w0 Ng X m nc i z W)(h:o9 m L jc D N k z)(hc:lU (m:Int) L)(hb:eH W W2)(G:∀j,j<m->(S j).own=(j:Int)+1/\(S j).seq=1)(E:uv W2 sb m S (qh m L jc)):aeW W2 Ng m sb sc λx=>lv (z.R x):=by
 have hm:=hc.m;refine⟨λx hx V Z=>(TG hA hx V (fP hb Z)).mono λe w2 ⟨b,c,U,Q,M⟩=>⟨b,c,U,Q.r,M⟩,λx hx V Z=> ?_,λx=>Nat.le_trans (I8 _ _) eB⟩;have hl:=h.lists hc G;have hh:=RE sb m sc S (qh m L jc) (x+1) V (E.below Z) eB hl.ok eB eB;have H:Yf (oj m L jc):=λy hy=>by
  unfold oj at hy;split at hy;{omega};{exact absurd hy ik}
 rw[tD.grid hl H,<-h.aiL hc hx]at hh;have Y:((x+1:Nat):Int)=(x:Int)+1:=eB;rw[Y]at hh;exact hh
theorem Pg(hc:lU (m:Int) L)(V:Nat->AV) {n2:Nat} (h40:n2<=40):o9 m L (λx=>((rb (j2 m L) V n2).C x).jc) (1300000*n2+1300000*45) (2+144*n2+144*45) (n2+7) (mK (rb (j2 m L) V n2) 45):=by
 have Y:Wh m L 0 2 0 (j2 m L):=by
  have:=Wh.new hc (D:=0);rw[Int.toNat_natCast]at this;exact this
 have Z:=Y.Xz V n2 eB eB eB;rw[Nat.zero_add,Nat.zero_add]at Z;exact Z.settled eB eB eB
theorem TI {a:Option eh} {S:Nat->SV} {E:Nat->List jQ} (H:uv W a n S E)(Q:tD F n S E)(h6:n<=6) {k:Int} (hk:sd k)(u:F k=μ q):
 fc fe 49 #[σ a n c,ι κ k] W λe w'=>∃a' c',e=ρ (.agg #[ι κ k,ι κ q.1,σ a' q.2.length c'])/\jm w' a' q.2.length q.2/\eH W w':=by
 obtain⟨j,Z,M⟩:=Q.all k hk (by rw[u];rfl);have hF:=(Q.at_ j Z).2;rw[M,u]at hF;have U:q=((S j).seq,E j):=Option.some.inj hF;have h:=(H.opt j Z).1;refine(aaw a n c S E k W H eB j Z M λi hi=> ?_).mono ?_;{have:=Q.Rj i j hi Z;omega}
 ·rintro e w' ⟨rfl,hb⟩;have G:(S j).n=q.2.length:=by rw[U];exact h.1.symm
  refine⟨(S j).a,(S j).cap,?_,?_,hb⟩;{rw[M,<-G,U]};{have Y:=h.below hb;rw[G]at Y;rw[U]at Y⊢;exact Y}
def MQ(Wb:ew)(R:Nat)(k:Int)(q:PS):Prop:=∀W,eH Wb W->fc fe 50 #[π (μ ⟨R,0,ν⟩)] W λe w'=>∃a n c,e=ρ (σ a n c)/\(∀W',eH w' W'->fc fe 49 #[σ a n c,ι κ k] W' λe w2=>∃a' c',e=ρ (.agg #[ι κ k,ι κ q.1,σ a' q.2.length c'])/\jm w2 a' q.2.length q.2/\eH W' w2)/\eH W w'
theorem C5.asked {y:ja} (h:C5 w0 N X m nc i y W)(hx:x<m):
 ∃R,(∀V,eH W V->fc fe 40 #[π (μ ⟨N,0,ν⟩),ι κ ((x:Int)+1)] V λe w'=>e=ρ (τ #[π (μ ⟨R,0,ν⟩),η])/\V=w')/\∀k q,sd k->(y.R x).K k=μ q->MQ W R k q:=by
 obtain⟨R,Y,U⟩:=h.XB hx;refine⟨R,Y,λk q u hq V G=>(U V G).mono ?_⟩;rintro e w' ⟨a,n,c,S,E,rfl,H,M,Q,_,hb⟩;exact⟨a,n,c,rfl,λW' Z=>TI (H.below Z) M Q u hq,hb⟩
structure XL(Wb wx:ew)(X:Nat)(k:Int)(q:PS)(a:Option eh)(c:Nat):Prop where
 s:S3 wx X k q.1 (σ a q.2.length c)
 o:jm wx a q.2.length q.2
 b:eH Wb wx
 n:Wb.heap.size<=X
theorem XL.below {Wb wx wy:ew} {X:Nat} {k:Int} {q:PS} {a:Option eh} {c:Nat} (h:XL Wb wx X k q a c)(hb:eH wx wy):XL Wb wy X k q a c:=⟨h.s.below hb,h.o.below hb,fP h.b hb,h.n⟩
structure ab6(m:Nat)(L:List pz)(jc:Nat->Bool)(z:ja):Prop where
 tell:∀x,x<m->∀p∈lv (z.R x),∃v,v<m/\p.dst=(v:Int)+1/\∃q:PS,(z.R x).K ((v:Int)+1)=μ q/\(z.R v).K ((v:Int)+1)=μ q/\1<=q.1/\q.2.length<=6/\∀e∈q.2,1<=e.1
 own:∀x,x<m->∃q:PS,(z.R x).K ((x:Int)+1)=μ q/\q.2=qh m L jc x/\q.2.length<=6/\∀e∈q.2,1<=e.1
theorem o9.aiR {jc:Nat->Bool} {z:ja} (h:o9 m L jc D N k z)(hc:lU (m:Int) L):ab6 m L jc z:=by
 have H:∀x,x<m->∀q:PS,(z.R x).K ((x:Int)+1)=μ q->q.2.length<=6/\∀e∈q.2,1<=e.1:=λx hx q u=>by
  obtain⟨q2,Z,_,Q⟩:=h.own hx;rw[u]at Z;obtain rfl:=Option.some.inj Z;have Y:=jC Q;exact⟨Y.2.2.1,λe G=>(pI _ _ _ Y.2.2.2 e G).1.1⟩
 refine⟨λx hx p E=> ?_,λx hx=> ?_⟩;{obtain⟨v,hv,hd,q,Z,U,Q⟩:=h.tell hc hx E;obtain⟨Y,M⟩:=H v hv q U;exact⟨v,hv,hd,q,Z,U,Q,Y,M⟩};{obtain⟨q,Z,U,Q⟩:=h.own hx;obtain⟨Y,M⟩:=H x hx q Z;exact⟨q,Z,by rw[U,h.ab3 hc hx],Y,M⟩}
theorem MQ.at_ {Wb V3:ew} {R:Nat} {k:Int} (h:MQ Wb R k q)(hb:eH Wb V3) {p:eh} {u:eA} (Q:V3.cell? p=μ u):∀W,eH V3 W->fc fe 50 #[π (μ ⟨R,0,ν⟩)] W λe w'=>∃a n c,e=ρ (σ a n c)/\(∀W',eH w' W'->fc fe 49 #[σ a n c,ι κ k] W' λe U=>∃a' c',e=ρ (.agg #[ι κ k,ι κ q.1,σ a' q.2.length c'])/\jm U a' q.2.length q.2/\eH W' U/\eH V3 U/\U.cell? p=μ u)/\eH W w'/\eH V3 w'/\w'.cell? p=μ u:=by
 have hl:=ag _ _ Q;intro W G;refine(h W (fP hb G)).mono ?_;rintro e w' ⟨a,n,c,rfl,ho,E⟩;have M:=fP G E;refine⟨a,n,c,rfl,λW' Z=> ?_,E,M,(M.cell (p:=p) hl).trans Q⟩;refine(ho W' Z).mono ?_;rintro e U ⟨a',c',rfl,hO,H⟩;have Y:=fP (fP M Z) H;exact⟨a',c',rfl,hO,H,Y,(Y.cell (p:=p) hl).trans Q⟩
theorem XM(many:Int)(a:Option eh)(n cap:Nat)(L:List pz)(a2:Option eh)(n2 cap2:Nat)(V:Nat->AV)(E:Nat->List jQ)(w:ew)(hL:Ar w a L)(hl:L.length=n)(hn:n<=maxLen)(hA:EL w a2 n2 V E)(hT:jt w):
 fc fe 6 #[ι κ many,σ a n cap,σ a2 n2 cap2] w λe w'=>e=ρ (.bool true)/\eH w w':=by
 have hw:=TF w hT;have DK:∀W,eH w W->fc fe 43 #[ι κ many,σ a n cap,σ a2 n2 cap2] W λe w'=>ab1 W many L n2 V e w':=λW hb=>
  Pb many a n cap L a2 n2 cap2 V E W (hL.below hb) hl hn (hA.below hb) (jt.below (w:=w) hT hb)
 have HT:Hid (jt w):=hT;have HL:Hid _:=hl;have HC:Hid (Ar w a L):=hL;clear hL hA hT hl
 go_in
 go_wp2_with(fail);refine hw.mono ?_;rintro e w1 ⟨rfl,kO⟩;have hp:=DK w1 kO;have EN:Hid _:=kO;clear hw DK kO;go_wp2_with(fail);refine hp.mono ?_;rintro e w2 hP;clear hp;rcases hP with⟨rfl,m7⟩|⟨h0,h40,N,g,rfl,hI⟩
 ·have A2:Hid (eH w w2):=fP EN.out m7;clear m7
  go_wp2
  go_ret;exact⟨rfl,A2.out⟩
 ·have XO:=vF h0;have wv:=XO.m;obtain⟨m,rfl⟩:∃m:Nat,many=(m:Int):=⟨many.toNat,eB⟩
  rw[Int.toNat_natCast]at hI;have NG:=Pg XO V h40;have hAt:=hI.at_;have jf:=hI.row;have TS:=hI.g0;obtain⟨Y,hY⟩:=fq (rb (j2 m L) V n2);rw[hY]at NG hAt jf;have Zo:jt w1:=jt.below (w:=w) HT.out EN.out;have kC:=Pc hAt Zo eB;obtain⟨z,hz⟩:=fq (mK Y 45);rw[hz]at kC NG;have QI:Hid (ab6 m L (λx=>(Y.C x).jc) z):=NG.aiR XO;have Me:Hid _:=XO;have aeX:Hid _:=NG;rw[HL.out];have ab7:∀W,eH w W->W.heap[g]? =w2.heap[g]?->fc fe 45 #[ι κ (m:Int),σ a n cap,σ (μ ⟨g,0,ν⟩) n n] W λe w'=>QG W m (qh m L λx=>(Y.C x).jc) e w':=by
   intro W hb hg;have:=jf.keep hg;rw[HL.out]at this;exact XG m a n cap g L (λx=>(Y.C x).jc) W (HC.out.below hb) HL.out Me.out this
  have XP:Hid _:=ab7;clear hI h0 XO NG hAt jf ab7 Zo hY hz;go_wp2_with(fail);refine kC.mono ?_;rintro e w3 ⟨rfl,hA3,yS⟩;have HA3:Hid (C5 w1 N (λb=>b=g) m L.length (n2+45) z w3):=hA3;have Ez:Hid (eH w w3):=fP EN.out hA3.1.ox;have hlv:=XP.out w3 Ez.out (yS g rfl);clear kC hA3 yS;go_wp2_with(fail);refine hlv.mono ?_;rintro e w4 ⟨sb,sc,S,rfl,aeY,hSo,OJ⟩;have aiS:=aeW.of (sc:=sc) HA3.out aeX.out Me.out OJ hSo aeY;have XQ:Hid (∀x,x<m->∀V,eH w4 V->fc fe 48 #[σ sb m sc,ι κ ((x:Int)+1)] V λe w2=>∃b c,e=ρ (σ b (lv (z.R x)).length c)/\NM w2 b (lv (z.R x)).length (lv (z.R x))/\eH V w2):=aiS.b;have aay:Hid (∀x,x<m->∃R,(∀V,eH w3 V->fc fe 40 #[π (μ ⟨N,0,ν⟩),ι κ ((x:Int)+1)] V λe w'=>e=ρ (τ #[π (μ ⟨R,0,ν⟩),η])/\V=w')/\∀k q,sd k->(z.R x).K k=μ q->MQ w3 R k q):=λx hx=>HA3.out.asked hx;have aaz:Hid _:=aeY;have HSo:Hid _:=hSo;have TH:Hid _:=OJ;clear hlv aeY hSo OJ aiS
  go_wp2
  go_loopw [11] (λi wr=>∃x:Nat,x<=m/\i=ι κ ((x:Int)+1)/\eH w4 wr) (λi _=>m+1-(fh i).toNat)
  case atStart=>exact⟨0,Nat.zero_le _,rfl,au _ _⟩
  case round=>
   obtain⟨x,hx,rfl,qO⟩:=hrel;obtain⟨V0,rfl⟩:∃V0,V0=wr:=⟨_,rfl⟩
   have HBx:Hid _:=qO;clear qO;by_cases kL:x<m
   case neg=>
    have yc:¬(x:Int)+1<=(m:Int):=eB
    go_wp2
    go_ret;exact⟨rfl,fP Ez.out (fP TH.out HBx.out)⟩
   case pos=>
    have n9:(x:Int)+1<=(m:Int):=eB;obtain⟨R,hro,XR⟩:=aay.out x kL;have TR:=hro V0 (fP TH.out HBx.out);have h2:=XQ.out x kL V0 HBx.out;have XS:=QI.out.tell x kL;have hh7:(lv (z.R x)).length<=7:=I8 _ _;obtain⟨Hx,hHx⟩:=fq (lv (z.R x));rw[hHx]at h2 XS hh7;have XT:Hid _:=XS;have QJ:Hid _:=XR;clear hro XR XS hHx;go_wp2_with(fail);refine TR.mono ?_;rintro e w5 ⟨rfl,rfl⟩;clear TR;go_wp2_with(fail);refine h2.mono ?_;rintro e w6 ⟨b6,c6,rfl,hH6,hb6⟩;have HH6:Hid _:=hH6;have MX:Hid (eH w4 w6):=fP HBx.out hb6;clear h2 hH6 hb6
    go_wp2
    go_loopw [15] (λi wr=>∃k:Nat,k<=Hx.length/\i=ι κ k/\eH w6 wr) (λi _=>Hx.length-(fh i).toNat)
    case atStart=>exact⟨0,Nat.zero_le _,rfl,au _ _⟩
    case round=>
     obtain⟨k,hk,rfl,Zj⟩:=hrel;obtain⟨U,rfl⟩:∃U,U=wr:=⟨_,rfl⟩
     have HBk:Hid _:=Zj;clear Zj;by_cases RG:k<Hx.length
     case pos=>
      have asG:(k:Int)<(Hx.length:Int):=eB;have GF:(0:Int)<=(k:Int):=eB;obtain⟨v,hvm,aiT,q,Ur,Hm,hq3,hq4,hq5⟩:=XT.out _ (aF RG);have hH1:=HH6.out.below HBk.out;obtain⟨G,off,rfl,jf⟩:∃b off,b6=μ ⟨b,off,ν⟩/\U.cell? ⟨b,off+k*3,ν⟩=μ (ι κ ((v:Int)+1)):=by
       rcases hH1.row with h0|⟨b,off,e,h3⟩
       {omega};{have:=(h3 k Hx[k] (aw RG)).1;rw[aiT]at this;exact⟨b,off,e,this⟩}
      obtain⟨R2,aiU,ab9⟩:=aay.out v hvm;have hm6:=Me.out.m;have sH:=aiU U (fP TH.out (fP MX.out HBk.out));have H4:=fP TH.out (fP MX.out HBk.out);have Pr:sd ((v:Int)+1):=by unfold sd;omega
      have HA1:Hid (∀W,eH U W->fc fe 50 #[π (μ ⟨R,0,ν⟩)] W λe w'=>∃a n c,e=ρ (σ a n c)/\(∀W',eH w' W'->fc fe 49 #[σ a n c,ι κ ((v:Int)+1)] W' λe w2=>∃a' c',e=ρ (.agg #[ι κ ((v:Int)+1),ι κ q.1,σ a' q.2.length c'])/\jm w2 a' q.2.length q.2/\eH W' w2/\eH U w2/\w2.cell? ⟨G,off+k*3,ν⟩=μ (ι κ ((v:Int)+1)))/\eH W w'/\eH U w'/\w'.cell? ⟨G,off+k*3,ν⟩=μ (ι κ ((v:Int)+1))):=(QJ.out _ q Pr Ur).at_ H4 jf;have MR:Hid (MQ w3 R2 ((v:Int)+1) q):=ab9 _ q Pr Hm;have HQ5:Hid _:=hq5;have wI:Hid _:=jf;have GU:=ag _ _ jf;have aaA:Hid _:=H4;clear hH1 aiU ab9 Ur Hm hq5 H4 aiT;obtain⟨key,vX⟩:=fq ((v:Int)+1);rw[vX]at sH HA1 MR wI jf;clear vX Pr;go_wp2_with(fail);refine sH.mono ?_;rintro e w7 ⟨rfl,rfl⟩;clear sH
      go_wp2
      go_cut [18] (λv wx=>∃(X:Nat) (b:Option eh) (cb:Nat),v=π (μ ⟨X,0,ν⟩)/\XL U wx X key q b cb)
      case first=>
       clear HT HL HC QI Me aeX XP HA3 Ez XQ aay aaz HSo TH HBx XT QJ HH6 MX HBk MR aaA;have F0:U.drew.cell? ⟨G,off+k*3,ν⟩=μ (.int .i64 key):=wI.out;have ba:eH U (U.alloc (γ #[ι κ 0,ι κ 0,σ ν 0 0] 40)).drew:=jK (gK U _);have wj:ji (U.alloc (γ #[ι κ 0,ι κ 0,σ ν 0 0] 40)).drew U.heap.size #[ι κ 0,ι κ 0,σ ν 0 0] 40:=(ji.new U _ _).drew;have GU:=ag _ _ F0;have jx:G≠U.heap.size:=by have:G<U.heap.size:=GU;omega
       go_region_held3(λx=>x.cell? ⟨G,off+k*3,ν⟩=μ (.int .i64 key))
        (first|assumption|exact F0|exact F1|exact F2|exact kV F0|exact kV F1|exact kV F2|exact qw F2 jx|exact qw F2 TA)
        (first
         |(go_at_call 50;refine(HA1.out _ (by first|exact jl U|exact ba)).mono ?_;rintro e w8 ⟨a8,n8,c8,rfl,ho8,b8,b8',F1⟩;(first|(have mP:=wj.below b8)|skip))
         |(go_at_call 49;refine(ho8 _ (by first|exact au _ _|exact gK _ _)).mono ?_;rintro e w9 ⟨a9,c9,rfl,Yq,b9,M,F2⟩;(first|(have Z:=mP.below b9)|(have Z:=(ji.new w8 #[.int .i64 0,.int .i64 0,.slice none 0 0] 40).below b9;have TA:G≠w8.heap.size:=by have:=ag _ _ F1;have h7:G<w8.heap.size:=this;omega)|skip);(first|(have y0:=Z.cell 0;have y1:=Z.cell 1;have y2:=Z.cell 2;have z0:=Z.frozen 0;have z1:=Z.frozen 1;have z2:=Z.frozen 2)|skip)))
       all_goals
        go_wp2_with(fail)
        go_meet
        first
         |exact⟨_,a9,c9,rfl,⟨⟨ak w9 _ _ (0,0) 0,ak w9 _ _ (0,0) 1,ak w9 _ _ (0,0) 2⟩,Yq.below (gK _ _),fP M (gK _ _),M.size⟩⟩
         |(have H:=vD (a:=.int .i64 key) (b:=.int .i64 q.1) (c:=.slice a9 q.2.length c9) Z rfl (Nat.le_refl _) M
           have h6:=((Z.set 0 (.int .i64 key)).set 1 (.int .i64 q.1)).set 2 (σ a9 q.2.length c9);exact⟨_,a9,c9,rfl,⟨⟨h6.cell 0,H.1,H.2.1⟩,jm.not_zero Yq Z HQ5.out H.2.2.2,H.2.2.1,Nat.le_refl _⟩⟩)
         |(have H:=vD (a:=.int .i64 key) (b:=.int .i64 q.1) (c:=.slice a9 q.2.length c9) Z rfl b8'.size M
           have h6:=((Z.set 0 (.int .i64 key)).set 1 (.int .i64 q.1)).set 2 (σ a9 q.2.length c9);exact⟨_,a9,c9,rfl,⟨⟨h6.cell 0,H.1,H.2.1⟩,jm.not_zero Yq Z HQ5.out H.2.2.2,H.2.2.1,b8'.size⟩⟩)
      case rest=>
       obtain⟨X1,b1,cb1,rfl,Ep⟩:=hcut;obtain⟨V2,rfl⟩:∃V2,V2=wc:=⟨_,rfl⟩
       have HX1:Hid _:=Ep;have XU:Hid (V2.cell? ⟨G,off+k*3,ν⟩=μ (.int .i64 key)):=(Ep.b.cell (p:=⟨G,off+k*3,ν⟩) GU).trans wI.out;have HA2:Hid (∀W,eH V2 W->fc fe 50 #[π (μ ⟨R2,0,ν⟩)] W λe w'=>∃a n c,e=ρ (σ a n c)/\(∀W',eH w' W'->fc fe 49 #[σ a n c,.int .i64 key] W' λe w2=>∃a' c',e=ρ (.agg #[.int .i64 key,.int .i64 q.1,σ a' q.2.length c'])/\jm w2 a' q.2.length q.2/\eH W' w2/\eH V2 w2/\w2.cell? ⟨G,off+k*3,ν⟩=μ (.int .i64 key))/\eH W w'/\eH V2 w'/\w'.cell? ⟨G,off+k*3,ν⟩=μ (.int .i64 key)):=MR.out.at_ (fP aaA.out Ep.b) XU.out;clear Ep HA1 GU
       go_wp2
       go_cut [19] (λv wx=>∃(X:Nat) (b:Option eh) (cb:Nat),v=π (μ ⟨X,0,ν⟩)/\XL V2 wx X key q b cb)
       case first=>
        clear HT HL HC QI Me aeX XP HA3 Ez XQ aay aaz HSo TH HBx XT QJ HH6 MX HBk MR aaA HX1 wI;have F0:V2.drew.cell? ⟨G,off+k*3,ν⟩=μ (.int .i64 key):=XU.out;have ba:eH V2 (V2.alloc (γ #[ι κ 0,ι κ 0,σ ν 0 0] 40)).drew:=jK (gK V2 _);have wj:ji (V2.alloc (γ #[ι κ 0,ι κ 0,σ ν 0 0] 40)).drew V2.heap.size #[ι κ 0,ι κ 0,σ ν 0 0] 40:=(ji.new V2 _ _).drew;have GU:=ag _ _ F0;have jx:G≠V2.heap.size:=by have:G<V2.heap.size:=GU;omega
        go_region_held3(λx=>x.cell? ⟨G,off+k*3,ν⟩=μ (.int .i64 key))
         (first|assumption|exact F0|exact F1|exact F2|exact kV F0|exact kV F1|exact kV F2|exact qw F2 jx|exact qw F2 TA)
         (first
          |(go_at_call 50;refine(HA2.out _ (by first|exact jl V2|exact ba)).mono ?_;rintro e w8 ⟨a8,n8,c8,rfl,ho8,b8,b8',F1⟩;(first|(have mP:=wj.below b8)|skip))
          |(go_at_call 49;refine(ho8 _ (by first|exact au _ _|exact gK _ _)).mono ?_;rintro e w9 ⟨a9,c9,rfl,Yq,b9,M,F2⟩;(first|(have Z:=mP.below b9)|(have Z:=(ji.new w8 #[.int .i64 0,.int .i64 0,.slice none 0 0] 40).below b9;have TA:G≠w8.heap.size:=by have:=ag _ _ F1;have h7:G<w8.heap.size:=this;omega)|skip);(first|(have y0:=Z.cell 0;have y1:=Z.cell 1;have y2:=Z.cell 2;have z0:=Z.frozen 0;have z1:=Z.frozen 1;have z2:=Z.frozen 2)|skip)))
        all_goals
         go_wp2_with(fail)
         go_meet
         first
          |exact⟨_,a9,c9,rfl,⟨⟨ak w9 _ _ (0,0) 0,ak w9 _ _ (0,0) 1,ak w9 _ _ (0,0) 2⟩,Yq.below (gK _ _),fP M (gK _ _),M.size⟩⟩
          |(have H:=vD (a:=.int .i64 key) (b:=.int .i64 q.1) (c:=.slice a9 q.2.length c9) Z rfl (Nat.le_refl _) M
            have h6:=((Z.set 0 (.int .i64 key)).set 1 (.int .i64 q.1)).set 2 (σ a9 q.2.length c9);exact⟨_,a9,c9,rfl,⟨⟨h6.cell 0,H.1,H.2.1⟩,jm.not_zero Yq Z HQ5.out H.2.2.2,H.2.2.1,Nat.le_refl _⟩⟩)
          |(have H:=vD (a:=.int .i64 key) (b:=.int .i64 q.1) (c:=.slice a9 q.2.length c9) Z rfl b8'.size M
            have h6:=((Z.set 0 (.int .i64 key)).set 1 (.int .i64 q.1)).set 2 (σ a9 q.2.length c9);exact⟨_,a9,c9,rfl,⟨⟨h6.cell 0,H.1,H.2.1⟩,jm.not_zero Yq Z HQ5.out H.2.2.2,H.2.2.1,b8'.size⟩⟩)
       case rest=>
        obtain⟨X2,b2,cb2,rfl,qQ⟩:=hcut;obtain⟨V3,rfl⟩:∃V3,V3=wc:=⟨_,rfl⟩
        have Ep:=HX1.out.below qQ.b;obtain⟨d0,d1,d2⟩:=Ep.s;obtain⟨e0,e1,e2⟩:=qQ.s;have l1:=ag _ _ d0;have l2:=ag _ _ e0;have hss:∀W,eH V3 W->fc fe 51 #[.agg #[.int .i64 key,.int .i64 q.1,σ b1 q.2.length cb1],.agg #[.int .i64 key,.int .i64 q.1,σ b2 q.2.length cb2]] W λe w'=>e=ρ (.bool true)/\eH W w':=λW hW=>by
         have h:=yq key q.1 key q.1 b1 b2 q.2.length q.2.length cb1 cb2 q.2 q.2 W (Ep.o.below hW) (qQ.o.below hW) eB eB;rw[cQ (show key=key/\q.1=q.1/\q.2=q.2 from⟨rfl,rfl,rfl⟩)]at h;exact h
        have Ur:(q.1==0)=false:=by have:=hq3;rw[cz];omega
        have HBV:Hid (eH w6 V3):=fP (fP HBk.out HX1.out.b) qQ.b;generalize q.1=qs at d1 e1 hss Ur;generalize q.2.length=ql at d2 e2 hss;clear Ep qQ HA2 HX1 XU wI MR;go_wp2_with(fail);refine(hss _ (by first|exact au _ _|exact jl _)).mono ?_;rintro e w10 ⟨rfl,aiW⟩;have aeZ:Hid (eH w6 w10):=fP HBV.out aiW;clear hss aiW
        go_wp2
        go_roundw
        case rel=>exact⟨k+1,eB,by go_num,aeZ.out⟩
        case measure=>simp[fh];omega
     case neg=>
      have hkg:¬(k:Int)<(Hx.length:Int):=eB;obtain⟨q,Ur,Hm,hq4,hq5⟩:=QI.out.own x kL;have hm6:=Me.out.m;have H4:=fP TH.out (fP MX.out HBk.out);have hx1:sd ((x:Int)+1):=by unfold sd;omega
      have XR:=QJ.out _ q hx1 Ur;have hA1:=XR U H4;have HQ:Hid (q.2=qh m L (λx=>(Y.C x).jc) x/\q.2.length<=6):=⟨Hm,hq4⟩
      have aaA:Hid _:=H4;clear XR Ur Hm hq4 hq5 H4 hx1;go_wp2_with(fail);refine hA1.mono ?_;rintro e w7 ⟨a7,n7,c7,rfl,ho7,b7⟩;have ho:=ho7 w7 (au _ _);have HB7:Hid _:=b7;clear hA1 ho7 b7;go_wp2_with(fail);refine ho.mono ?_;rintro e w8 ⟨a8,c8,rfl,hO8,b8⟩;have HO8:Hid (jm w8 a8 q.2.length q.2):=hO8;have HB8:Hid (eH U w8):=fP HB7.out b8;clear ho hO8 b8;go_wp2_with(fail);obtain⟨Q,hW9⟩:=fq (w8.alloc (γ #[ι κ ((x:Int)+1),ι κ 1,σ a8 q.2.length c8] 40));obtain⟨X,hX⟩:=fq (w8.heap.size);have hY:ji Q X #[ι κ ((x:Int)+1),ι κ 1,σ a8 q.2.length c8] 40:=by rw[<-hW9,<-hX];exact ji.new _ _ _
      have hb9:eH w8 Q:=by rw[<-hW9];exact gK _ _
      rw[hW9,hX];have aiX:=fP HB8.out hb9;have ae0:=fP (fP MX.out HBk.out) aiX;have Yq:=HO8.out.below hb9;have hS9:=aaz.out.below ae0;have hE9:=(hS9.opt x kL).1;obtain⟨sg,so,rfl,TU,A5,Up⟩:∃b off,sb=μ ⟨b,off,ν⟩/\Q.cell? ⟨b,off+x*3,ν⟩=μ (ι κ ((x:Int)+1))/\Q.cell? ⟨b,off+x*3+1,ν⟩=μ (ι κ 1)/\Q.cell? ⟨b,off+x*3+2,ν⟩=μ (σ (S x).a (S x).n (S x).cap):=by
       rcases hS9.row with h0|⟨b,off,e,h3⟩
       {omega};{obtain⟨c0,c1,c2⟩:=h3 x kL;obtain⟨o1,o2⟩:=HSo.out x kL;rw[o1]at c0;rw[o2]at c1;exact⟨b,off,e,c0,c1,c2⟩}
      have y0:Q.cell? ⟨X,0,ν⟩=μ (ι κ ((x:Int)+1)):=hY.cell 0;have y1:Q.cell? ⟨X,1,ν⟩=μ (ι κ 1):=hY.cell 1;have y2:Q.cell? ⟨X,2,ν⟩=μ (σ a8 q.2.length c8):=hY.cell 2;have hx0:(0:Int)<=(x:Int):=eB;have Ub:(x:Int)<(m:Int):=eB;have hwx:κ.wrap ((x:Int)+1-1)=(x:Int):=by rw[show(x:Int)+1-1=(x:Int) by omega];exact aS _ ⟨eB,eB⟩
      have hwy:κ.wrap (x:Int)=(x:Int):=aS _ ⟨eB,eB⟩;obtain⟨ta,hta⟩:=fq ((S x).a);obtain⟨tn,htn⟩:=fq ((S x).n);obtain⟨tc,htc⟩:=fq ((S x).cap);rw[hta,htn]at hE9;rw[hta,htn,htc]at Up;have YO:tn<=1000000:=by
       have h1:=hE9.1;have h2:=HQ.out;rw[<-h2.1]at h1;omega
      have hss:∀W,eH Q W->fc fe 51 #[.agg #[ι κ ((x:Int)+1),ι κ 1,σ a8 q.2.length c8],.agg #[ι κ ((x:Int)+1),ι κ 1,σ ta tn tc]] W λe w'=>e=ρ (.bool true)/\eH Q w':=by
       intro W hW;have h1:=yq ((x:Int)+1) 1 ((x:Int)+1) 1 a8 ta q.2.length tn c8 tc q.2 (qh m L (λx=>(Y.C x).jc) x) W (Yq.below hW) (hE9.below hW) (by have:=HQ.out.2;omega) YO;rw[cQ (show _/\_/\_ from⟨rfl,rfl,HQ.out.1⟩)]at h1;refine h1.mono ?_;rintro e w' ⟨rfl,hb⟩;exact⟨rfl,fP hW hb⟩
      have HB9:Hid _:=ae0;generalize q.2.length=ql at y2 hss;have HF:∀W,eH Q W->(W.cell? ⟨X,0,ν⟩=μ (ι κ ((x:Int)+1))/\W.cell? ⟨X,1,ν⟩=μ (ι κ 1)/\W.cell? ⟨X,2,ν⟩=μ (σ a8 ql c8))/\W.cell? ⟨sg,so+x*3,ν⟩=μ (ι κ ((x:Int)+1))/\W.cell? ⟨sg,so+x*3+1,ν⟩=μ (ι κ 1)/\W.cell? ⟨sg,so+x*3+2,ν⟩=μ (σ ta tn tc):=λW hW=>by
       have k:∀g o u,Q.cell? ⟨g,o,ν⟩=μ u->W.cell? ⟨g,o,ν⟩=μ u:=λg o u h=>(hW.cell (p:=⟨g,o,ν⟩) (ag _ _ h)).trans h;exact⟨⟨k _ _ _ y0,k _ _ _ y1,k _ _ _ y2⟩,k _ _ _ TU,k _ _ _ A5,k _ _ _ Up⟩
      have F0:(Q.drew.cell? ⟨X,0,ν⟩=μ (ι κ ((x:Int)+1))/\Q.drew.cell? ⟨X,1,ν⟩=μ (ι κ 1)/\Q.drew.cell? ⟨X,2,ν⟩=μ (σ a8 ql c8))/\Q.drew.cell? ⟨sg,so+x*3,ν⟩=μ (ι κ ((x:Int)+1))/\Q.drew.cell? ⟨sg,so+x*3+1,ν⟩=μ (ι κ 1)/\Q.drew.cell? ⟨sg,so+x*3+2,ν⟩=μ (σ ta tn tc):=⟨⟨y0,y1,y2⟩,TU,A5,Up⟩
      clear hW9 hX hY hb9 aiX ae0 Yq hS9 hE9 hta htn htc YO y0 y1 y2 TU A5 Up HO8 aaz HSo
      go_region_held3(λv=>(v.cell? ⟨X,0,ν⟩=μ (ι κ ((x:Int)+1))/\v.cell? ⟨X,1,ν⟩=μ (ι κ 1)/\v.cell? ⟨X,2,ν⟩=μ (σ a8 ql c8))/\v.cell? ⟨sg,so+x*3,ν⟩=μ (ι κ ((x:Int)+1))/\v.cell? ⟨sg,so+x*3+1,ν⟩=μ (ι κ 1)/\v.cell? ⟨sg,so+x*3+2,ν⟩=μ (σ ta tn tc))
       (first|assumption|exact F0|exact F1)
       ((go_at_call 51;refine(hss _ (jl Q)).mono ?_;rintro e w10 ⟨rfl,b10⟩;have F1:=HF _ b10))
      all_goals
       have aeZ:Hid (eH w4 w10):=fP HB9.out b10;clear hss b10 F0 F1 HF
       go_wp2
       go_roundw
       case rel=>exact⟨x+1,eB,by go_num,aeZ.out⟩
       case measure=>simp[fh];omega
