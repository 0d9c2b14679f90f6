import Derived.Test.YtieklnlbljejdaaGreatDoorC14
open Go.Value renaming int → ι, slice → σ, pointer → π, tuple → τ, nilIface → η, ownBlock → eh
open Go.IntKind renaming i64 → κ
open Go.Ending renaming returned → ρ
open Go.Obj renaming cells → γ
open Option renaming none → ν, some → μ
open List renaming range → fW
open Go renaming World → dX, Calls → eX, Value → dY, Addr → dW
open Go.Proofs.Tryz renaming prog → eY
open Go.RowKit renaming intOf → eZ
open ByteArray renaming empty → fG
set_option maxRecDepth 100000
set_option maxHeartbeats 8000000
open Go.Proofs.Tryz
namespace Go.Proofs.YtieklnlbljejdaaGreatDoor
open Go.RowKit St
namespace Rt
variable {A:Nat->AN} {C X:Nat->Prop} {D J N c d i k n nc x z:Nat} {Es:Nat->List jJ} {K:Int->Option PS} {L:List ot} {S:List (Int×List UInt8)} {T:List (Nat×Nat)} {W w w0 wr:World} {b m:AN} {f:Nat->Option jJ} {iQ:Nat->Bool} {l:List la} {o q:PS} {out:List SV} {r:iN} {v:Int} {y:iM}
theorem ahO(r:iN)(i:Nat)(s:List UInt8)(y:Int):(jj r i s).K y=r.K y \/((ij s).2.2.2=0/\(r.P i).pe.both=true/\(ij s).1=y/\0<newF r.K y (ij s).2.1 (ij s).2.2.1/\(y=r.id \/(jj r i s).K y=μ ((ij s).2.1,(ij s).2.2.1))):=by
 unfold jj;simp only;split;{exact .inl rfl}
 ·rename_i h
  have Z:(ij s).2.2.2=0/\(r.P i).pe.both=true:=by
   refine⟨dZ,?_⟩;cases hb:(r.P i).pe.both;{exact absurd (.inr hb) h};{rfl}
  split
  ·rename_i Y
   by_cases e:y=r.id;{exact .inr ⟨Z.1,Z.2,by rw[e];exact Y.1,by rw[e,<-Y.1];exact Y.2,.inl e⟩};{left;unfold iN.behind;split;{show(if y=r.id then _ else _)=_;rw[af e]};{rfl}}
  ·have V:∀K:Int->Option PS,K=lr r.K (ij s).1 (ij s).2.1 (ij s).2.2.1->K y=r.K y \/((ij s).2.2.2=0/\(r.P i).pe.both=true/\(ij s).1=y/\0<newF r.K y (ij s).2.1 (ij s).2.2.1/\(y=r.id \/K y=μ ((ij s).2.1,(ij s).2.2.1))):=λK U=>by
    rw[U];unfold lr;split
    ·rename_i g
     by_cases e:y=(ij s).1;{right;refine⟨Z.1,Z.2,e.symm,by rw[e];exact g,.inr ?_⟩;show(if y=(ij s).1 then _ else _)=_;rw[ai e]};{left;show(if y=(ij s).1 then _ else _)=_;rw[af e]}
    ·exact .inl rfl
   split;{exact V _ rfl};{exact V _ rfl}
theorem ad3(M:ln r)(i:Nat)(s:List UInt8)(Q:(ij s).2.2.2=0)(hb:(r.P i).pe.both=true)(hs:(ij s).2.1<1000000):yg (jj r i s).K (ij s).1 (ij s).2.1 (ij s).2.2.1:=by
 have V:=(xJ M i s).1.k;unfold jj at V⊢;simp only at V⊢;rw[af (by rw[hb];simp;exact Q)]at V⊢;by_cases Z:(ij s).1=r.id/\0<newF r.K (ij s).1 (ij s).2.1 (ij s).2.2.1
 ·rw[ai Z];unfold iN.behind;rw[ai hs];refine⟨((ij s).2.1+1,jx r),?_,?_⟩;{show(if(ij s).1=r.id then _ else _)=_;rw[ai Z.1]}
  ·unfold lT;have:lZ ((ij s).2.1+1) (ij s).2.1=1:=by unfold lZ;rw[af dZ,ai dZ]
   rw[ai (by rw[this];decide)];show 0<=lZ ((ij s).2.1+1) (ij s).2.1;rw[this];decide
 ·rw[af Z];have U:yg (lr r.K (ij s).1 (ij s).2.1 (ij s).2.2.1) (ij s).1 (ij s).2.1 (ij s).2.2.1:=by
   unfold lr;by_cases g:0<newF r.K (ij s).1 (ij s).2.1 (ij s).2.2.1;{rw[ai g];exact⟨_,by show(if(ij s).1=(ij s).1 then μ ((ij s).2.1,(ij s).2.2.1)else _)=_;rw[ai rfl],by rw[n8];exact Int.le_refl _⟩}
   ·rw[af g];cases Y:r.K (ij s).1 with
    |none=>unfold newF at g;rw[Y]at g;exact absurd (by decide:(0:Int)<1) g
    |some q=>
     rw[n9 Y]at g;exact⟨q,Y,by rw[ud];omega⟩
  split;{exact U};{exact U}
theorem vL.keep(P:AN->Prop)(h:vL m b)(H:Al N k T m)(M:N<1000000)(E:k<=126)(G:∀c d,c<m.nc->d<2->m.e c d∈T)(Q:P m)(step:∀(a:AN) (c d:Nat) (x:la) (l:List la),Al N k T a->(a.n=m.n/\a.nc=m.nc/\a.e=m.e/\a.iQ=m.iQ)->c<a.nc->d<2->a.F c d=x::l->P a->P (a.pop c d x l)):Al N k T b/\P b/\(b.n=m.n/\b.nc=m.nc/\b.e=m.e/\b.iQ=m.iQ):=by
 induction h with
 |nil=>exact⟨H,Q,rfl,rfl,rfl,rfl⟩
 |snoc c d x l p hc hd hF ih=>
  obtain⟨s1,u,V,Z,Y,U⟩:=ih;refine⟨(s1.pop M E (λc d hc hd=>by rw[Y];exact G c d (by rw[<-Z];exact hc) hd) hc hd hF).1,step _ c d x l s1 ⟨V,Z,Y,U⟩ hc hd hF u,V,Z,Y,U⟩
theorem Al.FL {a:AN} (h:Al N k T a)(U:N<1000000)(M:k<=126)(Q:∀c d,c<a.nc->d<2->a.e c d∈T) {x:la} (hc:c<a.nc)(hd:d<2)(hF:a.F c d=x::l)(j:Nat):pv (a.R j).K ((a.pop c d x l).R j).K:=by
 obtain⟨_,Z,Y,_⟩:=h.pop U M Q hc hd hF;obtain⟨B,V⟩:=h.env.i.own;by_cases e:j=rX a c (1-d);{rw[e,Y];have H:=(V.r _ (h.env.i.qQ.en c (1-d) hc dZ).1).2.1;unfold knM;split;{exact(xJ H _ _).1.k};{exact pv.refl _}};{rw[(Z j e).1];exact pv.refl _}
theorem Al.WU {a:AN} (h:Al N k T a)(hc:c<a.nc)(hd:d<2)(hb:((a.R (rX a c d)).P (a.e c d).2).pe.both=true):a.iQ c=true/\rX a c d≠rX a c (1-d):=by
 have Z:(mM a c d).both=true:=hb;cases hi:a.iQ c;{rw[(h.pn c d hc hd (.inl hi)).2]at Z;exact absurd Z gU};{refine⟨rfl,λe=> ?_⟩;rw[(h.pn c d hc hd (.inr e)).2]at Z;exact absurd Z gU}
theorem Al.news {a:AN} (h:Al N k T a)(hN:N<1000000)(hk:k<=126)(hT:∀c d,c<a.nc->d<2->a.e c d∈T) {x:la} (hc:c<a.nc)(hd:d<2)(hF:a.F c d=x::l)(j:Nat)(y:Int):((a.pop c d x l).R j).K y=(a.R j).K y \/(j=rX a c (1-d)/\a.iQ c=true/\rX a c d≠rX a c (1-d)/\∃q:PS,yg (a.R (rX a c d)).K y q.1 q.2/\0<newF (a.R j).K y q.1 q.2/\(y=(j:Int)+1 \/((a.pop c d x l).R j).K y=μ q)):=by
 obtain⟨_,E,h2,_⟩:=h.pop hN hk hT hc hd hF;obtain⟨B,hB⟩:=h.env.i.own;have Q:=h.env.i.qQ.en c (1-d) hc dZ;by_cases e:j=rX a c (1-d)
 ·rw[e,h2];cases x with
  |nil=>exact .inl rfl
  |cons u s=>
   by_cases V:u=83
   ·subst V;show(jj (a.R (rX a c (1-d))) (a.e c (1-d)).2 s).K y=_ \/_;rcases ahO (a.R (rX a c (1-d))) (a.e c (1-d)).2 s y with g|⟨g1,M,H,G,Z⟩
    ·exact .inl g
    ·right;obtain⟨i1,U⟩:=h.WU hc (show 1-d<2 by omega) M;have Y:=((h.env.i.fl.kn c d hc hd (83::s) (by rw[hF];simp)).1).1 s (.inl rfl) g1;rw[H]at Y;refine⟨rfl,i1,?_,((ij s).2.1,(ij s).2.2.1),Y,G,?_⟩;{rw[show 1-(1-d)=d by omega]at U;exact λz=>U z.symm}
     ·rcases Z with Z|Z
      {left;rw[Z];exact(hB.r _ Q.1).2.2.2.1};{exact .inr Z}
   ·left;rw[IC _ _ s V]
 ·rw[(E j e).1];exact .inl rfl
structure FN(N k:Nat)(a m b:AN):Prop where
 s:Al N k [] a
 t:xR (mP a.n) a m
 p:vL m b
 l:N+8*(mP a.n).length<1000000
 k1:k<=126
 ms:Al (N+8*(mP a.n).length) k (mP a.n) m
 ko:∀j,(m.R j).K=(a.R j).K/\(m.R j).O=(a.R j).O
 mf:∀c d,c<a.nc->d<2->∃l,m.F c d=a.F c d++l/\(a.iQ c=true->rX a c d≠rX a c (1-d)->l=KG (rX a c d+1) (rX a c (1-d)+1)::(lE ((a.R (a.e c d).1).O (a.e c d).2)).flatMap DC)/\(a.iQ c=false->l=[])/\(a.iQ c=true->rX a c d=rX a c (1-d)->l=[KG (rX a c d+1) 0])
 all:∀c d,c<m.nc->d<2->m.e c d∈mP a.n
 me:m.n=a.n/\m.nc=a.nc/\m.e=a.e/\m.iQ=a.iQ
theorem S9 {a:AN} (Y:tI a)(c d:Nat)(hc:c<a.nc)(hd:d<2):a.e c d∈mP a.n:=by
 obtain⟨Z,e2⟩:=Y.en c d hc hd;unfold mP;refine aT.2 ⟨(a.e c d).1,aP.2 Z,?_⟩;unfold SI;have:(a.e c d).2=0 \/(a.e c d).2=1 \/(a.e c d).2=2:=dZ;rcases this with e|e|e
 {rw[show a.e c d=((a.e c d).1,0)from aV rfl e];simp};{rw[show a.e c d=((a.e c d).1,1)from aV rfl e];simp};{rw[show a.e c d=((a.e c d).1,2)from aV rfl e];simp}
theorem FN.of {a:AN} (s:Al N k [] a)(t:xR (mP a.n) a m)(p:vL m b)(l:N+8*(mP a.n).length<1000000)(G:k<=126):FN N k a m b:=by
 obtain⟨nd,_,_⟩:=pz a.n;obtain⟨Q,M,H⟩:=s.tks t nd l;have Z:=t.path.same;have Y:=S9 s.env.i.qQ;refine⟨s,t,p,l,G,Q,M,λc d hc hd=> ?_,λc d hc hd=> ?_,⟨Z.1,Z.2.1,Z.2.2.1,t.len⟩⟩;{obtain⟨l,V,_,U⟩:=H c d hc hd;obtain⟨b1,b2,b3⟩:=U (Y c d hc hd);exact⟨l,V,b1,b2,b3⟩};{rw[Z.2.2.1];exact Y c d (by rw[<-Z.2.1];exact hc) hd}
theorem FN.keep {N k:Nat} {a m b:AN} (h:FN N k a m b)(P:AN->Prop)(H:P m)(step:∀(z:AN) (c d:Nat) (x:la) (l:List la),Al (N+8*(mP a.n).length) k (mP a.n) z->(z.n=a.n/\z.nc=a.nc/\z.e=a.e/\z.iQ=a.iQ)->(∀c d,c<z.nc->d<2->z.e c d∈mP a.n)->c<z.nc->d<2->z.F c d=x::l->P z->P (z.pop c d x l)):Al (N+8*(mP a.n).length) k (mP a.n) b/\P b/\(b.n=a.n/\b.nc=a.nc/\b.e=a.e/\b.iQ=a.iQ):=by
 obtain⟨g1,Y,V,U,Q,M⟩:=h.p.keep P h.ms h.l h.k1 h.all H λz c d x l E Z hc hd hF G=>step z c d x l E ⟨Z.1.trans h.me.1,Z.2.1.trans h.me.2.1,Z.2.2.1.trans h.me.2.2.1,Z.2.2.2.trans h.me.2.2.2⟩ (λc d hc hd=>by rw[Z.2.2.1];exact h.all c d (by rw[<-Z.2.1];exact hc) hd) hc hd hF G;exact⟨g1,Y,V.trans h.me.1,U.trans h.me.2.1,Q.trans h.me.2.2.1,M.trans h.me.2.2.2⟩
theorem FN.sta {a:AN} (h:FN N k a m b)(M:∀c d,c<a.nc->d<2->a.F c d=[])(Z:∀c d,c<a.nc->d<2->b.F c d=[]):Al (N+8*(mP a.n).length) k [] b:=by
 obtain⟨s1,_,e1,V,U,Q⟩:=h.keep (λ_=>True) trivial λ_ _ _ _ _ _ _ _ _ _ _ _=>trivial;obtain⟨_,hh⟩:=CB h.t h.p h.s.env h.l h.k1 M Z;have Y:∀c d,rX b c d=rX a c d:=λc d=>by unfold rX;rw[U]
 refine⟨s1.env,λc d hc hd hi hl=> ?_,s1.pn,λc d hc hd _ _ x hx=> ?_,s1.id⟩;{rw[V]at hc;rw[Q]at hi;rw[Y,Y]at hl;have Z:=hh c d hc hd hi;have hb:=h.s.pb c (1-d) hc dZ hi (by rw[show 1-(1-d)=d by omega];exact λz=>hl z.symm);rw[show 1-(1-d)=d by omega,af gU]at hb;obtain⟨q1,_,_⟩:=qZ (q:=mM a c (1-d)) dZ;rw[q1,hb.1]at Z;have H:¬((rX a c (1-d):Int)+1=(rX a c d:Int)+1):=dZ;have Z:mM b c d=jg ((rX a c d:Int)+1) ((rX a c (1-d):Int)+1) ((rX a c d:Int)+1):=Z;unfold jg at Z;rw[af H]at Z;rw[Z,Y];refine⟨rfl,gU,?_⟩;rw[af gU];exact Int.le_refl _};{rw[V]at hc;rw[Z c d hc hd]at hx;simp at hx}
theorem FN.mono {a:AN} (h:FN N k a m b)(j:Nat):pv (a.R j).K (b.R j).K:=by
 obtain⟨_,g,_⟩:=h.keep (λz=>pv (a.R j).K (z.R j).K) (by rw[(h.ko j).1];exact pv.refl _) λz c d x l V _ Y hc hd hF Z=>Z.trans (V.FL h.l h.k1 Y hc hd hF j);exact g
theorem Mv {F:Int->Option PS} {y:Int} (hy:1<=y/\y<=6)(h:F y=μ q):(y,q)∈lE F:=by
 unfold lE;refine cE.2 ⟨(y-1).toNat,aP.2 dZ,?_⟩;have e:(((y-1).toNat:Nat):Int)+1=y:=dZ;rw[e,h];rfl
theorem J2 {y:Int} (h:oA y q.1 q.2=0):DC (y,q)=[83::rh y q.1 q.2] :=by
 unfold DC;have:=DG h;rw[ai (by show(rh y q.1 q.2).length+1<=60;omega)]
theorem FN.spread {a:AN} (h:FN N k a m b)(h1:∀c d,c<a.nc->d<2->b.F c d=[])(hc:c<a.nc)(hd:d<2)(hi:a.iQ c=true)(hl:rX a c d≠rX a c (1-d)) {y:Int} (V:(a.R (rX a c d)).K y=μ q):yg (b.R (rX a c (1-d))).K y q.1 q.2:=by
 obtain⟨B,hB⟩:=h.s.env.i.own;obtain⟨C,hC⟩:=h.ms.env.i.own;have Ar:=h.s.env.i.qQ.en c d hc hd;have E:=hB.r _ Ar.1;have hm:yg (m.R (rX a c (1-d))).K y q.1 q.2 \/ ∃x∈m.F c d,∃s,x=83::s/\(ij s).2.2.2=0/\(ij s).1=y/\0<=lT (ij s).2.1 (ij s).2.2.1 q.1 q.2:=by
  cases H:(a.R (rX a c d)).O (a.e c d).2 y with
  |none=>
   left;rw[(h.ko _).1];exact h.s.env.i.fl.o c d hc hd (h.s.pb c d hc hd hi hl).2.1 y q V H
  |some u=>
   right;have hu:=E.1.tie _ _ _ H;have j:u=q:=by
    have e:(a.R (rX a c d)).K y=μ u:=hu;rw[V]at e;exact(Option.some.inj e).symm
   subst j;obtain⟨l,f1,f2,_⟩:=h.mf c d hc hd;have hv:=E.1.val y u V;have hy:=E.2.1.PE y (by rw[show(a.R (a.e c d).1).K y=μ u from V];rfl);refine⟨83::rh y u.1 u.2,?_,_,rfl,?_⟩;{rw[f1,f2 hi hl];refine av.2 (.inr (aO.2 (.inr (aT.2 ⟨(y,u),Mv hy H,?_⟩))));rw[J2 hv];simp};{rw[nP _ _ _ hv];exact⟨rfl,rfl,by rw[n8];exact Int.le_refl _⟩}
 obtain⟨_,g,e1,e2,e3,e4⟩:=h.keep (λz=>yg (z.R (rX a c (1-d))).K y q.1 q.2 \/ ∃x∈z.F c d,∃s,x=83::s/\(ij s).2.2.2=0/\(ij s).1=y/\0<=lT (ij s).2.1 (ij s).2.2.1 q.1 q.2) hm λz c' d' x l Y G hT jX kg hF hP=>by
  have hmono:=Y.FL h.l h.k1 hT jX kg hF;rcases hP with g|⟨w,w1,s,w2,U,w4,w5⟩
  ·exact .inl (g.mono (hmono _))
  ·have Z:c<z.nc:=by rw[G.2.1];exact hc
   obtain⟨em,f⟩:=(Y.env.pop h.l h.k1 jX kg hF).2.2 c d Z hd;by_cases e:c=c'/\d=d'
   ·obtain⟨z1,z2⟩:=e;subst z1 z2;rw[ai ⟨rfl,rfl⟩]at f;rw[hF]at w1;rcases aO.1 w1 with v|v
    ·left;have hx:x=83::s:=by rw[<-v];exact w2
     obtain⟨_,_,g2,_⟩:=Y.pop h.l h.k1 hT Z hd hF;obtain⟨D,M⟩:=Y.env.i.own;have Q:∀d,rX z c d=rX a c d:=λd=>by unfold rX;rw[G.2.2.1]
     rw[<-Q,g2,hx];have iO:=(M.r _ (Y.env.i.qQ.en c (1-d) Z dZ).1).2.1;have hb:=(Y.pb c (1-d) Z dZ (by rw[G.2.2.2];exact hi) (by rw[Q,Q,show 1-(1-d)=d by omega];exact λw=>hl w.symm)).2.1;have hle:=M.f c d Z hd x (by rw[hF];simp) s hx U;have kA:=M.b;have:=h.l;have hk:=ad3 iO (z.e c (1-d)).2 s U hb dZ;rw[w4]at hk;exact hk.trans w5
    ·right;exact⟨w,by rw[f];simp[v],s,w2,U,w4,w5⟩
   ·right;rw[af e]at f;exact⟨w,by rw[f];simp[w1],s,w2,U,w4,w5⟩
 rcases g with g|⟨x,hx,_⟩
 {exact g};{rw[h1 c d hc hd]at hx;simp at hx}
def Cl(a:AN)(C:Nat->Prop):Prop:=∀c d,c<a.nc->d<2->a.iQ c=true->rX a c d≠rX a c (1-d)->C (rX a c d)->C (rX a c (1-d))
def Bd(C:Nat->Prop)(y:Int)(a0 a:AN):Prop:=∀x,C x->∀q:PS,(a.R x).K y=μ q->(∃x0,C x0/\yg (a0.R x0).K y q.1 q.2) \/ ∃i,C i/\(i:Int)+1=y/\yg (a.R i).K y q.1 q.2
theorem FN.bd {a:AN} (h:FN N k a m b)(hC:Cl a C) {y:Int} {a0:AN} (hB:Bd C y a0 a):Bd C y a0 b:=by
 have hm:Bd C y a0 m:=λx hx q Z=>by
  rw[(h.ko x).1]at Z;rcases hB x hx q Z with g|⟨i,g1,Y,V⟩
  {exact .inl g};{exact .inr ⟨i,g1,Y,by rw[(h.ko i).1];exact V⟩}
 obtain⟨_,g,_⟩:=h.keep (Bd C y a0) hm λz c d x l hz G hT hc hd hF hP=>by
  have hmono:=hz.FL h.l h.k1 hT hc hd hF;have Q:∀q:PS,((∃x0,C x0/\yg (a0.R x0).K y q.1 q.2) \/ ∃i,C i/\(i:Int)+1=y/\yg (z.R i).K y q.1 q.2)->(∃x0,C x0/\yg (a0.R x0).K y q.1 q.2) \/ ∃i,C i/\(i:Int)+1=y/\yg ((z.pop c d x l).R i).K y q.1 q.2:=λq Z=>by
   rcases Z with g|⟨i,g1,Y,V⟩
   {exact .inl g};{exact .inr ⟨i,g1,Y,V.mono (hmono i)⟩}
  intro j E q Z;rcases hz.news h.l h.k1 hT hc hd hF j y with g|⟨g1,Y,V,u,⟨v,v1,v2⟩,g5,U⟩
  ·rw[g]at Z;exact Q q (hP j E q Z)
  ·have M:∀d,rX z c d=rX a c d:=λd=>by unfold rX;rw[G.2.2.1]
   rcases U with U|U
   ·exact .inr ⟨j,E,U.symm,uC Z⟩
   ·rw[U]at Z;injection Z with Z
    subst Z;have H:C (rX z c d):=by
     have:=hC c (1-d) (by rw[<-G.2.1];exact hc) dZ (by rw[<-G.2.2.2];exact Y) (by rw[<-M,<-M,show 1-(1-d)=d by omega];exact λw=>V w.symm);rw[<-M,<-M,show 1-(1-d)=d by omega]at this;exact this (by rw[<-g1];exact E)
    refine Q u ?_;rcases hP _ H v v1 with⟨x0,w1,w2⟩|⟨i,w1,w2,w3⟩
    {exact .inl ⟨x0,w1,w2.trans v2⟩};{exact .inr ⟨i,w1,w2,w3.trans v2⟩}
 exact g
def Bo(C:Nat->Prop)(i:Nat)(o:PS)(a:AN):Prop:=(a.R i).K ((i:Int)+1)=μ o/\∀x,C x->∀q:PS,(a.R x).K ((i:Int)+1)=μ q->0<=lT o.1 o.2 q.1 q.2
theorem J3 {y:Int} {u:PS} (h:K y=μ o)(g:0<=lT o.1 o.2 u.1 u.2):¬0<newF K y u.1 u.2:=by
 rw[n9 h,ud];omega
theorem FN.bo {a:AN} (h:FN N k a m b)(hC:Cl a C)(hi:C i)(hB:Bo C i o a):Bo C i o b:=by
 have hm:Bo C i o m:=⟨by rw[(h.ko i).1];exact hB.1,λx hx q Z=>hB.2 x hx q (by rw[<-(h.ko x).1];exact Z)⟩
 obtain⟨_,g,_⟩:=h.keep (Bo C i o) hm λz c d x l hz G hT hc hd hF U=>by
  have Y:∀d,rX z c d=rX a c d:=λd=>by unfold rX;rw[G.2.2.1]
  have key:∀j,C j->((z.pop c d x l).R j).K ((i:Int)+1)=(z.R j).K ((i:Int)+1) \/(j≠i/\∃u:PS,((z.pop c d x l).R j).K ((i:Int)+1)=μ u/\0<=lT o.1 o.2 u.1 u.2):=λj Q=>by
   rcases hz.news h.l h.k1 hT hc hd hF j ((i:Int)+1)with g|⟨g1,M,g3,u,⟨v,v1,v2⟩,g5,V⟩
   ·exact .inl g
   ·have H:C (rX z c d):=by
     have:=hC c (1-d) (by rw[<-G.2.1];exact hc) dZ (by rw[<-G.2.2.2];exact M) (by rw[<-Y,<-Y,show 1-(1-d)=d by omega];exact λw=>g3 w.symm);rw[<-Y,<-Y,show 1-(1-d)=d by omega]at this;exact this (by rw[<-g1];exact Q)
    have E:0<=lT o.1 o.2 u.1 u.2:=(yq (U.2 _ H v v1) v2).1;by_cases e:j=i;{subst e;exact absurd g5 (J3 U.1 E)}
    ·right;refine⟨e,u,?_,E⟩;rcases V with V|V
     {exact absurd dZ e};{exact V}
  refine⟨?_,λj Q q Z=> ?_⟩
  ·rcases key i hi with g|g
   {rw[g];exact U.1};{exact absurd rfl g.1}
  ·rcases key j Q with g|⟨_,u,g1,M⟩
   {rw[g]at Z;exact U.2 j Q q Z};{rw[g1]at Z;injection Z with Z;rw[<-Z];exact M}
 exact g
def Be(C:Nat->Prop)(y:Int)(v:Option PS)(a:AN):Prop:=∀x,C x->(a.R x).K y=v
theorem FN.be {a:AN} (h:FN N k a m b)(hC:Cl a C) {y:Int} {v:Option PS} (E:Be C y v a):Be C y v b:=by
 have hm:Be C y v m:=λx hx=>by rw[(h.ko x).1];exact E x hx
 obtain⟨_,g,_⟩:=h.keep (Be C y v) hm λz c d x l hz U hT hc hd hF V=>by
  have Z:∀d,rX z c d=rX a c d:=λd=>by unfold rX;rw[U.2.2.1]
  intro j Q;rcases hz.news h.l h.k1 hT hc hd hF j y with g|⟨g1,M,H,u,⟨w,v1,v2⟩,G,g6⟩
  ·rw[g];exact V j Q
  ·have Y:C (rX z c d):=by
    have:=hC c (1-d) (by rw[<-U.2.1];exact hc) dZ (by rw[<-U.2.2.2];exact M) (by rw[<-Z,<-Z,show 1-(1-d)=d by omega];exact λw=>H w.symm);rw[<-Z,<-Z,show 1-(1-d)=d by omega]at this;exact this (by rw[<-g1];exact Q)
   rw[V _ Y]at v1;exact absurd G (J3 (by rw[V j Q];exact v1) v2)
 exact g
def Adj(a:AN)(x z:Nat):Prop:=∃c d,c<a.nc/\d<2/\a.iQ c=true/\rX a c d=x/\rX a c (1-d)=z/\x≠z
theorem Adj.symm {a:AN} {x z:Nat} (h:Adj a x z):Adj a z x:=by
 obtain⟨c,d,Z,h2,Y,V,U,Q⟩:=h;exact⟨c,1-d,Z,dZ,Y,U,by rw[show 1-(1-d)=d by omega];exact V,Q.symm⟩
inductive Way(a:AN):Nat->Nat->Nat->Prop
 |here (x:Nat):Way a 0 x x
 |stay {k x z:Nat}:Way a k x z->Way a (k+1) x z
 |go {k x w z:Nat}:Way a k x w->Adj a w z->Way a (k+1) x z
def oq(a:AN)(x z:Nat):Prop:=∃k,Way a k x z
theorem oq.trans {a:AN} {w:Nat} (h:oq a x w)(g:oq a w z):oq a x z:=by
 obtain⟨k,g⟩:=g
 induction g with
 |here=>exact h
 |stay _ ih=>exact ih h
 |go _ s ih=>obtain⟨j,Z⟩:=ih h;exact⟨j+1,Z.go s⟩
theorem oq.adj {a:AN} (h:Adj a x z):oq a x z:=⟨1,(Way.here x).go h⟩
theorem oq.symm {a:AN} {x z:Nat} (h:oq a x z):oq a z x:=by
 obtain⟨k,g⟩:=h
 induction g with
 |here=>exact⟨0,Way.here _⟩
 |stay _ ih=>exact ih
 |go _ s ih=>exact(oq.adj s.symm).trans ih
theorem Way.lt {a:AN} (V:tI a)(h:Way a k x z)(hx:x<a.n):z<a.n:=by
 induction h with
 |here=>exact hx
 |stay _ ih=>exact ih hx
 |go _ s _=>
  obtain⟨c,d,Z,h2,_,_,Y,_⟩:=s;rw[<-Y];exact(V.en c (1-d) Z dZ).1
theorem Way.more {a:AN} {k x z:Nat} (h:Way a k x z):∀j,Way a (k+j) x z
 |0=>h
 |j+1=>(Way.more h j).stay
open Classical in
noncomputable def OL (a:AN) (x k:Nat):Nat:=sm (λz=>if Way a k x z then 1 else 0) (fW a.n)
theorem yY {a:AN} (Z:tI a) {x k:Nat} (hx:x<a.n)(h:∀z,z<a.n->Way a (k+1) x z->Way a k x z):∀j z,Way a (k+j) x z->Way a k x z
 |0,_,g=>g
 |j+1,z,g=>by
  have Y:=g.lt Z hx;cases g with
  |stay g=>exact yY Z hx h j z g
  |go g s=>exact h z Y ((yY Z hx h j _ g).go s)
theorem ZO(n:Nat):sm (λ_:Nat=>1) (fW n)=n:=by
 unfold sm
 induction n with
 |zero=>rfl
 |succ n ih=>rw[bV,cU,List.sum_append,ih];rfl
open Classical in
theorem ZP {a:AN} (V:tI a)(hx:x<a.n)(h:oq a x z):Way a 6 x z:=by
 obtain⟨m,Q⟩:=h;have key:∀k,k+1<=OL a x k \/ ∃j,j<k/\∀z,z<a.n->Way a (j+1) x z->Way a j x z:=λk=>by
  induction k with
  |zero=>
   left;have:=z8 (f:=λ_:Nat=>0) (g:=λz=>if Way a 0 x z then 1 else 0) (y:=x) (k:=1) bY (aP.2 hx) λz _=>by
    by_cases e:z=x;{subst e;rw[ai rfl,ai (Way.here z)];exact Nat.le_refl _};{rw[af e];exact Nat.zero_le _}
   show 0+1<=OL a x 0;unfold OL;omega
  |succ k ih=>
   rcases ih with g|⟨j,M,Y⟩
   ·by_cases hc:∀z,z<a.n->Way a (k+1) x z->Way a k x z;{exact .inr ⟨k,dZ,hc⟩}
    ·left;have:∃z,z<a.n/\Way a (k+1) x z/\¬Way a k x z:=by
      by_cases hh:∃z,z<a.n/\Way a (k+1) x z/\¬Way a k x z;{exact hh}
      ·exact absurd (λz G Z=>by
        by_cases U:Way a k x z;{exact U}
        ·exact absurd ⟨z,G,Z,U⟩ hh) hc
     obtain⟨z,E,u,z3⟩:=this;have:=z8 (f:=λz=>if Way a k x z then 1 else 0) (g:=λz=>if Way a (k+1) x z then 1 else 0) (y:=z) (k:=1) bY (aP.2 E) λw _=>by
      by_cases e:w=z;{subst e;rw[ai rfl,ai u,af z3];exact Nat.le_refl _};{rw[af e];by_cases Z:Way a k x w;{rw[ai Z,ai Z.stay];exact Nat.le_refl _};{rw[af Z];exact Nat.zero_le _}}
     show k+1+1<=OL a x (k+1);unfold OL at g⊢;omega
   ·exact .inr ⟨j,dZ,Y⟩
 rcases key 6 with g|⟨j,M,Y⟩
 ·exfalso;have:OL a x 6<=a.n:=by
   unfold OL;refine Nat.le_trans (vv (g:=λ_=>1) λz _=> ?_) (Nat.le_of_eq (ZO a.n));split;{exact Nat.le_refl _};{exact Nat.zero_le _}
  have:=V.n6;omega
 ·have H:Way a j x z:=by
   by_cases hjm:j<=m;{have:=yY V hx Y (m-j) z (by rw[show j+(m-j)=m by omega];exact Q);exact this};{have:=Q.more (j-m);rw[show m+(j-m)=j by omega]at this;exact this}
  have:=H.more (6-j);rw[show j+(6-j)=6 by omega]at this;exact this
structure Run(k J:Nat)(A:Nat->AN):Prop where
 r:∀j,j<J->∃N m,FN N k (A j) m (A (j+1))
 z:∀j,j<=J->∀c d,c<(A j).nc->d<2->(A j).F c d=[]
theorem FN.same {a:AN} (h:FN N k a m b):b.n=a.n/\b.nc=a.nc/\b.e=a.e/\b.iQ=a.iQ:=(h.keep (λ_=>True) trivial λ_ _ _ _ _ _ _ _ _ _ _ _=>trivial).2.2
theorem Run.same {k J:Nat} {A:Nat->AN} (h:Run k J A):∀j,j<=J->(A j).n=(A 0).n/\(A j).nc=(A 0).nc/\(A j).e=(A 0).e/\(A j).iQ=(A 0).iQ
 |0,_=>⟨rfl,rfl,rfl,rfl⟩
 |j+1,hj=>by
  obtain⟨N,m,Q⟩:=h.r j dZ;obtain⟨Z,Y,V,U⟩:=Run.same h j dZ;obtain⟨b1,b2,b3,b4⟩:=Q.same;exact⟨b1.trans Z,b2.trans Y,b3.trans V,b4.trans U⟩
theorem Run.spread {k J:Nat} {A:Nat->AN} (h:Run k J A) {i x z:Nat} (hw:Way (A 0) i x z):∀j,j+i<=J->∀(y:Int) (q:PS),((A j).R x).K y=μ q->yg ((A (j+i)).R z).K y q.1 q.2:=by
 induction hw with
 |here=>intro j _ y q Z;exact uC Z
 | @stay i x z _ ih=>
   intro j hj y q Z;obtain⟨N,m,Y⟩:=h.r (j+i) dZ;exact(ih j dZ y q Z).mono (Y.mono z)
 | @go i x w z _ s ih=>
   intro j hj y q Z;obtain⟨u,u1,u2⟩:=ih j dZ y q Z;obtain⟨N,m,Y⟩:=h.r (j+i) dZ;obtain⟨e1,M,H,G⟩:=h.same (j+i) dZ;obtain⟨c,d,E,h2,h3,U,Q,h6⟩:=s;have V:∀d,rX (A (j+i)) c d=rX (A 0) c d:=λd=>by unfold rX;rw[H]
   have:=Y.spread (λc' d' jX kg=>h.z (j+i+1) dZ c' d' (by rw[Y.same.2.1];exact jX) kg) (c:=c) (d:=d) (by rw[M];exact E) h2 (by rw[G];exact h3) (by rw[V,V,U,Q];exact h6) (y:=y) (q:=u) (by rw[V,U];exact u1);rw[V,Q]at this;exact this.trans u2
theorem Run.cl(h:Run k J A)(x:Nat) {j:Nat} (Q:j<=J):Cl (A j) (oq (A 0) x):=λc d hc hd hi hl hC=>by
 obtain⟨e1,Y,V,U⟩:=h.same j Q;have Z:∀d,rX (A j) c d=rX (A 0) c d:=λd=>by unfold rX;rw[V]
 rw[Z,Z]at hl;rw[Z]at hC⊢;exact hC.trans (oq.adj ⟨c,d,by rw[<-Y];exact hc,hd,by rw[<-U];exact hi,rfl,rfl,hl⟩)
theorem WV {L:Int->Option PS} {y:Int} {p:PS} (Y:K y=μ p)(V:L y=μ q)(U:yg L y p.1 p.2)(Q:yg K y q.1 q.2):p=q:=by
 obtain⟨u,u1,u2⟩:=U;obtain⟨v,v1,v2⟩:=Q;rw[V]at u1;rw[Y]at v1;injection u1 with u1
 injection v1 with v1
 subst u1 v1;rw[ud]at v2;have Z:lT q.1 q.2 p.1 p.2=0:=dZ;have:=AB.1 Z;exact aV this.1.symm this.2.symm
theorem Run.equal(h:Run k J A)(hJ:12<=J) {x0:Nat} (E:x0<(A 0).n)(y:Int):∃v,Be (oq (A 0) x0) y v (A 12):=by
 obtain⟨N0,m0,r0⟩:=h.r 0 dZ;have xj:=r0.s.env.i.qQ;have kA:∀x,oq (A 0) x0 x->x<(A 0).n:=λx hx=>by obtain⟨k,H⟩:=hx;exact H.lt xj E
 have M:∀x z,oq (A 0) x0 x->oq (A 0) x0 z->Way (A 0) 6 x z:=λx z hx hz=>ZP xj (kA x hx) (hx.symm.trans hz);have bd:∀j,j<=6->Bd (oq (A 0) x0) y (A 0) (A j):=λj=>by
  induction j with
  |zero=>intro _ x hx q Z;exact .inl ⟨x,hx,uC Z⟩
  |succ j ih=>
   intro hj;obtain⟨N,m,Y⟩:=h.r j dZ;exact Y.bd (h.cl x0 dZ) (ih dZ)
 have b6:=bd 6 (Nat.le_refl _);have be:∀j i v,Be (oq (A 0) x0) y v (A j)->j+i<=J->Be (oq (A 0) x0) y v (A (j+i)):=λj i v hv=>by
  induction i with
  |zero=>intro _;exact hv
  |succ i ih=>
   intro hi;obtain⟨N,m,Y⟩:=h.r (j+i) dZ;exact Y.be (h.cl x0 dZ) (ih dZ)
 by_cases jm:∃i,oq (A 0) x0 i/\(i:Int)+1=y
 ·obtain⟨i,hi,hy⟩:=jm;subst hy;obtain⟨N6,m6,r6⟩:=h.r 6 dZ;obtain⟨B,hB⟩:=r6.s.env.i.own;obtain⟨Q,_,_,_⟩:=h.same 6 dZ;have Gs:=hB.r i (by rw[Q];exact kA i hi);obtain⟨o,V,_⟩:=Gs.2.1.own;rw[Gs.2.2.2.1]at V;have o6:Bo (oq (A 0) x0) i o (A 6):=by
   refine⟨V,λx hx q Z=> ?_⟩;have H:yg ((A 6).R i).K ((i:Int)+1) q.1 q.2:=by
    rcases b6 x hx q Z with⟨x1,g1,u,u1,u2⟩|⟨i',g1,g2,g3⟩
    {have:=h.spread (M x1 i g1 hi) 0 dZ ((i:Int)+1) u u1;exact this.trans u2};{have:i'=i:=dZ;subst this;exact g3}
   obtain⟨u,u1,u2⟩:=H;rw[V]at u1;injection u1 with u1;rw[u1];exact u2
  have bo:∀j,j<=6->Bo (oq (A 0) x0) i o (A (6+j)):=λj=>by
   induction j with
   |zero=>intro _;exact o6
   |succ j ih=>
    intro hj;obtain⟨N,m,Y⟩:=h.r (6+j) dZ;exact Y.bo (h.cl x0 dZ) hi (ih dZ)
  have o12:=bo 6 (Nat.le_refl _);refine⟨μ o,λx hx=> ?_⟩;obtain⟨u,u1,u2⟩:=h.spread (M i x hi hx) 6 dZ ((i:Int)+1) o V;have G:=o12.2 x hx u u1;rw[u1];congr 1;rw[ud]at G;have h0:lT u.1 u.2 o.1 o.2=0:=dZ;have:=AB.1 h0;exact aV this.1 this.2
 ·have left:∀x,oq (A 0) x0 x->∀q:PS,((A 6).R x).K y=μ q->∃x1,oq (A 0) x0 x1/\yg ((A 0).R x1).K y q.1 q.2:=λx hx q Z=>by
   rcases b6 x hx q Z with g|⟨i,g1,g2,_⟩
   {exact g};{exact absurd ⟨i,g1,g2⟩ jm}
  have up:∀x z,oq (A 0) x0 x->oq (A 0) x0 z->∀q:PS,((A 6).R x).K y=μ q->yg ((A 6).R z).K y q.1 q.2:=λx z hx hz q Z=>by
   obtain⟨x1,g1,u,u1,u2⟩:=left x hx q Z;exact(h.spread (M x1 z g1 hz) 0 dZ y u u1).trans u2
  have vp:oq (A 0) x0 x0:=⟨0,Way.here _⟩
  refine⟨((A 6).R x0).K y,be 6 6 _ (λx hx=> ?_) dZ⟩;cases U:((A 6).R x0).K y with
  |none=>
   cases Q:((A 6).R x).K y with
   |none=>rfl
   |some q=>
    obtain⟨u,u1,_⟩:=up x x0 hx vp q Q;rw[U]at u1;exact absurd u1 gU
  |some p=>
   obtain⟨q,q1,q2⟩:=up x0 x vp hx p U;rw[q1];congr 1;exact(WV U q1 ⟨q,q1,q2⟩ (up x x0 hx vp q q1)).symm
def EqA(a:AN):Prop:=∀c d,c<a.nc->d<2->a.iQ c=true->rX a c d≠rX a c (1-d)->(a.R (rX a c d)).K=(a.R (rX a c (1-d))).K
def OwN(a:AN):Prop:=∀c d,c<a.nc->d<2->a.iQ c=true->rX a c d≠rX a c (1-d)->∀y,(a.R (rX a c d)).O (a.e c d).2 y=ν
theorem Run.eqA(h:Run k J A)(V:12<=J):EqA (A 12):=λc d hc hd hi hl=>by
 obtain⟨e1,Y,U,Q⟩:=h.same 12 V;obtain⟨N0,m0,M⟩:=h.r 0 dZ;have Z:∀d,rX (A 12) c d=rX (A 0) c d:=λd=>by unfold rX;rw[U]
 have hx:rX (A 12) c d<(A 0).n:=by rw[Z];exact(M.s.env.i.qQ.en c d (by rw[<-Y];exact hc) hd).1
 funext y
 obtain⟨v,hv⟩:=h.equal V hx y;rw[hv _ ⟨0,Way.here _⟩];rw[hv (rX (A 12) c (1-d)) (oq.adj ⟨c,d,by rw[<-Y];exact hc,hd,by rw[<-Q];exact hi,(Z d).symm,(Z (1-d)).symm,hl⟩)]
theorem ahR(i:Nat)(s:List UInt8)(h:(ij s).2.2.2=0->(r.P i).pe.both=true->r.K (ij s).1=μ ((ij s).2.1,(ij s).2.2.1))(j:Nat)(y:Int)(Z:r.O j y=ν):(jj r i s).O j y=ν:=by
 unfold jj;simp only;split;{exact Z}
 ·rename_i g
  have Q:(ij s).2.2.2=0:=dZ;have hb:(r.P i).pe.both=true:=by
   cases hb:(r.P i).pe.both;{exact absurd (.inr hb) g};{rfl}
  have U:=h Q hb;have Y:newF r.K (ij s).1 (ij s).2.1 (ij s).2.2.1=0:=by rw[n9 U];exact n8 _ _
  rw[Y];rw[af gU];have V:oT r.K r.O i (ij s).1 (ij s).2.1 (ij s).2.2.1 j y=ν:=by
   unfold oT;rw[Y,af ew,af ew];split
   ·rename_i e
    show(if y=(ij s).1 then ν else r.O i y)=ν;split;{rfl};{rw[<-e];exact Z}
   ·exact Z
  split;{exact V};{exact V}
theorem ZQ(Y:Ke r)(i:Nat)(s:List UInt8)(U:(ij s).2.2.2=0)(hb:(r.P i).pe.both=true)(Z:(r.P i).L.st=9)(M:r.K (ij s).1=μ ((ij s).2.1,(ij s).2.2.1)):jl ((jN r i (83::s)).P i)=[65::rh (ij s).1 (ij s).2.1 (ij s).2.2.1] :=by
 have H:jN r i (83::s)=jj r i s:=by
  show r.take i 83 s=_;rw[lJ,uA i s ew,af (by rw[Z];simp)];unfold mB;rw[af ew,ai rfl]
 rw[H];have Q:newF r.K (ij s).1 (ij s).2.1 (ij s).2.2.1=0:=by rw[n9 M];exact n8 _ _
 unfold jj;simp only;rw[af (by rw[hb];simp;exact U),Q,af gU,ai ew,kO,ai rfl];have hv:oA (ij s).1 (ij s).2.1 (ij s).2.2.1=0:=pO (by rw[<-U]);have hlen:=DG hv;obtain⟨z,G⟩:∃z:iN,({r with K:=lr r.K (ij s).1 (ij s).2.1 (ij s).2.2.1,O:=oT r.K r.O i (ij s).1 (ij s).2.1 (ij s).2.2.1}:iN)=z:=⟨_,rfl⟩
 have hzP:z.P i=r.P i:=by rw[<-G]
 have V:=uz (p:=r.P i) (Y.fr i) 65 (rh (ij s).1 (ij s).2.1 (ij s).2.2.1);rw[af (by rw[Z];simp;omega),jz (Y i)]at V;exact V
def FE(a:AN):Prop:=∀c d,c<a.nc->d<2->a.iQ c=true->rX a c d≠rX a c (1-d)->∀x∈a.F c d,∀s,(x=83::s \/x=65::s)->(ij s).2.2.2=0->(a.R (rX a c d)).K (ij s).1=μ ((ij s).2.1,(ij s).2.2.1)
theorem FN.paid {a:AN} (h:FN N k a m b)(h0:∀c d,c<a.nc->d<2->a.F c d=[])(h1:∀c d,c<a.nc->d<2->b.F c d=[])(Nx:EqA a):(∀j,(b.R j).K=(a.R j).K)/\EqA b/\OwN b:=by
 obtain⟨B,hB⟩:=h.s.env.i.own;have E:∀c d,rX m c d=rX a c d:=λc d=>by unfold rX;rw[h.me.2.2.1]
 have ad5:∀ {y:Int} {q:PS},oA y q.1 q.2=0->ij (rh y q.1 q.2)=(y,q.1,q.2,0):=λhv=>nP _ _ _ hv
 let P:AN->Prop:=λz=>((∀j,(z.R j).K=(a.R j).K)/\FE z)/\∀c d,c<a.nc->d<2->a.iQ c=true->rX a c d≠rX a c (1-d)->∀y,(z.R (rX a c d)).O (a.e c d).2 y=ν \/ ∃q:PS,(a.R (rX a c d)).K y=μ q/\(83::rh y q.1 q.2∈z.F c d \/65::rh y q.1 q.2∈z.F c (1-d))
 have hm:P m:=by
  refine⟨⟨λj=>(h.ko j).1,λc d hc hd hi hl x hx s hs Z=> ?_⟩,λc d hc hd hi hl y=> ?_⟩
  ·rw[h.me.2.1]at hc;rw[h.me.2.2.2]at hi;rw[E,E]at hl;obtain⟨l,f1,f2,_⟩:=h.mf c d hc hd;rw[f1,h0 c d hc hd,bU,f2 hi hl]at hx;rw[E,(h.ko _).1];have Q:=hB.r _ (h.s.env.i.qQ.en c d hc hd).1;rcases aO.1 hx with g|g
   ·rw[g]at hs;rcases hs with e|e<;>exact absurd (aC e).1 ew
   ·obtain⟨q,q1,q2⟩:=aT.1 g;have V:=Q.1.tie _ _ _ (xG q1);have hv:=Q.1.val _ _ V;have q2:x∈DC (q.1,q.2):=q2;rw[J2 hv]at q2;have vE:=ar.1 q2;have hs':s=rh q.1 q.2.1 q.2.2:=by
     rw[vE]at hs;rcases hs with e|e
     {exact(aC e).2.symm};{exact absurd (aC e).1 ew}
    rw[hs',ad5 hv];exact V
  ·rw[(h.ko _).2];cases hO:(a.R (rX a c d)).O (a.e c d).2 y with
   |none=>exact .inl rfl
   |some q=>
    right;have Q:=hB.r _ (h.s.env.i.qQ.en c d hc hd).1;have V:=Q.1.tie _ _ _ hO;have hv:=Q.1.val _ _ V;have hy:=Q.2.1.PE y (by rw[V];rfl);obtain⟨l,f1,f2,_⟩:=h.mf c d hc hd;refine⟨q,V,.inl ?_⟩;rw[f1,f2 hi hl];refine av.2 (.inr (aO.2 (.inr (aT.2 ⟨(y,q),Mv hy hO,?_⟩))));rw[J2 hv];simp
 obtain⟨_,⟨⟨g1,_⟩,g3⟩,e1,e2,e3,e4⟩:=h.keep P hm λz c d x l Z G hT hc hd hF hP=>by
  obtain⟨⟨p1,p2⟩,p3⟩:=hP;have Y:∀c d,rX z c d=rX a c d:=λc d=>by unfold rX;rw[G.2.2.1]
  obtain⟨_,k1,k2,k3⟩:=Z.pop h.l h.k1 hT hc hd hF;obtain⟨D,hD⟩:=Z.env.i.own;have Sg:=Z.env.i.nrm;have WL:x∈z.F c d:=by rw[hF];simp
  have ahS:z.iQ c=true->rX z c d≠rX z c (1-d)->(z.R (rX z c d)).K=(z.R (rX z c (1-d))).K:=λhi hl=>by
   rw[p1,p1,Y,Y];exact Nx c d (by rw[<-G.2.1];exact hc) hd (by rw[<-G.2.2.2];exact hi) (by rw[<-Y,<-Y];exact hl)
  have V:∀j,((z.pop c d x l).R j).K=(z.R j).K:=λj=>by
   funext y
   rcases Z.news h.l h.k1 hT hc hd hF j y with g|⟨g1,g2,g3,u,⟨v,v1,v2⟩,g5,_⟩
   {exact g};{rw[ahS g2 g3,<-g1]at v1;exact absurd g5 (J3 v1 v2)}
  have J4:∀c' d',c'<z.nc->d'<2->∃em,(z.pop c d x l).F c' d'=(if c'=c/\d'=d then l else z.F c' d')++em:=(Z.env.pop h.l h.k1 hc hd hF).2.2;have kr:∀s,x=83::s->(ij s).2.2.2=0->((z.R (rX z c (1-d))).P (z.e c (1-d)).2).pe.both=true->(z.iQ c=true/\rX z c d≠rX z c (1-d))/\(z.R (rX z c (1-d))).K (ij s).1=μ ((ij s).2.1,(ij s).2.2.1):=λs hs mc hb=>by
   obtain⟨i1,i2⟩:=Z.WU hc (show 1-d<2 by omega) hb;rw[show 1-(1-d)=d by omega]at i2;refine⟨⟨i1,λw=>i2 w.symm⟩,?_⟩;rw[<-ahS i1 λw=>i2 w.symm];exact p2 c d hc hd i1 (λw=>i2 w.symm) x WL s (.inl hs) mc
  have hO:∀j p y,(z.R j).O p y=ν->((z.pop c d x l).R j).O p y=ν:=λj p y U=>by
   by_cases e:j=rX z c (1-d)
   ·rw[e]at U⊢;rw[k3];cases x with
    |nil=>exact U
    |cons u s=>
     by_cases h83:u=83;{subst h83;exact ahR (z.e c (1-d)).2 s (λa1 a2=>(kr s rfl a1 a2).2) p y U}
     ·by_cases h65:u=65
      ·subst h65;show(kC (z.R (rX z c (1-d))) (z.e c (1-d)).2 s).O p y=ν;unfold kC;simp only;split
       ·show(if _ then yD _ _ else _) y=ν;split
        ·rename_i g
         show(if y=_ then ν else _)=ν;split;{rfl};{rw[<-g.1];exact U}
        ·exact U
       ·exact U
      ·rw[IE _ _ s h83 h65];exact U
   ·rw[(k1 j e).2];exact U
  refine⟨⟨λj=>(V j).trans (p1 j),λc' d' jX M kT XQ w hw s hs mc=> ?_⟩,λc' d' jX M kT XQ y=> ?_⟩
  ·
   have Ta:c'<z.nc:=jX;have ahT:rX z c' d'≠rX z c' (1-d'):=XQ;show((z.pop c d x l).R (rX z c' d')).K _=_;rw[V];have CC:∀v,v∈(z.lv c d l).F c' d'->v∈z.F c' d':=λv hv=>by
    rw[sQ]at hv;split at hv;{rename_i e;rw[e.1,e.2,hF];simp[hv]};{exact hv}
   obtain⟨m1,_⟩:=qq (Sg.emp (z.e c (1-d)).1) (z.e c (1-d)).2 x;unfold AN.pop at hw;rw[vF]at hw;split at hw
   ·rename_i WW
    rcases av.1 hw with u|u
    ·exact p2 c' d' Ta M kT ahT w (CC w u) s hs mc
    ·cases m1 ((z.lv c d l).e c' d').2 with
     |none h=>rw[h]at u;simp at u
     |link s' _ _ _ h=>rw[h]at u;obtain⟨v,hv⟩:=rQ u;rw[hv]at hs;rcases hs with e|e<;>exact absurd (aC e).1 ew
     |JL u1 u2 s' _ _ _ _ h=>rw[h]at u;rw[ar.1 u]at hs;rcases hs with e|e<;>exact absurd (aC e).1 ew
     |heard s' vE hp' _ Tq qo _ _ h=>
      rw[h]at u;have hw':=ar.1 u;have hv:oA (ij s').1 (ij s').2.1 (ij s').2.2.1=0:=pO (by rw[<-Tq]);have TC:s=rh (ij s').1 (ij s').2.1 (ij s').2.2.1:=by
       rw[hw']at hs;rcases hs with e|e
       {exact absurd (aC e).1 ew};{exact(aC e).2.symm}
      rw[TC,nP _ _ _ hv];have zU:=Z.env.i.qQ.ds c' d' c (1-d) Ta M hc dZ (aV WW.2 hp');rw[zU.1,zU.2];exact(kr s' vE Tq qo).2
   ·exact p2 c' d' Ta M kT ahT w (CC w hw) s hs mc
  ·
   rcases p3 c' d' jX M kT XQ y with g|⟨q,q1,q2⟩
   ·exact .inl (hO _ _ _ g)
   ·have Ta:c'<z.nc:=by rw[G.2.1];exact jX
    have Q:=hB.r _ (h.s.env.i.qQ.en c' d' jX M).1;have hv:=Q.1.val y q q1;have hzX:(z.R (rX z c' d')).K y=μ q:=by rw[p1,Y];exact q1
    have hzZ:(z.R (rX z c' (1-d'))).K y=μ q:=by rw[p1,Y,<-Nx c' d' jX M kT XQ];exact q1
    rcases q2 with q2|q2
    ·by_cases e:c'=c/\d'=d
     ·obtain⟨z1,z2⟩:=e;subst z1 z2;rw[hF]at q2;rcases aO.1 q2 with v|v
      {right;refine⟨q,q1,.inr ?_⟩;have oS:=Z.pb c' (1-d') hc dZ (by rw[G.2.2.2];exact kT) (by rw[Y,Y,show 1-(1-d')=d' by omega];exact λw=>XQ w.symm);have h9:((z.R (z.e c' (1-d')).1).P (z.e c' (1-d')).2).L.st=9:=Z.env.o c' (1-d') hc dZ (by rw[G.2.2.2];exact kT);have hp:=nP _ _ _ hv;have Vx:=ZQ (Sg.emp (z.e c' (1-d')).1) (z.e c' (1-d')).2 (rh y q.1 q.2) (by rw[hp]) oS.2.1 h9 (by rw[hp];exact hzZ);rw[hp]at Vx;rw[<-v];unfold AN.pop;rw[vF,yS,ai ⟨⟨hc,dZ⟩,rfl⟩,Vx];simp};{right;obtain⟨em,f⟩:=J4 c' d' hc hd;rw[ai ⟨rfl,rfl⟩]at f;exact⟨q,q1,.inl (by rw[f];simp[v])⟩}
     ·right;obtain⟨em,f⟩:=J4 c' d' Ta M;rw[af e]at f;exact⟨q,q1,.inl (by rw[f];simp[q2])⟩
    ·by_cases e:c'=c/\1-d'=d
     ·obtain⟨z1,z2⟩:=e;subst z1;have G0:1-d=d':=dZ;rw[z2,hF]at q2;rcases aO.1 q2 with v|v
      ·left;have hX:rX a c' d'=rX z c' (1-d):=by rw[Y,G0]
       rw[hX,k3,<-v];show(kC (z.R (rX z c' (1-d))) (z.e c' (1-d)).2 (rh y q.1 q.2)).O (a.e c' d').2 y=ν;have hp:=nP _ _ _ hv;unfold kC;simp only;rw[hp];simp only;rw[ai trivial];have hK0:newF (z.R (rX z c' (1-d))).K y q.1 q.2=0:=by rw[G0,n9 hzX];exact n8 _ _
       show(if(a.e c' d').2=(z.e c' (1-d)).2/\0<=newF (z.R (rX z c' (1-d))).K y q.1 q.2 then yD ((z.R (rX z c' (1-d))).O (z.e c' (1-d)).2) y else _) y=ν;rw[ai ⟨by rw[G.2.2.1,G0],by rw[hK0];exact Int.le_refl _⟩];show(if y=y then ν else _)=ν;rw[ai rfl]
      ·right;obtain⟨em,f⟩:=J4 c' (1-d') hc dZ;rw[ai ⟨rfl,z2⟩]at f;exact⟨q,q1,.inr (by rw[f];simp[v])⟩
     ·right;obtain⟨em,f⟩:=J4 c' (1-d') Ta dZ;rw[af e]at f;exact⟨q,q1,.inr (by rw[f];simp[q2])⟩
 have H:∀c d,rX b c d=rX a c d:=λc d=>by unfold rX;rw[e3]
 refine⟨g1,λc d hc hd hi hl=> ?_,λc d hc hd hi hl y=> ?_⟩;{rw[g1,g1,H,H];exact Nx c d (by rw[<-e2];exact hc) hd (by rw[<-e4];exact hi) (by rw[<-H,<-H];exact hl)}
 ·have:=g3 c d (by rw[<-e2];exact hc) hd (by rw[<-e4];exact hi) (by rw[<-H,<-H];exact hl) y;rw[H,e3];rcases this with g|⟨q,_,g|g⟩
  {exact g};{rw[h1 c d (by rw[<-e2];exact hc) hd]at g;simp at g};{rw[h1 c (1-d) (by rw[<-e2];exact hc) dZ]at g;simp at g}
structure Fl(D N k:Nat)(y:iM):Prop where
 ok:j3 y D 0
 g:GN y
 f:jA y
 e:Env N k (iI y)
 s:Still y
theorem Fl.st(h:Fl D N k y):St D N k y:=⟨h.ok,h.g,h.f,h.e.i⟩
theorem Fl.nil(h:Fl D N k y)(c d:Nat)(hc:c<(iI y).nc)(hd:d<2):(iI y).F c d=[] :=h.s.f c d hc hd
theorem Fl.round {D N k:Nat} {y:iM} (h:Fl D N k y)(Z:D<=800000000)(M:N+144<1000000)(H:k+1<=126):∃m,xR (mP (iI y).n) (iI y) m/\vL m (iI y.round)/\Fl (D+1300000) (N+144) k y.round/\∀c d,c<y.nc->d<2->(y.C c).iQ=true->mM (iI y.round) c d=jg ((rX (iI y) c d:Int)+1) ((rX (iI y) c (1-d):Int)+1) (iJ (mM (iI y) c (1-d))).who:=by
 obtain⟨m,V,U,Q⟩:=h.st.light h.s Z M H;obtain⟨_,len,_⟩:=pz y.n;have n6:=h.ok.n6;have hl:N+8*(mP (iI y).n).length<1000000:=by show N+8*(mP y.n).length<_;rw[len];omega
 have E:∀c d,c<(iI y).nc->d<2->(iI y.round).F c d=[] :=λc d hc hd=>Q.f c d (by rw[(kI y).2.1];exact hc) hd;obtain⟨Y,G⟩:=CB (a:=iI y) V U h.e hl dZ h.nil E;refine⟨m,V,U,⟨h.ok.round Z,h.g.round h.ok Z,h.f.round h.ok Z,⟨Y.i.mono (by show N+8*(mP y.n).length<=_;rw[len];omega) λ_=>Nat.le_refl _,Y.o,Y.nl⟩,Q⟩,λc d hc hd hi=>G c d hc hd hi⟩
theorem St.fl(h:St D N k y)(hD:D<=780000000)(hN:N+20*144<1000000)(G:k+8<=126):Fl (D+1300000*7) (N+144*7) (k+7) (lK y 7):=by
 have Q:=h.opens dZ dZ G 6 (Nat.le_refl _);simp only[Nat.reduceAdd,Nat.reduceSub]at Q;obtain⟨Z,Y,M⟩:=Q;obtain⟨H,V,_,U⟩:=xK y 7;obtain⟨z,E⟩:=gg (lK y 7);rw[E]at Z Y M H V U⊢;exact⟨Z.ok,Z.g,Z.f,⟨Z.i,λc d hc hd hi=>(M c (by rw[<-V];exact hc) (by rw[<-(U c).2];exact hi)).open hd,λc d hc hd x hx=>by rw[Y.f c d hc hd]at hx;simp at hx⟩,Y⟩
structure Fs(D N k:Nat)(y:iM):Prop where
 ok:j3 y D 0
 g:GN y
 f:jA y
 s:Al N k [] (iI y)
 z:Still y
theorem Fs.fl(h:Fs D N k y):Fl D N k y:=⟨h.ok,h.g,h.f,h.s.env,h.z⟩
theorem Fl.two(h:Fl D N k y)(hD:D<=790000000)(hN:N+3*144<1000000)(j:k+1<=126):Fs (D+1300000*2) (N+144*2) k (lK y 2):=by
 obtain⟨_,_,_,h1,p1⟩:=h.round dZ dZ j;obtain⟨_,_,_,Z,p2⟩:=h1.round dZ dZ j;obtain⟨s1,s2,_,Q⟩:=kI y;obtain⟨t1,t2,_,t4⟩:=kI y.round;have k8:∀c d,rX (iI y.round) c d=rX (iI y) c d:=λc d=>by show((y.round.C c).e d).1=_;rw[(Q c).1];rfl
 have V:∀c d,rX (iI y.round.round) c d=rX (iI y) c d:=λc d=>by show((y.round.round.C c).e d).1=_;rw[(t4 c).1,(Q c).1];rfl
 have vJ:(iI y.round.round).nc=y.nc:=t2.trans s2;have u:∀c,(iI y.round.round).iQ c=(y.C c).iQ:=λc=>((t4 c).2).trans (Q c).2;obtain⟨X,hX⟩:=Z.e.i.lk;obtain⟨B,hB⟩:=Z.e.i.own;have M:∀c d,c<(iI y.round.round).nc->d<2->(mM (iI y.round.round) c d).who=0->(mM (iI y.round.round) c d).both=false:=λc d hc hd U=>by
  have E:=Z.e.i.qQ.en c d hc hd;have hr:=hB.r _ E.1;have G:=hr.2.1.pe ((iI y.round.round).e c d).2 (by rw[hr.2.2.2.2];exact E.2);cases hb:(mM (iI y.round.round) c d).both;{rfl};{have:=G.both hb;unfold mM at U;omega}
 have Y:∀c d,c<y.nc->d<2->(y.C c).iQ=true->mM (iI y.round.round) c d=jg ((rX (iI y) c d:Int)+1) ((rX (iI y) c (1-d):Int)+1) (iJ (jg ((rX (iI y) c (1-d):Int)+1) ((rX (iI y) c d:Int)+1) (iJ (mM (iI y) c d)).who)).who:=λc d hc hd hi=>by
  rw[p2 c d (by rw[s2];exact hc) hd (by rw[(Q c).2];exact hi),p1 c (1-d) hc dZ hi,k8,k8,show 1-(1-d)=d by omega]
 refine⟨Z.ok.mono dZ (Nat.le_refl _),Z.g,Z.f,⟨⟨Z.e.i.mono dZ λ_=>Nat.le_refl _,Z.e.o,Z.e.nl⟩,λc d hc hd hi hl=> ?_,λc d hc hd Ap=> ?_,λc d hc hd _ _ x hx=> ?_,λi p hi G ll=> ?_⟩,Z.s⟩;{rw[show(iI (lK y 2))=iI y.round.round from rfl]at*;rw[V,V]at hl;rw[Y c d (by rw[<-vJ];exact hc) hd (by rw[<-u];exact hi),V];have jt:¬((rX (iI y) c (1-d):Int)+1=(rX (iI y) c d:Int)+1):=dZ;have H:¬((rX (iI y) c d:Int)+1=(rX (iI y) c (1-d):Int)+1):=dZ;unfold jg;rw[af jt,af H];unfold iJ;rw[af (by show¬(4:Int)<=1;decide)];refine⟨rfl,gU,?_⟩;rw[af gU];exact Int.le_refl _}
 ·rw[show(iI (lK y 2))=iI y.round.round from rfl]at*;have U:(mM (iI y.round.round) c d).who=0:=by
   cases hi:(iI y.round.round).iQ c;{by_cases g:(mM (iI y.round.round) c d).who=0;{exact g};{have:=Z.e.i.fl.gate c d hc hd g;have:=(hX.dn c hc hi d hd).2.1;omega}}
   ·have hl:rX (iI y) c d=rX (iI y) c (1-d):=by
     rcases Ap with g|g
     {rw[hi]at g;exact absurd g gU};{rw[V,V]at g;exact g}
    rw[Y c d (by rw[<-vJ];exact hc) hd (by rw[<-u];exact hi)];unfold jg;rw[ai (by rw[hl])];rfl
  exact⟨U,M c d hc hd U⟩
 {rw[show(iI (lK y 2))=iI y.round.round from rfl]at*;rw[Z.s.f c d hc hd]at hx;simp at hx};{have:=Z.ok.idle i p hi G λc d hc hd=>ll c d hc hd;have Y:((y.round.round.R i).P p).pe=nobody:=this.pe;exact⟨this.st,by show((y.round.round.R i).P p).pe.who=0;rw[Y];rfl,by show((y.round.round.R i).P p).pe.both=false;rw[Y];rfl⟩}
theorem Fs.round {D N k:Nat} {y:iM} (h:Fs D N k y)(Q:D<=800000000)(M:N+144<1000000)(H:k+1<=126):∃m,FN N k (iI y) m (iI y.round)/\Fs (D+1300000) (N+144) k y.round:=by
 obtain⟨m,V,U,Z,_⟩:=h.fl.round Q M H;obtain⟨_,len,_⟩:=pz y.n;have n6:=h.ok.n6;have hl:N+8*(mP (iI y).n).length<1000000:=by show N+8*(mP y.n).length<_;rw[len];omega
 have Y:=FN.of h.s V U hl dZ;have hs:=Y.sta h.fl.nil λc d hc hd=>Z.nil c d (by show c<y.round.nc;rw[(kI y).2.1];exact hc) hd;refine⟨m,Y,Z.ok,Z.g,Z.f,?_,Z.s⟩;have G:N+8*(mP (iI y).n).length<=N+144:=by show N+8*(mP y.n).length<=_;rw[len];omega
 exact⟨⟨hs.env.i.mono G λ_=>Nat.le_refl _,hs.env.o,hs.env.nl⟩,hs.pb,hs.pn,hs.hh,hs.id⟩
theorem Am(y:iM)(i:Nat):∀j,lK y (i+j)=lK (lK y i) j
 |0=>rfl
 |j+1=>by show(lK y (i+j)).round=(lK (lK y i) j).round;rw[Am y i j]
theorem Fs.many {D N k:Nat} {y:iM} (h:Fs D N k y)(Y:k+1<=126):∀j,D+1300000*j<=800000000->N+144*(j+1)<1000000->Fs (D+1300000*j) (N+144*j) k (lK y j)
 |0,_,_=>h
 |j+1,hD,hN=>by
  have Q:=h.many Y j dZ dZ;obtain⟨m,_,Z⟩:=Q.round dZ dZ Y;have V:D+1300000*j+1300000=D+1300000*(j+1):=dZ;have U:N+144*j+144=N+144*(j+1):=dZ;rw[V,U]at Z;exact Z
structure Fin(D N k:Nat)(y:iM):Prop where
 s:Fs D N k y
 e:EqA (iI y)
 o:OwN (iI y)
theorem Fin.round {D N k:Nat} {y:iM} (h:Fin D N k y)(Y:D<=800000000)(V:N+144<1000000)(U:k+1<=126):Fin (D+1300000) (N+144) k y.round/\∀j,((iI y.round).R j).K=((iI y).R j).K:=by
 obtain⟨m,Q,Z⟩:=h.s.round Y V U;obtain⟨M,H,p3⟩:=Q.paid h.s.fl.nil (λc d hc hd=>Z.fl.nil c d (by show c<y.round.nc;rw[(kI y).2.1];exact hc) hd) h.e;exact⟨⟨Z,H,p3⟩,M⟩
theorem Fs.fin(h:Fs D N k y)(U:k+1<=126)(hD:D+1300000*14<=800000000)(hN:N+144*15<1000000):Fin (D+1300000*13) (N+144*13) k (lK y 13):=by
 have run:Run k 12 λj=>iI (lK y j):=by
  refine⟨λj E=> ?_,λj E c d hc hd=> ?_⟩;{obtain⟨m,Q,_⟩:=(h.many U j dZ dZ).round dZ dZ U;exact⟨_,m,Q⟩};{exact(h.many U j dZ dZ).fl.nil c d hc hd}
 have Z:=h.many U 12 dZ dZ;have heq:=run.eqA (Nat.le_refl _);have G:lK y 13=(lK y 12).round:=rfl;have V:EqA (iI (lK y 12)):=heq;rw[G];obtain⟨z,u⟩:=gg (lK y 12);rw[u]at Z V⊢;obtain⟨m,Q,Y⟩:=Z.round dZ dZ U;obtain⟨_,p2,p3⟩:=Q.paid Z.fl.nil (λc d hc hd=>Y.fl.nil c d (by show c<z.round.nc;rw[(kI z).2.1];exact hc) hd) V;have M:D+1300000*12+1300000=D+1300000*13:=dZ;have H:N+144*12+144=N+144*13:=dZ;rw[M,H]at Y;exact⟨Y,p2,p3⟩
theorem Fin.many {D N k:Nat} {y:iM} (h:Fin D N k y)(Y:k+1<=126):∀j,D+1300000*j<=800000000->N+144*(j+1)<1000000->Fin (D+1300000*j) (N+144*j) k (lK y j)/\∀i,((iI (lK y j)).R i).K=((iI y).R i).K
 |0,_,_=>⟨h,λ_=>rfl⟩
 |j+1,hD,hN=>by
  obtain⟨Q,k1⟩:=h.many Y j dZ dZ;obtain⟨Z,k2⟩:=Q.round dZ dZ Y;have V:D+1300000*j+1300000=D+1300000*(j+1):=dZ;have U:N+144*j+144=N+144*(j+1):=dZ;rw[V,U]at Z;exact⟨Z,λi=>(k2 i).trans (k1 i)⟩
theorem St.settled(h:St D N k y)(hD:D<=600000000)(hN:N+50*144<1000000)(H:k+8<=126):Fin (D+1300000*45) (N+144*45) (k+7) (lK y 45):=by
 have Q:=h.fl dZ dZ H;have M:=Q.two dZ dZ dZ;have Y:=M.fin dZ dZ dZ;have Z:=(Y.many dZ 23 dZ dZ).1;rw[show lK (lK (lK (lK y 7) 2) 13) 23=lK y 45 by rw[<-Am,<-Am,<-Am]]at Z;have V:D+1300000*7+1300000*2+1300000*13+1300000*23=D+1300000*45:=dZ;have U:N+144*7+144*2+144*13+144*23=N+144*45:=dZ;rw[V,U]at Z;exact Z
theorem Tb {many:Nat} (Z:j3 (jM many L) D 0):St D 2 0 (jM many L):=by
 have E:∀i,i<many->(1:Int)<=(i:Int)+1/\(i:Int)+1<=6:=λi hi=>by have:=Z.n6;have:(jM many L).n=many:=rfl;omega
 have U:∀i p,i<many->p<3->1<=pg L i p/\pg L i p<=20:=λi p hi j=>Z.ms i p hi j;have hF:∀c d,(iI (jM many L)).F c d=[] :=λc d=>by
  show(if c<L.length/\d<2 then tU (jM many L) c d else [])=[]
  split;{rfl};{rfl}
 have hRr:∀i,(iI (jM many L)).R i=jO ((i:Int)+1) 3 (pg L i):=λi=>rfl;have H:∀c d,mM (iI (jM many L)) c d=nobody:=λc d=>rfl;have u:∀(i:Nat) (x:Int) (q:PS),(jO ((i:Int)+1) 3 (pg L i)).K x=μ q->x=(i:Int)+1/\q=(1,[]):=λi x q h=>by
  have V:(if x=(i:Int)+1 then μ ((1:Int),([] :List jJ))else ν)=μ q:=h;split at V;{rename_i e;injection V with V;exact⟨e,V.symm⟩};{exact absurd V gU}
 have jm:∀i,i<many->Own (jO ((i:Int)+1) 3 (pg L i)):=λi hi=>by
  refine⟨λp x q h=>h,λx q h=> ?_,?_⟩;{obtain⟨Q,Y⟩:=u i x q h;rw[Q,Y];have:=E i hi;unfold oA;rw[af dZ,af gU];rfl}
  ·have Q:CY (jO ((i:Int)+1) 3 (pg L i)).K (jO ((i:Int)+1) 3 (pg L i)).id=[] :=by
    show(match (if(i:Int)+1=(i:Int)+1 then some ((1:Int),([] :List jJ))else none)with|none=>[] |some q=>q.2)=_;rw[ai rfl]
   rw[Q];have Y:∀n k,jQ (jO ((i:Int)+1) 3 (pg L i)).P n k=ν:=λn k=>by
    induction k with
    |zero=>rfl
    |succ k ih=>unfold jQ;rw[af (λh=>absurd h.1 (show¬false=true by simp)),ih]
   unfold jx;simp only[Y,Option.map_none];rfl
 refine⟨Z,Fe many L,Ox many L,Z.qQ,wR _,⟨1,λi hi=>⟨jm i hi,zQ (E i hi) (U i · hi),λx q h=> ?_,rfl,rfl⟩,λc d _ _ x hx=> ?_,?_,Nat.le_refl _,U⟩,⟨λ_ _ _=>false,λc hc hi=> ?_,λc hc hi d hd=> ?_⟩,?_⟩;{obtain⟨_,Y⟩:=u i x q h;rw[Y];exact Int.le_refl _};{rw[hF]at hx;simp at hx}
 ·have w0:(iI (jM many L)).W sw=0:=by
   unfold AN.W;rw[sT (g:=λ_=>0) λx _=>by show sm sw ((iI (jM many L)).F x.1 x.2)=0;rw[hF];rfl];generalize SL (iI (jM many L)).nc=m
   induction m with
   |nil=>rfl
   |cons x l ih=>simpa[sm]using ih
  have c0:sm (λi=>qX ((iI (jM many L)).R i)) (fW (iI (jM many L)).n)=0:=by
   rw[sT (g:=λ_=>0) λi _=>by rfl];generalize fW (iI (jM many L)).n=m
   induction m with
   |nil=>rfl
   |cons x l ih=>simpa[sm]using ih
  omega
 {exact absurd (show false=true from hi) gU};{have G:=Z.en c d hc hd;have M:=Z.n6;obtain⟨z1,z2,z3⟩:=Mr (i:=((iI (jM many L)).e c d).1) (p:=((iI (jM many L)).e c d).2) (Nat.lt_of_lt_of_le G.1 M) G.2 (pg L ((iI (jM many L)).e c d).1);have hl:j0 (iI (jM many L)) c d=(Hu ((((iI (jM many L)).e c d).1:Int)+1) (pg L ((iI (jM many L)).e c d).1) ((iI (jM many L)).e c d).2).L:=rfl;rw[hl];exact⟨z1,z2,by rw[z3];exact Int.natCast_nonneg _,hF c d⟩};{refine⟨λc d _ _ h=>absurd (by rw[H];rfl) h,λc d _ _ h=>absurd (by rw[H];rfl) h,λc d _ _ x hx=> ?_,λc d _ _ h=> ?_⟩;{rw[hF]at hx;simp at hx};{rw[H]at h;exact absurd h (by simp[nobody])}}
def kS(r s:iN):Prop:=∀p,(s.P p).m=(r.P p).m
theorem kS.trans {r s t:iN} (h:kS r s)(g:kS s t):kS r t:=λp=>(g p).trans (h p)
theorem kS.meet(r:iN)(i:Nat)(q:lD):kS r (r.meet i q):=λp=>(kc r i q p).2.2.1
theorem kS.iU(r:iN)(i:Nat)(q:jv)(h:q.m=(r.P i).m):kS r (r.iU i q):=λp=>by
 rw[kO];split;{rename_i e;rw[e,h]};{rfl}
theorem kS.state(r:iN)(i:Nat)(s:List UInt8):kS r (jj r i s):=by
 unfold jj;simp only;split;{exact λ_=>rfl};{split;{unfold iN.behind;split<;>exact λ_=>rfl};{split;{exact λp=>(kS.iU _ i _ (sd _ _ _).1) p};{exact λ_=>rfl}}}
theorem kS.heard(r:iN)(i:Nat)(s:List UInt8):kS r (kC r i s):=by
 unfold kC;simp only;split<;>exact λ_=>rfl
theorem kS.send(r:iN)(t:zb):kS r (r.send t):=λp=>((np r t).2.2.2.2 p).1
theorem kS.link(h:Ke r)(i:Nat)(c:UInt8)(s:List UInt8):kS r (j1 r i c s):=λp=>((z9 h i c s).2.2.1 p).2.1
theorem kS.jN {r:iN} (h:Ke r)(i:Nat)(x:la):kS r (jN r i x):=by
 cases x with
 |nil=>exact λ_=>rfl
 |cons c s=>
  show kS r (r.take i c s);rw[lJ];refine(kS.link h i c s).trans ?_;split;{exact kS.meet _ _ _}
  ·unfold mB;split;{split;{exact kS.meet _ _ _};{exact λ_=>rfl}}
   ·split;{exact kS.state _ _ _}
    ·split;{exact kS.heard _ _ _}
     ·split
      ·unfold ry
       first
        |(split
          ·exact kS.send _ _
          ·exact λ_=>rfl)
        |exact kS.send _ _
      ·exact λ_=>rfl
theorem kS.iW(r:iN)(i:Nat):kS r (r.iW i):=by
 rw[k7];have Z:kS r (jb r i):=λp=>(lS r i p).1;split;{exact Z.trans (kS.meet _ _ _)};{exact(Z.trans (kS.meet _ _ _)).trans λp=>((pG _ i).2.2.2.2 p).1}
theorem kS.iH(r:iN)(i:Nat)(up:Bool):kS r (r.iH i up).1:=by
 unfold iN.iH;simp only;split;{exact λ_=>rfl};{refine(kS.iU r i _ ?_).trans (kS.meet _ _ _);unfold jv.iH;simp only;by_cases e:(kY (r.P i).L (if up=true then 0 else 1)).2.2≠0;{rw[ai e]};{rw[af e,(wF _ _).1]}}
def DI(a:AN):Prop:=∀i p,i<a.n->((a.R i).P p).m=a.ms i p
theorem DI.op {a:AN} (h:DI a)(i:Nat) {s:iN} (hs:kS (a.R i) s):DI (a.op i s):=λj p Z=>by
 show(((a.op i s).R j).P p).m=a.ms j p;rw[JW];split
 ·rename_i e
  subst e;exact(hs p).trans (h j p Z)
 ·exact h j p Z
theorem DI.nI {a:AN} (h:DI a)(c d:Nat)(up:Bool):DI (a.nI c d up):=h.op _ (kS.iH _ _ _)
theorem DI.step {a:AN} (s:mR a T S b)(Y:Norm a)(h:DI a):DI b:=by
 cases s with
 |lost hl=>
  obtain⟨e,_⟩:=hl;rw[e];exact h
 |tick i p hi hp=>exact h.op i (kS.iW _ _)
 |pop c d x l hc hd hF=>exact DI.op (a:=a.lv c d l) h _ (kS.jN (Y.emp _) _ _)
 |send i t tx hi Z h6 hl=>exact h.op i (kS.send _ _)
 |iH c hc hi h0 Z=>exact DI.nI (DI.nI h c 0 true) c 1 true
 |draw c hc hi=>exact DI.nI (DI.nI h c 0 false) c 1 false
 |anew i m hi hx=>
  intro j p V;show((jU a.R i (jO ((i:Int)+1) 3 (a.ms i)) j).P p).m=a.ms j p;by_cases e:j=i;{subst e;rw[iE];rfl};{rw[iC _ _ e];exact h j p V}
theorem DI.path {a:AN} (s:jT a T S b)(Z:Norm a)(h:DI a):DI b:=by
 induction s with
 |nil=>exact h
 |snoc p q ih=>exact DI.step q (p.norm Z) ih
theorem WX(many:Nat)(L:List ot):DI (iI (jM many L)):=λ_ _ _=>rfl
def InS(S:Nat->Prop)(H:Nat->HP):Prop:=∀x,x<7->(H x).far≠0->S x
theorem Tc {C D:kQ} {S:Nat->Prop} (G:∀x y,x<7->y<7->S x->C x y≠0->S y)(h:∀x y,x<7->y<7->S x->C x y=D x y)(r:Nat) {b:Nat} (hb:b<7)(U:n<7) {H:Nat->HP} (Z:InS S H):oZ C r b n H=oZ D r b n H/\InS S (oZ C r b n H):=by
 unfold oZ;by_cases Y:(H b).far=0;{rw[ai (.inl Y),ai (.inl Y)];exact⟨rfl,Z⟩}
 ·have V:=Z b hb Y;rw[<-h b n hb U V];refine⟨rfl,?_⟩;split;{exact Z}
  ·rename_i e
   split
   ·intro x hx hf;simp only[rk]at hf;split at hf
    ·rename_i Q
     rw[Q];exact G b n hb U V (λM=>e (.inr (.inl M)))
    ·exact Z x hx hf
   ·exact Z
theorem Mw {C D:kQ} {S:Nat->Prop} (Y:∀x y,x<7->y<7->S x->C x y≠0->S y)(h:∀x y,x<7->y<7->S x->C x y=D x y)(r:Nat) {b:Nat} (hb:b<7) {H:Nat->HP} (Z:InS S H):∀n,n<=7->pC C r b H n=pC D r b H n/\InS S (pC C r b H n)
 |0,_=>⟨rfl,Z⟩
 |n+1,hn=>by
  obtain⟨e,hi⟩:=Mw Y h r hb Z n dZ;obtain⟨U,V⟩:=Tc Y h r hb (show n<7 by omega) hi;refine⟨?_,V⟩;show oZ C r b n (pC C r b H n)=oZ D r b n (pC D r b H n);rw[<-e,U]
theorem Qn {C D:kQ} {S:Nat->Prop} (Y:∀x y,x<7->y<7->S x->C x y≠0->S y)(h:∀x y,x<7->y<7->S x->C x y=D x y)(r:Nat) {H:Nat->HP} (Z:InS S H):∀b,b<=7->CR C r H b=CR D r H b/\InS S (CR C r H b)
 |0,_=>⟨rfl,Z⟩
 |b+1,hb=>by
  obtain⟨e,hi⟩:=Qn Y h r Z b dZ;obtain⟨U,V⟩:=Mw Y h r (show b<7 by omega) hi 7 (Nat.le_refl _);refine⟨?_,V⟩;show pC C r b (CR C r H b) 7=pC D r b (CR D r H b) 7;rw[<-e,U]
theorem CF {C D:kQ} {S:Nat->Prop} (U:∀x y,x<7->y<7->S x->C x y≠0->S y)(h:∀x y,x<7->y<7->S x->C x y=D x y) {r:Nat} (V:r<7)(Y:S r):∀k,jw C r k=jw D r k/\InS S (jw C r k)
 |0=>by
  refine⟨?_,?_⟩
  ·funext x
   show lz C r 7 x=lz D r 7 x;unfold lz;by_cases hx:x<7;{rw[h r x V hx Y]};{rw[af (λe=>hx e.1),af (λe=>hx e.1)]}
  ·intro x hx hf;refine U r x V hx Y λe=>hf ?_;show(lz C r 7 x).far=0;unfold lz;rw[af (by rw[e];exact λZ=>absurd Z.2 ew)];rfl
 |k+1=>by
  obtain⟨e,hi⟩:=CF U h V Y k;obtain⟨Z,Q⟩:=Qn U h r hi 7 (Nat.le_refl _);refine⟨?_,Q⟩;show CR C r (jw C r k) 7=CR D r (jw D r k) 7;rw[<-e,Z]
theorem Td {C D:kQ} {S:Nat->Prop} (Z:∀x y,x<7->y<7->S x->C x y≠0->S y)(h:∀x y,x<7->y<7->S x->C x y=D x y) {r:Nat} (U:r<7)(V:S r):pY (kK C) r=pY (kK D) r:=by
 unfold pY;have Y:∀x y,x<7->y<7->S x->kK C x y=kK D x y:=λx y hx hy hs=>by
  unfold kK;rw[<-h x y hx hy hs];by_cases e:C x y=0;{rw[e];simp};{rw[<-h y x hy hx (Z x y hx hy hs e)]}
 rw[(CF (λx y hx hy hs hc=>Z x y hx hy hs (λe=>hc (by unfold kK;rw[e];simp))) Y U V 6).1]
def Least(S:Int->Prop)(v:Int):Prop:=(v=0/\∀m,¬S m) \/(S v/\∀m,S m->v<=m)
theorem Least.uniq {S Z:Int->Prop} {w:Int} (h:Least S v)(g:Least Z w)(e:∀m,S m↔Z m):v=w:=by
 rcases h with⟨Y,U⟩|⟨Y,U⟩
 ·rcases g with⟨g1,_⟩|⟨g1,_⟩
  {rw[Y,g1]};{exact absurd ((e w).2 g1) (U w)}
 ·rcases g with⟨_,V⟩|⟨g1,V⟩
  {exact absurd ((e v).1 Y) (V v)};{have:=U w ((e w).2 g1);have:=V v ((e v).1 Y);omega}
theorem Least.pos {S:Int->Prop} (h:Least S v)(V:∀m,S m->1<=m):(0<v↔∃m,S m)/\0<=v:=by
 rcases h with⟨Z,Y⟩|⟨Z,Y⟩
 {exact⟨⟨λe=>dZ,λ⟨m,U⟩=>absurd U (Y m)⟩,dZ⟩};{exact⟨⟨λ_=>⟨v,Z⟩,λ_=>by have:=V v Z;omega⟩,by have:=V v Z;omega⟩}
def vz(P:Nat->jv)(n:Int)(k:Nat):Int:=match jQ P n k with|none=>0|some b=>(P b).m
theorem FO(P:Nat->jv)(n:Int):∀k,Least (λm=>∃p,p<k/\(P p).pe.both=true/\(P p).pe.who=n/\(P p).m=m) (vz P n k)/\(jQ P n k=ν->∀p,p<k->¬((P p).pe.both=true/\(P p).pe.who=n))
 |0=>⟨.inl ⟨rfl,λm ⟨p,M,_⟩=>absurd M dZ⟩,λ_ p M=>absurd M dZ⟩
 |k+1=>by
  obtain⟨ih,ih2⟩:=FO P n k;by_cases hb:Cb P n k
  ·have e:=xy hb;refine⟨?_,λU=>by rw[e]at U;exact absurd U gU⟩;have ev:vz P n (k+1)=(P k).m:=by unfold vz;rw[e]
   rw[ev];refine .inr ⟨⟨k,dZ,hb.1,hb.2.1,rfl⟩,?_⟩;rintro m ⟨p,M,Z,Y,rfl⟩;by_cases H:p=k;{rw[H];exact Int.le_refl _}
   ·have j:p<k:=dZ;have Q:=hb.2.2;unfold vz at ih;cases G:jQ P n k with
    |none=>exact absurd ⟨Z,Y⟩ (ih2 G p j)
    |some b=>
     rw[G]at Q ih;simp only[decide_eq_true_eq]at Q;simp only at ih;rcases ih with⟨_,V⟩|⟨_,V⟩
     {exact absurd ⟨p,j,Z,Y,rfl⟩ (V _)};{have:=V _ ⟨p,j,Z,Y,rfl⟩;omega}
  ·have e:=wv hb;have ev:vz P n (k+1)=vz P n k:=by unfold vz;rw[e]
   rw[ev,e];have key:jQ P n k=ν->¬((P k).pe.both=true/\(P k).pe.who=n):=λU E=>hb ⟨E.1,E.2,by rw[U]⟩;refine⟨?_,λU p M=> ?_⟩
   ·rcases ih with⟨i1,V⟩|⟨⟨p,i1,i3,i4,i5⟩,V⟩
    ·have hn:jQ P n k=ν:=by
      cases G:jQ P n k with
      |none=>rfl
      |some b=>
       have:=oB G;exact absurd ⟨b,this.1,this.2.1,this.2.2,rfl⟩ (V _)
     refine .inl ⟨i1,?_⟩;rintro m ⟨p,M,Z,Y,Q⟩;by_cases H:p=k;{subst H;exact key hn ⟨Z,Y⟩};{exact V m ⟨p,dZ,Z,Y,Q⟩}
    ·refine .inr ⟨⟨p,dZ,i3,i4,i5⟩,?_⟩;rintro m ⟨q,G,Z,Y,Q⟩;by_cases u:q=k
     ·subst u;have h5:¬(match jQ P n q with|none=>true|some b=>decide ((P q).m<(P b).m))=true:=λE=>hb ⟨Z,Y,E⟩;unfold vz;cases h:jQ P n q with
      |none=>exact absurd ⟨Z,Y⟩ (key h)
      |some b=>
       rw[h]at h5;simp only[decide_eq_true_eq]at h5;simp only;omega
     ·exact V m ⟨q,dZ,Z,Y,Q⟩
   ·by_cases H:p=k;{subst H;exact key U};{exact ih2 U p dZ}
theorem WY(P:Nat->jv)(n:Int)(k:Nat)(Z:∀p,p<k->1<=(P p).m)(j:Int):((jQ P n k).map λb=>(j,(P b).m))=if 0<vz P n k then μ (j,vz P n k)else ν:=by
 unfold vz;cases Y:jQ P n k with
 |none=>simp
 |some b=>
  have:=Z b (oB Y).1;simp only[Option.map_some];rw[ai dZ]
def Jn(iQ:Nat->Bool)(e:Nat->Nat->Nat×Nat)(x z c:Nat):Prop:=iQ c=true/\x≠z/\(((e c 0).1=x/\(e c 1).1=z) \/((e c 0).1=z/\(e c 1).1=x))
instance(iQ:Nat->Bool)(e:Nat->Nat->Nat×Nat)(x z c:Nat):Decidable (Jn iQ e x z c):=by unfold Jn;infer_instance
def IG(iQ:Nat->Bool)(e:Nat->Nat->Nat×Nat)(cm:Nat->Int)(x z:Nat):Nat->Int
 |0=>0
 |k+1=>if Jn iQ e x z k/\(IG iQ e cm x z k=0 \/cm k<IG iQ e cm x z k)then cm k else IG iQ e cm x z k
theorem uE(iQ:Nat->Bool)(e:Nat->Nat->Nat×Nat)(cm:Nat->Int)(x z:Nat):∀k,(∀c,c<k->1<=cm c)->Least (λm=>∃c,c<k/\Jn iQ e x z c/\cm c=m) (IG iQ e cm x z k)
 |0,_=>.inl ⟨rfl,λm ⟨p,G,_⟩=>absurd G dZ⟩
 |k+1,h=>by
  have ih:=uE iQ e cm x z k (λc hc=>h c dZ);have hk:=h k dZ;show Least _ (if Jn iQ e x z k/\(IG iQ e cm x z k=0 \/cm k<IG iQ e cm x z k)then cm k else IG iQ e cm x z k);generalize IG iQ e cm x z k=v at ih⊢;by_cases U:Jn iQ e x z k
  ·by_cases hv:v=0 \/cm k<v
   ·rw[ai ⟨U,hv⟩];refine .inr ⟨⟨k,dZ,U,rfl⟩,?_⟩;rintro m ⟨c,hc,Y,rfl⟩;by_cases Z:c=k;{rw[Z];exact Int.le_refl _}
    ·rcases ih with⟨_,V⟩|⟨⟨c2,i1,Q,M⟩,V⟩
     {exact absurd ⟨c,dZ,Y,rfl⟩ (V _)};{have:=V _ ⟨c,dZ,Y,rfl⟩;have:=h c2 dZ;omega}
   ·rw[af (λZ=>hv Z.2)];rcases ih with⟨i1,V⟩|⟨⟨c2,i1,Q,M⟩,V⟩
    {exact absurd (.inl i1) hv};{refine .inr ⟨⟨c2,dZ,Q,M⟩,?_⟩;rintro m ⟨c,hc,Y,rfl⟩;by_cases Z:c=k;{rw[Z];omega};{exact V _ ⟨c,dZ,Y,rfl⟩}}
  ·rw[af (λZ=>U Z.1)];rcases ih with⟨i1,V⟩|⟨⟨c2,i1,Q,M⟩,V⟩
   {refine .inl ⟨i1,?_⟩;rintro m ⟨c,hc,Y,H⟩;by_cases Z:c=k;{subst Z;exact U Y};{exact V m ⟨c,dZ,Y,H⟩}};{refine .inr ⟨⟨c2,dZ,Q,M⟩,?_⟩;rintro m ⟨c,hc,Y,rfl⟩;by_cases Z:c=k;{subst Z;exact absurd Y U};{exact V _ ⟨c,dZ,Y,rfl⟩}}
def II(a:AN)(cm:Nat->Int)(x:Nat):List jJ:=(fW a.n).filterMap λz=>if 0<IG a.iQ a.e cm x z a.nc then μ ((z:Int)+1,IG a.iQ a.e cm x z a.nc)else ν
def IJ(a:AN)(cm:Nat->Int):Int->Option PS:=λx=>if 1<=x/\x<=(a.n:Int)then μ (1,II a cm (x-1).toNat)else ν
def CmA(a:AN)(cm:Nat->Int):Prop:=∀c d,c<a.nc->d<2->a.ms (a.e c d).1 (a.e c d).2=cm c
theorem ad7(a:AN)(i p:Nat):(∃c d,c<a.nc/\d<2/\a.e c d=(i,p)) \/ ∀c d,c<a.nc->d<2->a.e c d≠(i,p):=by
 by_cases h:∃c d,c<a.nc/\d<2/\a.e c d=(i,p)
 {exact .inl h};{exact .inr λc d hc hd e=>h ⟨c,d,hc,hd,e⟩}
theorem FP {α:Type} (f:Nat->Option α)(n m:Nat)(h:∀j,n<=j->f j=ν)(hn:n<=m):(fW m).filterMap f=(fW n).filterMap f:=by
 obtain⟨k,rfl⟩:∃k,m=n+k:=⟨m-n,dZ⟩
 rw[List.range_add,bG];have:(List.map (λx=>n+x) (fW k)).filterMap f=[] :=by
  rw[cV];intro j Z;obtain⟨i,_,rfl⟩:=bH.1 Z;exact h _ dZ
 rw[this,aB]
theorem ahW(h:d<2):d=0 \/d=1:=dZ
theorem Jn.adj {a:AN} (hc:c<a.nc)(h:Jn a.iQ a.e x z c):Adj a x z:=by
 obtain⟨Y,V,Z|Z⟩:=h;{exact⟨c,0,hc,dZ,Y,Z.1,Z.2,V⟩};{exact⟨c,1,hc,dZ,Y,Z.2,Z.1,V⟩}
theorem Jn.of {a:AN} (hd:d<2)(hi:a.iQ c=true)(hx:rX a c d≠rX a c (1-d)):Jn a.iQ a.e (rX a c d) (rX a c (1-d)) c:=by
 refine⟨hi,hx,?_⟩;rcases ahW hd with rfl|rfl
 {exact .inl ⟨rfl,rfl⟩};{exact .inr ⟨rfl,rfl⟩}
theorem Al.joins {a:AN} (h:Al N k [] a)(E:tI a)(u:DI a) {cm:Nat->Int} (hC:CmA a cm)(hx:x<a.n)(z:Nat)(m:Int):
 (∃p,p<3/\((a.R x).P p).pe.both=true/\((a.R x).P p).pe.who=(z:Int)+1/\((a.R x).P p).m=m)↔∃c,c<a.nc/\Jn a.iQ a.e x z c/\cm c=m:=by
 constructor
 ·rintro⟨p,hp,G,h2,h3⟩;rcases ad7 a x p with⟨c,d,hc,hd,U⟩|hn
  ·have oS:mM a c d=((a.R x).P p).pe:=by unfold mM;rw[U]
   have H:rX a c d=x:=by unfold rX;rw[U]
   by_cases hl:a.iQ c=false \/rX a c d=rX a c (1-d);{have:=(h.pn c d hc hd hl).2;rw[oS,G]at this;exact absurd this ew}
   ·have hi:a.iQ c=true:=by
     cases e:a.iQ c with
     |true=>rfl
     |false=>exact absurd (.inl e) hl
    have j:rX a c d≠rX a c (1-d):=λe=>hl (.inr e);have hw:=(h.pb c d hc hd hi j).1;rw[oS,h2]at hw;have hz:rX a c (1-d)=z:=dZ;refine⟨c,hc,?_,?_⟩;{have:=Jn.of hd hi j;rw[H,hz]at this;exact this};{rw[<-hC c d hc hd,U,<-h3];exact(u x p hx).symm}
  ·have:=(h.id x p hx hp hn).2.2;rw[G]at this;exact absurd this ew
 ·rintro⟨c,hc,Q,rfl⟩;have key:∀d,d<2->rX a c d=x->rX a c (1-d)=z->∃p,p<3/\((a.R x).P p).pe.both=true/\((a.R x).P p).pe.who=(z:Int)+1/\((a.R x).P p).m=cm c:=by
   intro d hd Z Y;have M:=h.pb c d hc hd Q.1 (by rw[Z,Y];exact Q.2.1);unfold mM at M;have V:(a.e c d).1=x:=Z;refine⟨(a.e c d).2,(E.en c d hc hd).2,?_,?_,?_⟩;{rw[<-V];exact M.2.1};{rw[<-V,M.1,Y]};{rw[<-V,u _ _ (E.en c d hc hd).1,hC c d hc hd]}
  rcases Q.2.2 with⟨Z,Y⟩|⟨Z,Y⟩
  {exact key 0 dZ Z Y};{exact key 1 dZ Y Z}
theorem yZ {a:AN} (h:Al N k [] a)(E:DI a) {cm:Nat->Int} (hC:CmA a cm)(hx:x<a.n):II a cm x=jx (a.R x):=by
 have Z:=h.env.i.qQ;obtain⟨B,V⟩:=h.env.i.own;obtain⟨ahX,iO,_,pU,u⟩:=V.r x hx;have Y:∀c,c<a.nc->1<=cm c:=λc hc=>by
  rw[<-hC c 0 hc dZ];exact(V.ms _ _ (Z.en c 0 hc dZ).1 (Z.en c 0 hc dZ).2).1
 have key:∀z,IG a.iQ a.e cm x z a.nc=vz (a.R x).P ((z:Int)+1) 3:=λz=>
  (uE a.iQ a.e cm x z a.nc Y).uniq (FO _ _ 3).1 λm=>(h.joins Z E hC hx z m).symm
 unfold II jx;rw[u];have G:(fW 6).filterMap (λ(j:Nat)=>(jQ (a.R x).P ((j:Int)+1) 3).map λb=>((j:Int)+1,((a.R x).P b).m))=(fW 6).filterMap λz=>if 0<IG a.iQ a.e cm x z a.nc then μ ((z:Int)+1,IG a.iQ a.e cm x z a.nc)else ν:=by
  congr 1
  funext j
  rw[key j,WY _ _ _ (λp U=>(iO.m p dZ).1)]
 rw[G,FP _ a.n 6 _ Z.n6];intro j hj;have U:=(uE a.iQ a.e cm x j a.nc Y).pos (by rintro m ⟨c,hc,_,rfl⟩;exact Y c hc);rw[af];intro e;obtain⟨m,c,hc,Q,_⟩:=U.1.1 e;have a0:=(Z.en c 0 hc dZ).1;have a1:=(Z.en c 1 hc dZ).1;rcases Q.2.2 with⟨M,H⟩|⟨M,H⟩
 {omega};{omega}
theorem oq.ind {a:AN} (P:Nat->Prop)(Z:P x)(hs:∀w z,P w->Adj a w z->P z)(h:oq a x z):P z:=by
 obtain⟨k,w⟩:=h
 induction w with
 |here=>exact Z
 |stay _ ih=>exact ih Z
 |go _ g ih=>exact hs _ _ (ih Z) g
theorem EqA.conn {a:AN} (h:EqA a)(hc:oq a x z):(a.R z).K=(a.R x).K:=by
 refine oq.ind (λz=>(a.R z).K=(a.R x).K) rfl ?_ hc;rintro w v e ⟨c,d,V,U,Q,Z,Y,M⟩;have:=h c d V U Q (by rw[Z,Y];exact M);rw[Z,Y]at this;rw[<-this,e]
theorem FQ(h:K (x:Int)=μ q)(y:Nat):xY K x y=gAt q.2 y:=by
 unfold xY gAt;rw[h]
theorem ZR {es:List jJ} {y:Nat} (h:gAt es y≠0):∃m,((y:Int),m)∈es:=by
 unfold gAt at h;cases hf:es.find? λe=>e.1==(y:Int)with
 |none=>rw[hf]at h;exact absurd rfl h
 |some e=>
  have Z:=List.find?_some hf;have Y:=List.mem_of_find?_eq_some hf;refine⟨e.2,?_⟩;have V:e.1=(y:Int):=by simpa using Z
  rw[<-V];exact Y
theorem Te {a:AN} (h:Al N k [] a)(hE:EqA a)(u:DI a) {cm:Nat->Int} (hC:CmA a cm)(hx:x<a.n):mr (a.R x)=pY (kK (xY (IJ a cm))) (x+1):=by
 have U:=h.env.i.qQ;have hn6:=U.n6;obtain⟨B,Q⟩:=h.env.i.own;have H:∀i,i<a.n->oq a x i->∀y,xY (a.R x).K (i+1) y=gAt (jx (a.R i)) y/\xY (IJ a cm) (i+1) y=gAt (jx (a.R i)) y:=by
  intro i hi hc y;obtain⟨Y,iO,_,pU,hn⟩:=Q.r i hi;obtain⟨q,hq,_⟩:=iO.own;have Z:=Y.own;have e1:((i+1:Nat):Int)=(a.R i).id:=by rw[pU];push_cast;rfl
  constructor
  ·rw[<-hE.conn hc];have:(a.R i).K ((i+1:Nat):Int)=μ q:=by rw[e1];exact hq
   rw[FQ this];unfold CY at Z;rw[hq]at Z;simp only at Z;rw[Z]
  ·have:IJ a cm ((i+1:Nat):Int)=μ (1,jx (a.R i)):=by
    unfold IJ;rw[ai ⟨dZ,dZ⟩];have:(((i+1:Nat):Int)-1).toNat=i:=dZ;rw[this,yZ h u hC hi]
   rw[FQ this]
 unfold mr;have V:(a.R x).id.toNat=x+1:=by rw[(Q.r x hx).2.2.2.1];omega
 rw[V];refine Td (S:=λy=>∃i,i<a.n/\y=i+1/\oq a x i) ?_ ?_ dZ ⟨x,hx,rfl,0,.here x⟩
 ·rintro s y hs hy ⟨i,hi,rfl,hc⟩ jt;rw[(H i hi hc y).1,<-yZ h u hC hi]at jt;obtain⟨m,j⟩:=ZR jt;unfold II at j;obtain⟨z,hz,G⟩:=cE.1 j;have PZ:z<a.n:=aP.1 hz;split at G
  ·rename_i e
   have E:∀c,c<a.nc->1<=cm c:=λc hc=>by
    rw[<-hC c 0 hc dZ];exact(Q.ms _ _ (U.en c 0 hc dZ).1 (U.en c 0 hc dZ).2).1
   obtain⟨m2,c,hcc,hj,_⟩:=((uE a.iQ a.e cm i z a.nc E).pos (by rintro m ⟨c,hc,_,rfl⟩;exact E c hc)).1.1 e;have M:y=z+1:=by
    have:=congrArg (λo=>o.map Prod.fst) G;simp only[Option.map_some,Option.some.injEq]at this;omega
   exact⟨z,PZ,M,hc.trans (oq.adj (hj.adj hcc))⟩
  ·exact absurd G gU
 ·rintro s y hs hy ⟨i,hi,rfl,hc⟩;rw[(H i hi hc y).1,(H i hi hc y).2]
theorem CG(r:iN):jx r.core=jx r:=oP rfl λ_=>⟨rfl,rfl,rfl⟩
theorem FR:∀ {E:List (Int×Int×Int)} {x:Int×Int×Int},(nH E).Nodup->x∈E->kR E x.1 x.2.1=μ x.2.2
 |[],_,_,hx=>absurd hx gU
 |y::E,x,hn,hx=>by
  have Z:(nH E).Nodup/\(y.1,y.2.1)∉nH E:=by
   have:(nH (y::E))=(y.1,y.2.1)::nH E:=rfl;rw[this,bq]at hn;exact⟨hn.2,hn.1⟩
  show(if y.1=x.1/\y.2.1=x.2.1 then μ y.2.2 else kR E x.1 x.2.1)=μ x.2.2;rcases aO.1 hx with e|h
  {rw[e,ai ⟨rfl,rfl⟩]};{rw[af];{exact FR Z.1 h};{rintro⟨Y,V⟩;refine Z.2 ?_;rw[Y,V];exact List.mem_map_of_mem (f:=λx:Int×Int×Int=>(x.1,x.2.1)) h}}
def Kg(L:List ot)(c:Nat):Int:=(L.getD c ⟨1,0,1,0,1⟩).m
theorem mK.cm {many:Int} (h:mK many L)(c d:Nat)(hc:c<L.length):pg L ((nG L c).e d).1 ((nG L c).e d).2=Kg L c:=by
 have V:L[c] ∈L:=aF hc;obtain⟨_,Q,M⟩:=h.c _ V;have k1:=mX Q;have k2:=mX M;have U:Kg L c=L[c].m:=by
  unfold Kg;rw[aJ,ay hc];rfl
 rw[U,tG L c d hc];unfold pg;have m1:(L[c].a,L[c].pa,L[c].m)∈kt L:=by
  unfold kt;exact aT.2 ⟨L[c],V,gU⟩
 have m2:(L[c].b,L[c].pb,L[c].m)∈kt L:=by
  unfold kt;exact aT.2 ⟨L[c],V,gU⟩
 split;{have:=FR h.nd m1;have Z:(((L[c].a-1).toNat:Nat):Int)+1=L[c].a:=dZ;have Y:((L[c].pa.toNat:Nat):Int)=L[c].pa:=dZ;simp only;rw[Z,Y];simp only at this;rw[this];rfl};{have:=FR h.nd m2;have Z:(((L[c].b-1).toNat:Nat):Int)+1=L[c].b:=dZ;have Y:((L[c].pb.toNat:Nat):Int)=L[c].pb:=dZ;simp only;rw[Z,Y];simp only at this;rw[this];rfl}
structure Wh(m:Nat)(L:List ot)(D N k:Nat)(y:iM):Prop where
 s:St D N k y
 ma:DI (iI y)
 n:y.n=m
 nc:y.nc=L.length
 e:∀x,(y.C x).e=(nG L x).e
 ms:y.ms=pg L
theorem Wh.new {many:Int} (h:mK many L):Wh many.toNat L D 2 0 (jM many.toNat L):=
 ⟨Tb ((zV h).mono (Nat.zero_le _) (Nat.le_refl _)),WX _ _,rfl,rfl,λ_=>rfl,rfl⟩
theorem Wh.Qo {m:Nat} {D' N' k':Nat} {y':iM} (h:Wh m L D N k y)(hs:St D' N' k' y')(p:jT (iI y) T S (iI y')):Wh m L D' N' k' y':=by
 obtain⟨Z,Y,V,U⟩:=p.same;exact⟨hs,h.ma.path p (wR y),Z.trans h.n,Y.trans h.nc,λx=>(cu V x).trans (h.e x),U.trans h.ms⟩
theorem Wh.act {m:Nat} {L:List ot} {D N k:Nat} {y:iM} (h:Wh m L D N k y)(Z:D<=800000000)(Y:N+144<1000000)(V:k+1<=126)(v:AV):Wh m L (D+1300000) (N+144) (k+1) (rB y v):=by
 obtain⟨T,_,p⟩:=Mf h.s.f h.s.g h.s.ok Z v;exact h.Qo (h.s.act Z Y V v) p
theorem Wh.OM {m:Nat} {L:List ot} {D N k:Nat} {y:iM} (V:Nat->AV)(h:Wh m L D N k y):∀i,D+1300000*i<=800000000->N+144*(i+1)<1000000->k+i+1<=126->Wh m L (D+1300000*i) (N+144*i) (k+i) (pR y V i)
 |0,_,_,_=>h
 |i+1,hD,hN,hk=>by
  have ih:=Wh.OM V h i dZ dZ dZ;have:=ih.act dZ dZ dZ (V i);have Z:D+1300000*(i+1)=D+1300000*i+1300000:=dZ;have Y:N+144*(i+1)=N+144*i+144:=dZ;rw[Z,Y];exact this
theorem IK {D:Nat} (y:iM):∀j,(∀i,i<j->∃Z,Z<=D/\j3 (lK y i) Z 0/\jA (lK y i))->D<=800000000->∃T,jT (iI y) T [] (iI (lK y j))
 |0,_,_=>⟨[],.nil _⟩
 |j+1,h,hD=>by
  obtain⟨T,p⟩:=IK y j (λi hi=>h i dZ) hD;obtain⟨Z,h1,Y,V⟩:=h j dZ;have q:=yV V Y dZ;exact⟨_,p.trans q⟩
theorem St.WZ {D N k:Nat} {y:iM} (h:St D N k y):∀i,D+1300000*i<=800000000->j3 (lK y i) (D+1300000*i) 0/\jA (lK y i)
 |0,_=>⟨h.ok,h.f⟩
 |i+1,hD=>by
  obtain⟨Z,V⟩:=St.WZ h i dZ;have n6:=Z.n6;have Y:D+1300000*(i+1)=D+1300000*i+1300000:=dZ;rw[Y];exact⟨Z.round dZ,V.round Z dZ⟩
structure qt(m:Nat)(L:List ot)(iQ:Nat->Bool)(D N k:Nat)(z:iM):Prop where
 f:Fin D N k z
 ma:DI (iI z)
 n:z.n=m
 nc:z.nc=L.length
 e:∀x,(z.C x).e=(nG L x).e
 ms:z.ms=pg L
 iQ:∀x,(z.C x).iQ=iQ x
theorem Fin.st {D N k:Nat} {y:iM} (h:Fin D N k y):St D N k y:=h.s.fl.st
theorem Wh.settled {m:Nat} {L:List ot} {D N k:Nat} {y:iM} (h:Wh m L D N k y)(V:D<=600000000)(U:N+50*144<1000000)(Q:k+8<=126):qt m L (λx=>(y.C x).iQ) (D+1300000*45) (N+144*45) (k+7) (lK y 45):=by
 have hf:=h.s.settled V U Q;have M:=h.s.WZ;obtain⟨T,p⟩:=IK (D:=D+1300000*45) y 45 (λi hi=>⟨D+1300000*i,dZ,M i dZ⟩) dZ;have Z:=h.Qo hf.st p;obtain⟨_,_,_,Y⟩:=xK y 45;exact⟨hf,Z.ma,Z.n,Z.nc,Z.e,Z.ms,λx=>(Y x).2⟩
theorem qt.wh {m:Nat} {z:iM} (h:qt m L iQ D N k z):Wh m L D N k z:=⟨h.f.st,h.ma,h.n,h.nc,h.e,h.ms⟩
def vf(m:Nat)(L:List ot)(iQ:Nat->Bool)(x:Nat):List jJ:=(fW m).filterMap λz=>if 0<IG iQ (λc=>(nG L c).e) (Kg L) x z L.length then μ ((z:Int)+1,IG iQ (λc=>(nG L c).e) (Kg L) x z L.length)else ν
def wZ(m:Nat)(L:List ot)(iQ:Nat->Bool):Int->Option PS:=λx=>if 1<=x/\x<=(m:Int)then μ (1,vf m L iQ (x-1).toNat)else ν
theorem qt.a {m:Nat} {z:iM} (h:qt m L iQ D N k z):(iI z).n=m/\(iI z).nc=L.length/\(iI z).e=(λc=>(nG L c).e)/\(iI z).iQ=iQ/\(iI z).ms=pg L:=
 ⟨h.n,h.nc,funext h.e,funext h.iQ,h.ms⟩
theorem qt.cm {many:Int} {m:Nat} {L:List ot} {iQ:Nat->Bool} {D N k:Nat} {z:iM} (h:qt m L iQ D N k z)(hc:mK many L):CmA (iI z) (Kg L):=by
 obtain⟨a1,Z,Y,a4,V⟩:=h.a;intro c d hcc hd;rw[Y,V];exact hc.cm c d (by rw[Z]at hcc;exact hcc)
theorem qt.ahY {many:Int} {m:Nat} {z:iM} (h:qt m L iQ D N k z)(hc:mK many L)(hx:x<m):vf m L iQ x=jx (z.R x):=by
 have e:=yZ h.f.s.s h.ma (h.cm hc) (x:=x) (by rw[h.a.1];exact hx);obtain⟨Z,Y,V,U,a5⟩:=h.a;unfold II at e;rw[Z,Y,V,U]at e;exact e.trans (CG (z.R x))
theorem qt.amC {many:Int} {m:Nat} {z:iM} (h:qt m L iQ D N k z)(hc:mK many L)(hx:x<m):mr (z.R x)=pY (kK (xY (wZ m L iQ))) (x+1):=by
 have e:=Te h.f.s.s h.f.e h.ma (h.cm hc) (x:=x) (by rw[h.a.1];exact hx);obtain⟨Z,Y,V,U,a5⟩:=h.a;have Q:IJ (iI z) (Kg L)=wZ m L iQ:=by
  funext y
  unfold IJ II wZ vf;rw[Z,Y,V,U]
 rw[Q]at e;exact e
theorem Ax.round {w0:dX} {N:Nat} {X:Nat->Prop} {m nc i:Nat} {n:iM} {W:dX} (h:Ax w0 N X m nc i n W)(M:jf w0)(hi:i<=300):
 eX eY 54 #[π (μ ⟨N,0,ν⟩)] W λe w'=>e=ρ (τ #[])/\Ax w0 N X m nc (i+1) n.round w'/\∀b,X b->w'.heap[b]? =W.heap[b]? :=by
 obtain⟨hA,V,Y,u,hc⟩:=h;obtain⟨s1,j,_,_⟩:=kI n;refine(hA.call (E:=λe=>e=ρ (τ #[])) (n':=n.round) s1 λy Q U=> ?_).mono ?_;{rw[<-U];exact Bp y n (1300000*i) W Q (hA.tab M) Y dZ};{rintro e w' ⟨G,Z,H⟩;exact⟨G,⟨Z,V.round Y dZ,(Y.round dZ).mono dZ (Nat.le_refl _),s1.trans u,j.trans hc⟩,H⟩}
theorem FU {m:Nat} (h:Ax w0 N X m nc i y W)(E:jf w0)(hi:i<=200):
 eX eY 44 #[π (μ ⟨N,0,ν⟩)] W λe w'=>e=ρ (τ #[])/\Ax w0 N X m nc (i+45) (lK y 45) w'/\∀b,X b->w'.heap[b]? =W.heap[b]? :=by
 have H:∀k V,k<45->(Ax w0 N X m nc (i+k) (lK y k) V/\∀b,X b->V.heap[b]? =W.heap[b]?)->eX eY 54 #[π (μ ⟨N,0,ν⟩)] V λe w'=>e=ρ (τ #[])/\(Ax w0 N X m nc (i+(k+1)) (lK y (k+1)) w'/\∀b,X b->w'.heap[b]? =W.heap[b]?):=by
  rintro k V hk ⟨hA,hX⟩;refine(hA.round E dZ).mono ?_;rintro e w' ⟨he,h1,h2⟩;exact⟨he,h1,λb hb=>(h2 b hb).trans (hX b hb)⟩
 obtain⟨Q,Y⟩:∃Q:Nat->dX->Prop,Q=λk V=>Ax w0 N X m nc (i+k) (lK y k) V/\∀b,X b->V.heap[b]? =W.heap[b]? :=⟨_,rfl⟩
 have Z:∀k V,k<45->Q k V->eX eY 54 #[π (μ ⟨N,0,ν⟩)] V λe w'=>e=ρ (τ #[])/\Q (k+1) w':=by
  rw[Y];exact H
 have G:Q 0 W:=by rw[Y];exact⟨h,λ_ _=>rfl⟩
 have u:∀V,Q 45 V->Ax w0 N X m nc (i+45) (lK y 45) V/\∀b,X b->V.heap[b]? =W.heap[b]? :=λV hv=>by rw[Y]at hv;exact hv
 have HR:Hid _:=Z;have HE:Hid _:=u;have j:Hid (Q 0 W):=G;clear H Z G u h E Y
 go_in
 go_wp2
 go_loopw [2] (λx wr=>∃k:Nat,k<=45/\x=ι κ k/\Q k wr) (λx _=>45-(eZ x).toNat)
 case atStart=>exact⟨0,Nat.zero_le _,rfl,j.out⟩
 case round=>
  obtain⟨k,hk,rfl,U⟩:=hrel;obtain⟨V,rfl⟩:∃V,V=wr:=⟨_,rfl⟩
  by_cases kA:k<45
  ·have nL:(k:Int)<45:=dZ;have Z:=HR.out k V kA U;clear U;go_wp2_with(fail);refine Z.mono ?_;rintro e w3 ⟨rfl,hA3⟩;have M:Hid (Q (k+1) w3):=hA3;clear Z hA3
   go_wp2
   go_roundw
   case rel=>exact⟨k+1,dZ,by go_num,M.out⟩
   case measure=>simp[eZ];omega
  ·have xL:¬(k:Int)<45:=dZ;obtain rfl:k=45:=dZ;have HQ:Hid (Q 45 V):=U;clear U
   go_wp2
   first|go_end0|refine iK rfl rfl ?_
   exact⟨rfl,HE.out V HQ.out⟩
theorem Ax.ad8 {m:Nat} (h:Ax w0 N X m nc i y W)(hx:x<m):
 ∃R,(∀V,eB W V->eX eY 40 #[π (μ ⟨N,0,ν⟩),ι κ ((x:Int)+1)] V λe w'=>e=ρ (τ #[π (μ ⟨R,0,ν⟩),η])/\V=w')/\∀V,eB W V->eX eY 64 #[π (μ ⟨R,0,ν⟩)] V λe Q=>∃b c,e=ρ (σ b (mr (y.R x)).length c)/\HsN V Q b (mr (y.R x)).length (mr (y.R x))/\eB V Q:=by
 obtain⟨⟨⟨z,U,M,ha,hxx⟩,iL⟩,hG,H,Y,hc⟩:=h;refine⟨(z.z x).R,λV Z=> ?_,λV Z=> ?_⟩;{rw[<-M];exact EV z y x V (U.below Z) (by rw[Y];exact hx)};{exact Bf (z.z x) (y.R x) V ((U.below Z).rt x (by rw[Y];exact hx)) (H.ok x (by rw[Y];exact hx)).PE}
theorem Tf {m:Nat} (h:Ax w0 N X m nc i y W)(hx:x<m)(V:dX)(M:eB W V):
 eX eY 47 #[π (μ ⟨N,0,ν⟩),ι κ ((x:Int)+1)] V λe Z=>∃b c,e=ρ (σ b (mr (y.R x)).length c)/\HsN V Z b (mr (y.R x)).length (mr (y.R x))/\eB V Z:=by
 obtain⟨R,Y,U⟩:=h.ad8 hx;have k1:=Y V M;have k2:=U V M;clear Y U h;generalize mr (y.R x)=L at k2⊢
 go_in
 go_wp2_with(fail);refine k1.mono ?_;rintro e w1 ⟨rfl,rfl⟩;clear k1;go_wp2_with(fail);refine k2.mono ?_;rintro e Z ⟨b,c,rfl,Q,hb⟩;have HH:Hid _:=Q;have H:Hid _:=hb;clear k2 Q hb
 go_wp2
 go_ret;exact⟨b,c,rfl,HH.out,H.out⟩
structure W8(w wr:dX)(v:dY)(x:Nat)(out:List SV)(Es:Nat->List jJ):Prop where
 len:out.length=x
 row:Row wr 3 v x (Ld out)
 own:∀j,v.ownBlock=μ j->w.heap.size<=j
 el:∀j,j<x->∃s,out[j]? =μ s/\s.own=(j:Int)+1/\s.seq=1/\jc wr s.a s.n (Es j)/\kJ s.a s.cap/\s.n<=maxLen/\∀b,eh (σ s.a s.n s.cap)=μ b->w.heap.size<=b/\b<wr.heap.size/\v.ownBlock≠μ b
 nQ:eB w wr
theorem W8.below {w wr W':dX} {v:dY} {x:Nat} {out:List SV} {Es:Nat->List jJ} (h:W8 w wr v x out Es)(hb:eB wr W'):W8 w W' v x out Es:=by
 refine⟨h.len,h.row.below hb,h.own,λj E=> ?_,gh h.nQ hb⟩;obtain⟨s,V,U,Q,M,H,G,Z⟩:=h.el j E;exact⟨s,V,U,Q,M.below hb,H,G,λb Y=>⟨(Z b Y).1,Nat.lt_of_lt_of_le (Z b Y).2.1 hb.size,(Z b Y).2.2⟩⟩
theorem W8.step {W':dX} {v v':dY} {s:SV} (h:W8 w W v x out Es)(H:∀j,v.ownBlock=μ j->j<wr.heap.size)(G:W.grownBy W' v.ownBlock)
 (hr:Row W' 3 v' (x+1) (Ld out++ [ι κ s.own,ι κ s.seq,σ s.a s.n s.cap])) (hv:∀g,v'.ownBlock=μ g->v.ownBlock=μ g \/W.heap.size<=g)
 (h1:s.own=(x:Int)+1) (Q:s.seq=1) (ho:jc W s.a s.n (Es x)) (hn:kJ s.a s.cap) (hm:s.n<=maxLen) (hb:∀b,eh (σ s.a s.n s.cap)=μ b->w.heap.size<=b/\wr.heap.size<=b/\b<W.heap.size):W8 w W' v' (x+1) (out++ [s]) Es:=by
 have E:∀i,i<W.heap.size->v.ownBlock≠μ i->W'.heap[i]? =W.heap[i]? :=λi hi Q=>G.block i hi (λe=>Q e.symm);refine⟨by rw[az,h.len];rfl,?_,?_,λj u=> ?_,h.nQ.grown G h.nQ.size h.own⟩;{rw[Le];exact hr}
 ·intro j u;rcases hv j u with e|e
  {exact h.own j e};{exact Nat.le_trans h.nQ.size e}
 ·by_cases e:j=x
  ·subst e;refine⟨s,by rw[br (by rw[h.len];exact Nat.le_refl _),h.len,Nat.sub_self];rfl,h1,Q,?_,hn,hm,λb M=> ?_⟩;{refine ho.kept (cap:=s.cap) λk V=>E k (hb k V).2.2 (λZ=> ?_);have:=H k Z;have:=(hb k V).2.1;omega}
   ·obtain⟨c1,c2,c3⟩:=hb b M;refine⟨c1,Nat.lt_of_lt_of_le c3 G.size,λZ=> ?_⟩;rcases hv b Z with Y|Y
    {have:=H b Y;omega};{omega}
  ·obtain⟨t,a1,a2,a3,a4,a5,a6,U⟩:=h.el j dZ;refine⟨t,by rw[bz (by rw[h.len];omega)];exact a1,a2,a3,?_,a5,a6,λb M=> ?_⟩;{exact a4.kept (cap:=t.cap) λk V=>E k (U k V).2.1 (U k V).2.2}
   ·obtain⟨c1,c2,c3⟩:=U b M;refine⟨c1,Nat.lt_of_lt_of_le c2 G.size,λZ=> ?_⟩;rcases hv b Z with Y|Y
    {exact c3 Y};{omega}
def Qp(w:dX)(m:Nat)(Es:Nat->List jJ)(e:Ending)(w':dX):Prop:=
 ∃b c S,e=ρ (σ b m c)/\vT w' b m S Es/\(∀j,j<m->(S j).own=(j:Int)+1/\(S j).seq=1)/\eB w w'
theorem W8.done {ao:Option dW} {cp m:Nat} (h:W8 w wr (σ ao n cp) m out Es):n=m/\Qp w m Es (ρ (σ ao n cp)) wr:=by
 have u:n=m:=by
  rcases h.row.2 with⟨e,E⟩|⟨g,cap,e,_⟩
  {simp at e;omega};{simp at e;omega}
 refine⟨u,ao,cp,λj=>out.getD j SV.zero,by rw[u],⟨?_,λj V=> ?_⟩,λj V=> ?_,h.nQ⟩
 ·rcases h.row.2 with⟨e,E⟩|⟨g,cap,e,_,_,_,hc,_⟩
  ·exact .inl E
  ·refine .inr ⟨g,0,by simp at e;exact e.1,λj V=> ?_⟩;obtain⟨s,Z,_⟩:=h.el j V;obtain⟨b1,b2,b3⟩:=Jk out j s Z;have Y:out.getD j SV.zero=s:=by rw[aJ,Z];rfl
   rw[Y,Nat.zero_add];exact⟨hc _ _ b1,hc _ _ b2,hc _ _ b3⟩
 ·obtain⟨s,Z,U,Q,M,H,G,a7⟩:=h.el j V;have Y:out.getD j SV.zero=s:=by rw[aJ,Z];rfl
  rw[Y];exact⟨M,H,G⟩
 ·obtain⟨s,Z,U,Q,M,H,G,a7⟩:=h.el j V;have Y:out.getD j SV.zero=s:=by rw[aJ,Z];rfl
  refine⟨?_,?_⟩;{show(out.getD j SV.zero).own=_;rw[Y,U]};{show(out.getD j SV.zero).seq=_;rw[Y,Q]}
theorem W9 {many:Int} (h:mK many L)(iQ:Nat->Bool)(x z k:Nat)(Q:k<L.length):Jn iQ (λc=>(nG L c).e) x z k↔iQ k=true/\x≠z/\((L[k].a=(x:Int)+1/\L[k].b=(z:Int)+1) \/(L[k].a=(z:Int)+1/\L[k].b=(x:Int)+1)):=by
 obtain⟨_,M,H⟩:=h.c _ (aF Q);have k1:=mX M;have k2:=mX H;unfold Jn;simp only;rw[tG L k 0 Q,tG L k 1 Q,ai rfl,af ew];simp only;constructor;{rintro⟨Z,Y,⟨V,U⟩|⟨V,U⟩⟩;{exact⟨Z,Y,.inl ⟨dZ,dZ⟩⟩};{exact⟨Z,Y,.inr ⟨dZ,dZ⟩⟩}};{rintro⟨Z,Y,⟨V,U⟩|⟨V,U⟩⟩;{exact⟨Z,Y,.inl ⟨dZ,dZ⟩⟩};{exact⟨Z,Y,.inr ⟨dZ,dZ⟩⟩}}
theorem Xa(h:f k=ν):(fW (k+1)).filterMap f=(fW k).filterMap f:=by
 rw[bV,bG];simp[h]
theorem Xb {o:jJ} (h:f k=μ o):(fW (k+1)).filterMap f=(fW k).filterMap f++ [o] :=by
 rw[bV,bG];simp[h]
theorem ad9(f:Nat->Option jJ):∀k,((fW k).filterMap f).length<=k:=λk=>by
 have:=dF f (fW k)
 rwa [dc]at this
theorem Xc(m:Nat)(a:Option dW)(n cap g:Nat)(L:List ot)(iQ:Nat->Bool)(w:dX)(hL:zT w a L)(hl:L.length=n)(hc:mK (m:Int) L)(hi:qg w g 0 n (λk=>.bool (iQ k))):
 eX eY 45 #[ι κ (m:Int),σ a n cap,σ (μ ⟨g,0,ν⟩) n n] w λe w'=>Qp w m (vf m L iQ) e w':=by
 obtain⟨i0,MC,og,mZ,mc⟩:=aW infoState;obtain⟨i9,hi9,amD,amE,amF⟩:=aW zj;have hm6:=hc.m;have hn9:=hc.l;rw[hl]at hn9;have Xd:∀W k,eB w W->(hk:k<n)->∃A B M:Int,∃b off,a=μ ⟨b,off,ν⟩/\(∃pa pb:Int,W.cell? ⟨b,off+k*5,ν⟩=μ (ι κ A)/\W.cell? ⟨b,off+k*5+1,ν⟩=μ (ι κ pa)/\W.cell? ⟨b,off+k*5+2,ν⟩=μ (ι κ B)/\W.cell? ⟨b,off+k*5+3,ν⟩=μ (ι κ pb)/\W.cell? ⟨b,off+k*5+4,ν⟩=μ (ι κ M))/\W.cell? ⟨g,k,ν⟩=μ (.bool (iQ k))/\∀x z,IG iQ (λc=>(nG L c).e) (Kg L) x z (k+1)=if(iQ k=true/\x≠z/\((A=(x:Int)+1/\B=(z:Int)+1) \/(A=(z:Int)+1/\B=(x:Int)+1)))/\(IG iQ (λc=>(nG L c).e) (Kg L) x z k=0 \/M<IG iQ (λc=>(nG L c).e) (Kg L) x z k)then M else IG iQ (λc=>(nG L c).e) (Kg L) x z k:=by
  intro W k hW hk;have rL:k<L.length:=dZ;obtain⟨b,off,Dl,c0,c1,c2,c3,c4⟩:=(hL.below hW) k rL;have hci:=((hi.below dZ hW).cell k hk)
  rw[Nat.zero_add]at hci;refine⟨L[k].a,L[k].b,L[k].m,b,off,Dl,⟨_,_,c0,c1,c2,c3,c4⟩,hci,λx z=> ?_⟩;show(if Jn iQ (λc=>(nG L c).e) x z k/\_ then Kg L k else _)=_;have Gd:Kg L k=L[k].m:=by
   unfold Kg;rw[aJ,ay rL];rfl
  rw[Gd];refine ite_congr (propext ⟨λh=>⟨(W9 hc iQ x z k rL).1 h.1,h.2⟩,λh=>⟨(W9 hc iQ x z k rL).2 h.1,h.2⟩⟩) (λ_=>rfl) (λ_=>rfl)
 obtain⟨ls,hls⟩:∃ls:Nat->Nat->Nat->Int,ls=IG iQ (λc=>(nG L c).e) (Kg L):=⟨_,rfl⟩
 obtain⟨F,hF⟩:∃F:Nat->Nat->Option jJ,F=λx z=>if 0<ls x z n then μ ((z:Int)+1,ls x z n)else ν:=⟨_,rfl⟩
 obtain⟨Es,hEs⟩:∃Es:Nat->List jJ,Es=vf m L iQ:=⟨_,rfl⟩
 have hE2:∀x,Es x=(fW m).filterMap (F x):=λx=>by rw[hEs,hF,hls,<-hl];rfl
 have ah0:∀x z,ls x z 0=0:=λx z=>by rw[hls];rfl
 have qu:∀x z,0<=ls x z n:=λx z=>by
  rw[hls,<-hl];refine((uE iQ _ (Kg L) x z L.length ?_).pos ?_).2
  all_goals
   have hp:∀c,c<L.length->1<=Kg L c:=λc hcc=>by
    unfold Kg;rw[aJ,ay hcc];exact(hc.c _ (aF hcc)).1.1
   first
    |exact hp
    |(rintro m ⟨c,hcc,_,rfl⟩;exact hp c hcc)
 rw[<-hEs];simp only[<-hls]at Xd;have HRd:Hid _:=Xd;have HE2:Hid _:=hE2;have HF:Hid _:=hF;have HLS:Hid _:=ah0;have amH:Hid _:=qu;clear Xd hE2 hF ah0 qu hls hEs hL hc hi hl
 go_in
 go_wp2
 go_loopw [7,8] (λv i wr=>∃(x:Nat) (ao:Option dW) (k cp:Nat) (out:List SV),x<=m/\v=σ ao k cp/\i=ι κ ((x:Int)+1)/\W8 w wr (σ ao k cp) x out Es) (λ_ i _=>m+1-(eZ i).toNat)
 case atStart=>exact⟨0,ν,0,0,[],Nat.zero_le _,rfl,rfl,⟨rfl,Row.nil w 3,λj hj=>mY hj,λj hj=>absurd hj dZ,au _ _⟩⟩
 case round=>
  obtain⟨x,ao,k0,cp,out,hx,rfl,rfl,hI⟩:=hrel;obtain⟨W1,rfl⟩:∃W1,W1=wr:=⟨_,rfl⟩
  have HI:Hid _:=hI;clear hI;by_cases WL:x<m
  case neg=>
   have xL:¬(x:Int)+1<=(m:Int):=dZ;obtain rfl:x=m:=dZ;obtain⟨rfl,hP⟩:=HI.out.done;have HP:Hid (Qp w k0 Es (ρ (σ ao k0 cp)) W1):=hP;clear hP;go_wp2_with(fail);refine aE (v:=σ ao k0 cp) (by simp[results,results45,go_sem]) rfl ?_;exact HP.out
  case pos=>
   have kA:(x:Int)+1<=(m:Int):=dZ;obtain⟨W2,nr⟩:=gg (W1.alloc (γ #[ι κ ((x:Int)+1),ι κ 1,σ ν 0 0] 40));have Uq:Hid _:=nr;obtain⟨S,hS⟩:=gg (W1.heap.size);have HS:Hid _:=hS;have Au:Hid (iX W2 S #[ι κ ((x:Int)+1),ι κ 1,σ ν 0 0] 40/\eB W1 W2):=by
    rw[<-nr,<-hS];exact⟨iX.new W1 _ _,gT _ _⟩
   clear nr hS;go_wp2_with(fail)
   try rw[Uq.out]
   try rw[HS.out]
   go_wp2
   go_loopw [10] (λi wr=>∃(z:Nat) (H:Option dW) (Z G:Nat),z<=m/\i=ι κ ((z:Int)+1)/\iX wr S #[ι κ ((x:Int)+1),ι κ 1,σ H Z G] 40/\Row wr 2 (σ H Z G) Z (iR ((fW z).filterMap (F x)))/\(∀j,eh (σ H Z G)=μ j->S<j)/\eB W1 wr) (λi _=>m+1-(eZ i).toNat)
   case atStart=>exact⟨0,ν,0,0,Nat.zero_le _,rfl,Au.out.1,by simpa[iR]using Row.nil W2 2,λj hj=>by simp[eh]at hj,Au.out.2⟩
   case round=>
    obtain⟨z,H,Z,G,hz,rfl,pW,iV,jm,iL⟩:=hrel;obtain⟨W3,rfl⟩:∃W3,W3=wr:=⟨_,rfl⟩
    have HBl:Hid (iX W3 S #[ι κ ((x:Int)+1),ι κ 1,σ H Z G] 40):=pW;have AR:Hid (Row W3 2 (σ H Z G) Z (iR ((fW z).filterMap (F x)))):=iV;have AW:Hid _:=jm;have ZS:Hid _:=iL;have hke:Z<=z:=by
     have u:=iV.1;rw[ld]at u;have:=ad9 (F x) z;omega
    clear pW iV jm iL;by_cases hzm:z<m
    case neg=>
     have xL:¬(z:Int)+1<=(m:Int):=dZ;obtain rfl:z=m:=dZ;have c0:W3.cell? ⟨S,0,ν⟩=μ (ι κ ((x:Int)+1)):=HBl.out.cell 0;have c1:W3.cell? ⟨S,1,ν⟩=μ (ι κ 1):=HBl.out.cell 1;have c2:W3.cell? ⟨S,2,ν⟩=μ (σ H Z G):=HBl.out.cell 2;have fz0:=HBl.out.frozen 0;have sl:=HBl.out.lt;have sD:Row W3 3 (σ ao k0 cp) x (Ld out):=HI.out.row.below ZS.out;have Gi:x=k0:=by
      rcases sD.2 with⟨e,h0⟩|⟨g,cap,e,_⟩
      {simp at e;omega};{simp at e;omega}
     subst Gi;go_wp2_with(at_builtin;go_must(refine iG _ rfl (.tmp 91) (.tmp 93) 91 rfl 40 i0 (.agg #[ι κ 0,ι κ 0,σ ν 0 0]) 3 40 underlying91 MC og mZ mc rfl ew (σ ao x cp) x (Ld out) rfl (sD.alloc _) _ 1 1 [ι κ ((x:Int)+1),ι κ 1,σ H Z G] rfl rfl ew (B6 _ _ _ _ _ _ gU) (U8 _ _ _ _ _) (by unfold maxLen;omega) dZ ?_));intro g' jn w9 ZT ZU CH;have kd:W8 w w9 (σ (μ ⟨g',0,ν⟩) (x+1) jn) (x+1) (out++ [⟨(x:Int)+1,1,H,Z,G⟩]) Es:=by
      have Gn:eB W3 (W3.alloc (γ #[ι κ ((x:Int)+1),ι κ 1,σ H Z G] 40)):=gT _ _;refine W8.step (s:=⟨(x:Int)+1,1,H,Z,G⟩) (wr:=W1) ((HI.out.below ZS.out).below Gn) (λj hj=>HI.out.row.lt j hj) ZU ZT ?_ rfl rfl ?_ ?_ ?_ ?_
      ·intro g hg;have:g'=g:=by simpa[eh]using hg
       subst this;rcases CH with e|e
       {exact .inl e};{exact .inr (Nat.le_trans (Nat.le_of_eq gU) e)}
      ·have:=AR.out.opts;rw[<-HE2.out x]at this;exact this.below Gn
      ·intro e;rcases AR.out.2 with⟨e2,_⟩|⟨g,cap,e2,_⟩
       {simp at e2;exact e2.2.2};{simp only[Value.slice.injEq]at e2;rw[e2.1]at e;exact absurd e gU}
      {show Z<=maxLen;unfold maxLen;omega};{intro b hb;have u:=AW.out b hb;have h2:=AR.out.lt b hb;have h3:=HI.out.nQ.size;have h4:=HS.out;exact⟨dZ,dZ,Nat.lt_of_lt_of_le h2 Gn.size⟩}
     have Y:Hid _:=kd;clear kd ZT ZU CH
     go_wp2
     go_roundw
     case rel=>exact⟨x+1,_,_,jn,_,dZ,rfl,by go_num,Y.out⟩
     case measure=>simp[eZ];omega
    case pos=>
     have hzl:(z:Int)+1<=(m:Int):=dZ;have HW3:Hid (eB w W3):=gh HI.out.nQ ZS.out
     go_wp2
     go_loopw [11,12] (λl i wr=>∃k:Nat,k<=n/\l=ι κ (ls x z k)/\i=ι κ k/\eB W3 wr) (λ_ i _=>n-(eZ i).toNat)
     case atStart=>exact⟨0,Nat.zero_le _,by rw[HLS.out],rfl,au _ _⟩
     case round=>
      obtain⟨k,hk,rfl,rfl,hb4⟩:=hrel;obtain⟨W4,rfl⟩:∃W4,W4=wr:=⟨_,rfl⟩
      have HB4:Hid _:=hb4;clear hb4;by_cases AL:k<n
      case pos=>
       have afl:(k:Int)<(n:Int):=dZ;have Gi:(0:Int)<=(k:Int):=dZ;obtain⟨A,B,M,b,off,rfl,⟨pa,pb,c0,c1,c2,c3,c4⟩,ci,kd⟩:=HRd.out W4 k (gh HW3.out HB4.out) AL;have bl:=ag _ _ c0;have gl:=ag _ _ ci;have Y:Hid (ls x z (k+1)=if(iQ k=true/\x≠z/\((A=(x:Int)+1/\B=(z:Int)+1) \/(A=(z:Int)+1/\B=(x:Int)+1)))/\(ls x z k=0 \/M<ls x z k)then M else ls x z k):=kd x z;clear kd;have Gn:=λo=>gT W4 o;obtain⟨l1,IV⟩:=gg (ls x z (k+1));have Xe:Hid _:=IV;rw[IV]at Y;clear IV;obtain⟨U,vQ⟩:=gg (ls x z k);rw[vQ]at Y⊢;clear vQ;have Nh:Hid (∀o,eB W3 (W4.alloc o)):=λo=>gh HB4.out (Gn o);clear Gn;cases V:iQ k
       case false=>
        rw[V]at ci;have Q:Hid (l1=U):=by show _=_;rw[Y.out,af (λh=>by obtain⟨⟨q1,q2,q3⟩,q4⟩:=h;first|exact absurd q1 ew|exact absurd (V.symm.trans q1) ew|omega)]
        clear Y
        go_wp2
        go_roundw
        case rel=>exact⟨k+1,dZ,by rw[Xe.out,Q.out],by go_num,Nh.out _⟩
        case measure=>simp[eZ];omega
       case true=>
        rw[V]at ci;by_cases E:x≠z
        case neg=>
         have Wo:(z:Int)+1=(x:Int)+1:=dZ;have Q:Hid (l1=U):=by show _=_;rw[Y.out,af (λh=>by obtain⟨⟨q1,q2,q3⟩,q4⟩:=h;first|exact absurd q1 ew|exact absurd (V.symm.trans q1) ew|omega)]
         clear Y
         go_wp2
         go_roundw
         case rel=>exact⟨k+1,dZ,by rw[Xe.out,Q.out],by go_num,Nh.out _⟩
         case measure=>simp[eZ];omega
        case pos=>
         have Wo:¬(z:Int)+1=(x:Int)+1:=dZ;by_cases u:A=(x:Int)+1
         case pos=>
          by_cases h2:B=(z:Int)+1
          case pos=>
           by_cases FV:U=0
           case pos=>
            have Q:Hid (l1=M):=by show _=_;rw[Y.out,ai (by first|exact⟨⟨V,E,.inl ⟨u,h2⟩⟩,.inl FV⟩|exact⟨⟨V,E,.inl ⟨u,h2⟩⟩,.inr CL⟩|exact⟨⟨V,E,.inr ⟨h3,h4⟩⟩,.inl FV⟩|exact⟨⟨V,E,.inr ⟨h3,h4⟩⟩,.inr CL⟩)]
            clear Y
            go_wp2
            go_roundw
            case rel=>exact⟨k+1,dZ,by rw[Xe.out,Q.out],by go_num,Nh.out _⟩
            case measure=>simp[eZ];omega
           case neg=>
            have mc:(U==0)=false:=by simpa using FV
            have PZ:((z:Int)+1 !=(x:Int)+1)=true:=by simp;omega
            by_cases CL:M<U
            case pos=>
             have Q:Hid (l1=M):=by show _=_;rw[Y.out,ai (by first|exact⟨⟨V,E,.inl ⟨u,h2⟩⟩,.inl FV⟩|exact⟨⟨V,E,.inl ⟨u,h2⟩⟩,.inr CL⟩|exact⟨⟨V,E,.inr ⟨h3,h4⟩⟩,.inl FV⟩|exact⟨⟨V,E,.inr ⟨h3,h4⟩⟩,.inr CL⟩)]
             clear Y
             go_wp2
             go_roundw
             case rel=>exact⟨k+1,dZ,by rw[Xe.out,Q.out],by go_num,Nh.out _⟩
             case measure=>simp[eZ];omega
            case neg=>
             have amI:decide (M<U)=false:=by simpa using CL
             have Q:Hid (l1=U):=by show _=_;rw[Y.out,af (λh=>by obtain⟨⟨q1,q2,q3⟩,q4⟩:=h;first|exact absurd q1 ew|exact absurd (V.symm.trans q1) ew|omega)]
             clear Y
             go_wp2
             go_roundw
             case rel=>exact⟨k+1,dZ,by rw[Xe.out,Q.out],by go_num,Nh.out _⟩
             case measure=>simp[eZ];omega
          case neg=>
           have h3:¬A=(z:Int)+1:=dZ;have Q:Hid (l1=U):=by show _=_;rw[Y.out,af (λh=>by obtain⟨⟨q1,q2,q3⟩,q4⟩:=h;first|exact absurd q1 ew|exact absurd (V.symm.trans q1) ew|omega)]
           clear Y
           go_wp2
           go_roundw
           case rel=>exact⟨k+1,dZ,by rw[Xe.out,Q.out],by go_num,Nh.out _⟩
           case measure=>simp[eZ];omega
         case neg=>
          by_cases h3:A=(z:Int)+1
          case pos=>
           by_cases h4:B=(x:Int)+1
           case pos=>
            by_cases FV:U=0
            case pos=>
             have Q:Hid (l1=M):=by show _=_;rw[Y.out,ai (by first|exact⟨⟨V,E,.inl ⟨u,h2⟩⟩,.inl FV⟩|exact⟨⟨V,E,.inl ⟨u,h2⟩⟩,.inr CL⟩|exact⟨⟨V,E,.inr ⟨h3,h4⟩⟩,.inl FV⟩|exact⟨⟨V,E,.inr ⟨h3,h4⟩⟩,.inr CL⟩)]
             clear Y
             go_wp2
             go_roundw
             case rel=>exact⟨k+1,dZ,by rw[Xe.out,Q.out],by go_num,Nh.out _⟩
             case measure=>simp[eZ];omega
            case neg=>
             have mc:(U==0)=false:=by simpa using FV
             have PZ:((z:Int)+1 !=(x:Int)+1)=true:=by simp;omega
             by_cases CL:M<U
             case pos=>
              have Q:Hid (l1=M):=by show _=_;rw[Y.out,ai (by first|exact⟨⟨V,E,.inl ⟨u,h2⟩⟩,.inl FV⟩|exact⟨⟨V,E,.inl ⟨u,h2⟩⟩,.inr CL⟩|exact⟨⟨V,E,.inr ⟨h3,h4⟩⟩,.inl FV⟩|exact⟨⟨V,E,.inr ⟨h3,h4⟩⟩,.inr CL⟩)]
              clear Y
              go_wp2
              go_roundw
              case rel=>exact⟨k+1,dZ,by rw[Xe.out,Q.out],by go_num,Nh.out _⟩
              case measure=>simp[eZ];omega
             case neg=>
              have amI:decide (M<U)=false:=by simpa using CL
              have Q:Hid (l1=U):=by show _=_;rw[Y.out,af (λh=>by obtain⟨⟨q1,q2,q3⟩,q4⟩:=h;first|exact absurd q1 ew|exact absurd (V.symm.trans q1) ew|omega)]
              clear Y
              go_wp2
              go_roundw
              case rel=>exact⟨k+1,dZ,by rw[Xe.out,Q.out],by go_num,Nh.out _⟩
              case measure=>simp[eZ];omega
           case neg=>
            have Q:Hid (l1=U):=by show _=_;rw[Y.out,af (λh=>by obtain⟨⟨q1,q2,q3⟩,q4⟩:=h;first|exact absurd q1 ew|exact absurd (V.symm.trans q1) ew|omega)]
            clear Y
            go_wp2
            go_roundw
            case rel=>exact⟨k+1,dZ,by rw[Xe.out,Q.out],by go_num,Nh.out _⟩
            case measure=>simp[eZ];omega
          case neg=>
           have Q:Hid (l1=U):=by show _=_;rw[Y.out,af (λh=>by obtain⟨⟨q1,q2,q3⟩,q4⟩:=h;first|exact absurd q1 ew|exact absurd (V.symm.trans q1) ew|omega)]
           clear Y
           go_wp2
           go_roundw
           case rel=>exact⟨k+1,dZ,by rw[Xe.out,Q.out],by go_num,Nh.out _⟩
           case measure=>simp[eZ];omega
      case neg=>
       have xL:¬(k:Int)<(n:Int):=dZ;obtain rfl:k=n:=dZ;have hp:=amH.out x z;have OO:iX W4 S #[ι κ ((x:Int)+1),ι κ 1,σ H Z G] 40:=HBl.out.below HB4.out;have Qq:=AR.out.below HB4.out;have amJ:Hid (iX W4 S #[ι κ ((x:Int)+1),ι κ 1,σ H Z G] 40):=OO;have Xf:Hid (eB W1 W4):=gh ZS.out HB4.out;have HFx:Hid (F x z=if 0<ls x z k then μ ((z:Int)+1,ls x z k)else ν):=by show _=_;rw[HF.out]
       generalize ls x z k=U at HFx hp⊢;by_cases hl:U=0
       ·subst hl;have HN:Hid ((fW (z+1)).filterMap (F x)=(fW z).filterMap (F x)):=Xa (by rw[HFx.out];rfl);have ah2:Hid (Row W4 2 (σ H Z G) Z (iR ((fW z).filterMap (F x)))):=Qq;clear Qq OO
        go_wp2
        go_roundw
        case rel=>exact⟨z+1,H,Z,G,dZ,by go_num,amJ.out,by rw[HN.out];exact ah2.out,AW.out,Xf.out⟩
        case measure=>simp[eZ];omega
       ·have IV:0<U:=dZ;have HN:Hid ((fW (z+1)).filterMap (F x)=(fW z).filterMap (F x)++ [((z:Int)+1,U)]):=Xb (by rw[HFx.out,ai IV]);have c2:W4.cell? ⟨S,2,ν⟩=μ (σ H Z G):=OO.cell 2;have f2:=OO.frozen 2;have sl:=OO.lt;go_wp2_with(at_builtin;go_must(refine iG _ rfl (.tmp 84) (.tmp 88) 38 rfl 123 i9 (.agg #[ι κ 0,ι κ 0]) 2 16 underlying38 hi9 amD amE amF rfl ew (σ H Z G) Z (iR ((fW z).filterMap (F x))) rfl (Qq.alloc _) _ 1 1 [ι κ ((z:Int)+1),ι κ U] rfl rfl ew (nh _ _ _ _ _ gU) (lL _ _ _ _) (by unfold maxLen;omega) dZ ?_));intro g' jn w9 ZT ZU CH;rw[show [ι .i64 ((z:Int)+1),ι .i64 U] =[ι .i64 (((z:Int)+1,U):jJ).1,ι .i64 (((z:Int)+1,U):jJ).2]from rfl,<-mb,<-HN.out]at ZT;have Gn:=gT W4 (γ #[ι κ ((z:Int)+1),ι κ U] 123);have hS9:¬eh (σ H Z G)=μ S:=λe=>absurd (AW.out S e) dZ;have Xg:iX w9 S #[ι κ ((x:Int)+1),ι κ 1,σ H Z G] 40:=by
         have u:=OO.below Gn;unfold iX at u⊢;rw[ZU.block S (Nat.lt_of_lt_of_le sl Gn.size) (λe=>hS9 e.symm)];exact u
        have hSW:=HS.out;have abv:eB W1 w9:=(gh Xf.out Gn).grown ZU (Nat.le_trans Xf.out.size Gn.size) (λj hj=>by have:=AW.out j hj;omega);have hgn:S<g':=by
         rcases CH with e|e
         {exact AW.out g' e};{have:=Gn.size;omega}
        have FY:=Xg.set 2 (σ (μ ⟨g',0,ν⟩) (Z+1) jn);have amL:Hid (iX (w9.setCell ⟨S,2,ν⟩ (σ (μ ⟨g',0,ν⟩) (Z+1) jn)) S #[ι κ ((x:Int)+1),ι κ 1,σ (μ ⟨g',0,ν⟩) (Z+1) jn] 40):=FY;have ah3:Hid (Row (w9.setCell ⟨S,2,ν⟩ (σ (μ ⟨g',0,ν⟩) (Z+1) jn)) 2 (σ (μ ⟨g',0,ν⟩) (Z+1) jn) (Z+1) (iR ((fW (z+1)).filterMap (F x)))):=by
         refine ZT.keep gU λj hj=> ?_;have:g'=j:=by simpa[eh]using hj
         exact ak _ _ _ _ (by show j≠S;omega)
        have ah4:Hid (eB W1 (w9.setCell ⟨S,2,ν⟩ (σ (μ ⟨g',0,ν⟩) (Z+1) jn))):=abv.setCell (p:=⟨S,2,ν⟩) (by show W1.heap.size<=S;omega) _;have d2:w9.cell? ⟨S,2,ν⟩=μ (σ H Z G):=Xg.cell 2;have e2:=Xg.frozen 2;have sl9:=Xg.lt;clear ZT ZU CH FY abv Xg Gn Qq OO hS9
        go_wp2
        go_roundw
        case rel=>exact⟨z+1,_,Z+1,jn,dZ,by go_num,amL.out,ah3.out,λj hj=>kF (B:=S+1) hgn hj,ah4.out⟩
        case measure=>simp[eZ];omega
end Rt
theorem abw {C:kQ} {r:Nat} (hC:∀x y,C x y<=20):∀p:List Nat,pc C r p<=20*p.length
 |[] =>by simp[pc]
 |[n] =>by simp only[pc];have:=hC r n;simpa using this
 |n::m::l=>by
  have:=abw (r:=r) hC (m::l);have h2:=hC m n;simp only[pc,List.length_cons]at this⊢;push_cast at this⊢;omega
theorem UG.aea {C:kQ} {r:Nat} {p:List Nat} {oL:Nat} {far by':Int} {bn:Nat->Bool} (h:UG C r p oL far by' bn)(hC:∀x y,0<=C x y/\C x y<=20)(hp:p.length<=7):0<=far/\far<=140:=by
 rcases h.way with⟨_,_,rfl,_⟩|⟨Z,_,rfl,_⟩
 {exact⟨Int.le_refl _,ew⟩};{have h2:=I9 (λx y=>(hC x y).1) p Z;have h3:=abw (r:=r) (λx y=>(hC x y).2) p;omega}
theorem Tg(a:Option dW)(n cap:Nat)(r:Nat)(w0:dX)(C:kQ)(B:Nat)(xj:w0.heap.size<=B)
 (HED:Hid (∀(u v:Nat) W,eB w0 W->eX eY 159 #[σ a n cap,ι κ (u:Int),ι κ (v:Int)] W λe w'=>e=ρ (ι κ (C u v))/\eB W w'))
 (CS:∀x y,0<=C x y/\C x y<=20) (HI:Hid (∀u v,0<C u v->(1<=u/\u<=6)/\1<=v/\v<=6)):
 ∀(d:Nat) (p:List Nat) (Y:Nat) (far by':Int) (H:Nat->Bool) (G:Nat->HP) (w:dX),p.length+d=7->Y<7->UG C r p Y far by' H->RS C r G->iX w B (hC G) 204->eB w0 w->
 eX eY 109 #[σ a n cap,ι κ (Y:Int),ι κ far,ι κ by',.agg (bC H),π (μ ⟨B,0,ν⟩)] w λe w'=>e=ρ (τ #[])/\
  (∃Z,iX w' B (hC Z) 204/\RS C r Z/\zq Z G/\∀x q,Ext C r p x q->Dk C r Z q)/\w.grownBy w' (μ B):=by
 intro d
 induction d with
 |zero=>
  intro p Y far by' H G w hlen hat hP _ _ _
  exfalso;have ll:∀x∈p,x∈(fW 7).erase r:=by
   intro x hx;rcases hP.way with⟨rfl,_⟩|⟨h1,_⟩
   {cases hx};{have:=KL h1 x hx;exact(dg this.2).2 (aP.2 this.1)}
  have h1:=Ja p _ hP.nd ll;rcases hP.way with⟨rfl,_⟩|⟨h2,h3,_⟩
  ·simp at hlen
  ·have hr:r<7 \/ ¬r<7:=dZ;rcases hr with hr|hr
   ·rw[cY (aP.2 hr),dc]at h1;omega
   ·have:=KN p h2;have:=HI.out _ _ this.1;omega
 |succ d ih=>
  intro p Y far by' H G w hlen hat hP hG hB AA
  have HIH:Hid _:=ih;clear ih;have HPr:Hid _:=hP;have HG:Hid _:=hG;obtain⟨hf0,VB⟩:=hP.aea CS dZ;clear hP hG;have ha7:(Y:Int)<7:=dZ;obtain⟨c,hc⟩:=gg (bC H);rw[hc];have hBl:=hB.lt;obtain⟨N,XL⟩:=gg (w.heap.size);obtain⟨W1,j6⟩:=gg (w.alloc (γ c 205));have k1:eB w W1:=by rw[<-j6];exact gT _ _
  have hN:iX W1 N (bC H) 205:=by rw[<-j6,hc];exact iX.Gf _ _ _ _ XL
  have rK:=hB.below k1;have n0:=(hN.cell Y).trans (Jc H Y hat);have n1:=hN.frozen Y;have lN:=hN.lt;have Y6:Hid (iX (W1.setCell ⟨N,Y,ν⟩ (.bool true)) N (bC (qb H Y)) 205):=by show iX _ _ _ _;rw[<-abY];exact hN.set Y _
  have HBN:Hid (B<N):=by show _<_;omega
  have Au:Hid (iX (W1.setCell ⟨N,Y,ν⟩ (.bool true)) B (hC G) 204):=rK.other dZ _;have HG2:Hid (w.grownBy (W1.setCell ⟨N,Y,ν⟩ (.bool true)) (μ B)):=by
   have k2:eB w (W1.setCell ⟨N,Y,ν⟩ (.bool true)):=bw k1 (by show w.heap.size<=N;omega) _;exact⟨k2.os,k2.tape,k2.output,k2.size,λi hi _=>k2.block i hi⟩
  have Kd:Hid _:=j6;have HNe:Hid _:=XL;have HBW:Hid _:=AA;clear hc XL j6 k1 hN rK hB hBl AA
  go_in
  go_upto_region 1 with fail
  rw[Kd.out,HNe.out];go_wp2_with(fail);obtain⟨W2,nr⟩:=gg (W1.setCell ⟨N,Y,ν⟩ (.bool true));rw[nr]at Y6 Au HG2;rw[nr];clear nr n0 n1 lN
  go_loopw [12] (λv wr=>∃(m:Nat) (Z:Nat->HP),1<=m/\m<=7/\v=ι κ m/\(RS C r Z/\zq Z G/\∀x q,x<m->Ext C r p x q->Dk C r Z q)/\iX wr B (hC Z) 204/\iX wr N (bC (qb H Y)) 205/\w.grownBy wr (μ B)) (λv _=>7-(eZ v).toNat)
  case atStart=>
   refine⟨1,G,dZ,dZ,rfl,⟨HG.out,zq.refl _,λx q hx hq=> ?_⟩,Au.out,Y6.out,HG2.out⟩;have hx0:x=0:=dZ;subst hx0;have h1:=CS Y 0;have:C Y 0=0:=by
    by_cases h2:0<C Y 0;{have:=HI.out _ _ h2;omega};{omega}
   exact absurd hq (HPr.out.none 0 (.inl this) q)
  case round=>
   clear Au Y6 HG2;obtain⟨m,Z,vP,hm7,rfl,hS,hB,hN,vh⟩:=hrel;have HS:Hid _:=hS;clear hS;by_cases hm6:m<=6
   ·have aeb:(m:Int)<=6:=dZ;have amN:(m:Int)<7:=dZ;have he:=HED.out Y m wr (tj HBW.out vh xj);have HB:Hid _:=hB;have HN:Hid _:=hN;have ZV:Hid _:=vh;clear hB hN vh;go_wp2_with(fail);refine he.mono ?_;rintro e w5 ⟨rfl,k5⟩;have hN5:=iX.below HN.out k5;have PN:=iX.below HB.out k5;have nb:=(hN5.cell m).trans (Jc (qb H Y) m dZ);have HN5:Hid _:=hN5;have I8:Hid (w.grownBy w5 (μ B)):=⟨k5.os.trans ZV.out.os,k5.tape.trans ZV.out.tape,k5.output.trans ZV.out.output,Nat.le_trans ZV.out.size k5.size,λi hi h=>(k5.block i (Nat.lt_of_lt_of_le hi ZV.out.size)).trans (ZV.out.block i hi h)⟩
    have XR:Hid (C Y m=0 \/qb H Y m=true->∀x q,x<m+1->Ext C r p x q->Dk C r Z q):=by
     intro hh x q hx hq;by_cases e:x=m;{subst e;exact absurd hq (HPr.out.none x hh q)};{exact HS.out.2.2 x q dZ hq}
    obtain⟨p0,p1,p2⟩:=AJ Z m dZ;have b0:=(PN.cell (m*3)).trans p0;have b1:=(PN.cell (m*3+1)).trans p1;have b2:=(PN.cell (m*3+2)).trans p2;have Hh:Hid _:=PN;clear he k5 hN5 PN p0 p1 p2 HB HN ZV;have hcr:=CS Y m;by_cases hz:C Y m=0
    ·have Tq:(C Y m==0)=true:=by simpa using hz
     have aec:Hid _:=XR.out (.inl hz);generalize C Y m=cm at Tq⊢
     go_wp2
     go_roundw
     case rel=>exact⟨m+1,Z,dZ,dZ,by go_num,⟨HS.out.1,HS.out.2.1,aec.out⟩,Hh.out,HN5.out,I8.out⟩
     case measure=>simp[eZ];omega
    have Tq:(C Y m==0)=false:=by simpa using hz
    cases QM:qb H Y m with
    |true=>
     rw[QM]at nb;have aec:Hid _:=XR.out (.inr QM);generalize C Y m=cm at Tq⊢
     go_wp2
     go_roundw
     case rel=>exact⟨m+1,Z,dZ,dZ,by go_num,⟨HS.out.1,HS.out.2.1,aec.out⟩,Hh.out,HN5.out,I8.out⟩
     case measure=>simp[eZ];omega
    |false=>
     rw[QM]at nb;have qu:0<C Y m:=dZ;have HPn:Hid _:=HPr.out.next m dZ qu QM;have HPs:Hid _:=HPr.out.step m vP dZ qu QM;obtain⟨nx,hnx⟩:=gg ((if by'=0 then(m:Int)else by'));rw[hnx]at HPn HPs;have HNX:Hid _:=hnx;have hzo:=HS.out.1.z m;have hwy:=HS.out.1.s.way m;have Aq:=HS.out.1.s.nn m;obtain⟨cm,Gd⟩:=gg (C Y m);rw[Gd]at Tq HPn HPs hcr qu;rw[Gd];have HW:Hid ((Z m).dst=0↔(Z m).far=0):=by
      constructor;{intro e;by_cases h9:0<(Z m).far;{have:=(hwy h9).1;omega};{omega}};{intro e;rw[hzo e];rfl}
     have AU:Hid (ug ⟨(m:Int),far+cm,nx⟩ (Z m)=true↔(Z m).far=0 \/far+cm<(Z m).far \/(far+cm=(Z m).far/\nx<(Z m).rJ)):=zr _ _;have HU:Hid (ug ⟨(m:Int),far+cm,nx⟩ (Z m)=true->RS C r (rk Z m ⟨(m:Int),far+cm,nx⟩)/\zq (rk Z m ⟨(m:Int),far+cm,nx⟩) Z/\Dk C r (rk Z m ⟨(m:Int),far+cm,nx⟩) (m::p)):=by
      intro hb;obtain⟨a1,a2,a3,a4⟩:=HPn.out;have h8:=ab0 HS.out.1 m (m::p) a1 rfl (λx y=>(CS x y).1);rw[a3,a4]at h8;refine⟨h8,UF m _ (by simp only;omega) hb,λx hx=> ?_⟩;have:m=x:=by simpa using hx
      subst this;simp only[rk,if_true,a3,a4];exact⟨dZ,xm.rfl' _⟩
     have HV:Hid (¬ug ⟨(m:Int),far+cm,nx⟩ (Z m)=true->Dk C r Z (m::p)):=by
      intro hb x hx;obtain⟨a1,a2,a3,a4⟩:=HPn.out;have:m=x:=by simpa using hx
      subst this;rw[AU.out]at hb;rw[a3,a4];refine⟨dZ,?_⟩;simp only[xm,HP.v];omega
     clear hzo hwy Gd hnx hz QM;by_cases vN:by'=0
     ·have amP:(by'==0)=true:=by simpa using vN
      have hE:nx=(m:Int):=by rw[<-HNX.out,ai vN]
      subst hE;clear vN;obtain⟨M,hqd⟩:=gg ((Z m).dst);obtain⟨U,j⟩:=gg ((Z m).far);obtain⟨qx,hqx⟩:=gg ((Z m).rJ);rw[hqd]at b0 HW;rw[j]at b1 HW AU;rw[hqx]at b2 AU;obtain⟨V,ZW⟩:=gg (w5.alloc (γ #[ι κ M,ι κ U,ι κ qx] 98));have E:eB w5 V:=by rw[<-ZW];exact gT _ _
      have hY:iX V w5.heap.size #[ι κ M,ι κ U,ι κ qx] 98:=by rw[<-ZW];exact iX.new _ _ _
      have HW6:Hid _:=ZW;have EK:=iX.below Hh.out E;have HN6:Hid _:=iX.below HN5.out E;have HG6:Hid (w.grownBy V (μ B)):=⟨E.os.trans I8.out.os,E.tape.trans I8.out.tape,E.output.trans I8.out.output,Nat.le_trans I8.out.size E.size,λi hi h=>(E.block i (Nat.lt_of_lt_of_le hi I8.out.size)).trans (I8.out.block i hi h)⟩
      have y0:V.cell? ⟨w5.heap.size,0,ν⟩=μ (ι κ M):=hY.cell 0;have y1:V.cell? ⟨w5.heap.size,1,ν⟩=μ (ι κ U):=hY.cell 1;have y2:V.cell? ⟨w5.heap.size,2,ν⟩=μ (ι κ qx):=hY.cell 2;have ly:=hY.lt;have f0:=EK.frozen (m*3);have f1:=EK.frozen (m*3+1);have f2:=EK.frozen (m*3+2);have g0:=(E.cell (p:=⟨B,m*3,ν⟩) (iX.lt Hh.out)).trans b0;have g1:=(E.cell (p:=⟨B,m*3+1,ν⟩) (iX.lt Hh.out)).trans b1;have g2:=(E.cell (p:=⟨B,m*3+2,ν⟩) (iX.lt Hh.out)).trans b2;have lB:=EK.lt;have Wv:Hid _:=EK;clear ZW E hY hqd j hqx EK HN5 I8 Hh Aq
      go_upto_region 11 with fail
      rw[HW6.out];clear b0 b1 b2 nb Tq;have ZX:Hid (ug ⟨(m:Int),far+cm,(m:Int)⟩ (Z m)=true->(∃Q,iX (((V.setCell ⟨B,m*3,ν⟩ (ι κ (m:Int))).setCell ⟨B,m*3+1,ν⟩ (ι κ (far+cm))).setCell ⟨B,m*3+2,ν⟩ (ι κ (m:Int))) B (hC Q) 204/\RS C r Q/\zq Q Z/\Dk C r Q (m::p))/\iX (((V.setCell ⟨B,m*3,ν⟩ (ι κ (m:Int))).setCell ⟨B,m*3+1,ν⟩ (ι κ (far+cm))).setCell ⟨B,m*3+2,ν⟩ (ι κ (m:Int))) N (bC (qb H Y)) 205/\w.grownBy (((V.setCell ⟨B,m*3,ν⟩ (ι κ (m:Int))).setCell ⟨B,m*3+1,ν⟩ (ι κ (far+cm))).setCell ⟨B,m*3+2,ν⟩ (ι κ (m:Int))) (μ B)):=by
       intro hb;obtain⟨u1,u2,u3⟩:=HU.out hb;have h:N≠B:=by have:=HBN.out;omega
       refine⟨⟨_,?_,u1,u2,u3⟩,iX.other (iX.other (iX.other HN6.out h _) h _) h _,kP (kP (kP HG6.out _ _) _ _) _ _⟩;rw[<-I6 Z m ⟨(m:Int),far+cm,(m:Int)⟩ dZ];exact iX.set (iX.set (iX.set Wv.out _ _) _ _) _ _
      have XR:Hid (¬ug ⟨(m:Int),far+cm,(m:Int)⟩ (Z m)=true->(∃Q,iX V B (hC Q) 204/\RS C r Q/\zq Q Z/\Dk C r Q (m::p))/\iX V N (bC (qb H Y)) 205/\w.grownBy V (μ B)):=
       λhb=>⟨⟨Z,Wv.out,HS.out.1,zq.refl _,HV.out hb⟩,HN6.out,HG6.out⟩
      clear HN6 HG6 Wv HU HV HPn;have hq5:M=0 \/(¬M=0/\far+cm<U) \/(¬M=0/\¬far+cm<U/\far+cm=U/\(m:Int)<qx) \/(¬M=0/\¬far+cm<U/\far+cm=U/\¬(m:Int)<qx) \/(¬M=0/\¬far+cm<U/\¬far+cm=U):=dZ;rcases hq5 with c1|⟨c1,c2⟩|⟨c1,c2,c3,c4⟩|⟨c1,c2,c3,c4⟩|⟨c1,c2,c3⟩
      have ZY:(M==0)=true:=by simpa using c1
      obtain⟨⟨Q,rK,F8,qU,Ti⟩,Ga,xb⟩:=ZX.out (AU.out.2 (.inl (HW.out.1 c1)));obtain⟨W7,OP⟩:=gg ((((V.setCell ⟨B,m*3,ν⟩ (ι κ (m:Int))).setCell ⟨B,m*3+1,ν⟩ (ι κ (far+cm))).setCell ⟨B,m*3+2,ν⟩ (ι κ (m:Int))));clear c1
      rotate_left
      have ZY:(M==0)=false:=by simpa using c1
      have j:¬U=0:=λe=>c1 (HW.out.2 e);obtain⟨⟨Q,rK,F8,qU,Ti⟩,Ga,xb⟩:=ZX.out (AU.out.2 (.inr (.inl c2)));obtain⟨W7,OP⟩:=gg ((((V.setCell ⟨B,m*3,ν⟩ (ι κ (m:Int))).setCell ⟨B,m*3+1,ν⟩ (ι κ (far+cm))).setCell ⟨B,m*3+2,ν⟩ (ι κ (m:Int))));clear c1 j
      rotate_left
      have ZY:(M==0)=false:=by simpa using c1
      have j:¬U=0:=λe=>c1 (HW.out.2 e);have c3':(far+cm==U)=true:=by simpa using c3
      obtain⟨⟨Q,rK,F8,qU,Ti⟩,Ga,xb⟩:=ZX.out (AU.out.2 (.inr (.inr ⟨c3,c4⟩)));obtain⟨W7,OP⟩:=gg ((((V.setCell ⟨B,m*3,ν⟩ (ι κ (m:Int))).setCell ⟨B,m*3+1,ν⟩ (ι κ (far+cm))).setCell ⟨B,m*3+2,ν⟩ (ι κ (m:Int))));clear c1 j c3
      rotate_left
      have ZY:(M==0)=false:=by simpa using c1
      have j:¬U=0:=λe=>c1 (HW.out.2 e);have c3':(far+cm==U)=true:=by simpa using c3
      obtain⟨⟨Q,rK,F8,qU,Ti⟩,Ga,xb⟩:=XR.out (λhb=>by have:=AU.out.1 hb;omega);obtain⟨W7,OP⟩:=gg V;clear c1 j c3
      rotate_left
      have ZY:(M==0)=false:=by simpa using c1
      have j:¬U=0:=λe=>c1 (HW.out.2 e);have c3':(far+cm==U)=false:=by simpa using c3
      obtain⟨⟨Q,rK,F8,qU,Ti⟩,Ga,xb⟩:=XR.out (λhb=>by have:=AU.out.1 hb;omega);obtain⟨W7,OP⟩:=gg V;clear c1 j c3
      rotate_left
      all_goals
       rw[OP]at rK Ga xb;have j9:=HIH.out (m::p) m (far+cm) (m:Int) (qb H Y) Q W7 (by simp;omega) dZ HPs.out F8 rK (tj HBW.out xb xj);have OQ:iX W7 N (bC (qb H Y)) 205:=Ga;have XS:(eY.info? 205).map (·.size)=μ (bC (qb H Y)).size:=by rw[Jb];exact UE
       have YY:Hid _:=qU;have HD1:Hid _:=Ti;have HN1:Hid _:=Ga;have BI:Hid _:=xb;have HW7:Hid _:=OP;clear rK F8 qU Ti Ga xb OP XR ZX AU HW;obtain⟨bb,Jo⟩:=gg (bC (qb H Y));rw[Jo]at j9 OQ XS;have YS:Hid _:=Jo;clear Jo
       go_upto_region 13 with fail
       rw[HW7.out];go_wp2_with(first
        |refine lg _ rfl (.tmp 10) 205 rfl N bb _ _ rfl OQ underlying205 XS ?_)
       refine j9.mono ?_;rintro e w8 ⟨rfl,⟨G2,hB8,hR8,ZZ,hD8⟩,y8⟩;have hN8:iX w8 N (bC (qb H Y)) 205:=iX.keep HN1.out (y8.block N (iX.lt HN1.out) (λe=>by have:=HBN.out;simp at e;omega));have RQ:Hid (RS C r G2/\zq G2 G/\∀x q,x<m+1->Ext C r p x q->Dk C r G2 q):=by
        refine⟨hR8,ZZ.trans (zq.trans YY.out HS.out.2.1),λx q hx hq=> ?_⟩;by_cases ex:x=m
        ·subst ex;obtain⟨q1,q2,e,rfl⟩:=hq;rcases cM e with rfl|⟨e',y,BP⟩
         {exact Dk.mono HD1.out ZZ};{rw[cN]at BP;subst BP;exact hD8 y _ ⟨q1,q2,e',gU⟩}
        ·exact Dk.mono (Dk.mono (HS.out.2.2 x q dZ hq) YY.out) ZZ
       have HB8:Hid _:=hB8;have HN8:Hid _:=hN8;have HG8:Hid (w.grownBy w8 (μ B)):=⟨y8.os.trans BI.out.os,y8.tape.trans BI.out.tape,y8.output.trans BI.out.output,Nat.le_trans BI.out.size y8.size,λi hi h=>(y8.block i (Nat.lt_of_lt_of_le hi BI.out.size) h).trans (BI.out.block i hi h)⟩
       clear j9 hB8 hR8 ZZ hD8 y8 hN8 OQ XS
       go_wp2
       go_roundw
       case rel=>exact⟨m+1,G2,dZ,dZ,by go_num,RQ.out,HB8.out,HN8.out,HG8.out⟩
       case measure=>simp[eZ];omega
     ·have amP:(by'==0)=false:=by simpa using vN
      have hE:nx=by':=by rw[<-HNX.out,af vN]
      subst hE;clear vN;obtain⟨M,hqd⟩:=gg ((Z m).dst);obtain⟨U,j⟩:=gg ((Z m).far);obtain⟨qx,hqx⟩:=gg ((Z m).rJ);rw[hqd]at b0 HW;rw[j]at b1 HW AU;rw[hqx]at b2 AU;obtain⟨V,ZW⟩:=gg (w5.alloc (γ #[ι κ M,ι κ U,ι κ qx] 98));have E:eB w5 V:=by rw[<-ZW];exact gT _ _
      have hY:iX V w5.heap.size #[ι κ M,ι κ U,ι κ qx] 98:=by rw[<-ZW];exact iX.new _ _ _
      have HW6:Hid _:=ZW;have EK:=iX.below Hh.out E;have HN6:Hid _:=iX.below HN5.out E;have HG6:Hid (w.grownBy V (μ B)):=⟨E.os.trans I8.out.os,E.tape.trans I8.out.tape,E.output.trans I8.out.output,Nat.le_trans I8.out.size E.size,λi hi h=>(E.block i (Nat.lt_of_lt_of_le hi I8.out.size)).trans (I8.out.block i hi h)⟩
      have y0:V.cell? ⟨w5.heap.size,0,ν⟩=μ (ι κ M):=hY.cell 0;have y1:V.cell? ⟨w5.heap.size,1,ν⟩=μ (ι κ U):=hY.cell 1;have y2:V.cell? ⟨w5.heap.size,2,ν⟩=μ (ι κ qx):=hY.cell 2;have ly:=hY.lt;have f0:=EK.frozen (m*3);have f1:=EK.frozen (m*3+1);have f2:=EK.frozen (m*3+2);have g0:=(E.cell (p:=⟨B,m*3,ν⟩) (iX.lt Hh.out)).trans b0;have g1:=(E.cell (p:=⟨B,m*3+1,ν⟩) (iX.lt Hh.out)).trans b1;have g2:=(E.cell (p:=⟨B,m*3+2,ν⟩) (iX.lt Hh.out)).trans b2;have lB:=EK.lt;have Wv:Hid _:=EK;clear ZW E hY hqd j hqx EK HN5 I8 Hh Aq
      go_upto_region 11 with fail
      rw[HW6.out];clear b0 b1 b2 nb Tq;have ZX:Hid (ug ⟨(m:Int),far+cm,nx⟩ (Z m)=true->(∃Q,iX (((V.setCell ⟨B,m*3,ν⟩ (ι κ (m:Int))).setCell ⟨B,m*3+1,ν⟩ (ι κ (far+cm))).setCell ⟨B,m*3+2,ν⟩ (ι κ nx)) B (hC Q) 204/\RS C r Q/\zq Q Z/\Dk C r Q (m::p))/\iX (((V.setCell ⟨B,m*3,ν⟩ (ι κ (m:Int))).setCell ⟨B,m*3+1,ν⟩ (ι κ (far+cm))).setCell ⟨B,m*3+2,ν⟩ (ι κ nx)) N (bC (qb H Y)) 205/\w.grownBy (((V.setCell ⟨B,m*3,ν⟩ (ι κ (m:Int))).setCell ⟨B,m*3+1,ν⟩ (ι κ (far+cm))).setCell ⟨B,m*3+2,ν⟩ (ι κ nx)) (μ B)):=by
       intro hb;obtain⟨u1,u2,u3⟩:=HU.out hb;have h:N≠B:=by have:=HBN.out;omega
       refine⟨⟨_,?_,u1,u2,u3⟩,iX.other (iX.other (iX.other HN6.out h _) h _) h _,kP (kP (kP HG6.out _ _) _ _) _ _⟩;rw[<-I6 Z m ⟨(m:Int),far+cm,nx⟩ dZ];exact iX.set (iX.set (iX.set Wv.out _ _) _ _) _ _
      have XR:Hid (¬ug ⟨(m:Int),far+cm,nx⟩ (Z m)=true->(∃Q,iX V B (hC Q) 204/\RS C r Q/\zq Q Z/\Dk C r Q (m::p))/\iX V N (bC (qb H Y)) 205/\w.grownBy V (μ B)):=
       λhb=>⟨⟨Z,Wv.out,HS.out.1,zq.refl _,HV.out hb⟩,HN6.out,HG6.out⟩
      clear HN6 HG6 Wv HU HV HPn;have hq5:M=0 \/(¬M=0/\far+cm<U) \/(¬M=0/\¬far+cm<U/\far+cm=U/\nx<qx) \/(¬M=0/\¬far+cm<U/\far+cm=U/\¬nx<qx) \/(¬M=0/\¬far+cm<U/\¬far+cm=U):=dZ;rcases hq5 with c1|⟨c1,c2⟩|⟨c1,c2,c3,c4⟩|⟨c1,c2,c3,c4⟩|⟨c1,c2,c3⟩
      have ZY:(M==0)=true:=by simpa using c1
      obtain⟨⟨Q,rK,F8,qU,Ti⟩,Ga,xb⟩:=ZX.out (AU.out.2 (.inl (HW.out.1 c1)));obtain⟨W7,OP⟩:=gg ((((V.setCell ⟨B,m*3,ν⟩ (ι κ (m:Int))).setCell ⟨B,m*3+1,ν⟩ (ι κ (far+cm))).setCell ⟨B,m*3+2,ν⟩ (ι κ nx)));clear c1
      rotate_left
      have ZY:(M==0)=false:=by simpa using c1
      have j:¬U=0:=λe=>c1 (HW.out.2 e);obtain⟨⟨Q,rK,F8,qU,Ti⟩,Ga,xb⟩:=ZX.out (AU.out.2 (.inr (.inl c2)));obtain⟨W7,OP⟩:=gg ((((V.setCell ⟨B,m*3,ν⟩ (ι κ (m:Int))).setCell ⟨B,m*3+1,ν⟩ (ι κ (far+cm))).setCell ⟨B,m*3+2,ν⟩ (ι κ nx)));clear c1 j
      rotate_left
      have ZY:(M==0)=false:=by simpa using c1
      have j:¬U=0:=λe=>c1 (HW.out.2 e);have c3':(far+cm==U)=true:=by simpa using c3
      obtain⟨⟨Q,rK,F8,qU,Ti⟩,Ga,xb⟩:=ZX.out (AU.out.2 (.inr (.inr ⟨c3,c4⟩)));obtain⟨W7,OP⟩:=gg ((((V.setCell ⟨B,m*3,ν⟩ (ι κ (m:Int))).setCell ⟨B,m*3+1,ν⟩ (ι κ (far+cm))).setCell ⟨B,m*3+2,ν⟩ (ι κ nx)));clear c1 j c3
      rotate_left
      have ZY:(M==0)=false:=by simpa using c1
      have j:¬U=0:=λe=>c1 (HW.out.2 e);have c3':(far+cm==U)=true:=by simpa using c3
      obtain⟨⟨Q,rK,F8,qU,Ti⟩,Ga,xb⟩:=XR.out (λhb=>by have:=AU.out.1 hb;omega);obtain⟨W7,OP⟩:=gg V;clear c1 j c3
      rotate_left
      have ZY:(M==0)=false:=by simpa using c1
      have j:¬U=0:=λe=>c1 (HW.out.2 e);have c3':(far+cm==U)=false:=by simpa using c3
      obtain⟨⟨Q,rK,F8,qU,Ti⟩,Ga,xb⟩:=XR.out (λhb=>by have:=AU.out.1 hb;omega);obtain⟨W7,OP⟩:=gg V;clear c1 j c3
      rotate_left
      all_goals
       rw[OP]at rK Ga xb;have j9:=HIH.out (m::p) m (far+cm) nx (qb H Y) Q W7 (by simp;omega) dZ HPs.out F8 rK (tj HBW.out xb xj);have OQ:iX W7 N (bC (qb H Y)) 205:=Ga;have XS:(eY.info? 205).map (·.size)=μ (bC (qb H Y)).size:=by rw[Jb];exact UE
       have YY:Hid _:=qU;have HD1:Hid _:=Ti;have HN1:Hid _:=Ga;have BI:Hid _:=xb;have HW7:Hid _:=OP;clear rK F8 qU Ti Ga xb OP XR ZX AU HW;obtain⟨bb,Jo⟩:=gg (bC (qb H Y));rw[Jo]at j9 OQ XS;have YS:Hid _:=Jo;clear Jo
       go_upto_region 13 with fail
       rw[HW7.out];go_wp2_with(first
        |refine lg _ rfl (.tmp 10) 205 rfl N bb _ _ rfl OQ underlying205 XS ?_)
       refine j9.mono ?_;rintro e w8 ⟨rfl,⟨G2,hB8,hR8,ZZ,hD8⟩,y8⟩;have hN8:iX w8 N (bC (qb H Y)) 205:=iX.keep HN1.out (y8.block N (iX.lt HN1.out) (λe=>by have:=HBN.out;simp at e;omega));have RQ:Hid (RS C r G2/\zq G2 G/\∀x q,x<m+1->Ext C r p x q->Dk C r G2 q):=by
        refine⟨hR8,ZZ.trans (zq.trans YY.out HS.out.2.1),λx q hx hq=> ?_⟩;by_cases ex:x=m
        ·subst ex;obtain⟨q1,q2,e,rfl⟩:=hq;rcases cM e with rfl|⟨e',y,BP⟩
         {exact Dk.mono HD1.out ZZ};{rw[cN]at BP;subst BP;exact hD8 y _ ⟨q1,q2,e',gU⟩}
        ·exact Dk.mono (Dk.mono (HS.out.2.2 x q dZ hq) YY.out) ZZ
       have HB8:Hid _:=hB8;have HN8:Hid _:=hN8;have HG8:Hid (w.grownBy w8 (μ B)):=⟨y8.os.trans BI.out.os,y8.tape.trans BI.out.tape,y8.output.trans BI.out.output,Nat.le_trans BI.out.size y8.size,λi hi h=>(y8.block i (Nat.lt_of_lt_of_le hi BI.out.size) h).trans (BI.out.block i hi h)⟩
       clear j9 hB8 hR8 ZZ hD8 y8 hN8 OQ XS
       go_wp2
       go_roundw
       case rel=>exact⟨m+1,G2,dZ,dZ,by go_num,RQ.out,HB8.out,HN8.out,HG8.out⟩
       case measure=>simp[eZ];omega
   ·have aeb:¬(m:Int)<=6:=dZ;have HR:Hid (∃Z,iX wr B (hC Z) 204/\RS C r Z/\zq Z G/\∀x q,Ext C r p x q->Dk C r Z q):=by
     refine⟨Z,hB,HS.out.1,HS.out.2.1,λx q hq=>HS.out.2.2 x q ?_ hq⟩;obtain⟨q1,_,e,rfl⟩:=hq;have:=(KL q1 x gU).1;omega
    have ZV:Hid _:=vh;clear hB hN vh
    go_wp2
    first|go_end0|refine iK rfl rfl ?_
    exact⟨rfl,HR.out,ZV.out⟩
theorem Tj(a:Option dW)(n cap:Nat)(S:Nat->SV)(E:Nat->List jJ)(r:Nat)(w:dX)(h:vT w a n S E)(hn:n<=1000)(iO:∀j,j<n->oA (S j).own (S j).seq (E j)=0)(k8:1<=r)(hr6:r<=6):
 eX eY 48 #[σ a n cap,ι κ (r:Int)] w λe w'=>∃b c,e=ρ (σ b (pY (kK (jV S E n)) r).length c)/\Pk w' b (pY (kK (jV S E n)) r).length (pY (kK (jV S E n)) r)/\eB w w':=by
 have U:Hid (∀(u v:Nat) W,eB w W->eX eY 159 #[σ a n cap,ι κ (u:Int),ι κ (v:Int)] W λe w'=>e=ρ (ι κ (kK (jV S E n) u v))/\eB W w'):=
  λu v W hW=>Uu a n cap S E u v W (h.below hW) hn iO
 have CS:=BS (vX S E n iO);have hD:=QZ S E n iO;have HI:Hid (∀u v,0<kK (jV S E n) u v->(1<=u/\u<=6)/\1<=v/\v<=6):=Yk S E n iO;generalize kK (jV S E n)=C at U CS hD HI⊢;clear iO;have FZ:∀x y,0<=C x y:=λx y=>(CS x y).1;have hz:=afs;have mc:=Yn;have r1:¬(r:Int)<1:=dZ;have r2:¬6<(r:Int):=dZ;obtain⟨Z,hZ⟩:=gg (bC (λ_=>false));obtain⟨Z2,Xt⟩:=gg (hC (λ_=>HP.zero));rw[hZ]at hz;rw[Xt]at mc;obtain⟨W1,j6⟩:=gg ((w.alloc (γ Z2 204)).alloc (γ Z 205));have k1:eB w W1:=by rw[<-j6];exact(gT _ _).alloc gU _
 have hB:iX W1 w.heap.size (hC λ_=>HP.zero) 204:=by rw[<-j6,Xt];exact(iX.new w _ _).below (gT _ _)
 have hN:iX W1 (w.heap.size+1) Z 205:=by rw[<-j6];exact iX.Gf _ _ _ _ gU
 have XS:(eY.info? 205).map (·.size)=μ Z.size:=by rw[<-hZ,Jb];exact UE
 have UH:UG C r [] r 0 0 (λ_=>false):=by
  refine⟨.inl ⟨rfl,rfl,rfl,rfl⟩,cZ,λx=> ?_⟩;simp[qb]
 have hrs:RS C r (λ_=>HP.zero):=⟨⟨λ_=>Int.le_refl _,λn hn=>by simp[HP.zero]at hn⟩,λ_ _=>rfl⟩
 have j9:=Tg a n cap r w C w.heap.size (Nat.le_refl _) U CS HI 7 [] r 0 0 (λ_=>false) (λ_=>HP.zero) W1 rfl dZ UH hrs hB k1;rw[hZ]at j9;have Kd:Hid _:=j6;have HK1:Hid _:=k1;clear j6 hZ Xt UH hrs hB k1 U
 go_in
 go_upto_region 5 with fail
 rw[Kd.out];go_wp2_with(first
  |refine lg _ rfl (.tmp 6) 205 rfl (w.heap.size+1) Z _ _ rfl hN underlying205 XS ?_)
 refine j9.mono ?_;rintro e w2 ⟨rfl,⟨G,CQ,FX,_,hD2⟩,vh⟩;have rL:eB w w2:=tj HK1.out vh (Nat.le_refl _);have kr:=Q5 FZ (hD r) G FX (λq q1 q2=>by
  rcases cM q with rfl|⟨e,x,he⟩
  ·exact q1.elim
  ·rw[cN]at he;exact hD2 x q ⟨q1,q2,e,he⟩)
 have HD3:Hid (∀m:Nat,1<=m->((0:Int)<(G m).dst↔0<CU C r m)/\(0<CU C r m->G m=jw C r 6 m)):=by
  intro m hm;obtain⟨s1,s2⟩:=kr m;refine⟨⟨λh9=> ?_,λh9=> ?_⟩,s2⟩;{by_cases e:0<CU C r m;{exact e};{have e0:=Nk FZ (hD r) m;have:=FX.z m dZ;rw[this]at h9;simp[HP.zero]at h9}};{have:=(FX.s.way m dZ).1;omega}
 have HF0:Hid (CU C r 0=0):=by
  show _=_;have e0:=Nk FZ (hD r) 0;by_cases e:0<CU C r 0
  ·obtain⟨_,q,q1,_,q3,_⟩:=KM FZ (hD r) 0 e;exfalso
   match q,q1,q3 with
   |[],q1,_=>exact q1
   |[x],q1,q3=>
    have:x=0:=by simpa using q3
    subst this;have:=HI.out _ _ q1.1;omega
   |x::y::l,q1,q3=>
    have:x=0:=by simpa using q3
    subst this;have:=HI.out _ _ q1.2.1;omega
  ·omega
 have HL:Hid (∀m,pT (jw C r 6) (m+1)=if 0<CU C r m then pT (jw C r 6) m++ [jw C r 6 m]else pT (jw C r 6) m):=λm=>rfl;have HE:Hid (pT (jw C r 6) 7=pY C r):=rfl;have HLL:Hid (∀m,(pT (jw C r 6) m).length<=m):=rm _;obtain⟨i0,hi,og,mZ,PZ⟩:=aW Pp;have Au:Hid _:=CQ;have HK2:Hid _:=rL;obtain⟨B,Q⟩:=gg (w.heap.size);rw[Q]at Au;rw[Q];clear j9 CQ FX hD2 vh rL kr hN XS Kd Q
 go_wp2
 go_loopw [7,8] (λs v wr=>∃m:Nat,1<=m/\m<=7/\v=ι κ m/\Row wr 3 s (pT (jw C r 6) m).length (Nf (pT (jw C r 6) m))/\(∀g,s.ownBlock=μ g->w2.heap.size<=g)/\eB w2 wr) (λ_ v _=>7-(eZ v).toNat)
 case atStart=>
  refine⟨1,dZ,dZ,rfl,?_,λg hg=>by simp[eh]at hg,au _ _⟩;have e:pT (jw C r 6) 1=[] :=by
   rw[HL.out 0,af (by rw[HF0.out];omega)];rfl
  rw[e];exact Row.nil _ _
 case round=>
  obtain⟨m,vP,hm7,rfl,V,jm,M⟩:=hrel;by_cases hm6:m<=6
  ·have aeb:(m:Int)<=6:=dZ;have amN:(m:Int)<7:=dZ;obtain⟨p0,p1,p2⟩:=AJ G m dZ;have Yi:=iX.below Au.out M;have c0:=(Yi.cell (m*3)).trans p0;have c1:=(Yi.cell (m*3+1)).trans p1;have c2:=(Yi.cell (m*3+2)).trans p2;clear p0 p1 p2 Yi;obtain⟨d1,d2⟩:=HD3.out m vP;have HS:Hid _:=HL.out m;have hll:=HLL.out m;have AW:Hid _:=jm;have HB:Hid _:=M;by_cases hf:0<CU C r m
   ·have Y:0<(G m).dst:=d1.2 hf;have he:=d2 hf;have zk:Hid (pT (jw C r 6) (m+1)=pT (jw C r 6) m++ [G m]):=by show _=_;rw[HS.out,ai hf,he]
    obtain⟨p,hp⟩:=gg (G m);rw[hp]at c0 c1 c2 Y zk;obtain⟨pd,pf,px⟩:=p;simp only at c0 c1 c2 Y;obtain⟨L,hLe⟩:=gg (pT (jw C r 6) m);rw[hLe]at zk V hll;have hws:Hid (w2.heap.size<=wr.heap.size):=M.size;clear hp hLe d1 d2 hf he jm M HS;go_wp2_with(at_builtin;go_must(refine iG _ rfl (.tmp 28) (.tmp 32) 94 rfl 98 i0 (.agg #[ι κ 0,ι κ 0,ι κ 0]) 3 24 underlying94 hi og mZ PZ rfl ew u7 L.length (Nf L) rfl (V.alloc _) _ 1 1 [ι κ pd,ι κ pf,ι κ px] rfl rfl ew (zp _ _ _ _ _ _ gU) (Uz _ _ _) (by unfold maxLen;omega) dZ ?_));intro g' jn w3 sD sE sG;have HR3:Hid (Row w3 3 (σ (μ ⟨g',0,ν⟩) (L.length+1) jn) (L++ [(⟨pd,pf,px⟩:HP)]).length (Nf (L++ [(⟨pd,pf,px⟩:HP)]))):=by
     show Row _ _ _ _ _;rw[KI,az];exact sD
    have H:eB w2 (wr.alloc (γ #[ι κ pd,ι κ pf,ι κ px] 98)):=Below.alloc HB.out HB.out.size _;have J9:Hid (eB w2 w3):=⟨sE.os.trans H.os,sE.tape.trans H.tape,sE.output.trans H.output,Nat.le_trans H.size sE.size,λi hi=>(sE.block i (Nat.lt_of_lt_of_le hi H.size) (λe=>by have:=AW.out i e.symm;omega)).trans (H.block i hi)⟩
    have Xu:Hid (∀g,eh (σ (μ ⟨g',0,ν⟩) (L.length+1) jn)=μ g->w2.heap.size<=g):=by
     intro g hg;have QD:g'=g:=by simpa[eh]using hg
     subst QD;rcases sG with e|e
     {exact AW.out _ e};{have:=hws.out;omega}
    clear sD sE sG H V c0 c1 c2
    go_wp2
    go_roundw
    case rel=>exact⟨m+1,dZ,dZ,by go_num,by rw[zk.out];exact HR3.out,Xu.out,J9.out⟩
    case measure=>simp[eZ];omega
   ·have Y:¬0<(G m).dst:=λe=>hf (d1.1 e);have zk:Hid (pT (jw C r 6) (m+1)=pT (jw C r 6) m):=by show _=_;rw[HS.out,af hf]
    generalize (G m).dst=pd at c0 Y;have AR:Hid _:=V;clear d1 d2 hf HS jm M V c1 c2
    go_wp2
    go_roundw
    case rel=>exact⟨m+1,dZ,dZ,by go_num,by rw[zk.out];exact AR.out,AW.out,HB.out⟩
    case measure=>simp[eZ];omega
  ·have aeb:¬(m:Int)<=6:=dZ;have Ru:m=7:=dZ;subst Ru;rw[HE.out]at V;obtain⟨ra,rc,rfl,hR⟩:=Row.hs V;have HR:Hid _:=hR;have HBE:Hid _:=gh HK2.out M;clear hR V jm M
   go_wp2
   go_ret
   first|exact⟨_,_,rfl,HR.out,HBE.out⟩|exact⟨_,⟨_,rfl⟩,HR.out,HBE.out⟩
namespace Rt
variable {D N i k m nc x:Nat} {L:List ot} {S:Nat->SV} {W w w0:World} {iQ:Nat->Bool} {y z:iM}
theorem Tk(C:kQ)(r:Nat):(pY C r).length<=7:=rm _ _
theorem qt.lists(h:qt m L iQ D N k z)(hc:mK (m:Int) L)(Y:∀j,j<m->(S j).own=(j:Int)+1/\(S j).seq=1):vr (wZ m L iQ) m S (vf m L iQ):=by
 have hm:=hc.m;refine⟨λj Z=>⟨?_,?_⟩,λj Z=> ?_,λk hk hs=> ?_,λi j hij Z=> ?_⟩;{rw[(Y j Z).1];unfold tf;omega};{rw[(Y j Z).1,(Y j Z).2];unfold wZ;rw[ai ⟨dZ,dZ⟩];have:((j:Int)+1-1).toNat=j:=dZ;rw[this]};{rw[(Y j Z).1,(Y j Z).2,h.ahY hc Z];obtain⟨B,V⟩:=h.f.s.s.env.i.own;obtain⟨_,U,_,Q,_⟩:=V.r j (by rw[h.a.1];exact Z);have:=zJ U (seq:=1) ⟨dZ,dZ⟩;rw[Q]at this;exact(congrArg _ (CG (z.R j)).symm).trans this}
 ·unfold wZ at hs;split at hs
  ·rename_i e
   exact⟨(k-1).toNat,dZ,by rw[(Y (k-1).toNat dZ).1];omega⟩
  ·exact absurd hs gU
 ·rw[(Y i dZ).1,(Y j Z).1];omega
structure aef(W:dX)(N m:Nat)(sb:Option dW)(sc:Nat)(H:Nat->List HP):Prop where
 a:∀x,x<m->∀V,eB W V->eX eY 47 #[π (μ ⟨N,0,ν⟩),ι κ ((x:Int)+1)] V λe w2=>∃b c,e=ρ (σ b (H x).length c)/\Pk w2 b (H x).length (H x)/\eB V w2
 b:∀x,x<m->∀V,eB W V->eX eY 48 #[σ sb m sc,ι κ ((x:Int)+1)] V λe w2=>∃b c,e=ρ (σ b (H x).length c)/\Pk w2 b (H x).length (H x)/\eB V w2
 n:∀x,(H x).length<=1000
theorem aef.of {Ng:Nat} {X:Nat->Prop} {W2:dX} {sb:Option dW} {sc:Nat} (hA:Ax w0 Ng X m nc i z W)(h:qt m L iQ D N k z)(hc:mK (m:Int) L)(hb:eB W W2)(G:∀j,j<m->(S j).own=(j:Int)+1/\(S j).seq=1)(E:vT W2 sb m S (vf m L iQ)):aef W2 Ng m sb sc λx=>mr (z.R x):=by
 have hm:=hc.m;refine⟨λx hx V Z=>(Tf hA hx V (gh hb Z)).mono λe w2 ⟨b,c,U,Q,M⟩=>⟨b,c,U,Q.r,M⟩,λx hx V Z=> ?_,λx=>Nat.le_trans (Tk _ _) dZ⟩;have hl:=h.lists hc G;have hh:=Tj sb m sc S (vf m L iQ) (x+1) V (E.below Z) dZ hl.ok dZ dZ;have H:XF (wZ m L iQ):=λy hy=>by
  unfold wZ at hy;split at hy;{omega};{exact absurd hy gU}
 rw[vr.grid hl H,<-h.amC hc hx]at hh;have Y:((x+1:Nat):Int)=(x:Int)+1:=dZ;rw[Y]at hh;exact hh
theorem OT(hc:mK (m:Int) L)(V:Nat->AV) {n2:Nat} (h40:n2<=40):qt m L (λx=>((pR (jM m L) V n2).C x).iQ) (1300000*n2+1300000*45) (2+144*n2+144*45) (n2+7) (lK (pR (jM m L) V n2) 45):=by
 have Y:Wh m L 0 2 0 (jM m L):=by
  have:=Wh.new hc (D:=0);rw[Int.toNat_natCast]at this;exact this
 have Z:=Y.OM V n2 dZ dZ dZ;rw[Nat.zero_add,Nat.zero_add]at Z;exact Z.settled dZ dZ dZ
def abx(c b:Int):AV:={(default:AV)with kind:=⟨#[112,108,117,103]⟩,a:=c,b:=b}
theorem Tl(y:iM)(c:Int)(up:Bool):(y.iH c up).1=rB y (abx c (if up then 1 else 0)):=by
 have h:((abx c (if up then 1 else 0)).kind.toList==[112,108,117,103])=true:=by
  show((⟨#[112,108,117,103]⟩:ByteArray).toList==[112,108,117,103])=true;decide+kernel
 unfold rB;rw[ai h];cases up<;>rfl
theorem Wh.iH {m:Nat} {L:List ot} {D N k:Nat} {y:iM} (h:Wh m L D N k y)(Z:D<=800000000)(Y:N+144<1000000)(V:k+1<=126)(c:Int)(up:Bool):Wh m L (D+1300000) (N+144) (k+1) (y.iH c up).1:=by
 rw[Tl];exact h.act Z Y V _
theorem qt.drawn(h:qt m L iQ D N k z)(hD:D<=500000000)(hN:N+60*144<1000000)(hk:k+10<=126)(c:Nat)(hc:c<L.length):
 qt m L (λx=>if x=c then false else iQ x) (D+1300000+1300000*45) (N+144+144*45) (k+1+7) (lK (z.iH (c:Int) false).1 45):=by
 have Z:=(h.wh.iH dZ dZ dZ (c:Int) false).settled dZ dZ dZ;have Y:=(h.f.st.g.iH h.f.st.ok (c:Int) false).2;refine⟨Z.f,Z.ma,Z.n,Z.nc,Z.e,Z.ms,λx=>(Z.iQ x).trans ?_⟩;show((z.iH (c:Int) false).1.C x).iQ=_;rw[Y x,<-h.iQ x];by_cases e:x=c;{rw[ai ⟨dZ,by rw[h.nc];omega⟩,ai e]};{rw[af (λe2=>e dZ),af e]}
def Qr:ByteArray:=⟨#[112,108,117,103]⟩
def GM(i:Nat):AV:=⟨Qr,i,1,0,0,fG,0,0,ν,0,0,SV.zero⟩
def GQ(i:Nat):List dY:=[.string Qr,ι κ i,ι κ 1,ι κ 0,ι κ 0,.string fG,ι κ 0,ι κ 0,σ ν 0 0,ι κ 0,ι κ 0,σ ν 0 0]
def GR(x:Nat):List dY:=(fW x).flatMap GQ
theorem BJ(x:Nat):GR (x+1)=GR x++GQ x:=by
 unfold GR;rw[bV,bW];simp
theorem Ao:∀x,(GR x).length=x*12
 |0=>rfl
 |x+1=>by rw[BJ,az,Ao x,Nat.succ_mul];rfl
theorem Mx:∀(x j o:Nat),j<x->o<12->(GR x)[j*12+o]? =(GQ j)[o]?
 |0,j,o,h,_=>absurd h (Nat.not_lt_zero _)
 |x+1,j,o,h,ho=>by
  rw[BJ];by_cases e:j=x;{subst e;rw[br (by rw[Ao];omega),Ao];congr 1;omega};{rw[bz (by rw[Ao];omega)];exact Mx x j o dZ ho}
theorem Xh {ao:Option dW} {cp:Nat} (h:Row w 12 (σ ao x cp) x (GR x)):Pc w ao x GM (λ_=>[]):=by
 refine⟨?_,λj _=>⟨jc.nil _ _,λ_=>rfl,Nat.zero_le _,Nat.zero_le _⟩,λj _=>⟨[],jc.nil _ _,λ_=>rfl,Nat.le_refl _⟩⟩;rcases h.2 with⟨_,e⟩|⟨g,cap,e,_,_,_,hc,_⟩
 ·exact .inl e
 ·simp at e;refine .inr ⟨g,0,e.1,λj Z=> ?_⟩;have k:∀o u,o<12->(GQ j)[o]? =μ u->w.cell? ⟨g,0+j*12+o,ν⟩=μ u:=λo u Y V=>by
   rw[Nat.zero_add];exact hc _ _ ((Mx x j o Z Y).trans V)
  exact⟨k 0 _ ew rfl,k 1 _ ew rfl,k 2 _ ew rfl,k 3 _ ew rfl,k 4 _ ew rfl,k 5 _ ew rfl,k 6 _ ew rfl,k 7 _ ew rfl,k 8 _ ew rfl,k 9 _ ew rfl,k 10 _ ew rfl,k 11 _ ew rfl⟩
theorem Xi(y:iM)(i:Nat):rB y (GM i)=(y.iH (i:Int) true).1:=by
 have h:(Qr.toList==[112,108,117,103])=true:=by decide+kernel
 exact ai h
theorem Xj {m:Nat} {L:List ot} (hc:mK (m:Int) L):∀i,i<=40->∀k,k<L.length->((pR (jM m L) GM i).C k).iQ=decide (k<i)
 |0,_,k,_=>by
  rw[b9 (Nat.not_lt_zero _)];rfl
 |i+1,hi,k,hk=>by
  have V:Wh m L 0 2 0 (jM m L):=by
   have:=Wh.new hc (D:=0);rw[Int.toNat_natCast]at this;exact this
  have Z:=V.OM GM i dZ dZ dZ;have ih:=Xj hc i dZ k hk;show((rB (pR (jM m L) GM i) (GM i)).C k).iQ=_;rw[Xi,(Z.s.g.iH Z.s.ok (i:Int) true).2 k,ih];by_cases e:k=i;{rw[ai ⟨dZ,by rw[Z.nc];exact hk⟩,bX dZ]};{rw[af (λh=>e dZ)];by_cases Y:k<i;{rw[bX Y,bX dZ]};{rw[b9 Y,b9 dZ]}}
theorem Ax.put {g:Nat} (h:Ax w0 N (λb=>b=g) m nc i y W)(Z:w0.heap.size<=g)(k:Nat)(v:dY):Ax w0 N (λb=>b=g) m nc i y (W.setCell ⟨g,k,ν⟩ v):=
 ⟨(oO.write h.1 (W':=W.setCell ⟨g,k,ν⟩ v) gU (λx _ Y=>ak _ _ _ x (λe=>Y e)) (λx e=>by rw[e];exact Z) rfl rfl rfl (λ_=>False) (λ_ e=>e.elim)).OC (λb=>gU),h.2⟩
theorem Z1(h:k<y.nc)(hi:(y.C k).iQ=true):(y.iH (k:Int) false).2=0:=by
 unfold iM.iH;rw[af dZ,Int.toNat_natCast,af (by rw[hi];decide)]
theorem Z3:(eY.info? 42).map (λi=>(i.zero,i.size,i.bytes))=μ (μ (.agg #[.string fG,ι κ 0,ι κ 0,ι κ 0,ι κ 0,.string fG,ι κ 0,ι κ 0,σ ν 0 0,ι κ 0,ι κ 0,σ ν 0 0]),12,144):=gS
theorem Tm(w:dX)(i:Nat)(t:TypeId)(g:Nat)(Z:w.heap.size=g):∀(j:Nat) (u:dY),(GQ i)[j]? =μ u->(w.alloc (γ #[.string Qr,ι κ i,ι κ 1,ι κ 0,ι κ 0,.string fG,ι κ 0,ι κ 0,σ ν 0 0,ι κ 0,ι κ 0,σ ν 0 0] t)).cell? ((⟨g,0,ν⟩:dW).add j)=μ u:=by
 subst Z;intro j u Y;rw[add_plain,aq];simpa[GQ]using Y
theorem Z4(i:Nat):∀u∈GQ i,u.oneCell'=true:=by simp[GQ,Value.oneCell']
structure Xk(w wr:dX)(v:dY)(x:Nat):Prop where
 row:Row wr 12 v x (GR x)
 own:∀j,v.ownBlock=μ j->w.heap.size<=j
 nQ:eB w wr
theorem Xk.step {W':dX} {v v':dY} (h:Xk w W v x) {o:Obj} (Y:Row W' 12 v' (x+1) (GR x++GQ x))(G:(W.alloc o).grownBy W' v.ownBlock)(hv:∀g,v'.ownBlock=μ g->v.ownBlock=μ g \/(W.alloc o).heap.size<=g):Xk w W' v' (x+1):=by
 have hb:eB w (W.alloc o):=gh h.nQ (gT W o);refine⟨by rw[BJ];exact Y,λj Z=> ?_,hb.grown G hb.size h.own⟩;rcases hv j Z with e|e
 {exact h.own j e};{exact Nat.le_trans hb.size e}
theorem Z5(many:Int)(a:Option dW)(n cap:Nat)(L:List ot)(which:Int)(w:dX)(hL:zT w a L)(hl:L.length=n)(hn:n<=1048576)(hT:jf w):
 eX eY 9 #[ι κ many,σ a n cap,ι κ which] w λe w'=>e=ρ (.bool true)/\eB w w':=by
 obtain⟨i0,MC,og,mZ,mc⟩:=aW Z3;have hw:=SG w hT;have Ds:∀W ao x cp,eB w W->Row W 12 (σ ao x cp) x (GR x)->eX eY 43 #[ι κ many,σ a n cap,σ ao x cp] W λe w'=>abg W many L x GM e w':=λW ao x cp hb hr=>
  OD many a n cap L ao x cp GM (λ_=>[]) W (hL.below hb) hl (by unfold maxLen;omega) (Xh hr) (jf.below (w:=w) hT hb)
 have HPl:Hid _:=Ds;have HT:Hid (jf w):=hT;have HL:Hid _:=hl;have HC:Hid (zT w a L):=hL;have HNn:Hid _:=hn;clear hL hT hl Ds
 go_in
 go_wp2_with(fail);refine hw.mono ?_;rintro e w0 ⟨rfl,xh⟩;have HB0:Hid _:=xh;clear hw xh;by_cases hz:n=0
 ·subst hz
  go_wp2
  go_ret;exact⟨rfl,HB0.out⟩
 have hnz:((n:Int)==0)=false:=by simpa using hz
 have Rj:0<n:=dZ
 go_wp2
 go_loopw [8,9] (λv i wr=>∃(x:Nat) (ao:Option dW) (cp:Nat),x<=n/\v=σ ao x cp/\i=ι κ x/\Xk w0 wr (σ ao x cp) x) (λ_ i _=>n-(eZ i).toNat)
 case atStart=>exact⟨0,ν,0,Nat.zero_le _,rfl,rfl,Row.nil _ _,λj hj=>by simp[eh]at hj,au _ _⟩
 case round=>
  obtain⟨x,ao,cp,hx,rfl,rfl,Z⟩:=hrel;obtain⟨u,rfl⟩:∃u,u=wr:=⟨_,rfl⟩
  have HI:Hid _:=Z;by_cases kA:x<n
  case pos=>
   have nL:(x:Int)<(n:Int):=dZ;have hr:=Z.row;clear Z;go_wp2_with(at_builtin;go_must(refine iG _ rfl (.tmp 27) (.tmp 30) 23 rfl 42 i0 (.agg #[.string fG,ι κ 0,ι κ 0,ι κ 0,ι κ 0,.string fG,ι κ 0,ι κ 0,σ ν 0 0,ι κ 0,ι κ 0,σ ν 0 0]) 12 144 underlying23 MC og mZ mc rfl ew (σ ao x cp) x (GR x) rfl (hr.alloc _) _ 1 1 (GQ x) rfl rfl ew (Tm _ _ _ _ gU) (Z4 _) (by unfold maxLen;omega) dZ ?_));intro g' jn w9 ZT ZU CH;have kd:Xk w0 w9 (σ (μ ⟨g',0,ν⟩) (x+1) jn) (x+1):=by
    refine HI.out.step ZT ZU (λg hg=> ?_);have:g'=g:=by simpa[eh]using hg
    subst this;rcases CH with e|e
    {exact .inl e};{exact .inr (Nat.le_trans (Nat.le_of_eq gU) e)}
   have vD:Hid _:=kd;clear kd ZT ZU CH hr
   go_wp2
   go_roundw
   case rel=>
    exact⟨x+1,_,jn,dZ,rfl,by go_num,vD.out⟩
   case measure=>simp[eZ];omega
  case neg=>
   have xL:¬(x:Int)<(n:Int):=dZ;obtain rfl:x=n:=dZ;obtain⟨w1,rfl⟩:∃w1,w1=u:=⟨_,rfl⟩
   have Dn:Hid (eB w w1):=gh HB0.out Z.nQ;have hp:=HPl.out w1 ao x cp Dn.out Z.row;clear Z HI;go_wp2_with(fail);refine hp.mono ?_;rintro e w2 hP;clear hp;rcases hP with⟨rfl,mS⟩|⟨h0,h40,N,g,rfl,Z⟩
   ·have Au:Hid (eB w w2):=gh Dn.out mS;clear mS
    go_wp2
    go_ret;exact⟨rfl,Au.out⟩
   ·have Xl:=uU h0;have vP:=Xl.m;obtain⟨m,rfl⟩:∃m:Nat,many=(m:Int):=⟨many.toNat,dZ⟩
    rw[Int.toNat_natCast]at Z;have Lc:=OT Xl GM h40;have hAt:=Z.at_;have iV:=Z.row;have Pa:=Z.g0;have K0:=Z.gl;have kL:=λk=>Xj Xl x h40 k;obtain⟨Y,hY⟩:=gg (pR (jM m L) GM x);rw[hY]at Lc hAt iV;simp only[hY]at kL;have XE:jf w1:=jf.below (w:=w) HT.out Dn.out;have kd:=FU hAt XE dZ;obtain⟨z,hz⟩:=gg (lK Y 45);rw[hz]at kd Lc;obtain⟨q,hq,hqe⟩:=WE which;obtain⟨k,hke⟩:=gg (q%x);have V:k<x:=by rw[<-hke];exact Nat.mod_lt _ Rj
    have arS:((q:Nat):Int).tmod (x:Int)=(k:Int):=by rw[<-hke];exact Int.ofNat_tmod q x
    have Uy:κ.wrap (k:Int)=(k:Int):=aS _ ⟨dZ,dZ⟩;have rV:κ.wrap (q:Int)=(q:Int):=aS _ ⟨dZ,dZ⟩;have hki:(k:Int)<(x:Int):=dZ;have Gi:(0:Int)<=(k:Int):=dZ;have M:k<L.length:=by rw[HL.out];exact V
    have h:(Y.C k).iQ=true:=by rw[kL k M];exact bX V
    have hcut:=Lc.drawn dZ dZ dZ k M;have aie:=Z1 (y:=z) (k:=k) (by rw[Lc.nc];exact M) (by rw[Lc.iQ k];exact h);obtain⟨z2,mc⟩:=gg ((z.iH (k:Int) false).1);rw[mc]at hcut;obtain⟨E,Xm⟩:∃E:Nat->Bool,(λc=>if c=k then false else(Y.C c).iQ)=E:=⟨_,rfl⟩
    rw[Xm]at hcut;have amX:Hid (∃D N q,qt m L E D N q (lK z2 45)):=⟨_,_,_,hcut⟩
    have HZ2:Hid ((z.iH (k:Int) false).1=z2/\(z.iH (k:Int) false).2=0):=⟨mc,aie⟩
    have Zb:Hid _:=Xl;have HT1:Hid (jf w1):=XE;have HN:Hid (x<=40/\w1.heap.size<=g/\g<w2.heap.size):=⟨h40,Pa,K0⟩
    rw[HL.out]at iV⊢;have AR:Hid (∀W W':dX,W.heap[g]? =w2.heap[g]?->W'.heap[g]? =(W.setCell ⟨g,k,ν⟩ (.bool false)).heap[g]?->qg W' g 0 x (λc=>.bool (E c))):=by
     intro W W' h1 h2;have G:=(iV.keep h1).set k V (.bool false);rw[Nat.zero_add]at G;refine(G.keep h2).congr λc _=> ?_;rw[<-Xm];show(if c=k then Value.bool false else .bool (Y.C c).iQ)=.bool (if c=k then false else(Y.C c).iQ);split<;>rfl
    have aif:Hid (∀W:dX,W.heap[g]? =w2.heap[g]?->W.cell? ⟨g,k,ν⟩=μ (.bool true)/\W.frozen? ⟨g,k,ν⟩=false):=by
     intro W h1;have G:=iV.keep h1;have c1:=G.cell k V;have c2:=G.fz k V;rw[Nat.zero_add]at c1 c2;rw[h]at c1;exact⟨c1,c2⟩
    have aih:Hid (∀W,eB w W->qg W g 0 x (λc=>.bool (E c))->eX eY 45 #[ι κ (m:Int),σ a x cap,σ (μ ⟨g,0,ν⟩) x x] W λe w'=>Qp W m (vf m L E) e w'):=λW hb hc=>
     Xc m a x cap g L E W (HC.out.below hb) HL.out Zb.out hc
    clear Z h0 Xl Lc hAt iV hY XE hcut aie mc hz hke hq K0 Pa kL h Xm M;go_wp2_with(fail);refine kd.mono ?_;rintro e w3 ⟨rfl,hA3,yt⟩;have Xu:Hid (w3.heap[g]? =w2.heap[g]?):=yt g rfl;have zY:=hA3.iH HT1.out (by have:=HN.out.1;omega) (k:Int) false;rw[HZ2.out.1,HZ2.out.2]at zY;have e0:ji 0=η:=rfl;rw[e0]at zY;clear kd hA3 yt e0;go_wp2_with(fail);refine zY.mono ?_;rintro e w4 ⟨rfl,hA4,hX4⟩;have HG4:Hid (w4.heap[g]? =w2.heap[g]?):=(hX4 g rfl).trans Xu.out;obtain⟨hcell,Pz⟩:=aif.out w4 HG4.out;have gl:=ag _ _ hcell;have hA5:=hA4.put HN.out.2.1 k (.bool false);obtain⟨w5,F9⟩:=gg (w4.setCell ⟨g,k,ν⟩ (.bool false));rw[F9]at hA5;have aii:=FU hA5 HT1.out (by have:=HN.out.1;omega);have HW5:Hid _:=F9;clear zY hA4 hX4 hA5 F9;go_wp2_with(fail);rw[HW5.out];refine aii.mono ?_;rintro e w9 ⟨rfl,hA9,hX9⟩;have uS:=AR.out w4 w9 HG4.out ((hX9 g rfl).trans (by rw[HW5.out]));have HB9:Hid (eB w w9):=gh Dn.out hA9.1.nQ;have HA9:Hid (Ax w1 N (λb=>b=g) m L.length (x+45+1+45) (lK z2 45) w9):=hA9;have hlv:=aih.out w9 HB9.out uS;clear aii hA9 hX9 uS hcell Pz gl;go_wp2_with(fail);refine hlv.mono ?_;rintro e U ⟨sb,sc,S,rfl,aik,hSo,aeh⟩;obtain⟨D2,N2,q2,Nm⟩:=amX.out;have aei:=aef.of (sc:=sc) HA9.out Nm Zb.out aeh hSo aik;obtain⟨H,hH⟩:∃H:Nat->List HP,H=λx=>mr ((lK z2 45).R x):=⟨_,rfl⟩
    rw[<-hH]at aei;have aej:Hid _:=aei;have amY:Hid (eB w U):=gh HB9.out aeh;clear hlv aik hSo aeh aei hH Nm
    go_wp2
    go_loopw [14] (λi wr=>∃y:Nat,y<=m/\i=ι κ ((y:Int)+1)/\eB U wr) (λi _=>m+1-(eZ i).toNat)
    case atStart=>exact⟨0,Nat.zero_le _,rfl,au _ _⟩
    case round=>
     obtain⟨y,hx,rfl,qH⟩:=hrel;obtain⟨u,rfl⟩:∃u,u=wr:=⟨_,rfl⟩
     have Q:Hid _:=qH;clear qH;by_cases kA:y<m
     case neg=>
      have xL:¬(y:Int)+1<=(m:Int):=dZ
      go_wp2
      go_ret;exact⟨rfl,gh amY.out Q.out⟩
     case pos=>
      have nL:(y:Int)+1<=(m:Int):=dZ;have h1:=aej.out.a y kA u Q.out;go_wp2_with(fail);refine h1.mono ?_;rintro e w5 ⟨b5,c5,rfl,hH5,YO⟩;have h2:=aej.out.b y kA w5 (gh Q.out YO);have HH5:Hid _:=hH5;have Hh:Hid (eB U w5):=gh Q.out YO;clear h1 hH5 YO;go_wp2_with(fail);refine h2.mono ?_;rintro e w6 ⟨b6,c6,rfl,hH6,hb6⟩;have G:=zu b5 b6 (H y).length c5 c6 (H y) w6 (HH5.out.below hb6) hH6 (aej.out.n y);have Wv:Hid (eB U w6):=gh Hh.out hb6;clear h2 hH6 hb6;go_wp2_with(fail);refine G.mono ?_;rintro e w7 ⟨rfl,Xw⟩;have HB7:Hid (eB U w7):=gh Wv.out Xw;clear G Xw
      go_wp2
      go_roundw
      case rel=>exact⟨y+1,dZ,by go_num,HB7.out⟩
      case measure=>simp[eZ];omega
