import Derived.Test.YtieklnlbljejdaaGreatDoorQ20
open Option renaming none → ν, some → μ
open List renaming filterMap → ik
set_option maxRecDepth 100000
namespace Go.Proofs.YtieklnlbljejdaaGreatDoor
open Go.RowKit St
namespace Rt
variable {D N W Z c d i j k p w:Nat} {F G l:List kM} {L M:LS} {T:List (Nat×Nat)} {X:Marks} {a b m:AN} {g:Int} {r:iE} {t:Nat×Nat->Nat} {x:kM} {y:iI}
def uD:kM->Nat
 |77::_=>1
 |_=>0
theorem tU {c:UInt8} (s:List UInt8)(h:c≠77):uD (c::s)=0:=by
 unfold uD;split
 ·rename_i e;exact absurd (aB e).1 h
 ·rfl
theorem UN {α:Type} {f g:α->Nat}:∀ {l:List α},(∀x∈l,1<=f x+g x)->l.length<=sm f l+sm g l
 |[],_=>Nat.zero_le _
 |x::l,h=>by
  have:=UN (l:=l) λy hy=>h y (by simp[hy]);have h1:=h x gO;show l.length+1<=(f x+sm f l)+(g x+sm g l);omega
theorem XA(X:Int->Bool)(x:kM):1<=oj X x+uD x:=by
 unfold oj;cases Br 1 x with
 |some i=>simp only;split<;>omega
 |none=>
  simp only;split
  ·omega
  ·show 1<=0+1;omega
  ·omega
theorem ae0(a:AN)(hc:c<a.nc)(hd:d<2):sm uD (a.F c d)<=a.W uD:=by
 have h1:0+sm uD (a.F c d)<=a.W uD:=by
  have:=zj (f:=λ_:Nat×Nat=>0) (g:=λx:Nat×Nat=>sm uD (a.F x.1 x.2)) (y:=(c,d)) (k:=sm uD (a.F c d)) (wI a.nc) (pJ.2 ⟨hc,hd⟩) λx _=>by
   show 0+(if x=(c,d)then _ else 0)<=sm uD (a.F x.1 x.2);by_cases e:x=(c,d)
   ·subst e;rw[ag rfl];exact Nat.le_of_eq (Nat.zero_add _)
   ·rw[ae e];omega
  have e0:sm (λ_:Nat×Nat=>0) (QD a.nc)=0:=by
   generalize QD a.nc=l
   induction l with
   |nil=>rfl
   |cons x l ih=>simpa[sm]using ih
  unfold AN.W;omega
 omega
theorem QN(h:x.length<=23):(Plain.kF x).length<=52:=by
 have h1:=Plain.yy (Plain.ld x);have h2:=Plain.mR x;have h3:=sS x;omega
theorem Ez:∀ {l:List kM},(∀x∈l,x.length<=23)->(l.flatMap Plain.kF).length<=52*l.length
 |[],_=>Nat.le_refl _
 |x::l,h=>by
  have:=Ez (l:=l) λy hy=>h y (by simp[hy]);have h1:=QN (h x gO);rw[bT,az,cH];omega
structure Calm(t:Nat×Nat->Nat)(W:Nat)(a:AN):Prop where
 lk:∃X,qy X t a/\∀c,c<a.nc->wc X a c<=W
 ml:a.W uD<=1
theorem Calm.few(h:Calm t W a)(hc:c<a.nc)(hd:d<2):(a.F c d).length<=W+1/\(a.F c d≠ []->a.iR c=true):=by
 obtain⟨X,Q,U⟩:=h.lk;have h1:=UN (l:=a.F c d) λx _=>XA (X c d) x;have h2:=ae0 a hc hd;have h3:=h.ml;have h4:sm (oj (X c d)) (a.F c d)<=wc X a c:=by
  have:d=0 \/d=1:=dU;unfold wc;rcases this with rfl|rfl<;>omega
 have h5:=U c hc;refine⟨dU,λV=> ?_⟩;cases Y:a.F c d with
 |nil=>exact absurd Y V
 |cons x l=>exact Q.yh hc hd (x:=x) (by rw[Y];simp)
theorem Calm.room {z:iI} (h:Calm t 34 (iz z))(hF:∀i p,∃ps,Frames ((z.R i).P p).out ps)(Q:∀c d,c<z.nc->d<2->sY z c d)(V:CB (iz z)):Room z:=λc d hc hd=>by
 obtain⟨r1,ps,Y,U⟩:=Q c d hc hd;obtain⟨qs,q1,q2⟩:=hF ((z.C c).e d).1 ((z.C c).e d).2;have hf:(iz z).F c d=ps++qs:=by
  show(if c<z.nc/\d<2 then si z c d else [])=_;rw[ag ⟨hc,hd⟩];unfold si;rw[r1,Y,py ps U,mF ⟨q1,q2⟩]
 obtain⟨f1,f2⟩:=h.few hc hd;rw[hf]at f1 f2;cases qs with
 |nil=>left;rw[q1];rfl
 |cons x l=>
  right;refine⟨f2 gO,?_⟩;rw[Y,q1,<-az,<-bZ];have:=Ez (l:=ps++x::l) λy hy=>(V.kn c d hc hd y (by rw[hf];exact hy)).2.1;omega
inductive uW:AN->AN->Prop
 |nil (a:AN):uW a a
 |snoc {a b:AN} (c d:Nat) (x:kM) (l:List kM):uW a b->c<b.nc->d<2->b.F c d=x::l->uW a (b.pop c d x l)
theorem uW.path(h:uW a b):jL a [] [] b:=by
 induction h with
 |nil=>exact jL.nil a
 |snoc c d x l _ hc hd hF ih=>exact ih.snoc (mc.pop c d x l hc hd hF)
theorem uW.trans {c:AN} (h:uW a b)(g:uW b c):uW a c:=by
 induction g with
 |nil=>exact h
 |snoc c d x l _ hc hd hF ih=>exact ih.snoc c d x l hc hd hF
theorem yc.YU(h:yc c d l a b):uW a b:=by
 induction h with
 |nil a=>exact uW.nil a
 |cons V Y U _ ih=>exact((uW.nil _).snoc _ _ _ _ V Y U).trans ih
theorem UO(h:Ek r i x p l):sm uD l<=uD x:=by
 cases h with
 |none h=>rw[h];exact Nat.zero_le _
 |link s _ _ _ h=>
  rw[h];have:∀l:List kG,sm uD (l.flatMap nR)=0:=λl=>by
   have e:∀y∈l.flatMap nR,uD y=0:=λy hy=>by obtain⟨s,rfl⟩:=qV hy;exact tU s dX
   rw[rW (g:=λ_=>0) e];generalize l.flatMap nR=m
   induction m with
   |nil=>rfl
   |cons x l ih=>simpa[sm]using ih
  rw[this];exact Nat.zero_le _
 |heard s _ _ _ _ _ _ _ h=>rw[h];show uD (65::_)+0<=_;rw[tU _ dX];exact Nat.zero_le _
 |H9 a b s hx _ _ _ h=>rw[h,hx];exact Nat.le_refl _
theorem UQ(A:sX a)(u:Norm a)(hc:c<a.nc)(hd:d<2)(hF:a.F c d=x::l):(a.pop c d x l).W uD<=a.W uD:=by
 obtain⟨m1,m2⟩:=pK (u.emp (a.e c (1-d)).1) (a.e c (1-d)).2 x;have H:=abd (a:=a.kZ c d l) (A.same rfl rfl rfl) (a.e c (1-d)).1 (jD (a.R (a.e c (1-d)).1) (a.e c (1-d)).2 x) uD;have h2:=YG uD hc hd hF;have V:=λp=>UO (m1 p);obtain⟨r',J⟩:∃r',jD (a.R (a.e c (1-d)).1) (a.e c (1-d)).2 x=r':=⟨_,rfl⟩
 unfold AN.pop;rw[J]at m2 H V⊢;have h4:sm uD (je (r'.P 0))+sm uD (je (r'.P 1))+sm uD (je (r'.P 2))<=uD x:=by
  have z:∀p,je (r'.P p)=[]->sm uD (je (r'.P p))=0:=λp h=>by rw[h];rfl
  have a0:=V 0;have a1:=V 1;have a2:=V 2;by_cases U:je (r'.P 0)=[]
  ·rw[z 0 U];by_cases Y:je (r'.P 1)=[]
   ·rw[z 1 Y];omega
   ·have Q:je (r'.P 2)=[] :=by
     by_cases e:je (r'.P 2)=[]
     ·exact e
     ·exact absurd (m2 1 2 Y e) dX
    rw[z 2 Q];omega
  ·have Y:je (r'.P 1)=[] :=by
    by_cases e:je (r'.P 1)=[]
    ·exact e
    ·exact absurd (m2 0 1 U e) dX
   have Q:je (r'.P 2)=[] :=by
    by_cases e:je (r'.P 2)=[]
    ·exact e
    ·exact absurd (m2 0 2 U e) dX
   rw[z 1 Y,z 2 Q];omega
 omega
theorem uW.calm(h:uW a b)(hB:sX a)(hN:Norm a)(ht:∀x,t x<=127)(hc:Calm t W a):Calm t W b:=by
 induction h with
 |nil=>exact hc
 |snoc c d x l p Q V H ih=>
  obtain⟨⟨X,hX,hw⟩,hm⟩:=ih;have U:=p.path.qw hB;have J:=p.path.norm hN;obtain⟨Y,u,pp⟩:=hX.pop U J ht Q V H;exact⟨⟨Y,u,λc' A=>Nat.le_trans (pp.w c' A) (hw c' A)⟩,Nat.le_trans (UQ U J Q V H) hm⟩
theorem Oi(X:Int->Bool):∀l:List (Int×PS),sm (oj X) (l.flatMap Cz)<=2*l.length
 |[] =>Nat.le_refl _
 |q::l=>by
  have:=Oi X l;rw[bT,pz];have h1:sm (oj X) (Cz q)<=2:=by
   unfold Cz;split
   ·show oj X (83::_)+0<=2;unfold oj;rw[wL 1 _ dX];exact Nat.le_refl _
   ·exact Nat.zero_le _
  simp only[List.length_cons];omega
theorem Oj(X:Int->Bool)(r:iE)(p:Nat):sm (oj X) (zE r p)<=13/\sm uD (zE r p)=0:=by
 have U:sm uD (zE r p)=0:=by
  have e:∀y∈zE r p,uD y=0:=λy hy=>by
   unfold zE at hy;split at hy
   ·rcases aQ.1 hy with g|g
    ·rw[g];exact tU _ dX
    ·split at g
     ·obtain⟨q,_,Y⟩:=aV.1 g;unfold Cz at Y;split at Y
      ·rw[ar.1 Y];exact tU _ dX
      ·simp at Y
     ·simp at g
   ·simp at hy
  rw[rW (g:=λ_=>0) e];generalize zE r p=m
  induction m with
  |nil=>rfl
  |cons x l ih=>simpa[sm]using ih
 refine⟨?_,U⟩;unfold zE;split
 ·have V:∀s,oj X (72::s)=1:=λs=>by unfold oj;rw[wL 1 s dX];rfl
  show oj X (72::_)+sm (oj X) (if _ then _ else _)<=13;rw[V];split
  ·have:=Oi X (kO (((iT r p).meet p (iA (r.P p).pe)).O p));have:=Af (((iT r p).meet p (iA (r.P p).pe)).O p);omega
  ·show 1+0<=13;omega
 ·exact Nat.zero_le _
theorem wW.light(h:wW T a b)(Q:sX a)(u:Norm a)(U:∀x,pN t T x<=126)(hX:qy X t a)(J:∀c d,c<a.nc->d<2->sm (oj (X c d)) (a.F c d)=0):(∃Y,qy Y (pN t T) b/\∀c d,c<a.nc->d<2->sm (oj (Y c d)) (b.F c d)<=17*T.count (a.e c d))/\b.W uD<=a.W uD:=by
 induction h with
 |nil=>exact⟨⟨X,by rw[oL];exact hX,λc d hc hd=>by rw[J c d hc hd];exact Nat.zero_le _⟩,Nat.le_refl _⟩
 | @snoc T a b i p tk hi hp ih=>
   rw[Bt]at U⊢;obtain⟨⟨Y,hY,hs⟩,hm⟩:=ih Q u (λx=>Nat.le_trans (Nat.le_add_right _ _) (U x)) hX J;have H:=tk.path.qw Q;have A:=tk.path.norm u;have hn:=tk.path.same;obtain⟨Z,hZ,hf⟩:=hY.tick H A (i:=i) (p:=p) λx=>Nat.le_trans (Nat.le_add_right _ _) (U x);refine⟨⟨Z,hZ,λc d hc hd=> ?_⟩,?_⟩
   ·have jN:c<b.nc:=by rw[hn.2.1];exact hc
    obtain⟨f1,f2⟩:=hf c d jN hd;rw[List.count_append];have h1:=hs c d hc hd;rw[hn.2.2.1]at f1 f2;by_cases e:a.e c d=(i,p)
    ·obtain⟨em,g1,g2⟩:=f2 e;have V:=g2.w;have Vw:sm (oj (Z c d)) em<=4:=by
      rcases g1 with g|g
      ·rw[g];exact Nat.zero_le _
      ·rw[g];show oj _ (l5 _ _)+0<=4;have hg:=qL Q hc hd;unfold oj;split
       ·split<;>omega
       ·split<;>omega
     have yo:=(Oj (Z c d) (b.R i) p).1;rw[pz]at V;have h2:([(i,p)] :List (Nat×Nat)).count (a.e c d)=1:=by rw[e];simp
     rw[h2];omega
    ·have V:=(f1 e).w;have:sm (oj (Z c d)) [] =0:=rfl;omega
   ·obtain⟨e1,e2⟩:=wJ (A.emp i) p;have V:=abd H i ((b.R i).iL p) uD;have z:∀q,sm uD (je (((b.R i).iL p).P q))=0:=λq=>by
     by_cases e:q=p
     ·subst e;have e3:je (((b.R i).iL q).P q)=(iW ((b.R i).P q).L).2.flatMap nR++zE (b.R i) q:=e2;rw[e3,pz,(Oj (λ_=>false) (b.R i) q).2];have e:∀y∈(iW ((b.R i).P q).L).2.flatMap nR,uD y=0:=λy hy=>by obtain⟨s,rfl⟩:=qV hy;exact tU s dX
      rw[rW (g:=λ_=>0) e];generalize (iW ((b.R i).P q).L).2.flatMap nR=m
      induction m with
      |nil=>rfl
      |cons x l ih=>simpa[sm]using ih
     ·rw[e1 q e];rfl
    rw[z,z,z]at V;omega
def oW(y:iI):Prop:=∀c d,c<y.nc->d<2->sY y c d
theorem Fb(hF:jo y)(h:oW y):oW y.gather:=λc d hc hd=>by
 have Y:c<y.nc:=by rw[<-(ln y).2.1];exact hc
 obtain⟨g1,ps,U,J⟩:=AF hF c d Y hd;obtain⟨r1,qs,H,V⟩:=h c d Y hd;exact⟨g1.trans r1,qs++ps,by rw[J,H,bZ],λp Q=>(av.1 Q).elim (V p) (U p)⟩
theorem KJ(h:oW y)(i:Nat)(Y:mN (y.R i) r):oW (y.jq i r):=λc d hc hd=>by
 obtain⟨r1,V⟩:=h c d hc hd;refine⟨?_,V⟩;rw[<-r1];show((jK y.R i r ((y.C c).e (1-d)).1).P ((y.C c).e (1-d)).2).rd=((y.R ((y.C c).e (1-d)).1).P ((y.C c).e (1-d)).2).rd;by_cases e:((y.C c).e (1-d)).1=i
 ·rw[e,iu];exact Y.rd _
 ·rw[iq _ _ e]
theorem count_le(h:T.Nodup)(x:Nat×Nat):T.count x<=1:=List.nodup_iff_count.1 h x
theorem EA(h:wW T a b)(V:T.Nodup)(H:sX a)(u:Norm a)(hk:k+1<=126)(A:qy X (λ_=>k) a)(Q:∀c d,c<a.nc->d<2->sm (oj (X c d)) (a.F c d)=0)(hm:a.W uD<=1):Calm (λ_=>k+1) 34 b:=by
 obtain⟨⟨Y,U,hs⟩,J⟩:=h.light H u (λx=>Nat.le_trans (m7 V k x) hk) A Q;refine⟨⟨Y,U.mono (m7 V k),λc hc=> ?_⟩,Nat.le_trans J hm⟩;rw[h.path.same.2.1]at hc;have h1:=hs c 0 hc dX;have h2:=hs c 1 hc dX;have c1:=count_le V (a.e c 0);have c2:=count_le V (a.e c 1);unfold wc;omega
theorem wq {y:iI} {Z N k:Nat} (hF:jo y)(U:jT y Z 0)(H:Z<=800000000)(V:Inv N (λ_=>k) (iz y))(hl:N+144<1000000)(Q:k+1<=126)(hR:oW y) {X:Marks} (u:qy X (λ_=>k) (iz y))(A:∀c d,c<y.nc->d<2->sm (oj (X c d)) ((iz y).F c d)=0)(h:(iz y).W uD<=1):∀q,q<=y.n->wW (l8 q) (iz y) (iz (y.iN q))/\oW (y.iN q)
 |0,_=>⟨wW.nil _,hR⟩
 |q+1,hq=>by
  have n6:=U.n6;obtain⟨J,r1⟩:=wq hF U H V hl Q hR u A h q dU;have fz:=jo.iN hF q;have kz:=U.iN H q dU;have nz:(y.iN q).n=y.n:=(nY y q).1;obtain⟨z,hz⟩:=fW (y.iN q);rw[hz]at J r1 fz kz nz;obtain⟨t1,e1,f1⟩:=Eh fz kz dU q dU;have r2:=KJ r1 q (mN.iN (z.R q) (z.R q).n);have Y:=J.trans t1;rw[<-Aw]at Y;obtain⟨nd,len,_⟩:=oh (q+1);have hc:=EA Y nd V.qw V.nrm Q u A h;have wz:=(V.path Y.path (by rw[len];omega) λx=>Nat.le_trans (m7 nd k x) Q).fl;have XT:=hc.room f1.o r2 wz;have jY:(y.iN (q+1))=(z.jq q (z.R q).tick).gather:=by
   show((y.iN q).tick ((q:Int)+1)).1=_;rw[hz];unfold iI.tick;rw[ae dU];show(z.jq ((q:Int)+1-1).toNat (z.R ((q:Int)+1-1).toNat).tick).gather=_;rw[show((q:Int)+1-1).toNat=q by omega]
  rw[jY];exact⟨by rw[(oU f1 e1).2 XT];exact Y,Fb f1 r2⟩
theorem xx(hF:jo y)(H:jT y Z 0)(hZ:Z<=900000000)(U:Inv N (λ_=>k) (iz y))(hl:N<1000000)(hk:k<=126)(u:oW y)(hc:Calm (λ_=>k) 34 (iz y))(A:c<y.nc)(hd:d<2):uW (iz y) (iz (y.deliver c d 2000).1)/\oW (y.deliver c d 2000).1:=by
 have hf:=uC hF H hZ A hd;obtain⟨J,_,p3⟩:=hf.ps;have h:=H.nZ;have f1:=hF.jg h c d ((y.C c).on d).length A hd;have rr:=hf.rv;obtain⟨s1,s2,_,_⟩:=qI y c d ((y.C c).on d).length;have Y:=J.YU;have RZ:=Y.calm U.qw U.nrm (λ_=>dU) hc;have wz:CB (iz (y.jg c d ((y.C c).on d).length)):=(U.path J.path (by simpa using hl) λx=>by rw[oL];exact hk).fl;have r1:oW (y.jg c d ((y.C c).on d).length):=λx f hx V=>by
  rw[s2]at hx;obtain⟨g1,g2⟩:=rr x f hx V;unfold sY;rw[g1,g2];by_cases e:x=c/\f=d
  ·rw[ag e,ag e];exact⟨rfl,[],Frames.nil⟩
  ·rw[ae e,ae e];exact u x f hx V
 rw[p3 (RZ.room f1.o r1 wz)];refine⟨Y,λx f hx V=> ?_⟩;have Q:x<y.nc:=by rw[<-(mE y c d 2000).2.1];exact hx
 exact hf.rest Q V (.inr (u x f Q V))
theorem Inv.YU(h:Inv N (λ_=>k) a)(p:uW a b)(hl:N<1000000)(Y:k<=126):Inv N (λ_=>k) b:=by
 have:=h.path p.path (by simpa using hl) λx=>by rw[oL];exact Y
 rw[oL]at this;simpa using this
theorem zw {y:iI} {Z N k:Nat} (hF:jo y)(Q:jT y Z 0)(H:Z<=890000000)(V:Inv N (λ_=>k) (iz y))(hl:N<1000000)(U:k<=126)(A:oW y)(hc:Calm (λ_=>k) 34 (iz y)):∀q,q<=y.nc->uW (iz y) (iz (y.jF q))/\oW (y.jF q)
 |0,_=>⟨uW.nil _,A⟩
 |q+1,hq=>by
  have c9:=Q.c9;obtain⟨J,r1⟩:=zw hF Q H V hl U A hc q dU;have f1:=jo.jF hF Q H q dU;have k1:=Q.jF H q dU;have n1:(y.jF q).nc=y.nc:=(lp y q).2.1;obtain⟨u,r2⟩:=xx f1 k1 dU (V.YU J hl U) hl U r1 (J.calm V.qw V.nrm (λ_=>dU) hc) (c:=q) (d:=0) dU dX;have f2:=f1.deliver k1 (q:Int) 0 2000;have k2:=k1.deliver dU (q:Int) 0 2000;have n2:((y.jF q).deliver (q:Int) 0 2000).1.nc=y.nc:=(mE (y.jF q) (q:Int) 0 2000).2.1.trans n1;have Y:=J.trans u;obtain⟨h3,h⟩:=xx f2 k2 dU (V.YU Y hl U) hl U r2 (Y.calm V.qw V.nrm (λ_=>dU) hc) (c:=q) (d:=1) dU dX;exact⟨Y.trans h3,h⟩
theorem Bw {y:iI} {Z N k:Nat} (hF:jo y)(Q:jT y Z 0)(U:Z<=810000000)(Y:Inv N (λ_=>k) (iz y))(hl:N<1000000)(J:k<=126)(H:oW y)(hc:Calm (λ_=>k) 34 (iz y)):∀j,j<=12->uW (iz y) (iz (y.turns j))/\oW (y.turns j)
 |0,_=>⟨uW.nil _,H⟩
 |j+1,hj=>by
  obtain⟨V,r1⟩:=Bw hF Q U Y hl J H hc j dU;have n1:(y.turns j).nc=y.nc:=(qj y j).2.1;obtain⟨A,u⟩:=zw (jo.turns hF Q U j dU) (Q.turns U j dU) dU (Y.YU V hl J) hl J r1 (V.calm Y.qw Y.nrm (λ_=>dU) hc) y.nc dU;exact⟨V.trans A,u⟩
theorem KK(hF:jo y)(U:jT y Z 0)(H:Z<=800000000)(Y:Inv N (λ_=>k) (iz y))(hl:N+144<1000000)(V:k+1<=126)(hR:oW y)(u:qy X (λ_=>k) (iz y))(A:∀c d,c<y.nc->d<2->sm (oj (X c d)) ((iz y).F c d)=0)(h:(iz y).W uD<=1):∃m,wW (l8 y.n) (iz y) m/\uW m (iz y.round)/\Still y.round:=by
 have n6:=U.n6;obtain⟨J,r1⟩:=wq hF U H Y hl V hR u A h y.n (Nat.le_refl _);obtain⟨nd,len,_⟩:=oh y.n;have hc:=EA J nd Y.qw Y.nrm V u A h;have Q:Inv (N+144) (λ_=>k+1) (iz (y.iN y.n)):=(Y.path J.path (by rw[len];omega) λx=>Nat.le_trans (m7 nd k x) V).mono (by rw[len];omega) (m7 nd k);obtain⟨h2,_⟩:=Bw (hF.iN y.n) (U.iN H y.n n6) dU Q hl V r1 hc 12 (Nat.le_refl _);exact⟨_,J,h2,Bv hF U H Y hl V⟩
theorem Still.UR(h:Still y):oW y:=h.r
theorem Still.zero(h:Still y)(X:Marks):(∀c d,c<y.nc->d<2->sm (oj (X c d)) ((iz y).F c d)=0)/\(iz y).W uD<=1:=by
 refine⟨λc d hc hd=>by rw[h.f c d hc hd];rfl,?_⟩;have e:(iz y).W uD=0:=by
  unfold AN.W;rw[rW (g:=λ_=>0) λx hx=>by
   have:=pJ.1 hx;show sm uD ((iz y).F x.1 x.2)=0;rw[h.f x.1 x.2 this.1 this.2];rfl]
  generalize QD (iz y).nc=m
  induction m with
  |nil=>rfl
  |cons x l ih=>simpa[sm]using ih
 omega
theorem Ok(u:Norm a)(i p:Nat)(c d:Nat):(a.e c d≠(i,p)->jR (a.op i ((a.R i).iL p)) c d=jR a c d/\(a.op i ((a.R i).iL p)).F c d=a.F c d)/\(a.e c d=(i,p)->c<a.nc->d<2->jR (a.op i ((a.R i).iL p)) c d=(iW (jR a c d)).1/\(a.op i ((a.R i).iL p)).F c d=a.F c d++((iW (jR a c d)).2.flatMap nR++zE (a.R i) p)):=by
 obtain⟨Q,h⟩:=wJ (u.emp i) p;obtain⟨J,U⟩:=wi (a:=a) i p ((a.R i).iL p) (λq V=>⟨by rw[AB,ae V],Q q V⟩) c d;refine⟨J,λY hc hd=> ?_⟩;obtain⟨g1,H⟩:=U Y hc hd;have A:jR a c d=((a.R i).P p).L:=by unfold jR;rw[Y]
 rw[g1,H,h,AB,ag rfl,A];exact⟨rfl,rfl⟩
inductive abr(a:AN)(c d:Nat)(x:kM)(l:List kM):Prop
 |other:qK x->(∀c' d',jR (a.pop c d x l) c' d'=jR a c' d')->(∀c' d',c'<a.nc->d'<2->∃em,(a.pop c d x l).F c' d'=(if c'=c/\d'=d then l else a.F c' d')++em/\∀y∈em,qK y)->abr a c d x l
 |link (q:kG):((∃id,0<=id/\id<=255/\x=l5 (gP (a.e c d)) id/\q=(1,id,nF (gP (a.e c d)))) \/(∃id,0<=id/\id<=255/\x=nK (gP (a.e c (1-d))) id/\q=(2,id,nF (gP (a.e c (1-d))))))->jR (a.pop c d x l) c (1-d)=(jA (jR a c (1-d)) q).1->(a.pop c d x l).F c (1-d)=a.F c (1-d)++(jA (jR a c (1-d)) q).2.1.flatMap nR->(∀c' d',c'<a.nc->d'<2->¬(c'=c/\d'=1-d)->jR (a.pop c d x l) c' d'=jR a c' d'/\(a.pop c d x l).F c' d'=if c'=c/\d'=d then l else a.F c' d')->abr a c d x l
theorem Gw(J:sX a)(hN:Norm a)(h:qy X t a)(hc:c<a.nc)(hd:d<2)(hF:a.F c d=x::l):abr a c d x l:=by
 have hi:=h.yh hc hd (x:=x) (by rw[hF];simp);have pr:=(h.sN hc hd hi).symm;obtain⟨r,hr⟩:=fW (a.R (a.e c (1-d)).1);obtain⟨i,Y⟩:=fW ((a.e c (1-d)).1);obtain⟨p,oE⟩:=fW ((a.e c (1-d)).2);have Q:a.e c (1-d)=(i,p):=aR Y oE;have V:a.pop c d x l=(a.kZ c d l).op i (jD r p x):=by unfold AN.pop;rw[hr,Y,oE]
 have U:a.R i=r:=by rw[<-Y];exact hr
 have Vw:IE r:=by rw[<-U];exact hN.emp i
 obtain⟨Yg,_⟩:=pK Vw p x;have oQ:jR a c (1-d)=(r.P p).L:=by unfold jR;rw[Q,U]
 by_cases hx:qK x
 ·have hL:∀q,((jD r p x).P q).L=(r.P q).L:=λq=>by
   cases x with
   |nil=>rfl
   |cons k s=>exact uB r p s (hx k s rfl) q
  refine .other hx (λc' d'=> ?_) λc' d' A H=> ?_
  ·rw[V,Gu];split
   ·rename_i e
    rw[hL,<-U];unfold jR;rw[show(a.e c' d').1=i from e];rfl
   ·rfl
  ·rw[V,uR,yb,Cw];by_cases e:(a.e c' d').1=i
   ·rw[ag ⟨⟨A,H⟩,e⟩];refine⟨_,rfl,λy hy=> ?_⟩;rcases(wM (Yg (a.e c' d').2) hx (λ_=>false) (λ_=>false)).1 with g|g
    ·rw[g]at hy;simp at hy
    ·exact g.2 y hy
   ·rw[ae (λz=>e z.2)];exact⟨[],by rw[aC];rfl,λ_ h=>by simp at h⟩
 ·have gd:=qL J hc hd;have YQ:=qL J hc (show 1-d<2 by omega);have UL:∃q s,x=76::s/\iM s=(q.1,q.2.1,q.2.2,0)/\((∃id,0<=id/\id<=255/\x=l5 (gP (a.e c d)) id/\q=(1,id,nF (gP (a.e c d)))) \/(∃id,0<=id/\id<=255/\x=nK (gP (a.e c (1-d))) id/\q=(2,id,nF (gP (a.e c (1-d)))))):=by
   rcases pr.g x (by rw[hF];simp)with g|⟨id,i1,i2,g⟩|⟨id,i1,i2,g⟩
   ·exact absurd g hx
   ·exact⟨_,_,g,zp (.inl rfl) ⟨i1,i2⟩ gd,.inl ⟨id,i1,i2,g,rfl⟩⟩
   ·exact⟨_,_,g,zp (.inr rfl) ⟨i1,i2⟩ YQ,.inr ⟨id,i1,i2,g,rfl⟩⟩
  obtain⟨q,s,Rn,tW,hq⟩:=UL;obtain⟨k1,_,k3,_⟩:=zk Vw p 76 s;rw[tW]at k1 k3;have oI:=wi (a:=a.kZ c d l) i p (jD r p x) λu hu=>by
   rw[Rn];show((r.take p 76 s).P u).L=((a.R i).P u).L/\je ((r.take p 76 s).P u)=[]
   rw[(sH r p s u).1,mZ (sH r p s u).2,k1,ae (λz=>hu z.1),(k3 u).2.2,ae (λz=>hu z.1),U];exact⟨rfl,rfl⟩
  have Xu:((jD r p x).P p).L=(jA (jR a c (1-d)) q).1/\je ((jD r p x).P p)=(jA (jR a c (1-d)) q).2.1.flatMap nR:=by
   rw[Rn,oQ];show((r.take p 76 s).P p).L=_/\je ((r.take p 76 s).P p)=_;rw[(sH r p s p).1,mZ (sH r p s p).2,k1,ag ⟨rfl,rfl,rfl⟩,(k3 p).2.2,ag ⟨rfl,rfl,rfl⟩];exact⟨rfl,rfl⟩
  obtain⟨z1,z2⟩:=(oI c (1-d)).2 Q hc (by show 1-d<2;omega);refine .link q hq ?_ ?_ λc' d' A H jm=> ?_
  ·rw[V,z1,Xu.1]
  ·rw[V,z2,Xu.2,rU,ae dU]
  ·rw[V];exact(oI c' d').1 λe=>jm (J.ds _ _ _ _ A H hc dU (e.trans Q.symm))
def lb(x:kM):Option Bool:=if(Br 1 x).isSome=true then μ true else if(Br 2 x).isSome=true then μ false else ν
def Gx(l:List kM):List Bool:=l.filterMap lb
theorem rY(l m:List kM):Gx (l++m)=Gx l++Gx m:=by unfold Gx;rw[cF]
theorem qK.lb {x:kM} (h:qK x):lb x=ν:=by unfold Rt.lb;rw[h.lk,h.lk];rfl
theorem Ol(h:∀x∈l,qK x):Gx l=[] :=by
 unfold Gx;rw[cM];exact λx hx=>(h x hx).lb
theorem MV {id:Int} (Y:1<=g/\g<=255)(hi:0<=id/\id<=255):lb (l5 g id)=μ true/\lb (nK g id)=μ false:=by
 obtain⟨a,b,c,d⟩:=rV Y hi;unfold lb;rw[a,c,d];exact⟨rfl,rfl⟩
structure Sp where
 s0:Nat
 w0:Nat
 q0:List Bool
 s1:Nat
 w1:Nat
 q1:List Bool
def oz(s w:Nat)(b:Bool):Nat×Nat×List Bool:=
 if b=true then(if s=9 then(8,3,[true,false])else if s=7 then(9,1,[false])else(8,w,[false]))
 else if s=6 then(7,w,[])else if s=8 then(9,1,[])else(s,w,[])
def sZ(s w:Nat):List (Nat×Nat×List Bool):=if s=9 then [(9,1,[])]else if w=1 then(if s=8 then [(6,3,[true]),(8,3,[true])]else [(6,3,[true])])else [(s,w-1,[])]
def Sp.QO(S:Sp):List Sp:=match S.q0 with
 |[] =>[]
 |b::r=>[⟨S.s0,S.w0,r,(oz S.s1 S.w1 b).1,(oz S.s1 S.w1 b).2.1,S.q1++(oz S.s1 S.w1 b).2.2⟩]
def Sp.EB(S:Sp):List Sp:=match S.q1 with
 |[] =>[]
 |b::r=>[⟨(oz S.s0 S.w0 b).1,(oz S.s0 S.w0 b).2.1,S.q0++(oz S.s0 S.w0 b).2.2,S.s1,S.w1,r⟩]
def uN(P:Sp->Bool):Nat->Sp->Bool
 |0,S=>S.q0.isEmpty&&S.q1.isEmpty&&P S
 |k+1,S=>if S.q0.isEmpty&&S.q1.isEmpty then P S else(S.QO++S.EB).all (uN P k)
def Io(S:Sp):Bool:=S.s0==9&&S.s1==9
def tf:Nat->Sp->Bool
 |0,S=>Io S
 |k+1,S=>Io S||(sZ S.s0 S.w0).all λu=>(sZ S.s1 S.w1).all λv=>uN (tf k) 12 ⟨u.1,u.2.1,u.2.2,v.1,v.2.1,v.2.2⟩
def QP:List (Nat×Nat):=[(6,1),(6,2),(6,3),(7,1),(7,2),(7,3),(8,1),(8,2),(8,3),(9,1)]
theorem abt:(QP.all λu=>QP.all λv=>tf 6 ⟨u.1,u.2,[],v.1,v.2,[]⟩)=true:=by decide+kernel
theorem QQ {P:Sp->Bool} {S:Sp} (h:uN P k S=true)(Y:S.q0=[])(V:S.q1=[]):P S=true:=by
 cases k with
 |zero=>unfold uN at h;simp only[Bool.and_eq_true]at h;exact h.2
 |succ k=>unfold uN at h;rw[Y,V]at h;exact h
theorem QR {P:Sp->Bool} {S T:Sp} (h:uN P k S=true)(Y:T∈S.QO++S.EB):∃j,uN P j T=true:=by
 have V:(S.q0.isEmpty&&S.q1.isEmpty)=false:=by
  cases U:S.q0 with
  |cons b r=>rfl
  |nil=>
   cases Q:S.q1 with
   |cons b r=>rfl
   |nil=>
    unfold Sp.QO Sp.EB at Y;rw[U,Q]at Y;simp at Y
 cases k with
 |zero=>unfold uN at h;rw[V]at h;simp at h
 |succ k=>
  unfold uN at h;rw[V]at h;exact⟨k,aX.1 h T Y⟩
theorem KL(k:Nat) {S:Sp} (h:Io S=true):tf k S=true:=by
 cases k with
 |zero=>exact h
 |succ k=>unfold tf;rw[h];rfl
def Sp.swap(S:Sp):Sp:=⟨S.s1,S.w1,S.q1,S.s0,S.w0,S.q0⟩
theorem US(S:Sp) {T:Sp} (h:T∈S.swap.EB):T.swap∈S.QO:=by
 unfold Sp.EB Sp.swap at h;unfold Sp.QO;cases e:S.q0 with
 |nil=>rw[e]at h;simp at h
 |cons b r=>
  rw[e]at h;simp only[List.mem_singleton]at h⊢;rw[h];rfl
structure PQ(L M:LS)(F G:List kM)(S:Sp):Prop where
 s0:L.st=(S.s0:Int)
 w0:S.s0≠9->L.wt=(S.w0:Int)
 s1:M.st=(S.s1:Int)
 w1:S.s1≠9->M.wt=(S.w1:Int)
 q0:Gx F=S.q0
 q1:Gx G=S.q1
 i0:ids 2 G++ids 1 F=[] \/ids 2 G++ids 1 F=[L.ow]
 i1:ids 2 F++ids 1 G=[] \/ids 2 F++ids 1 G=[M.ow]
theorem PQ.symm {S:Sp} (p:PQ L M F G S):PQ M L G F S.swap:=⟨p.s1,p.w1,p.s0,p.w0,p.q1,p.q0,p.i1,p.i0⟩
theorem PQ.more {e f:List kM} {S:Sp} (p:PQ L M F G S)(Y:∀x∈e,qK x)(hf:∀x∈f,qK x):PQ L M (F++e) (G++f) S:=by
 have a:∀c,ids c (F++e)=ids c F:=λc=>by rw[j8,zq λx hx=>(Y x hx).lk c,aC]
 have b:∀c,ids c (G++f)=ids c G:=λc=>by rw[j8,zq λx hx=>(hf x hx).lk c,aC]
 exact⟨p.s0,p.w0,p.s1,p.w1,by rw[rY,Ol Y,aC];exact p.q0,by rw[rY,Ol hf,aC];exact p.q1,by rw[a,b];exact p.i0,by rw[a,b];exact p.i1⟩
theorem PQ.skip {S:Sp} (p:PQ L M F (x::l) S)(hx:qK x):PQ L M F l S:=by
 have e:Gx (x::l)=Gx l:=by unfold Gx;rw[bh,hx.lb]
 have i:=λc=>jI l (hx.lk c);exact⟨p.s0,p.w0,p.s1,p.w1,p.q0,by rw[<-e];exact p.q1,by rw[<-i];exact p.i0,by rw[<-i];exact p.i1⟩
theorem PQ.pop {X Y:Int->Bool} {t:Nat} {h:Int} {S:Sp} {q:kG} (J:1<=g/\g<=255)(hh:1<=h/\h<=255)(jm:h≠g)(ht:t<=255)(p:Pair X Y t g h L M F (x::l))(r:PQ L M F (x::l) S)
 (hq:(∃id,0<=id/\id<=255/\x=l5 h id/\q=(1,id,nF h)) \/(∃id,0<=id/\id<=255/\x=nK g id/\q=(2,id,nF g))):∃T∈S.EB,PQ (jA L q).1 M (F++(jA L q).2.1.flatMap nR) l T:=by
 rcases hq with⟨id,i1,U,rfl,rfl⟩|⟨id,i1,U,rfl,rfl⟩
 ·have hi:0<=id/\id<=255:=⟨i1,U⟩
  obtain⟨r1,r2,r3,r4⟩:=rV hh hi;have H:nR (2,id,nF h)=[nK h id] :=Et (.inr rfl) hi hh;have hS:S.q1=true::Gx l:=by rw[<-r.q1];unfold Gx;rw[bh,(MV hh hi).1]
  have BN:S.EB=[⟨(oz S.s0 S.w0 true).1,(oz S.s0 S.w0 true).2.1,S.q0++(oz S.s0 S.w0 true).2.2,S.s1,S.w1,Gx l⟩] :=by unfold Sp.EB;rw[hS]
  have IG:=jy l r1;have Og:=jI l r2;have u:∀em,ids 2 em=[id]->ids 2 (F++em)++ids 1 l=ids 2 F++ids 1 (l5 h id::l):=λem he=>by
   rw[j8,he,IG,aD];rfl
  have s0:=r.s0;rw[BN];refine⟨_,ar.2 rfl,?_⟩;obtain⟨li,h9|h7|Q⟩:=UF J hh jm hi p.l p.lu
  ·obtain⟨s9,out,s8,Bs,A⟩:=h9;obtain⟨UK,abm⟩:=p.d.emp (.inr s9);have hb:=p.d.Ik;have hX:Y id=false:=abm id (by rw[IG];simp);have ai9:((ids 1 (l5 h id::l)).filter λi=> !Y i).length=((ids 1 l).filter λi=> !Y i).length+1:=by rw[IG,List.filter_cons,hX];rfl
   have ho:=p.l.k.o1;have em:(L.ow+1) %256=L.ow+1:=dU;have kB:0<=L.ow+1/\L.ow+1<=255:=dU;obtain⟨q1,q2,q3,q4⟩:=rV J kB;rw[em]at out Bs;have e:(jA L (1,id,nF h)).2.1.flatMap nR=[l5 g (L.ow+1),nK h id] :=by
    rw[out];show nR _++(nR _++ [])=_;rw[Et (.inl rfl) kB J,H];rfl
   have V:oz S.s0 S.w0 true=(8,3,[true,false]):=by unfold oz;rw[ag rfl,ag dU]
   rw[e,V];rw[Og]at UK;have tC:=dH.1 UK;have i1:ids 1 [l5 g (L.ow+1),nK h id] =[L.ow+1] :=by rw[jy _ q1,jI _ r3];rfl
   have U:ids 2 [l5 g (L.ow+1),nK h id] =[id] :=by rw[jI _ q2,jy _ r4];rfl
   refine⟨s8,λ_=>A,r.s1,r.w1,?_,rfl,.inr ?_,?_⟩
   ·rw[rY,r.q0];show S.q0++ik lb _=_;rw[bh,(MV J kB).1,bh,(MV hh hi).2];rfl
   ·rw[tC.1,j8,tC.2,i1,Bs];rfl
   ·rw[u _ U];exact r.i1
  ·obtain⟨s7,out,s9,Bs⟩:=h7;have e:(jA L (1,id,nF h)).2.1.flatMap nR=[nK h id] :=by rw[out];show nR _++ [] =_;rw[H];rfl
   have V:oz S.s0 S.w0 true=(9,1,[false]):=by unfold oz;rw[ag rfl,ae dU,ag dU]
   rw[e,V];have i1:ids 1 [nK h id] =[] :=by rw[jI _ r3];rfl
   have U:ids 2 [nK h id] =[id] :=by rw[jy _ r4];rfl
   refine⟨s9,λh=>absurd rfl h,r.s1,r.w1,?_,rfl,?_,?_⟩
   ·rw[rY,r.q0];show S.q0++ik lb _=_;rw[bh,(MV hh hi).2];rfl
   ·rw[j8,i1,aC,<-Og,Bs];exact r.i0
   ·rw[u _ U];exact r.i1
  ·obtain⟨s68,out,s8,Bs,A⟩:=Q;have e:(jA L (1,id,nF h)).2.1.flatMap nR=[nK h id] :=by rw[out];show nR _++ [] =_;rw[H];rfl
   have V:oz S.s0 S.w0 true=(8,S.w0,[false]):=by unfold oz;rw[ag rfl,ae dU,ae dU]
   rw[e,V];have i1:ids 1 [nK h id] =[] :=by rw[jI _ r3];rfl
   have U:ids 2 [nK h id] =[id] :=by rw[jy _ r4];rfl
   refine⟨s8,λ_=>by rw[A];exact r.w0 dU,r.s1,r.w1,?_,rfl,?_,?_⟩
   ·rw[rY,r.q0];show S.q0++ik lb _=_;rw[bh,(MV hh hi).2];rfl
   ·rw[j8,i1,aC,<-Og,Bs];exact r.i0
   ·rw[u _ U];exact r.i1
 ·have hi:0<=id/\id<=255:=⟨i1,U⟩
  obtain⟨r1,r2,r3,r4⟩:=rV J hi;have hS:S.q1=false::Gx l:=by rw[<-r.q1];unfold Gx;rw[bh,(MV J hi).2]
  have BN:S.EB=[⟨(oz S.s0 S.w0 false).1,(oz S.s0 S.w0 false).2.1,S.q0++(oz S.s0 S.w0 false).2.2,S.s1,S.w1,Gx l⟩] :=by unfold Sp.EB;rw[hS]
  have IG:=jI l r3;have Og:=jy l r4;have kT:¬(L.st=7 \/L.st=9):=λh=>by
   have:=(p.d.emp h).1;rw[Og]at this;simp at this
  have qd:id=L.ow/\ids 2 l++ids 1 F=[] :=by
   have:=r.i0;rw[Og]at this;rcases this with z|z
   ·simp at z
   ·have z':id::(ids 2 l++ids 1 F)=[L.ow] :=z;injection z' with z1 z2
    exact⟨z1,z2⟩
  have Q:L.st=6 \/L.st=8:=by have:=p.lu;have:=p.l.st;omega
  obtain⟨z1,z2⟩:=qd;subst z1;obtain⟨a1,a2,a3,a4,a5⟩:=UG J p.l Q;have s0:=r.s0;rw[BN];refine⟨_,ar.2 rfl,?_⟩;rw[a2];have hF:F++List.flatMap nR [] =F:=gO;rw[hF];have uG:ids 2 F++ids 1 l=[] \/ids 2 F++ids 1 l=[M.ow] :=by rw[<-IG];exact r.i1
  rcases Q with h6|h8
  ·have V:oz S.s0 S.w0 false=(7,S.w0,[]):=by unfold oz;rw[ae gO,ag dU]
   rw[V];exact⟨by rw[a5,h6];rfl,λ_=>by rw[a4];exact r.w0 dU,r.s1,r.w1,by rw[aC];exact r.q0,rfl,.inl z2,uG⟩
  ·have V:oz S.s0 S.w0 false=(9,1,[]):=by unfold oz;rw[ae gO,ae dU,ag dU]
   rw[V];exact⟨by rw[a5,h8];rfl,λh=>absurd rfl h,r.s1,r.w1,by rw[aC];exact r.q0,rfl,.inl z2,uG⟩
theorem abu(V:sX a)(hN:Norm a)(h:qy X t a)(ht:∀x,t x<=127)(hc:c<a.nc)(hd:d<2)(hF:a.F c d=x::l)(U:k<a.nc) {S:Sp} (Y:PQ (jR a k 0) (jR a k 1) (a.F k 0) (a.F k 1) S):∃T,(T=S \/T∈S.QO++S.EB)/\PQ (jR (a.pop c d x l) k 0) (jR (a.pop c d x l) k 1) ((a.pop c d x l).F k 0) ((a.pop c d x l).F k 1) T:=by
 have E9:d=0 \/d=1:=dU;cases Gw V hN h hc hd hF with
 |other hx hL wz=>
  obtain⟨e0,a0,b0⟩:=wz k 0 U dX;obtain⟨e1,u,b1⟩:=wz k 1 U dX;refine⟨S,.inl rfl,?_⟩;rw[hL,hL,a0,u];by_cases e:k=c
  ·subst e;rcases E9 with rfl|rfl
   ·rw[ag ⟨rfl,rfl⟩,ae dU];rw[hF]at Y;exact(Y.symm.skip hx).symm.more b0 b1
   ·rw[ae dU,ag ⟨rfl,rfl⟩];rw[hF]at Y;exact(Y.skip hx).more b0 b1
  ·rw[ae (λz=>e z.1),ae (λz=>e z.1)];exact Y.more b0 b1
 |link q hq hl hf J=>
  by_cases e:k=c
  ·subst e;have hi:=h.yh hc hd (x:=x) (by rw[hF];simp);have H:=(h.sN hc hd hi).symm;have gd:=qL V hc hd;have YQ:=qL V hc (show 1-d<2 by omega);have jm:=YP V hc hd (show 1-d<2 by omega) dU;have Le:t (a.e k 0)+t (a.e k 1)<=255:=by have:=ht (a.e k 0);have:=ht (a.e k 1);omega
   obtain⟨o1,o2⟩:=J k d hc hd dU;rw[ag ⟨rfl,rfl⟩]at o2;rw[hF]at H;rcases E9 with rfl|rfl
   ·rw[hF]at Y;obtain⟨T,Q,A⟩:=PQ.pop YQ gd jm Le H Y.symm hq;refine⟨T.swap,.inr (av.2 (.inl (US S Q))),?_⟩;have:=A.symm;rw[show(1:Nat)-0=1 from rfl]at hl hf;rw[o1,o2,hl,hf];exact this
   ·rw[hF]at Y;obtain⟨T,Q,A⟩:=PQ.pop YQ gd jm Le H Y hq;refine⟨T,.inr (av.2 (.inr Q)),?_⟩;rw[show(1:Nat)-1=0 from rfl]at hl hf;rw[o1,o2,hl,hf];exact A
  ·refine⟨S,.inl rfl,?_⟩;obtain⟨u,a2⟩:=J k 0 U dX (λz=>e z.1);obtain⟨b1,b2⟩:=J k 1 U dX (λz=>e z.1);rw[u,a2,b1,b2,ae (λz=>e z.1),ae (λz=>e z.1)];exact Y
theorem uW.PQ {P:Sp->Bool} {a b:AN} (h:uW a b) {N k:Nat} (u:Inv N (λ_=>k) a)(hl:N<1000000)(hk:k<=126) {c:Nat} (hc:c<a.nc) {S:Sp} {j:Nat} (H:PQ (jR a c 0) (jR a c 1) (a.F c 0) (a.F c 1) S)(hP:uN P j S=true):∃T i,Rt.PQ (jR b c 0) (jR b c 1) (b.F c 0) (b.F c 1) T/\uN P i T=true:=by
 induction h with
 |nil=>exact⟨S,j,H,hP⟩
 |snoc c' d x l p A J h3 ih=>
  obtain⟨T,i,hT,hi⟩:=ih;have Y:=u.YU p hl hk;obtain⟨X,hX⟩:=Y.lk;obtain⟨U,Q,V⟩:=abu Y.qw Y.nrm hX (λ_=>dU) A J h3 (k:=c) (by rw[p.path.same.2.1];exact hc) hT;rcases Q with rfl|Q
  ·exact⟨U,i,V,hi⟩
  ·obtain⟨i',kB⟩:=QR hi Q;exact⟨U,i',V,kB⟩
theorem wW.at {T:List (Nat×Nat)} {a b:AN} (h:wW T a b)(hT:T.Nodup)(hB:sX a)(J:Norm a) {c d:Nat} (hc:c<a.nc)(hd:d<2):(a.e c d∉T->jR b c d=jR a c d/\b.F c d=a.F c d)/\(a.e c d∈T->jR b c d=(iW (jR a c d)).1/\∃m,b.F c d=a.F c d++((iW (jR a c d)).2.flatMap nR++zE m (a.e c d).2)):=by
 induction h with
 |nil=>exact⟨λ_=>⟨rfl,rfl⟩,λh=>by simp at h⟩
 | @snoc T a b i p tk hi hp ih=>
   have U:=bE.1 hT;obtain⟨i1,u⟩:=ih U.1 hB J hc;have H:=tk.path.same;obtain⟨t1,t2⟩:=Ok (tk.path.norm J) i p c d;rw[H.2.2.1]at t1 t2;refine⟨λQ=> ?_,λlL=> ?_⟩
   ·have V:a.e c d∉T:=λz=>Q (av.2 (.inl z));have Y:a.e c d≠(i,p):=λz=>Q (av.2 (.inr (ar.2 z)));rw[(t1 Y).1,(t1 Y).2];exact i1 V
   ·rcases av.1 lL with g|g
    ·have Y:a.e c d≠(i,p):=λz=>U.2.2 _ g _ (ar.2 rfl) z;rw[(t1 Y).1,(t1 Y).2];exact u g
    ·have g:=ar.1 g;have V:a.e c d∉T:=λz=>U.2.2 _ z _ (ar.2 rfl) g;obtain⟨z1,A⟩:=t2 g (by rw[H.2.1];exact hc) hd;obtain⟨y1,y2⟩:=i1 V;rw[z1,A,y1,y2];exact⟨rfl,b.R i,by rw[g]⟩
theorem Ip(U:1<=g/\g<=255)(h:LI g L)(h6:6<=L.st)(hb:L.ow+1<=255):∃s w:Nat,(L.st=(s:Int)/\(s≠9->L.wt=(w:Int)))/\(s,w)∈QP/\∃u∈sZ s w,(iW L).1.st=(u.1:Int)/\(u.1≠9->(iW L).1.wt=(u.2.1:Int))/\Gx ((iW L).2.flatMap nR)=u.2.2/\ids 2 ((iW L).2.flatMap nR)=[] /\(ids 1 ((iW L).2.flatMap nR)=[] \/ids 1 ((iW L).2.flatMap nR)=[(iW L).1.ow]):=by
 obtain⟨o1,o2,o3,o4,o5,o6,o7,o8⟩:=(rN _ _ _).1 h.k.ok;have ho:=h.k.o1;obtain⟨li,Y|Y⟩:=Ih U h
 ·obtain⟨Y,J,V,h4,Q⟩:=Y;have H:(iW L).2.flatMap nR=[] :=by rw[Y];rfl
  rw[H];by_cases h9:L.st=9
  ·refine⟨9,1,⟨h9,λh=>absurd rfl h⟩,dX,(9,1,[]),dX,?_,λh=>absurd rfl h,rfl,rfl,.inl rfl⟩;rw[V,h9];rfl
  ·have hw:=Q (by have:=h.st;omega);refine⟨L.st.toNat,L.wt.toNat,⟨dU,λ_=>dU⟩,?_,(L.st.toNat,L.wt.toNat-1,[]),?_,by rw[V];simp only;omega,λ_=>by rw[hw.2];simp only;omega,rfl,rfl,.inl rfl⟩
   ·have:L.st=6 \/L.st=7 \/L.st=8:=by have:=h.st;omega
    have uV:L.wt=2 \/L.wt=3:=dU;rcases this with e|e|e<;>rcases uV with f|f<;>rw[e,f] <;>decide
   ·unfold sZ;rw[ae dU,ae dU];simp
 ·obtain⟨Y,J,V,h4,Q,A⟩:=Y;have hi:0<=L.ow+1/\L.ow+1<=255:=⟨dU,hb⟩
  have em:(L.ow+1) %256=L.ow+1:=dU;rw[em]at V h4;have H:(iW L).2.flatMap nR=[l5 g (L.ow+1)] :=by
   rw[V];show nR _++ [] =_;rw[Et (.inl rfl) hi U];rfl
  obtain⟨q1,q2,_,_⟩:=rV U hi;have p1:Gx [l5 g (L.ow+1)] =[true] :=by unfold Gx;rw[bh,(MV U hi).1];rfl
  have p2:ids 2 [l5 g (L.ow+1)] =[] :=by rw[jI _ q2];rfl
  have p3:ids 1 [l5 g (L.ow+1)] =[L.ow+1] :=by rw[jy _ q1];rfl
  rw[H,p1,p2,p3,h4];rcases A with g6|⟨g8,g8'⟩
  ·refine⟨L.st.toNat,1,⟨dU,λ_=>J⟩,?_,(6,3,[true]),?_,g6,λ_=>Q,rfl,rfl,.inr rfl⟩
   ·have:L.st=6 \/L.st=7 \/L.st=8:=dU;rcases this with e|e|e<;>rw[e] <;>decide
   ·have:L.st=6 \/L.st=7 \/L.st=8:=dU;rcases this with e|e|e<;>rw[e] <;>decide
  ·exact⟨8,1,⟨g8,λ_=>J⟩,dX,(8,3,[true]),dX,g8',λ_=>Q,rfl,rfl,.inr rfl⟩
def Rel(L:LS)(s w:Nat):Prop:=L.st=(s:Int)/\(s≠9->L.wt=(w:Int))/\(s,w)∈QP
theorem Gy(h:(9,w)∈QP):w=1:=by
 unfold QP at h;simpa using h
theorem Rel.uniq {s s' w':Nat} (h:Rel L s w)(g:Rel L s' w'):s'=s/\w'=w:=by
 have e:s'=s:=by have:=h.1;have:=g.1;omega
 subst e;refine⟨rfl,?_⟩;by_cases Y:s'=9
 ·subst Y;rw[Gy h.2.2,Gy g.2.2]
 ·have:=h.2.1 Y;have:=g.2.1 Y;omega
theorem Iq(U:1<=g/\g<=255)(h:LI g L)(Q:6<=L.st)(hb:L.ow+1<=255):∃s w,Rel L s w:=by
 obtain⟨s,w,Y,V,_⟩:=Ip U h Q hb;exact⟨s,w,Y.1,Y.2,V⟩
def MW(a:AN)(c j:Nat):Prop:=∃s0 w0 s1 w1,Rel (jR a c 0) s0 w0/\Rel (jR a c 1) s1 w1/\tf j ⟨s0,w0,[],s1,w1,[]⟩=true
theorem UT(j:Nat) {s0 w0 v0 s1 w1 v1:Nat} (Y:s0=9 \/w0=v0)(V:s1=9 \/w1=v1):tf j ⟨s0,w0,[],s1,w1,[]⟩=tf j ⟨s0,v0,[],s1,v1,[]⟩:=by
 have Q:sZ s0 w0=sZ s0 v0:=by
  rcases Y with h|h
  ·rw[h];rfl
  ·rw[h]
 have U:sZ s1 w1=sZ s1 v1:=by
  rcases V with h|h
  ·rw[h];rfl
  ·rw[h]
 cases j with
 |zero=>rfl
 |succ k=>unfold tf;simp only[Q,U];rfl
theorem MX {n:Nat} (hT:wW (l8 n) a m)(hP:uW m b)(U:Inv N (λ_=>k) a)(hl:N+8*(l8 n).length<1000000)(hk:k+1<=126)(h0:∀c d,c<a.nc->d<2->a.F c d=[])(h1:∀c d,c<a.nc->d<2->b.F c d=[])(hn:n=a.n)(hc:c<a.nc)(hi:a.iR c=true)(hG:MW a c (j+1)):MW b c j:=by
 obtain⟨s0,w0,s1,w1,r0,r1,V⟩:=hG;obtain⟨nd,_,_⟩:=oh n;obtain⟨X,hX⟩:=U.lk;have g0:=qL U.qw hc (show 0<2 by decide);have g1:=qL U.qw hc (show 1<2 by decide);have p0:=hX.sN hc (show 0<2 by decide) hi;have p1:=hX.sN hc (show 1<2 by decide) hi;have bd:∀d,d<2->(jR a c d).ow+1<=255:=λd hd=>by
  have:=(hX.sN hc hd hi).d.Ik;have e:(λ_:Nat×Nat=>k) (a.e c 0)+(λ_:Nat×Nat=>k) (a.e c 1)=k+k:=rfl;omega
 obtain⟨a0,b0,ra0,in0,u,hu,us,uw,uq,ui2,ui1⟩:=Ip g0 p0.l p0.lu (bd 0 dX);obtain⟨a1,b1,ra1,in1,v,hv,vs,vw,vq,vi2,vi1⟩:=Ip g1 p1.l p1.lu (bd 1 dX);obtain⟨z0,z0'⟩:=r0.uniq ⟨ra0.1,ra0.2,in0⟩;obtain⟨z1,z1'⟩:=r1.uniq ⟨ra1.1,ra1.2,in1⟩;subst z0 z0' z1 z1';have qR:∀d,d<2->a.e c d∈l8 n:=λd hd=>by
  obtain⟨e1,e2⟩:=U.qw.en c d hc hd;unfold l8;refine aV.2 ⟨(a.e c d).1,aS.2 dU,?_⟩;unfold QA;have:(a.e c d).2=0 \/(a.e c d).2=1 \/(a.e c d).2=2:=dU;rcases this with e|e|e
  ·rw[show a.e c d=((a.e c d).1,0)from aR rfl e];simp
  ·rw[show a.e c d=((a.e c d).1,1)from aR rfl e];simp
  ·rw[show a.e c d=((a.e c d).1,2)from aR rfl e];simp
 obtain⟨m0,x0,f0⟩:=(hT.at nd U.qw U.nrm hc (show 0<2 by decide)).2 (qR 0 dX);obtain⟨m1,x1,f1⟩:=(hT.at nd U.qw U.nrm hc (show 1<2 by decide)).2 (qR 1 dX);rw[h0 c 0 hc dX,bF]at f0;rw[h0 c 1 hc dX,bF]at f1;have base:PQ (jR m c 0) (jR m c 1) ((iW (jR a c 0)).2.flatMap nR) ((iW (jR a c 1)).2.flatMap nR) ⟨u.1,u.2.1,u.2.2,v.1,v.2.1,v.2.2⟩:=by
  rw[m0,m1];exact⟨us,uw,vs,vw,uq,vq,by rw[vi2,bF];exact ui1,by rw[ui2,bF];exact vi1⟩
 have hm:=base.more (wj x0 (a.e c 0).2) (wj x1 (a.e c 1).2);rw[<-f0,<-f1]at hm;have m9:uN (tf j) 12 ⟨u.1,u.2.1,u.2.2,v.1,v.2.1,v.2.2⟩=true:=by
  unfold tf at V;rw[Bool.or_eq_true]at V;rcases V with V|V
  ·unfold Io at V;simp only[Bool.and_eq_true,beq_iff_eq]at V;obtain⟨y0,y1⟩:=V;subst y0 y1;have E7:u=(9,1,[]):=by simpa[sZ]using hu
   have hv':v=(9,1,[]):=by simpa[sZ]using hv
   rw[E7,hv'];exact KL j rfl
  ·exact aX.1 (aX.1 V u hu) v hv
 have hlen:=hT.path.same;have hIm:Inv (N+8*(l8 n).length) (λ_=>k+1) m:=(U.path hT.path hl λx=>Nat.le_trans (m7 nd k x) hk).mono (Nat.le_refl _) (m7 nd k);obtain⟨S,i,A,hSi⟩:=hP.PQ hIm hl hk (c:=c) (by rw[hlen.2.1];exact hc) hm m9;have Lg:=hP.path.same;have hIb:=hIm.YU hP hl hk;have e0:S.q0=[] :=by rw[<-A.q0,h1 c 0 hc dX];rfl
 have e1:S.q1=[] :=by rw[<-A.q1,h1 c 1 hc dX];rfl
 have ae2:=QQ hSi e0 e1;obtain⟨Y,hY⟩:=hIb.lk;have uj:c<b.nc:=by rw[Lg.2.1,hlen.2.1];exact hc
 have heb:b.e=a.e:=Lg.2.2.1.trans hlen.2.2.1;have J:b.iR c=true:=by
  cases J:b.iR c
  ·have:=(hY.dn c uj J 0 dX).2.1;have h6:=A.s0;have ip:=uW.iR hP;have it:=wW.iR hT;rw[ip,it,hi]at J;exact absurd J gO
  ·rfl
 have q0:=hY.sN uj (show 0<2 by decide) J;have q1:=hY.sN uj (show 1<2 by decide) J;rw[heb]at q0 q1;have bd':∀d,d<2->(jR b c d).ow+1<=255:=λd hd=>by
  have:=(hY.sN uj hd J).d.Ik;have e:(λ_:Nat×Nat=>k+1) (b.e c 0)+(λ_:Nat×Nat=>k+1) (b.e c 1)=k+1+(k+1):=rfl;omega
 obtain⟨H,w0',R0⟩:=Iq g0 q0.l q0.lu (bd' 0 dX);obtain⟨h,w1',R1⟩:=Iq g1 q1.l q1.lu (bd' 1 dX);refine⟨H,w0',h,w1',R0,R1,?_⟩;have t0:S.s0=H:=by have:=A.s0;have:=R0.1;omega
 have t1:S.s1=h:=by have:=A.s1;have:=R1.1;omega
 rw[UT j (v0:=S.w0) (v1:=S.w1) (by
  by_cases Q:H=9
  ·exact .inl Q
  ·right;have:=A.w0 (by rw[t0];exact Q);have:=R0.2.1 Q;omega) (by
  by_cases Q:h=9
  ·exact .inl Q
  ·right;have:=A.w1 (by rw[t1];exact Q);have:=R1.2.1 Q;omega),<-t0,<-t1]
 have:S=⟨S.s0,S.w0,[],S.s1,S.w1,[]⟩:=by
  cases S;simp only at e0 e1;subst e0 e1;rfl
 rw[<-this];exact ae2
where
 uW.iR {a b:AN} (h:uW a b):b.iR=a.iR:=by
  induction h with
  |nil=>rfl
  |snoc c d x l _ _ _ _ ih=>exact ih
 wW.iR {T:List (Nat×Nat)} {a b:AN} (h:wW T a b):b.iR=a.iR:=by
  induction h with
  |nil=>rfl
  |snoc i p _ _ _ ih=>exact ih
def YV(a:AN):Prop:=∀c d,c<a.nc->d<2->a.iR c=true->(jR a c d).st=9
theorem MW.open(h:MW a c 0)(hd:d<2):(jR a c d).st=9:=by
 obtain⟨s0,w0,s1,w1,V,r1,U⟩:=h;have Y:(s0==9&&s1==9)=true:=U;simp only[Bool.and_eq_true,beq_iff_eq]at Y;have:d=0 \/d=1:=dU;rcases this with rfl|rfl
 ·rw[V.1,Y.1];rfl
 ·rw[r1.1,Y.2];rfl
theorem qy.ae3(hN:Norm a)(h:qy X t a)(ho:YV a)(i p:Nat):qy X t (a.op i ((a.R i).iL p))/\(∀c d,c<a.nc->d<2->jR (a.op i ((a.R i).iL p)) c d=jR a c d/\(a.op i ((a.R i).iL p)).F c d=a.F c d++(if a.e c d=(i,p)then zE (a.R i) p else [])):=by
 have V:∀c d,c<a.nc->d<2->jR (a.op i ((a.R i).iL p)) c d=jR a c d/\(a.op i ((a.R i).iL p)).F c d=a.F c d++(if a.e c d=(i,p)then zE (a.R i) p else []):=λc d hc hd=>by
  obtain⟨t1,t2⟩:=Ok hN i p c d;by_cases e:a.e c d=(i,p)
  ·obtain⟨z1,J⟩:=t2 e hc hd;have H:(jR a c d).st=1 \/(jR a c d).st=9:=by
    cases hi:a.iR c
    ·exact .inl (h.dn c hc hi d hd).2.1
    ·exact .inr (ho c d hc hd hi)
   have kf:iW (jR a c d)=(jR a c d,[]):=by
    have hb:(decide (4<=(jR a c d).st)&&decide ((jR a c d).st<=8))=false:=by
     rcases H with g|g<;>rw[g] <;>rfl
    unfold iW j6 lh;rw[ag hb,ag hb,ae (show¬(jR a c d).st=3 by omega)]
   rw[z1,J,kf,ag e];exact⟨rfl,rfl⟩
  ·rw[(t1 e).1,(t1 e).2,ae e,aC];exact⟨rfl,rfl⟩
 have Q:∀c d,∀y∈(if a.e c d=(i,p)then zE (a.R i) p else []),qK y:=λc d y hy=>by
  split at hy
  ·exact wj _ _ y hy
  ·simp at hy
 refine⟨⟨λc hc hi=> ?_,λc hc hi d hd=> ?_⟩,V⟩
 ·obtain⟨U,Y⟩:=V c 0 hc dX;obtain⟨b1,b2⟩:=V c 1 hc dX;rw[U,Y,b1,b2];exact(((h.up c hc hi).more (Q c 0)).symm.more (Q c 1)).symm
 ·obtain⟨U,Y,u,A⟩:=h.dn c hc hi d hd;obtain⟨b1,b2⟩:=V c d hc hd;rw[b1,b2,A];refine⟨U,Y,u,?_⟩;split
  ·rename_i e
   have oQ:jR a c d=((a.R i).P p).L:=by unfold jR;rw[e]
   unfold zE;rw[<-oQ];have hb:(decide (4<=(jR a c d).st)&&decide ((jR a c d).st<=8))=false:=by rw[Y];rfl
   have:(iW (jR a c d)).1.st=1:=by
    unfold iW j6 lh;rw[ag hb,ae (show¬(jR a c d).st=3 by omega)];exact Y
   rw[this,ae dX];rfl
  ·rfl
structure St(D N k:Nat)(y:iI):Prop where
 ok:jT y D 0
 g:GN y
 f:jo y
 i:Inv N (λ_=>k) (iz y)
theorem St.act {D N k:Nat} {y:iI} (h:St D N k y)(Y:D<=800000000)(V:N+144<1000000)(U:k+1<=126)(v:AV):St (D+1300000) (N+144) (k+1) (sg y v):=
 ⟨h.ok.act Y v,(h.g.act h.ok Y v).1,h.f.act h.g h.ok Y v,Inv.act h.f h.g h.ok Y h.i V U v⟩
theorem St.round {D N k:Nat} {y:iI} (h:St D N k y)(Y:D<=800000000)(hN:N+144<1000000)(V:k+1<=126):St (D+1300000) (N+144) (k+1) y.round:=by
 have n6:=h.ok.n6;obtain⟨a,b,_⟩:=oh y.n;refine⟨h.ok.round Y,h.g.round h.ok Y,h.f.round h.ok Y,?_⟩;exact(h.i.path (yf h.f h.ok Y) (by rw[b];omega) λx=>Nat.le_trans (m7 a k x) V).mono (by rw[b];omega) (m7 a k)
theorem St.mono {D N k D' N' k':Nat} {y:iI} (h:St D N k y)(V:D<=D')(Y:N<=N')(U:k<=k'):St D' N' k' y:=⟨h.ok.mono V (Nat.le_refl _),h.g,h.f,h.i.mono Y λ_=>U⟩
def kA(y:iI):Nat->iI
 |0=>y
 |k+1=>(kA y k).round
theorem rE(y:iI):∀k,(kA y k).n=y.n/\(kA y k).nc=y.nc/\(kA y k).ms=y.ms/\∀x,((kA y k).C x).e=(y.C x).e/\((kA y k).C x).iR=(y.C x).iR
 |0=>⟨rfl,rfl,rfl,λ_=>⟨rfl,rfl⟩⟩
 |k+1=>by
  obtain⟨a,b,c,d⟩:=rE y k;obtain⟨a',b',c',d'⟩:=kr (kA y k);exact⟨a'.trans a,b'.trans b,c'.trans c,λx=>⟨(d' x).1.trans (d x).1,(d' x).2.trans (d x).2⟩⟩
theorem St.light(h:St D N k y)(Y:Still y)(Q:D<=800000000)(U:N+144<1000000)(J:k+1<=126):∃m,wW (l8 y.n) (iz y) m/\uW m (iz y.round)/\Still y.round:=by
 obtain⟨X,V⟩:=h.i.lk;exact KK h.f h.ok Q h.i U J Y.UR V (Y.zero X).1 (Y.zero X).2
theorem St.pair(h:St D N k y)(Y:Still y)(u:D<=800000000)(A:N+144<1000000)(V:k+1<=126)(hc:c<y.nc)(hi:(y.C c).iR=true)(J:MW (iz y) c (j+1)):MW (iz y.round) c j:=by
 have n6:=h.ok.n6;obtain⟨m,Q,U,H⟩:=h.light Y u A V;obtain⟨_,b,_⟩:=oh y.n;exact MX Q U h.i (by rw[b];omega) V Y.f (λc d hc hd=>H.f c d (by rw[(kr y).2.1];exact hc) hd) rfl hc hi J
theorem St.opens {D N k:Nat} {y:iI} (h:St D N k y)(hD:D<=790000000)(hN:N+8*144<1000000)(hk:k+8<=126):∀j,j<=6->St (D+1300000*(j+1)) (N+144*(j+1)) (k+(j+1)) (kA y (j+1))/\Still (kA y (j+1))/\∀c,c<y.nc->(y.C c).iR=true->MW (iz (kA y (j+1))) c (6-j)
 |0,_=>by
  have Y:=h.round dU dU dU;have hs:=Bv h.f h.ok dU h.i dU dU;refine⟨Y,hs,λc hc hi=> ?_⟩;obtain⟨X,U⟩:=Y.i.lk;have V:c<(iz y.round).nc:=by show c<y.round.nc;rw[(kr y).2.1];exact hc
  have Q:(iz y.round).iR c=true:=by show(y.round.C c).iR=true;rw[((kr y).2.2.2 c).2];exact hi
  have A:=U.sN V (show 0<2 by decide) Q;have H:=U.sN V (show 1<2 by decide) Q;have bd:∀d,d<2->(jR (iz y.round) c d).ow+1<=255:=λd hd=>by
   have:=(U.sN V hd Q).d.Ik;have e:(λ_:Nat×Nat=>k+1) ((iz y.round).e c 0)+(λ_:Nat×Nat=>k+1) ((iz y.round).e c 1)=k+1+(k+1):=rfl;omega
  obtain⟨s0,w0,J⟩:=Iq (qL Y.i.qw V dX) A.l A.lu (bd 0 dX);obtain⟨s1,w1,r1⟩:=Iq (qL Y.i.qw V dX) H.l H.lu (bd 1 dX);exact⟨s0,w0,s1,w1,J,r1,aX.1 (aX.1 abt (s0,w0) J.2.2) (s1,w1) r1.2.2⟩
 |j+1,hj=>by
  obtain⟨Y,s1,g1⟩:=St.opens h hD hN hk j dU;obtain⟨e1,e2,_,e4⟩:=rE y (j+1);have u:=Y.round dU dU dU;obtain⟨m,_,_,s2⟩:=Y.light s1 dU dU dU;refine⟨u.mono dU dU dU,s2,λc hc hi=> ?_⟩;have:=g1 c hc hi;rw[show 6-j=(6-(j+1))+1 by omega]at this;exact Y.pair s1 dU dU dU (by rw[e2];exact hc) (by rw[(e4 c).2];exact hi) this
structure Env(N k:Nat)(a:AN):Prop where
 i:Inv N (λ_=>k) a
 o:YV a
 nl:∀c d,c<a.nc->d<2->∀x∈a.F c d,qK x
theorem Env.tick {N k:Nat} {a:AN} (h:Env N k a)(U:N<1000000) {i p:Nat} (hi:i<a.n)(J:p<3):Env (N+8) k (a.op i ((a.R i).iL p))/\∀c d,c<a.nc->d<2->jR (a.op i ((a.R i).iL p)) c d=jR a c d/\(a.op i ((a.R i).iL p)).F c d=a.F c d++(if a.e c d=(i,p)then zE (a.R i) p else []):=by
 obtain⟨X,Y⟩:=h.i.lk;obtain⟨B,V⟩:=h.i.own;obtain⟨l1,l2⟩:=Y.ae3 h.i.nrm h.o i p;have s:=mc.tick (a:=a) i p hi J;obtain⟨C,hC⟩:=s.own h.i.qw h.i.nrm V U;refine⟨⟨⟨h.i.qw.same rfl rfl rfl,s.norm h.i.nrm,⟨C,hC⟩,⟨X,l1⟩,s.YT h.i.qw h.i.nrm V U Y h.i.fl⟩,λc d hc hd Q=> ?_,λc d hc hd x hx=> ?_⟩,l2⟩
 ·rw[(l2 c d hc hd).1];exact h.o c d hc hd Q
 ·rw[(l2 c d hc hd).2]at hx;rcases av.1 hx with g|g
  ·exact h.nl c d hc hd x g
  ·split at g
   ·exact wj _ _ x g
   ·simp at g
theorem Env.pop {N k:Nat} {a:AN} (h:Env N k a)(hN:N<1000000)(hk:k<=126) {c d:Nat} {x:kM} {l:List kM} (hc:c<a.nc)(hd:d<2)(hF:a.F c d=x::l):Env N k (a.pop c d x l)/\(∀c' d',jR (a.pop c d x l) c' d'=jR a c' d')/\∀c' d',c'<a.nc->d'<2->∃U,(a.pop c d x l).F c' d'=(if c'=c/\d'=d then l else a.F c' d')++U:=by
 obtain⟨X,hX⟩:=h.i.lk;have hx:=h.nl c d hc hd x (by rw[hF];simp);have u:=h.i.YU ((uW.nil a).snoc c d x l hc hd hF) hN hk;cases Gw h.i.qw h.i.nrm hX hc hd hF with
 |link q A _ _ _=>
  rcases A with⟨id,_,_,e,_⟩|⟨id,_,_,e,_⟩<;>exact absurd rfl (hx _ _ e)
 |other _ J H=>
  refine⟨⟨u,λc' d' Y V lL=> ?_,λc' d' Y V y hy=> ?_⟩,J,λc' d' Y V=> ?_⟩
  ·rw[J];exact h.o c' d' Y V lL
  ·obtain⟨U,Q,e2⟩:=H c' d' Y V;rw[Q]at hy;rcases av.1 hy with g|g
   ·split at g
    ·exact h.nl c d hc hd y (by rw[hF];simp[g])
    ·exact h.nl c' d' Y V y g
   ·exact e2 y g
  ·obtain⟨U,Q,_⟩:=H c' d' Y V;exact⟨U,Q⟩
theorem wW.len(h:wW T a b):b.iR=a.iR:=by
 induction h with
 |nil=>rfl
 |snoc i p _ _ _ ih=>exact ih
theorem zx(r:iE)(p q:Nat):((r.iL p).P q).pe=if q=p then(if(iW (r.P p).L).1.st=9 then iA (r.P p).pe else nobody)else(r.P q).pe:=by
 have U:((iT r p).P p).L.st=(iW (r.P p).L).1.st:=by unfold iT;rw[kx,ag rfl,rT]
 have V:=λj=>(lq r p j).2;rw[kP,U];by_cases Y:(iW (r.P p).L).1.st=9
 ·rw[ae (by rw[Y];simp),ag Y,((oV _ _).2.2.2.2 _).2.1,(j1 _ _ _ _).2.2.2,V,V]
 ·rw[ag Y,ae Y,(j1 _ _ _ _).2.2.2,V]
theorem CD {c:UInt8} (s:List UInt8)(hc:c≠76)(U:(r.P i).L.st=9)(q:Nat):((r.take i c s).P q).pe=if q=i/\c=72/\(kg s).2.2=0 then iY r.id (kg s).1 (kg s).2.1 else(r.P q).pe:=by
 rw[lg,tR i s hc,ae (by rw[U];simp)];unfold lO;split
 ·rename_i Y
  by_cases V:(kg s).2.2=0
  ·rw[ag V,(j1 _ _ _ _).2.2.2];by_cases e:q=i
   ·rw[ag e,ag ⟨e,Y,V⟩]
   ·rw[ae e,ae (λz=>e z.1)]
  ·rw[ae V,ae (λz=>V z.2.2)]
 ·rename_i Y
  have Q:¬(q=i/\c=72/\(kg s).2.2=0):=λz=>Y z.2.1;rw[ae Q];split
  ·exact(j4.state r i s q).2
  ·split
   ·unfold kd;simp only;split<;>rfl
   ·split
    ·unfold qH;split
     ·exact((mJ r _).2.2.2.2 q).2.1
     ·rfl
    ·rfl
theorem Ir {i w:Int} (hi:1<=i/\i<=6)(hw:0<=w/\w<=6):kg [jO i,jO w] =(i,w,0):=by
 have V:=mV i dU dU;have Y:=mV w dU dU;unfold kg;show(if [jO i,jO w].length=2/\tF (((jO i).toNat:Nat):Int) (((jO w).toNat:Nat):Int)=true then((((jO i).toNat:Nat):Int),(((jO w).toNat:Nat):Int),0)else(0,0,4))=_;rw[V,Y,ag];refine⟨rfl,?_⟩;unfold tF;simp;omega
def FN(i w:Int):kM:=72::[jO i,jO w]
def YW(x:kM):Prop:=∃s,x=72::s
theorem XB(hx:x∈zE r p)(h:YW x):x=FN r.id (iA (r.P p).pe).who:=by
 obtain⟨s,rfl⟩:=h;unfold zE at hx;split at hx
 ·rcases aQ.1 hx with g|g
  ·exact g
  ·split at g
   ·obtain⟨q,_,Y⟩:=aV.1 g;unfold Cz at Y;split at Y
    ·have:=ar.1 Y;exact absurd (aB this).1 dX
    ·simp at Y
   ·simp at g
 ·simp at hx
theorem abv(h:wW T a b)(hT:T.Nodup)(H:Env N k a)(hl:N+8*T.length<1000000):Env (N+8*T.length) k b/\(∀c d,c<a.nc->d<2->jR b c d=jR a c d)/\(∀c d,c<a.nc->d<2->(a.e c d∉T->mr b c d=mr a c d/\b.F c d=a.F c d)/\(a.e c d∈T->a.iR c=true->mr b c d=iA (mr a c d)/\∃m:iE,m.id=((a.e c d).1:Int)+1/\(m.P (a.e c d).2).pe=mr a c d/\(m.P (a.e c d).2).L=jR a c d/\b.F c d=a.F c d++zE m (a.e c d).2)):=by
 induction h with
 |nil=>exact⟨H,λ_ _ _ _=>rfl,λc d _ _=>⟨λ_=>⟨rfl,rfl⟩,λh=>by simp at h⟩⟩
 | @snoc T a b i p tk hi hp ih=>
   rw[az]at hl⊢;have Ox:[(i,p)].length=1:=rfl;have J:=bE.1 hT;obtain⟨e1,l1,f1⟩:=ih J.1 H dU;have Y:=tk.path.same;obtain⟨e2,l2⟩:=e1.tick dU hi hp;obtain⟨B,hB⟩:=e1.i.own;refine⟨by rw[show N+8*(T.length+ [(i,p)].length)=N+8*T.length+8 by omega];exact e2,λc d hc hd=> ?_,λc d hc hd=>⟨λkT=> ?_,λlL u=> ?_⟩⟩
   ·rw[(l2 c d (by rw[Y.2.1];exact hc) hd).1];exact l1 c d hc hd
   ·have A:a.e c d∉T:=λz=>kT (av.2 (.inl z));have V:a.e c d≠(i,p):=λz=>kT (av.2 (.inr (ar.2 z)));obtain⟨g1,U⟩:=(f1 c d hc hd).1 A;have hF:=(l2 c d (by rw[Y.2.1];exact hc) hd).2;rw[Y.2.2.1,ae V,aC]at hF;refine⟨?_,hF.trans U⟩;rw[zv,Y.2.2.1];split
    ·rename_i e
     rw[zx,ae (λz=>V (aR e z)),<-g1];unfold mr;rw[Y.2.2.1,e]
    ·exact g1
   ·have hF:=(l2 c d (by rw[Y.2.1];exact hc) hd).2;rw[Y.2.2.1]at hF;rcases av.1 lL with g|g
    ·have V:a.e c d≠(i,p):=λz=>J.2.2 _ g _ (ar.2 rfl) z;obtain⟨g1,m,U,g3,g4,g5⟩:=(f1 c d hc hd).2 g u;rw[ae V,aC]at hF;refine⟨?_,m,U,g3,g4,hF.trans g5⟩;rw[zv,Y.2.2.1];split
     ·rename_i e
      rw[zx,ae (λz=>V (aR e z)),<-g1];unfold mr;rw[Y.2.2.1,e]
     ·exact g1
    ·have g:=ar.1 g;have A:a.e c d∉T:=λz=>J.2.2 _ z _ (ar.2 rfl) g;obtain⟨g1,U⟩:=(f1 c d hc hd).1 A;have oQ:((b.R i).P p).L=jR a c d:=by
      rw[<-l1 c d hc hd];unfold jR;rw[Y.2.2.1,g]
     have oE:((b.R i).P p).pe=mr a c d:=by
      rw[<-g1];unfold mr;rw[Y.2.2.1,g]
     rw[ag g,U]at hF;have Q:(iW ((b.R i).P p).L).1.st=9:=by
      have Q:(jR a c d).st=9:=H.o c d hc hd u;have hb:(decide (4<=(jR a c d).st)&&decide ((jR a c d).st<=8))=false:=by rw[Q];rfl
      rw[oQ];unfold iW j6 lh;rw[ag hb,ae (show¬(jR a c d).st=3 by omega)];exact Q
     refine⟨?_,b.R i,?_,?_,?_,?_⟩
     ·rw[zv,Y.2.2.1,g,ag rfl,zx,ag rfl,ag Q,oE]
     ·rw[g];exact(hB.r i hi).2.2.2.1
     ·rw[g];exact oE
     ·rw[g];exact oQ
     ·rw[g];exact hF
theorem UU(h:Env N k a)(hc:c<a.nc)(hd:d<2)(hF:a.F c d=x::l)(c' d':Nat)(A:c'<a.nc)(j3:d'<2):(c'=c/\d'=1-d->∀s,x=72::s->(kg s).2.2=0->mr (a.pop c d x l) c' d'=iY ((a.e c (1-d)).1+1) (kg s).1 (kg s).2.1)/\(¬(c'=c/\d'=1-d/\YW x)->mr (a.pop c d x l) c' d'=mr a c' d'):=by
 obtain⟨X,J⟩:=h.i.lk;obtain⟨B,H⟩:=h.i.own;have Q:=J.yh hc hd (x:=x) (by rw[hF];simp);have U:=h.i.qw.en c (1-d) hc dU;have V:=(H.r _ U.1).2.2.2.1;have Y:((a.R (a.e c (1-d)).1).P (a.e c (1-d)).2).L.st=9:=h.o c (1-d) hc dU Q;unfold AN.pop;rw[zv,yb];refine⟨λe s hs hz=> ?_,λu=> ?_⟩
 ·rw[e.1,e.2,ag rfl,hs];show((iE.take _ _ 72 s).P _).pe=_;rw[CD s dX Y,ag ⟨rfl,rfl,hz⟩,V]
 ·by_cases e:(a.e c' d').1=(a.e c (1-d)).1
  ·rw[ag e];cases x with
   |nil=>unfold mr;rw[e];rfl
   |cons k s=>
    show((iE.take _ _ k s).P _).pe=_;have hk:k≠76:=h.nl c d hc hd (k::s) (by rw[hF];simp) k s rfl;rw[CD s hk Y,ae]
    ·unfold mr;rw[e]
    ·intro g;have:=h.i.qw.ds c' d' c (1-d) A j3 hc dU (aR e g.1);exact u ⟨this.1,this.2,s,by rw[g.2.1]⟩
  ·rw[ae e];rfl
theorem Bx(hT:wW (l8 a.n) a m)(hP:uW m b)(V:Env N k a)(hl:N+8*(l8 a.n).length<1000000)(hk:k<=126)(h0:∀c d,c<a.nc->d<2->a.F c d=[])(h1:∀c d,c<a.nc->d<2->b.F c d=[]):Env (N+8*(l8 a.n).length) k b/\∀c d,c<a.nc->d<2->a.iR c=true->mr b c d=iY ((a.e c d).1+1) ((a.e c (1-d)).1+1) (iA (mr a c (1-d))).who:=by
 obtain⟨nd,_,_⟩:=oh a.n;obtain⟨e1,l1,f1⟩:=abv hT nd V hl;have hn:=hT.path.same;have hnb:=hP.path.same;have qR:∀c d,c<a.nc->d<2->a.e c d∈l8 a.n:=λc d hc hd=>by
  obtain⟨e1,e2⟩:=V.i.qw.en c d hc hd;unfold l8;refine aV.2 ⟨(a.e c d).1,aS.2 dU,?_⟩;unfold QA;have:(a.e c d).2=0 \/(a.e c d).2=1 \/(a.e c d).2=2:=dU;rcases this with e|e|e
  ·rw[show a.e c d=((a.e c d).1,0)from aR rfl e];simp
  ·rw[show a.e c d=((a.e c d).1,1)from aR rfl e];simp
  ·rw[show a.e c d=((a.e c d).1,2)from aR rfl e];simp
 have key:∀b',uW m b'->Env (N+8*(l8 a.n).length) k b'/\∀c d,c<a.nc->d<2->a.iR c=true->(∀x∈b'.F c (1-d),YW x->x=FN ((a.e c (1-d)).1+1) (iA (mr a c (1-d))).who)/\((∃x∈b'.F c (1-d),YW x) \/mr b' c d=iY ((a.e c d).1+1) ((a.e c (1-d)).1+1) (iA (mr a c (1-d))).who):=λb' hP'=>by
  induction hP' with
  |nil=>
   refine⟨e1,λc d hc hd U=> ?_⟩;obtain⟨_,x,x1,x2,x3,x4⟩:=(f1 c (1-d) hc dU).2 (qR c (1-d) hc dU) U;rw[h0 c (1-d) hc dU,bF]at x4;rw[x4];refine⟨λy hy hh=> ?_,.inl ?_⟩
   ·rw[XB hy hh,x1,x2]
   ·have J:(iW (x.P (a.e c (1-d)).2).L).1.st=9:=by
     have J:(jR a c (1-d)).st=9:=V.o c (1-d) hc dU U;have hb:(decide (4<=(jR a c (1-d)).st)&&decide ((jR a c (1-d)).st<=8))=false:=by rw[J];rfl
     rw[x3];unfold iW j6 lh;rw[ag hb,ae (show¬(jR a c (1-d)).st=3 by omega)];exact J
    unfold zE;rw[ag J];exact⟨_,List.mem_cons_self,_,rfl⟩
  |snoc c' d' x l p jN j3 hF ih=>
   obtain⟨A,ih⟩:=ih;have hs:=p.path.same;obtain⟨z1,z2,z3⟩:=A.pop dU hk jN j3 hF;refine⟨z1,λc d hc hd U=> ?_⟩;obtain⟨i1,i2⟩:=ih c d hc hd U
   rename_i b'
   have uj:c<b'.nc:=by rw[hs.2.1,hn.2.1];exact hc
   have heb:b'.e=a.e:=hs.2.2.1.trans hn.2.2.1;obtain⟨em,g1⟩:=z3 c (1-d) uj dU;have abw:∀y∈(b'.pop c' d' x l).F c (1-d),YW y->y∈b'.F c (1-d):=λy hy hh=>by
    obtain⟨s,rfl⟩:=hh;obtain⟨m1,_⟩:=pK (A.i.nrm.emp (b'.e c' (1-d')).1) (b'.e c' (1-d')).2 x;unfold AN.pop at hy;rw[uR]at hy;have Bz:∀z,z∈(b'.kZ c' d' l).F c (1-d)->z∈b'.F c (1-d):=λz H=>by
     rw[rU]at H;split at H
     ·rename_i e;rw[e.1,e.2,hF];simp[H]
     ·exact H
    split at hy
    ·rcases av.1 hy with u|u
     ·exact Bz _ u
     ·exfalso;cases m1 ((b'.kZ c' d' l).e c (1-d)).2 with
      |none h=>rw[h]at u;simp at u
      |link s' _ _ _ h=>rw[h]at u;obtain⟨v,hv⟩:=qV u;exact absurd (aB hv).1 dX
      |heard s' _ _ _ _ _ _ _ h=>rw[h]at u;exact absurd (aB (ar.1 u)).1 dX
      |H9 k1 k2 s' _ _ _ _ h=>rw[h]at u;exact absurd (aB (ar.1 u)).1 dX
    ·exact Bz _ hy
   refine⟨λy hy hh=>i1 y (abw y hy hh) hh,?_⟩;have K3:0<=(iA (mr a c (1-d))).who/\(iA (mr a c (1-d))).who<=6:=by
    obtain⟨B0,yk⟩:=V.i.own;have zC:=V.i.qw.en c (1-d) hc dU;have iF:=(yk.r _ zC.1).2.1;exact(nQ.tick iF.id.1 (iF.pe (a.e c (1-d)).2 (by rw[(yk.r _ zC.1).2.2.2.2];exact zC.2))).who
   have Q:1<=((a.e c (1-d)).1:Int)+1/\((a.e c (1-d)).1:Int)+1<=6:=by
    have:=V.i.qw.en c (1-d) hc dU;have:=V.i.qw.n6;omega
   obtain⟨v1,v2⟩:=UU A jN j3 hF c d uj hd;by_cases Y:c=c'/\d=1-d'/\YW x
   ·right;have Fw:1-d=d':=dU;have hx:=i1 x (by rw[Y.1,Fw,hF];simp) Y.2.2;rw[v1 ⟨Y.1,Y.2.1⟩ _ hx (by rw[Ir Q K3]),Ir Q K3,heb,<-Y.1,<-Y.2.1]
   ·rw[v2 Y];rcases i2 with⟨y,y1,y2⟩|i2
    ·left;by_cases e:c=c'/\1-d=d'
     ·rw[e.1,e.2,hF]at y1;rcases aQ.1 y1 with v|v
      ·exact absurd ⟨e.1,dU,by rw[<-v];exact y2⟩ Y
      ·refine⟨y,?_,y2⟩;rw[g1,ag e];simp[v]
     ·refine⟨y,?_,y2⟩;rw[g1,ae e];simp[y1]
    ·exact .inr i2
 obtain⟨k1,k2⟩:=key b hP;refine⟨k1,λc d hc hd U=> ?_⟩;rcases(k2 c d hc hd U).2 with⟨x,hx,_⟩|g
 ·rw[h1 c (1-d) hc dU]at hx;simp at hx
 ·exact g
