import Derived.Test.YtieklnlbljejdaaGreatDoorC13
open Option renaming none → ν, some → μ
open List renaming filterMap → iB
set_option maxRecDepth 100000
namespace Go.Proofs.YtieklnlbljejdaaGreatDoor
open Go.RowKit St
namespace Rt
variable {D N W Z c d i j k p w:Nat} {F G l:List la} {L M:LS} {T:List (Nat×Nat)} {X:Marks} {a b m:AN} {g:Int} {q:lD} {r:iN} {t:Nat×Nat->Nat} {x:la} {y:iM}
def Deep(t:Nat×Nat->Nat)(a:AN)(D:Nat->Nat->Nat):Prop:=∃X,qY X t a/\∀c d,c<a.nc->d<2->∀x∈a.F c d,xS (X c d) x<=D c d
theorem ZK(X:Int->Bool)(x:la):1<=xS X x:=by
 unfold xS;cases Cu 1 x with
 |some i=>simp only;split<;>decide
 |none=>
  simp only;split<;>omega
theorem yT.deep(h:yT c d l a b)(A:tI a)(u:Norm a)(ht:∀x,t x<=127)(hX:qY X t a)(hc:c<a.nc)(hd:d<2)(rest:List la)(hF:a.F c d=l++rest)(k:Nat)(hk:∀x∈l,xS (X c d) x<=k+1):
 ∃Y,qY Y t b/\∀c' d',c'<a.nc->d'<2->∃H,Mq X Y a b c' d' (if c'=c/\d'=d then rest else a.F c' d') H/\∀y∈H,xS (Y c' d') y<=k:=by
 induction h generalizing X rest with
 |nil a=>
  refine⟨X,hX,λc' d' _ _=>⟨[],⟨?_,λ_ _=>⟨rfl,rfl⟩⟩,λ_ h=>by simp at h⟩⟩;rw[aB];split;{rename_i e;rw[e.1,e.2,hF];rfl}
  ·rfl
 | @cons a b x l r h1 h2 h3 h4 ih=>
   have Q:r=l++rest:=by rw[hF]at h3;exact(aC h3).2.symm
   obtain⟨Y,hY,pp⟩:=hX.pop A u ht hc hd h3;have tY:(a.pop c d x r).nc=a.nc:=rfl;obtain⟨U,V,de0⟩:=pp.fl c d hc hd;rw[ai ⟨rfl,rfl⟩]at V;have hx:=hk x gU;have SD:(a.pop c d x r).F c d=l++(rest++U):=by rw[V.f,Q,aD]
   obtain⟨Z,hZ,q⟩:=ih (A.same rfl rfl rfl) (qW (a:=a.lv c d r) u _ _) hY hc (rest++U) SD λy hy=>by
    rw[(V.o y (by rw[Q];simp[hy])).1];exact hk y (by simp[hy])
   refine⟨Z,hZ,λc' d' jX kg=> ?_⟩;obtain⟨J,f1,g1⟩:=q c' d' jX kg;obtain⟨S,f2,E⟩:=pp.fl c' d' jX kg;by_cases e:c'=c/\d'=d
   ·rw[ai e]at f1 f2⊢;obtain⟨z1,z2⟩:=e;subst z1 z2;have he:S=U:=by
     have:=f2.f.symm.trans V.f;exact List.append_cancel_left this
    subst he;refine⟨S++J,⟨by rw[f1.f,aD],λy hy=> ?_⟩,λy hy=> ?_⟩;{have o1:=f1.o y (by simp[hy]);have o2:=f2.o y (by rw[Q];simp[hy]);exact⟨o1.1.trans o2.1,o1.2.trans o2.2⟩}
    ·rcases av.1 hy with g|g
     {rw[(f1.o y (by simp[g])).1];have:=E y g;omega};{exact g1 y g}
   ·rw[af e]at f1 f2⊢;refine⟨S++J,⟨by rw[f1.f,f2.f,aD],λy hy=> ?_⟩,λy hy=> ?_⟩;{have o1:=f1.o y (by rw[f2.f];simp[hy]);have o2:=f2.o y hy;exact⟨o1.1.trans o2.1,o1.2.trans o2.2⟩}
    ·rcases av.1 hy with g|g
     {rw[(f1.o y (by rw[f2.f];simp[g])).1];have:=E y g;omega};{exact g1 y g}
theorem Deep.lost {t:Nat×Nat->Nat} {a b:AN} {D:Nat->Nat->Nat} (h:Deep t a D)(hl:wQ a b):Deep t b D:=by
 obtain⟨X,Y,V⟩:=h;refine⟨X,Y.lost hl,λc d hc hd x hx=>V c d (by rw[hl.1]at hc;exact hc) hd x ?_⟩;obtain⟨m,U⟩:=hl.2 c d;rw[U]at hx;exact di hx
structure Full(y:iM)(c d:Nat)(y':iM):Prop where
 ps:yT c d ((iI y).F c d) (iI y) (iI (y.jq c d ((y.C c).on d).length))/\wQ (iI (y.jq c d ((y.C c).on d).length)) (iI y')/\(Room (y.jq c d ((y.C c).on d).length)->iI y'=iI (y.jq c d ((y.C c).on d).length))
 rv:∀x f,x<y.nc->f<2->jW (y.jq c d ((y.C c).on d).length) x f=(if x=c/\f=d then lH else jW y x f)/\((y.jq c d ((y.C c).on d).length).C x).on f=if x=c/\f=d then []else(y.C x).on f
 rd:∀x f,x<y.nc->f<2->jW y' x f=if x=c/\f=d then lH else jW y x f
 on:∀x f,x<y.nc->f<2->∃ps:List la,(∀p∈ps,yf p)/\(y'.C x).on f=(if x=c/\f=d then []else(y.C x).on f)++ps.flatMap Plain.lM
theorem BH {y1:iM} (H:jA y1)(x f:Nat)(hx:x<y1.nc)(hf:f<2):jW y1.gather x f=jW y1 x f/\∃ps:List la,(∀p∈ps,yf p)/\(y1.gather.C x).on f=(y1.C x).on f++ps.flatMap Plain.lM:=by
 have Y:∀k,k<=y1.nc->(∀x f,x<y1.nc->f<2->jW (y1.j2 k) x f=jW y1 x f/\∃ps:List la,(∀p∈ps,yf p)/\((y1.j2 k).C x).on f=(y1.C x).on f++ps.flatMap Plain.lM):=λk=>by
  induction k with
  |zero=>intro _ x f _ _;exact⟨rfl,[],λ_ h=>by simp at h,by show(y1.C x).on f=_;simp⟩
  |succ k ih=>
   intro hk x f hx hf;have one:∀(z:iM) (i:Nat),jA z->i<2->z.nc=y1.nc->jW (z.kZ k i) x f=jW z x f/\∃ps:List la,(∀p∈ps,yf p)/\((z.kZ k i).C x).on f=(z.C x).on f++ps.flatMap Plain.lM:=λz i hz hi Sg=>by
    refine⟨?_,?_⟩;{unfold jW;rw[((mW z k i).2.2.2.2 x).1,Bl];split<;>rfl}
    ·rw[Dy];split
     ·rename_i e
      obtain⟨ps,J⟩:=hz.o ((z.C k).e i).1 ((z.C k).e i).2;exact⟨ps,J.2,by rw[e.1,e.2.1,J.1]⟩
     ·exact⟨[],λ_ h=>by simp at h,gU⟩
   have S:=jA.j2 H k dZ;have V:(y1.j2 k).nc=y1.nc:=(j4 y1 k).2.1;obtain⟨i1,p1,i2,i3⟩:=ih dZ x f hx hf;obtain⟨E,p2,A,u⟩:=one (y1.j2 k) 0 S ew V;obtain⟨b1,p3,b2,b3⟩:=one ((y1.j2 k).kZ k 0) 1 (S.kZ k 0 (by rw[V];omega)) ew V;refine⟨b1.trans (E.trans i1),p1++p2++p3,λp hp=> ?_,?_⟩
   ·rcases av.1 hp with g|g
    {exact(av.1 g).elim (i2 p) (A p)};{exact b2 p g}
   ·show(((y1.j2 k).kZ k 0).kZ k 1|>.C x).on f=_;rw[b3,u,i3];simp
 have Q:∀x f,jW ((y1.j2 y1.nc).m7 y1.n) x f=jW (y1.j2 y1.nc) x f/\(((y1.j2 y1.nc).m7 y1.n).C x).on f=((y1.j2 y1.nc).C x).on f:=λx f=>by
  obtain⟨_,_,_,U⟩:=nY (y1.j2 y1.nc) y1.n;refine⟨?_,by rw[U]⟩;unfold jW;rw[U,(wJ (y1.j2 y1.nc) _ y1.n).1];split<;>rfl
 unfold iM.gather;rw[(Q x f).1,(Q x f).2];exact Y y1.nc (Nat.le_refl _) x f hx hf
theorem uY(hF:jA y)(E:j3 y D 0)(hD:D<=900000000)(hc:c<y.nc)(hd:d<2):Full y c d (y.deliver c d 2000).1:=by
 have hE:=E.oJ;have hlen:=E.ol c d hc hd;have he:(y.deliver c d 2000).1=(y.jq c d ((y.C c).on d).length).gather:=by
  unfold iM.deliver;rw[af dZ];show(y.jq ((c:Int)).toNat ((d:Int)).toNat (min (2000:Int).toNat ((y.C ((c:Int)).toNat).on ((d:Int)).toNat).length)).gather=_;rw[Int.toNat_natCast,Int.toNat_natCast,Nat.min_eq_right (by show _<=2000;exact hlen)]
 rw[he];obtain⟨l,rest,h1,h2,u⟩:=Fj hF hE c d ((y.C c).on d).length hc hd;have hq:=hF.q c d hc hd;have ho:=E.Zw c d hc hd;have Wr:tU y c d=(kx (jW y c d) ((y.C c).on d)).1:=by unfold tU;rw[jz ho,aB]
 have hl:l=(kx (jW y c d) ((y.C c).on d)).1:=by rw[h2,ct]
 have hr:rest=[] :=by
  rw[Wr,<-hl]at h1;have:=congrArg List.length h1;rw[az]at this;exact aH dZ
 have Q:(iI y).F c d=l:=by
  show(if c<y.nc/\d<2 then tU y c d else [])=_;rw[ai ⟨hc,hd⟩,Wr,hl]
 have hp:=adD l [] (iI y) c d (wR y) hc hd (by rw[Q,aB]);have kX:=E.jq (q:=((y.C c).on d).length) dZ hc hd;have J:=hF.jq hE c d ((y.C c).on d).length hc hd;have hg:=pF J kX.oJ;obtain⟨V,Y⟩:=gg (y.jq c d ((y.C c).on d).length);obtain⟨s1,s2,s3,s4⟩:=rz y c d ((y.C c).on d).length;have U:∀x e,(V.C x).on e=if x=c/\e=d then []else(y.C x).on e:=λx e=>by
  rw[<-Y];show((if x=c then {y.C c with on:=jU (y.C c).on d (((y.C c).on d).drop ((y.C c).on d).length)}else y.C x):qC).on e=_;by_cases ex:x=c;{rw[ai ex];show jU (y.C c).on d _ e=_;by_cases ed:e=d;{rw[ed,iE,ai ⟨ex,rfl⟩,List.drop_length]};{rw[iC _ _ ed,af (λh=>ed h.2),ex]}};{rw[af ex,af (λh=>ex h.1)]}
 have S:∀x f,x<y.nc->f<2->jW V x f=if x=c/\f=d then lH else jW y x f:=λx f hx hf=>by
  obtain⟨g1,A,_⟩:=Il (y.R ((y.C c).e (1-d)).1) ((y.C c).e (1-d)).2 (((y.C c).on d).take ((y.C c).on d).length);have hR:∀j,V.R j=if j=((y.C c).e (1-d)).1 then(y.R ((y.C c).e (1-d)).1).recv ((y.C c).e (1-d)).2 (((y.C c).on d).take ((y.C c).on d).length)else y.R j:=λj=>by rw[<-Y];rfl
  unfold jW;rw[show(V.C x).e=(y.C x).e by rw[<-Y];exact(s4 x).1,hR];by_cases e:x=c/\f=d;{rw[ai e,e.1,e.2,ai rfl,g1,ct];have:=hq.1;unfold jW at this;rw[this]};{rw[af e];by_cases H:((y.C x).e (1-f)).1=((y.C c).e (1-d)).1;{rw[ai H,A _ (λe3=> ?_),H];have:=hE.ds x (1-f) c (1-d) hx dZ hc dZ (aV H e3);exact e ⟨this.1,dZ⟩};{rw[af H]}}
 rw[hr]at u;rw[Y]at u J kX hg⊢;have mO:V.nc=y.nc:=by rw[<-Y];exact s2
 have hp':yT c d l (iI y) (iI V):=by rw[u];exact hp
 refine⟨by rw[Q,Y];exact⟨hp',hg.1,hg.2⟩,λx f hx hf=>by rw[Y];exact⟨S x f hx hf,U x f⟩,λx f hx hf=> ?_,λx f hx hf=> ?_⟩;{rw[(BH J x f (by rw[mO];exact hx) hf).1];exact S x f hx hf};{obtain⟨_,ps,g1,A⟩:=BH J x f (by rw[mO];exact hx) hf;exact⟨ps,g1,by rw[A,U]⟩}
theorem Full.deep {y y':iM} {c d:Nat} (h:Full y c d y')(H:tI (iI y))(hc:c<y.nc)(hd:d<2) {t:Nat×Nat->Nat} (ht:∀x,t x<=127) {D:Nat->Nat->Nat} {k:Nat} (hk:∀x f,D x f<=k+1)(J:∀x f,k<=D x f)(g:Deep t (iI y) D):Deep t (iI y') λx f=>if x=c/\f=d then k else D x f:=by
 obtain⟨z,og⟩:=gg (iI (y.jq c d ((y.C c).on d).length));obtain⟨S,Q,_⟩:=h.ps;rw[og]at S Q;obtain⟨X,E,V⟩:=g;obtain⟨Y,A,q⟩:=S.deep H (wR y) ht E hc hd [] (by rw[aB]) k λx hx=>Nat.le_trans (V c d hc hd x hx) (hk c d);have hz:z.nc=y.nc:=S.path.same.2.1;refine Deep.lost ⟨Y,A,λx f hx hf p U=> ?_⟩ Q;rw[hz]at hx;obtain⟨em,f1,g1⟩:=q x f hx hf;rw[f1.f]at U;show xS (Y x f) p<=if x=c/\f=d then k else D x f
 by_cases e:x=c/\f=d;{rw[ai e];rw[ai e]at U;exact g1 p (by simpa using U)}
 ·rw[af e];rw[af e]at U f1;rcases av.1 U with u|u
  {rw[(f1.o p u).1];exact V x f hx hf p u};{exact Nat.le_trans (g1 p u) (J x f)}
def uZ(y:iM)(x f:Nat):Prop:=jW y x f=lH/\∃ps,Frames ((y.C x).on f) ps
theorem Full.rest {y':iM} (h:Full y c d y') {x f:Nat} (hx:x<y.nc)(hf:f<2)(g:(x=c/\f=d) \/uZ y x f):uZ y' x f:=by
 have S:=h.rd x f hx hf;obtain⟨ps,Y,J⟩:=h.on x f hx hf;unfold uZ;rw[S,J];by_cases e:x=c/\f=d;{rw[ai e,ai e];exact⟨rfl,ps,rfl,Y⟩};{rw[af e,af e];obtain⟨g1,qs,V,U⟩:=g.resolve_left e;exact⟨g1,qs++ps,by rw[V,bW],λp Q=>(av.1 Q).elim (U p) (Y p)⟩}
theorem FG {y:iM} {Z:Nat} (hF:jA y)(V:j3 y Z 0)(S:Z<=890000000) {t:Nat×Nat->Nat} (Q:∀x,t x<=127)(k:Nat)(g:Deep t (iI y) λ_ _=>k+1):∀q,q<=y.nc->Deep t (iI (y.jP q)) (λx _=>if x<q then k else k+1)/\∀x f,x<q->f<2->uZ (y.jP q) x f
 |0,_=>⟨by simp only[Nat.not_lt_zero,if_false];exact g,λx f h=>dZ⟩
 |q+1,hq=>by
  have c9:=V.c9;obtain⟨h1,r1⟩:=FG hF V S Q k g q dZ;have f1:=jA.jP hF V S q dZ;have k1:=V.jP S q dZ;have n1:(y.jP q).nc=y.nc:=(lR y q).2.1;have d1:=uY f1 k1 dZ (c:=q) (d:=0) (by rw[n1];omega) ew;have f2:=f1.deliver k1 (q:Int) 0 2000;have k2:=k1.deliver dZ (q:Int) 0 2000;have J:((y.jP q).deliver (q:Int) 0 2000).1.nc=y.nc:=(m8 (y.jP q) (q:Int) 0 2000).2.1.trans n1;have d2:=uY f2 k2 dZ (c:=q) (d:=1) (by rw[J];omega) ew;have b1:∀x:Nat,(if x<q then k else k+1)<=k+1/\k<=(if x<q then k else k+1):=λx=>by split<;>exact⟨dZ,dZ⟩
  have b2:∀x f:Nat,(if x=q/\f=0 then k else if x<q then k else k+1)<=k+1/\k<=(if x=q/\f=0 then k else if x<q then k else k+1):=λx f=>by
   split;{exact⟨dZ,dZ⟩};{exact b1 x}
  have A:=d1.deep k1.qQ (by rw[n1];omega) ew Q (k:=k) (λx _=>(b1 x).1) (λx _=>(b1 x).2) h1;have u:=d2.deep k2.qQ (by rw[J];omega) ew Q (k:=k) (λx f=>(b2 x f).1) (λx f=>(b2 x f).2) A;refine⟨?_,λx f hx hf=> ?_⟩
  ·obtain⟨X,hX,hd⟩:=u;refine⟨X,hX,λc d hc kg p hp=> ?_⟩;have:=hd c d hc kg p hp;simp only at this;have U:d=0 \/d=1:=dZ;show xS (X c d) p<=if c<q+1 then k else k+1
   by_cases Y:c<q;{rw[af dZ,af dZ,ai Y]at this;rw[ai dZ];exact this}
   ·by_cases E:c=q
    ·rw[ai dZ];rcases U with rfl|rfl
     {rw[af dZ,ai ⟨E,rfl⟩]at this;exact this};{rw[ai ⟨E,rfl⟩]at this;exact this}
    ·rw[af dZ,af dZ,af Y]at this;rw[af dZ];exact this
  ·have H:x<y.nc:=dZ;have U:f=0 \/f=1:=dZ;refine d2.rest (by rw[J];exact H) hf ?_;by_cases e:x=q
   ·rcases U with rfl|rfl
    {exact .inr (d1.rest (by rw[n1];exact H) hf (.inl ⟨e,rfl⟩))};{exact .inl ⟨e,rfl⟩}
   ·exact .inr (d1.rest (by rw[n1];exact H) hf (.inr (r1 x f dZ hf)))
theorem Deep.mono {D E:Nat->Nat->Nat} (h:Deep t a D)(U:∀c d,c<a.nc->D c d<=E c d):Deep t a E:=by
 obtain⟨X,Y,V⟩:=h;exact⟨X,Y,λc d hc hd x hx=>Nat.le_trans (V c d hc hd x hx) (U c d hc)⟩
theorem FH {y:iM} {Z:Nat} (hF:jA y)(V:j3 y Z 0)(Y:Z<=810000000) {t:Nat×Nat->Nat} (S:∀x,t x<=127)(g:Deep t (iI y) λ_ _=>8):∀j,j<=12->Deep t (iI (y.turns j)) (λ_ _=>8-j)/\(1<=j->∀x f,x<y.nc->f<2->uZ (y.turns j) x f)
 |0,_=>⟨g,λh=>dZ⟩
 |j+1,hj=>by
  obtain⟨Q,_⟩:=FH hF V Y S g j dZ;have n1:(y.turns j).nc=y.nc:=(qO y j).2.1;have U:=FG (jA.turns hF V Y j dZ) (V.turns Y j dZ) dZ S (8-j-1) (Q.mono λ_ _ _=>dZ) y.nc (by rw[n1];exact Nat.le_refl _);have H:((y.turns j).jP y.nc).nc=y.nc:=(lR (y.turns j) y.nc).2.1.trans n1;refine⟨U.1.mono λc _ hc=> ?_,λ_ x f hx hf=>U.2 x f hx hf⟩;have J:c<y.nc:=by rw[<-H];exact hc
  show(if c<y.nc then 8-j-1 else 8-j-1+1)<=8-(j+1);rw[ai J];omega
structure Still(y:iM):Prop where
 f:∀c d,c<y.nc->d<2->(iI y).F c d=[]
 r:∀c d,c<y.nc->d<2->uZ y c d
theorem DF.deep(Y:qY X t a)(h:DF a):Deep t a λ_ _=>8:=by
 refine⟨X,Y,λc d hc hd x hx=> ?_⟩;have V:=(h.kn c d hc hd x hx).2.2;unfold xS;cases Cu 1 x with
 |some i=>simp only;split<;>decide
 |none=>
  simp only;split;{decide}
  ·rename_i k b s
   have:=V k b s rfl;omega
  ·decide
theorem Cy(hF:jA y)(V:j3 y Z 0)(Q:Z<=800000000)(h:Inv N (λ_=>k) (iI y))(hl:N+144<1000000)(A:k+1<=126):Still y.round:=by
 have n6:=V.n6;have u:=yU hF V Q y.n (Nat.le_refl _);obtain⟨t1,t2,_⟩:=pz y.n;have S:=h.path u (by rw[t2];omega) λx=>Nat.le_trans (nK t1 k x) A;obtain⟨X,J⟩:=S.lk;have hd:=S.fl.deep J;obtain⟨d1,d2⟩:=FH (hF.ja y.n) (V.ja Q y.n n6) dZ (λx=>by have:=nK t1 k x;omega) hd 12 (Nat.le_refl _);have n1:(y.ja y.n).nc=y.nc:=(oI y y.n).2.1;have n2:y.round.nc=y.nc:=(kI y).2.1;refine⟨λc d hc U=> ?_,λc d hc U=>d2 ew c d (by rw[n1,<-n2];exact hc) U⟩;obtain⟨Y,_,H⟩:=d1;cases E:(iI y.round).F c d with
 |nil=>rfl
 |cons x l=>
  have h3:xS (Y c d) x<=8-12:=H c d hc U x (by show x∈(iI y.round).F c d;rw[E];simp);have h4:=ZK (Y c d) x;omega
def ve:la->Nat
 |77::_=>1
 |_=>0
theorem uD {c:UInt8} (s:List UInt8)(h:c≠77):ve (c::s)=0:=by
 unfold ve;split;{rename_i e;exact absurd (aC e).1 h};{rfl}
theorem WM {α:Type} {f g:α->Nat}:∀ {l:List α},(∀x∈l,1<=f x+g x)->l.length<=sm f l+sm g l
 |[],_=>Nat.zero_le _
 |x::l,h=>by
  have:=WM (l:=l) λy hy=>h y (by simp[hy]);have h1:=h x gU;show l.length+1<=(f x+sm f l)+(g x+sm g l);omega
theorem ZL(X:Int->Bool)(x:la):1<=oQ X x+ve x:=by
 unfold oQ;cases Cu 1 x with
 |some i=>simp only;split<;>omega
 |none=>
  simp only;split;{omega};{show 1<=0+1;omega};{omega}
theorem ahF(a:AN)(hc:c<a.nc)(hd:d<2):sm ve (a.F c d)<=a.W ve:=by
 have h1:0+sm ve (a.F c d)<=a.W ve:=by
  have:=z8 (f:=λ_:Nat×Nat=>0) (g:=λx:Nat×Nat=>sm ve (a.F x.1 x.2)) (y:=(c,d)) (k:=sm ve (a.F c d)) (xE a.nc) (qp.2 ⟨hc,hd⟩) λx _=>by
   show 0+(if x=(c,d)then _ else 0)<=sm ve (a.F x.1 x.2);by_cases e:x=(c,d)
   {subst e;rw[ai rfl];exact Nat.le_of_eq (Nat.zero_add _)};{rw[af e];omega}
  have e0:sm (λ_:Nat×Nat=>0) (SL a.nc)=0:=by
   generalize SL a.nc=l
   induction l with
   |nil=>rfl
   |cons x l ih=>simpa[sm]using ih
  unfold AN.W;omega
 omega
theorem S0(h:x.length<=23):(Plain.lM x).length<=52:=by
 have h1:=Plain.Dg (Plain.lU x);have h2:=Plain.oz x;have h3:=xU x;omega
theorem FI:∀ {l:List la},(∀x∈l,x.length<=23)->(l.flatMap Plain.lM).length<=52*l.length
 |[],_=>Nat.le_refl _
 |x::l,h=>by
  have:=FI (l:=l) λy hy=>h y (by simp[hy]);have h1:=S0 (h x gU);rw[cg,az,cQ];omega
structure Calm(t:Nat×Nat->Nat)(W:Nat)(a:AN):Prop where
 lk:∃X,qY X t a/\∀c,c<a.nc->wc X a c<=W
 ml:a.W ve<=1
theorem Calm.few(h:Calm t W a)(hc:c<a.nc)(hd:d<2):(a.F c d).length<=W+1/\(a.F c d≠ []->a.iQ c=true):=by
 obtain⟨X,V,U⟩:=h.lk;have h1:=WM (l:=a.F c d) λx _=>ZL (X c d) x;have h2:=ahF a hc hd;have h3:=h.ml;have h4:sm (oQ (X c d)) (a.F c d)<=wc X a c:=by
  have:d=0 \/d=1:=dZ;unfold wc;rcases this with rfl|rfl<;>omega
 have h5:=U c hc;refine⟨dZ,λS=> ?_⟩;cases Y:a.F c d with
 |nil=>exact absurd Y S
 |cons x l=>exact V.yX hc hd (x:=x) (by rw[Y];simp)
theorem Calm.room {z:iM} (h:Calm t 34 (iI z))(hF:∀i p,∃ps,Frames ((z.R i).P p).out ps)(V:∀c d,c<z.nc->d<2->uZ z c d)(S:DF (iI z)):Room z:=λc d hc hd=>by
 obtain⟨r1,ps,Y,U⟩:=V c d hc hd;obtain⟨qs,q1,q2⟩:=hF ((z.C c).e d).1 ((z.C c).e d).2;have hf:(iI z).F c d=ps++qs:=by
  show(if c<z.nc/\d<2 then tU z c d else [])=_;rw[ai ⟨hc,hd⟩];unfold tU;rw[r1,Y,rC ps U,m9 ⟨q1,q2⟩]
 obtain⟨f1,f2⟩:=h.few hc hd;rw[hf]at f1 f2;cases qs with
 |nil=>left;rw[q1];rfl
 |cons x l=>
  right;refine⟨f2 gU,?_⟩;rw[Y,q1,<-az,<-bW];have:=FI (l:=ps++x::l) λy hy=>(S.kn c d hc hd y (by rw[hf];exact hy)).2.1;omega
inductive vL:AN->AN->Prop
 |nil (a:AN):vL a a
 |snoc {a b:AN} (c d:Nat) (x:la) (l:List la):vL a b->c<b.nc->d<2->b.F c d=x::l->vL a (b.pop c d x l)
theorem vL.path(h:vL a b):jT a [] [] b:=by
 induction h with
 |nil=>exact jT.nil a
 |snoc c d x l _ hc hd hF ih=>exact ih.snoc (mR.pop c d x l hc hd hF)
theorem vL.trans {c:AN} (h:vL a b)(g:vL b c):vL a c:=by
 induction g with
 |nil=>exact h
 |snoc c d x l _ hc hd hF ih=>exact ih.snoc c d x l hc hd hF
theorem yT.pps(h:yT c d l a b):vL a b:=by
 induction h with
 |nil a=>exact vL.nil a
 |cons Y V U _ ih=>exact((vL.nil _).snoc _ _ _ _ Y V U).trans ih
theorem WN(h:Fu r i x p l):sm ve l<=ve x:=by
 cases h with
 |none h=>rw[h];exact Nat.zero_le _
 |link s _ _ _ h=>
  rw[h];have:∀l:List kN,sm ve (l.flatMap oo)=0:=λl=>by
   have e:∀y∈l.flatMap oo,ve y=0:=λy hy=>by obtain⟨s,rfl⟩:=rQ hy;exact uD s ew
   rw[sT (g:=λ_=>0) e];generalize l.flatMap oo=m
   induction m with
   |nil=>rfl
   |cons x l ih=>simpa[sm]using ih
  rw[this];exact Nat.zero_le _
 |heard s _ _ _ _ _ _ _ h=>rw[h];show ve (65::_)+0<=_;rw[uD _ ew];exact Nat.zero_le _
 |JL a b s hx _ _ _ h=>rw[h,hx];exact Nat.le_refl _
theorem WO(H:tI a)(E:Norm a)(hc:c<a.nc)(hd:d<2)(hF:a.F c d=x::l):(a.pop c d x l).W ve<=a.W ve:=by
 obtain⟨m1,m2⟩:=qq (E.emp (a.e c (1-d)).1) (a.e c (1-d)).2 x;have J:=adL (a:=a.lv c d l) (H.same rfl rfl rfl) (a.e c (1-d)).1 (jN (a.R (a.e c (1-d)).1) (a.e c (1-d)).2 x) ve;have h2:=abd ve hc hd hF;have V:=λp=>WN (m1 p);obtain⟨r',Q⟩:∃r',jN (a.R (a.e c (1-d)).1) (a.e c (1-d)).2 x=r':=⟨_,rfl⟩
 unfold AN.pop;rw[Q]at m2 J V⊢;have h4:sm ve (jl (r'.P 0))+sm ve (jl (r'.P 1))+sm ve (jl (r'.P 2))<=ve x:=by
  have z:∀p,jl (r'.P p)=[]->sm ve (jl (r'.P p))=0:=λp h=>by rw[h];rfl
  have a0:=V 0;have a1:=V 1;have a2:=V 2;by_cases U:jl (r'.P 0)=[]
  ·rw[z 0 U];by_cases Y:jl (r'.P 1)=[]
   ·rw[z 1 Y];omega
   ·have S:jl (r'.P 2)=[] :=by
     by_cases e:jl (r'.P 2)=[]
     {exact e};{exact absurd (m2 1 2 Y e) ew}
    rw[z 2 S];omega
  ·have Y:jl (r'.P 1)=[] :=by
    by_cases e:jl (r'.P 1)=[]
    {exact e};{exact absurd (m2 0 1 U e) ew}
   have S:jl (r'.P 2)=[] :=by
    by_cases e:jl (r'.P 2)=[]
    {exact e};{exact absurd (m2 0 2 U e) ew}
   rw[z 1 Y,z 2 S];omega
 omega
theorem vL.calm(h:vL a b)(E:tI a)(A:Norm a)(ht:∀x,t x<=127)(hc:Calm t W a):Calm t W b:=by
 induction h with
 |nil=>exact hc
 |snoc c d x l p S Q J ih=>
  obtain⟨⟨X,u,hw⟩,hm⟩:=ih;have V:=p.path.qQ E;have U:=p.path.norm A;obtain⟨Y,hY,pp⟩:=u.pop V U ht S Q J;exact⟨⟨Y,hY,λc' H=>Nat.le_trans (pp.w c' H) (hw c' H)⟩,Nat.le_trans (WO V U S Q J) hm⟩
theorem Qj(X:Int->Bool):∀l:List (Int×PS),sm (oQ X) (l.flatMap DC)<=2*l.length
 |[] =>Nat.le_refl _
 |q::l=>by
  have:=Qj X l;rw[cg,pP];have h1:sm (oQ X) (DC q)<=2:=by
   unfold DC;split;{show oQ X (83::_)+0<=2;unfold oQ;rw[xH 1 _ ew];exact Nat.le_refl _};{exact Nat.zero_le _}
  simp only[List.length_cons];omega
theorem Qk(X:Int->Bool)(r:iN)(p:Nat):sm (oQ X) (Ay r p)<=13/\sm ve (Ay r p)=0:=by
 have U:sm ve (Ay r p)=0:=by
  have e:∀y∈Ay r p,ve y=0:=λy hy=>by
   unfold Ay at hy;split at hy
   ·rcases aO.1 hy with g|g
    {rw[g];exact uD _ ew};{split at g;{obtain⟨q,_,Y⟩:=aT.1 g;unfold DC at Y;split at Y;{rw[ar.1 Y];exact uD _ ew};{simp at Y}};{simp at g}}
   ·simp at hy
  rw[sT (g:=λ_=>0) e];generalize Ay r p=m
  induction m with
  |nil=>rfl
  |cons x l ih=>simpa[sm]using ih
 refine⟨?_,U⟩;unfold Ay;split
 ·have V:∀s,oQ X (72::s)=1:=λs=>by unfold oQ;rw[xH 1 s ew];rfl
  show oQ X (72::_)+sm (oQ X) (if _ then _ else _)<=13;rw[V];split;{have:=Qj X (lE (((jb r p).meet p (iJ (r.P p).pe)).O p));have:=Bi (((jb r p).meet p (iJ (r.P p).pe)).O p);omega};{show 1+0<=13;omega}
 ·exact Nat.zero_le _
theorem xR.light(h:xR T a b)(U:tI a)(E:Norm a)(S:∀x,qw t T x<=126)(A:qY X t a)(H:∀c d,c<a.nc->d<2->sm (oQ (X c d)) (a.F c d)=0):(∃Y,qY Y (qw t T) b/\∀c d,c<a.nc->d<2->sm (oQ (Y c d)) (b.F c d)<=17*T.count (a.e c d))/\b.W ve<=a.W ve:=by
 induction h with
 |nil=>exact⟨⟨X,by rw[pq];exact A,λc d hc hd=>by rw[H c d hc hd];exact Nat.zero_le _⟩,Nat.le_refl _⟩
 | @snoc T a b i p tk hi hp ih=>
   rw[Cw]at S⊢;obtain⟨⟨Y,hY,hs⟩,hm⟩:=ih U E (λx=>Nat.le_trans (Nat.le_add_right _ _) (S x)) A H;have Q:=tk.path.qQ U;have J:=tk.path.norm E;have u:=tk.path.same;obtain⟨Z,hZ,hf⟩:=hY.tick Q J (i:=i) (p:=p) λx=>Nat.le_trans (Nat.le_add_right _ _) (S x);refine⟨⟨Z,hZ,λc d hc hd=> ?_⟩,?_⟩
   ·have jX:c<b.nc:=by rw[u.2.1];exact hc
    obtain⟨f1,f2⟩:=hf c d jX hd;rw[List.count_append];have h1:=hs c d hc hd;rw[u.2.2.1]at f1 f2;by_cases e:a.e c d=(i,p)
    ·obtain⟨em,g1,g2⟩:=f2 e;have V:=g2.w;have XP:sm (oQ (Z c d)) em<=4:=by
      rcases g1 with g|g
      {rw[g];exact Nat.zero_le _};{rw[g];show oQ _ (mL _ _)+0<=4;have hg:=rE U hc hd;unfold oQ;split;{split<;>omega};{split<;>omega}}
     have zc:=(Qk (Z c d) (b.R i) p).1;rw[pP]at V;have h2:([(i,p)] :List (Nat×Nat)).count (a.e c d)=1:=by rw[e];simp
     rw[h2];omega
    ·have V:=(f1 e).w;have:sm (oQ (Z c d)) [] =0:=rfl;omega
   ·obtain⟨e1,e2⟩:=xF (J.emp i) p;have V:=adL Q i ((b.R i).iW p) ve;have z:∀q,sm ve (jl (((b.R i).iW p).P q))=0:=λq=>by
     by_cases e:q=p
     ·subst e;have e3:jl (((b.R i).iW q).P q)=(jd ((b.R i).P q).L).2.flatMap oo++Ay (b.R i) q:=e2;rw[e3,pP,(Qk (λ_=>false) (b.R i) q).2];have e:∀y∈(jd ((b.R i).P q).L).2.flatMap oo,ve y=0:=λy hy=>by obtain⟨s,rfl⟩:=rQ hy;exact uD s ew
      rw[sT (g:=λ_=>0) e];generalize (jd ((b.R i).P q).L).2.flatMap oo=m
      induction m with
      |nil=>rfl
      |cons x l ih=>simpa[sm]using ih
     ·rw[e1 q e];rfl
    rw[z,z,z]at V;omega
def pH(y:iM):Prop:=∀c d,c<y.nc->d<2->uZ y c d
theorem GK(hF:jA y)(h:pH y):pH y.gather:=λc d hc hd=>by
 have Y:c<y.nc:=by rw[<-(lQ y).2.1];exact hc
 obtain⟨g1,ps,V,U⟩:=BH hF c d Y hd;obtain⟨r1,qs,Q,J⟩:=h c d Y hd;exact⟨g1.trans r1,qs++ps,by rw[U,Q,bW],λp S=>(av.1 S).elim (J p) (V p)⟩
theorem Ms(h:pH y)(i:Nat)(Y:nu (y.R i) r):pH (y.jB i r):=λc d hc hd=>by
 obtain⟨r1,V⟩:=h c d hc hd;refine⟨?_,V⟩;rw[<-r1];show((jU y.R i r ((y.C c).e (1-d)).1).P ((y.C c).e (1-d)).2).rd=((y.R ((y.C c).e (1-d)).1).P ((y.C c).e (1-d)).2).rd;by_cases e:((y.C c).e (1-d)).1=i;{rw[e,iE];exact Y.rd _};{rw[iC _ _ e]}
theorem count_le(h:T.Nodup)(x:Nat×Nat):T.count x<=1:=List.nodup_iff_count.1 h x
theorem FJ(h:xR T a b)(V:T.Nodup)(S:tI a)(Q:Norm a)(E:k+1<=126)(J:qY X (λ_=>k) a)(U:∀c d,c<a.nc->d<2->sm (oQ (X c d)) (a.F c d)=0)(A:a.W ve<=1):Calm (λ_=>k+1) 34 b:=by
 obtain⟨⟨Y,H,hs⟩,u⟩:=h.light S Q (λx=>Nat.le_trans (nK V k x) E) J U;refine⟨⟨Y,H.mono (nK V k),λc hc=> ?_⟩,Nat.le_trans u A⟩;rw[h.path.same.2.1]at hc;have h1:=hs c 0 hc ew;have h2:=hs c 1 hc ew;have c1:=count_le V (a.e c 0);have c2:=count_le V (a.e c 1);unfold wc;omega
theorem Cz {y:iM} {Z N k:Nat} (hF:jA y)(Q:j3 y Z 0)(u:Z<=800000000)(V:Inv N (λ_=>k) (iI y))(hl:N+144<1000000)(S:k+1<=126)(E:pH y) {X:Marks} (A:qY X (λ_=>k) (iI y))(J:∀c d,c<y.nc->d<2->sm (oQ (X c d)) ((iI y).F c d)=0)(h:(iI y).W ve<=1):∀q,q<=y.n->xR (mP q) (iI y) (iI (y.ja q))/\pH (y.ja q)
 |0,_=>⟨xR.nil _,E⟩
 |q+1,hq=>by
  have n6:=Q.n6;obtain⟨H,r1⟩:=Cz hF Q u V hl S E A J h q dZ;have fz:=jA.ja hF q;have kz:=Q.ja u q dZ;have nz:(y.ja q).n=y.n:=(oI y q).1;obtain⟨z,hz⟩:=gg (y.ja q);rw[hz]at H r1 fz kz nz;obtain⟨t1,e1,f1⟩:=Fp fz kz dZ q dZ;have r2:=Ms r1 q (nu.ja (z.R q) (z.R q).n);have Y:=H.trans t1;rw[<-Bx]at Y;obtain⟨nd,len,_⟩:=pz (q+1);have hc:=FJ Y nd V.qQ V.nrm S A J h;have xk:=(V.path Y.path (by rw[len];omega) λx=>Nat.le_trans (nK nd k x) S).fl;have U:=hc.room f1.o r2 xk;have kd:(y.ja (q+1))=(z.jB q (z.R q).tick).gather:=by
   show((y.ja q).tick ((q:Int)+1)).1=_;rw[hz];unfold iM.tick;rw[af dZ];show(z.jB ((q:Int)+1-1).toNat (z.R ((q:Int)+1-1).toNat).tick).gather=_;rw[show((q:Int)+1-1).toNat=q by omega]
  rw[kd];exact⟨by rw[(pF f1 e1).2 U];exact Y,GK f1 r2⟩
theorem yi(hF:jA y)(H:j3 y Z 0)(hZ:Z<=900000000)(S:Inv N (λ_=>k) (iI y))(hl:N<1000000)(hk:k<=126)(J:pH y)(hc:Calm (λ_=>k) 34 (iI y))(V:c<y.nc)(hd:d<2):vL (iI y) (iI (y.deliver c d 2000).1)/\pH (y.deliver c d 2000).1:=by
 have hf:=uY hF H hZ V hd;obtain⟨E,_,p3⟩:=hf.ps;have h:=H.oJ;have f1:=hF.jq h c d ((y.C c).on d).length V hd;have rr:=hf.rv;obtain⟨s1,s2,_,_⟩:=rz y c d ((y.C c).on d).length;have U:=E.pps;have Q:=U.calm S.qQ S.nrm (λ_=>dZ) hc;have xk:DF (iI (y.jq c d ((y.C c).on d).length)):=(S.path E.path (by simpa using hl) λx=>by rw[pq];exact hk).fl;have r1:pH (y.jq c d ((y.C c).on d).length):=λx f hx Y=>by
  rw[s2]at hx;obtain⟨g1,u⟩:=rr x f hx Y;unfold uZ;rw[g1,u];by_cases e:x=c/\f=d;{rw[ai e,ai e];exact⟨rfl,[],Frames.nil⟩};{rw[af e,af e];exact J x f hx Y}
 rw[p3 (Q.room f1.o r1 xk)];refine⟨U,λx f hx Y=> ?_⟩;have A:x<y.nc:=by rw[<-(m8 y c d 2000).2.1];exact hx
 exact hf.rest A Y (.inr (J x f A Y))
theorem Inv.pps(h:Inv N (λ_=>k) a)(p:vL a b)(hl:N<1000000)(Y:k<=126):Inv N (λ_=>k) b:=by
 have:=h.path p.path (by simpa using hl) λx=>by rw[pq];exact Y
 rw[pq]at this;simpa using this
theorem Aj {y:iM} {Z N k:Nat} (hF:jA y)(S:j3 y Z 0)(J:Z<=890000000)(V:Inv N (λ_=>k) (iI y))(hl:N<1000000)(U:k<=126)(H:pH y)(hc:Calm (λ_=>k) 34 (iI y)):∀q,q<=y.nc->vL (iI y) (iI (y.jP q))/\pH (y.jP q)
 |0,_=>⟨vL.nil _,H⟩
 |q+1,hq=>by
  have c9:=S.c9;obtain⟨Q,r1⟩:=Aj hF S J V hl U H hc q dZ;have f1:=jA.jP hF S J q dZ;have k1:=S.jP J q dZ;have n1:(y.jP q).nc=y.nc:=(lR y q).2.1;obtain⟨E,u⟩:=yi f1 k1 dZ (V.pps Q hl U) hl U r1 (Q.calm V.qQ V.nrm (λ_=>dZ) hc) (c:=q) (d:=0) dZ ew;have f2:=f1.deliver k1 (q:Int) 0 2000;have k2:=k1.deliver dZ (q:Int) 0 2000;have n2:((y.jP q).deliver (q:Int) 0 2000).1.nc=y.nc:=(m8 (y.jP q) (q:Int) 0 2000).2.1.trans n1;have Y:=Q.trans E;obtain⟨A,h⟩:=yi f2 k2 dZ (V.pps Y hl U) hl U u (Y.calm V.qQ V.nrm (λ_=>dZ) hc) (c:=q) (d:=1) dZ ew;exact⟨Y.trans A,h⟩
theorem CA {y:iM} {Z N k:Nat} (hF:jA y)(Q:j3 y Z 0)(U:Z<=810000000)(Y:Inv N (λ_=>k) (iI y))(hl:N<1000000)(S:k<=126)(J:pH y)(hc:Calm (λ_=>k) 34 (iI y)):∀j,j<=12->vL (iI y) (iI (y.turns j))/\pH (y.turns j)
 |0,_=>⟨vL.nil _,J⟩
 |j+1,hj=>by
  obtain⟨V,r1⟩:=CA hF Q U Y hl S J hc j dZ;have n1:(y.turns j).nc=y.nc:=(qO y j).2.1;obtain⟨H,E⟩:=Aj (jA.turns hF Q U j dZ) (Q.turns U j dZ) dZ (Y.pps V hl S) hl S r1 (V.calm Y.qQ Y.nrm (λ_=>dZ) hc) y.nc dZ;exact⟨V.trans H,E⟩
theorem Mt(hF:jA y)(U:j3 y Z 0)(J:Z<=800000000)(Y:Inv N (λ_=>k) (iI y))(hl:N+144<1000000)(V:k+1<=126)(h:pH y)(E:qY X (λ_=>k) (iI y))(H:∀c d,c<y.nc->d<2->sm (oQ (X c d)) ((iI y).F c d)=0)(A:(iI y).W ve<=1):∃m,xR (mP y.n) (iI y) m/\vL m (iI y.round)/\Still y.round:=by
 have n6:=U.n6;obtain⟨S,r1⟩:=Cz hF U J Y hl V h E H A y.n (Nat.le_refl _);obtain⟨nd,len,_⟩:=pz y.n;have hc:=FJ S nd Y.qQ Y.nrm V E H A;have Q:Inv (N+144) (λ_=>k+1) (iI (y.ja y.n)):=(Y.path S.path (by rw[len];omega) λx=>Nat.le_trans (nK nd k x) V).mono (by rw[len];omega) (nK nd k);obtain⟨u,_⟩:=CA (hF.ja y.n) (U.ja J y.n n6) dZ Q hl V r1 hc 12 (Nat.le_refl _);exact⟨_,S,u,Cy hF U J Y hl V⟩
theorem Still.adW(h:Still y):pH y:=h.r
theorem Still.zero(h:Still y)(X:Marks):(∀c d,c<y.nc->d<2->sm (oQ (X c d)) ((iI y).F c d)=0)/\(iI y).W ve<=1:=by
 refine⟨λc d hc hd=>by rw[h.f c d hc hd];rfl,?_⟩;have e:(iI y).W ve=0:=by
  unfold AN.W;rw[sT (g:=λ_=>0) λx hx=>by
   have:=qp.1 hx;show sm ve ((iI y).F x.1 x.2)=0;rw[h.f x.1 x.2 this.1 this.2];rfl]
  generalize SL (iI y).nc=m
  induction m with
  |nil=>rfl
  |cons x l ih=>simpa[sm]using ih
 omega
theorem Ql(E:Norm a)(i p:Nat)(c d:Nat):(a.e c d≠(i,p)->j0 (a.op i ((a.R i).iW p)) c d=j0 a c d/\(a.op i ((a.R i).iW p)).F c d=a.F c d)/\(a.e c d=(i,p)->c<a.nc->d<2->j0 (a.op i ((a.R i).iW p)) c d=(jd (j0 a c d)).1/\(a.op i ((a.R i).iW p)).F c d=a.F c d++((jd (j0 a c d)).2.flatMap oo++Ay (a.R i) p)):=by
 obtain⟨U,S⟩:=xF (E.emp i) p;obtain⟨J,H⟩:=wV (a:=a) i p ((a.R i).iW p) (λq V=>⟨by rw[BF,af V],U q V⟩) c d;refine⟨J,λY hc hd=> ?_⟩;obtain⟨g1,Q⟩:=H Y hc hd;have A:j0 a c d=((a.R i).P p).L:=by unfold j0;rw[Y]
 rw[g1,Q,S,BF,ai rfl,A];exact⟨rfl,rfl⟩
inductive adX(a:AN)(c d:Nat)(x:la)(l:List la):Prop
 |other:rD x->(∀c' d',j0 (a.pop c d x l) c' d'=j0 a c' d')->(∀c' d',c'<a.nc->d'<2->∃em,(a.pop c d x l).F c' d'=(if c'=c/\d'=d then l else a.F c' d')++em/\∀y∈em,rD y)->adX a c d x l
 |link (q:kN):((∃id,0<=id/\id<=255/\x=mL (gP (a.e c d)) id/\q=(1,id,nZ (gP (a.e c d)))) \/(∃id,0<=id/\id<=255/\x=oa (gP (a.e c (1-d))) id/\q=(2,id,nZ (gP (a.e c (1-d))))))->j0 (a.pop c d x l) c (1-d)=(jK (j0 a c (1-d)) q).1->(a.pop c d x l).F c (1-d)=a.F c (1-d)++(jK (j0 a c (1-d)) q).2.1.flatMap oo->(∀c' d',c'<a.nc->d'<2->¬(c'=c/\d'=1-d)->j0 (a.pop c d x l) c' d'=j0 a c' d'/\(a.pop c d x l).F c' d'=if c'=c/\d'=d then l else a.F c' d')->adX a c d x l
theorem Iz(J:tI a)(hN:Norm a)(h:qY X t a)(hc:c<a.nc)(hd:d<2)(hF:a.F c d=x::l):adX a c d x l:=by
 have hi:=h.yX hc hd (x:=x) (by rw[hF];simp);have pr:=(h.tM hc hd hi).symm;obtain⟨r,hr⟩:=gg (a.R (a.e c (1-d)).1);obtain⟨i,Y⟩:=gg ((a.e c (1-d)).1);obtain⟨p,oS⟩:=gg ((a.e c (1-d)).2);have S:a.e c (1-d)=(i,p):=aV Y oS;have V:a.pop c d x l=(a.lv c d l).op i (jN r p x):=by unfold AN.pop;rw[hr,Y,oS]
 have U:a.R i=r:=by rw[<-Y];exact hr
 have XP:Ke r:=by rw[<-U];exact hN.emp i
 obtain⟨H,_⟩:=qq XP p x;have pA:j0 a c (1-d)=(r.P p).L:=by unfold j0;rw[S,U]
 by_cases hx:rD x
 ·have hL:∀q,((jN r p x).P q).L=(r.P q).L:=λq=>by
   cases x with
   |nil=>rfl
   |cons k s=>exact uX r p s (hx k s rfl) q
  refine .other hx (λc' d'=> ?_) λc' d' E A=> ?_
  ·rw[V,Ix];split
   ·rename_i e
    rw[hL,<-U];unfold j0;rw[show(a.e c' d').1=i from e];rfl
   ·rfl
  ·rw[V,vF,yS,Dz];by_cases e:(a.e c' d').1=i
   ·rw[ai ⟨⟨E,A⟩,e⟩];refine⟨_,rfl,λy hy=> ?_⟩;rcases(xI (H (a.e c' d').2) hx (λ_=>false) (λ_=>false)).1 with g|g
    {rw[g]at hy;simp at hy};{exact g.2 y hy}
   ·rw[af (λz=>e z.2)];exact⟨[],by rw[aB];rfl,λ_ h=>by simp at h⟩
 ·have gd:=rE J hc hd;have Q:=rE J hc (show 1-d<2 by omega);have WJ:∃q s,x=76::s/\iY s=(q.1,q.2.1,q.2.2,0)/\((∃id,0<=id/\id<=255/\x=mL (gP (a.e c d)) id/\q=(1,id,nZ (gP (a.e c d)))) \/(∃id,0<=id/\id<=255/\x=oa (gP (a.e c (1-d))) id/\q=(2,id,nZ (gP (a.e c (1-d)))))):=by
   rcases pr.g x (by rw[hF];simp)with g|⟨id,i1,i2,g⟩|⟨id,i1,i2,g⟩
   {exact absurd g hx};{exact⟨_,_,g,Ad (.inl rfl) ⟨i1,i2⟩ gd,.inl ⟨id,i1,i2,g,rfl⟩⟩};{exact⟨_,_,g,Ad (.inr rfl) ⟨i1,i2⟩ Q,.inr ⟨id,i1,i2,g,rfl⟩⟩}
  obtain⟨q,s,TH,uF,hq⟩:=WJ;obtain⟨k1,_,k3,_⟩:=z9 XP p 76 s;rw[uF]at k1 k3;have o9:=wV (a:=a.lv c d l) i p (jN r p x) λu hu=>by
   rw[TH];show((r.take p 76 s).P u).L=((a.R i).P u).L/\jl ((r.take p 76 s).P u)=[]
   rw[(tJ r p s u).1,nJ (tJ r p s u).2,k1,af (λz=>hu z.1),(k3 u).2.2,af (λz=>hu z.1),U];exact⟨rfl,rfl⟩
  have ZF:((jN r p x).P p).L=(jK (j0 a c (1-d)) q).1/\jl ((jN r p x).P p)=(jK (j0 a c (1-d)) q).2.1.flatMap oo:=by
   rw[TH,pA];show((r.take p 76 s).P p).L=_/\jl ((r.take p 76 s).P p)=_;rw[(tJ r p s p).1,nJ (tJ r p s p).2,k1,ai ⟨rfl,rfl,rfl⟩,(k3 p).2.2,ai ⟨rfl,rfl,rfl⟩];exact⟨rfl,rfl⟩
  obtain⟨z1,z2⟩:=(o9 c (1-d)).2 S hc (by show 1-d<2;omega);refine .link q hq ?_ ?_ λc' d' E A jt=> ?_;{rw[V,z1,ZF.1]};{rw[V,z2,ZF.2,sQ,af dZ]};{rw[V];exact(o9 c' d').1 λe=>jt (J.ds _ _ _ _ E A hc dZ (e.trans S.symm))}
def lb(x:la):Option Bool:=if(Cu 1 x).isSome=true then μ true else if(Cu 2 x).isSome=true then μ false else ν
def IA(l:List la):List Bool:=l.filterMap lb
theorem sU(l m:List la):IA (l++m)=IA l++IA m:=by unfold IA;rw[bG]
theorem rD.lb {x:la} (h:rD x):lb x=ν:=by unfold Rt.lb;rw[h.lk,h.lk];rfl
theorem Qm(h:∀x∈l,rD x):IA l=[] :=by
 unfold IA;rw[cV];exact λx hx=>(h x hx).lb
theorem OH {id:Int} (Y:1<=g/\g<=255)(hi:0<=id/\id<=255):lb (mL g id)=μ true/\lb (oa g id)=μ false:=by
 obtain⟨a,b,c,d⟩:=sS Y hi;unfold lb;rw[a,c,d];exact⟨rfl,rfl⟩
structure Sp where
 s0:Nat
 w0:Nat
 q0:List Bool
 s1:Nat
 w1:Nat
 q1:List Bool
def oW(s w:Nat)(b:Bool):Nat×Nat×List Bool:=
 if b=true then(if s=9 then(8,3,[true,false])else if s=7 then(9,1,[false])else(8,w,[false]))
 else if s=6 then(7,w,[])else if s=8 then(9,1,[])else(s,w,[])
def tV(s w:Nat):List (Nat×Nat×List Bool):=if s=9 then [(9,1,[])]else if w=1 then(if s=8 then [(6,3,[true]),(8,3,[true])]else [(6,3,[true])])else [(s,w-1,[])]
def Sp.S1(S:Sp):List Sp:=match S.q0 with
 |[] =>[]
 |b::r=>[⟨S.s0,S.w0,r,(oW S.s1 S.w1 b).1,(oW S.s1 S.w1 b).2.1,S.q1++(oW S.s1 S.w1 b).2.2⟩]
def Sp.FK(S:Sp):List Sp:=match S.q1 with
 |[] =>[]
 |b::r=>[⟨(oW S.s0 S.w0 b).1,(oW S.s0 S.w0 b).2.1,S.q0++(oW S.s0 S.w0 b).2.2,S.s1,S.w1,r⟩]
def vy(P:Sp->Bool):Nat->Sp->Bool
 |0,S=>S.q0.isEmpty&&S.q1.isEmpty&&P S
 |k+1,S=>if S.q0.isEmpty&&S.q1.isEmpty then P S else(S.S1++S.FK).all (vy P k)
def JX(S:Sp):Bool:=S.s0==9&&S.s1==9
def tW:Nat->Sp->Bool
 |0,S=>JX S
 |k+1,S=>JX S||(tV S.s0 S.w0).all λu=>(tV S.s1 S.w1).all λv=>vy (tW k) 12 ⟨u.1,u.2.1,u.2.2,v.1,v.2.1,v.2.2⟩
def S6:List (Nat×Nat):=[(6,1),(6,2),(6,3),(7,1),(7,2),(7,3),(8,1),(8,2),(8,3),(9,1)]
theorem adY:(S6.all λu=>S6.all λv=>tW 6 ⟨u.1,u.2,[],v.1,v.2,[]⟩)=true:=by decide+kernel
theorem S7 {P:Sp->Bool} {S:Sp} (h:vy P k S=true)(Y:S.q0=[])(V:S.q1=[]):P S=true:=by
 cases k with
 |zero=>unfold vy at h;simp only[Bool.and_eq_true]at h;exact h.2
 |succ k=>unfold vy at h;rw[Y,V]at h;exact h
theorem S8 {P:Sp->Bool} {S T:Sp} (h:vy P k S=true)(Y:T∈S.S1++S.FK):∃j,vy P j T=true:=by
 have V:(S.q0.isEmpty&&S.q1.isEmpty)=false:=by
  cases U:S.q0 with
  |cons b r=>rfl
  |nil=>
   cases Q:S.q1 with
   |cons b r=>rfl
   |nil=>
    unfold Sp.S1 Sp.FK at Y;rw[U,Q]at Y;simp at Y
 cases k with
 |zero=>unfold vy at h;rw[V]at h;simp at h
 |succ k=>
  unfold vy at h;rw[V]at h;exact⟨k,aZ.1 h T Y⟩
theorem Mu(k:Nat) {S:Sp} (h:JX S=true):tW k S=true:=by
 cases k with
 |zero=>exact h
 |succ k=>unfold tW;rw[h];rfl
def Sp.swap(S:Sp):Sp:=⟨S.s1,S.w1,S.q1,S.s0,S.w0,S.q0⟩
theorem WQ(S:Sp) {T:Sp} (h:T∈S.swap.FK):T.swap∈S.S1:=by
 unfold Sp.FK Sp.swap at h;unfold Sp.S1;cases e:S.q0 with
 |nil=>rw[e]at h;simp at h
 |cons b r=>
  rw[e]at h;simp only[List.mem_singleton]at h⊢;rw[h];rfl
structure PQ(L M:LS)(F G:List la)(S:Sp):Prop where
 s0:L.st=(S.s0:Int)
 w0:S.s0≠9->L.wt=(S.w0:Int)
 s1:M.st=(S.s1:Int)
 w1:S.s1≠9->M.wt=(S.w1:Int)
 q0:IA F=S.q0
 q1:IA G=S.q1
 i0:ids 2 G++ids 1 F=[] \/ids 2 G++ids 1 F=[L.ow]
 i1:ids 2 F++ids 1 G=[] \/ids 2 F++ids 1 G=[M.ow]
theorem PQ.symm {S:Sp} (p:PQ L M F G S):PQ M L G F S.swap:=⟨p.s1,p.w1,p.s0,p.w0,p.q1,p.q0,p.i1,p.i0⟩
theorem PQ.more {e f:List la} {S:Sp} (p:PQ L M F G S)(Y:∀x∈e,rD x)(hf:∀x∈f,rD x):PQ L M (F++e) (G++f) S:=by
 have a:∀c,ids c (F++e)=ids c F:=λc=>by rw[ku,Ae λx hx=>(Y x hx).lk c,aB]
 have b:∀c,ids c (G++f)=ids c G:=λc=>by rw[ku,Ae λx hx=>(hf x hx).lk c,aB]
 exact⟨p.s0,p.w0,p.s1,p.w1,by rw[sU,Qm Y,aB];exact p.q0,by rw[sU,Qm hf,aB];exact p.q1,by rw[a,b];exact p.i0,by rw[a,b];exact p.i1⟩
theorem PQ.skip {S:Sp} (p:PQ L M F (x::l) S)(hx:rD x):PQ L M F l S:=by
 have e:IA (x::l)=IA l:=by unfold IA;rw[bh,hx.lb]
 have i:=λc=>jR l (hx.lk c);exact⟨p.s0,p.w0,p.s1,p.w1,p.q0,by rw[<-e];exact p.q1,by rw[<-i];exact p.i0,by rw[<-i];exact p.i1⟩
theorem PQ.pop {X Y:Int->Bool} {t:Nat} {h:Int} {S:Sp} {q:kN} (J:1<=g/\g<=255)(hh:1<=h/\h<=255)(jt:h≠g)(ht:t<=255)(p:Pair X Y t g h L M F (x::l))(r:PQ L M F (x::l) S)
 (hq:(∃id,0<=id/\id<=255/\x=mL h id/\q=(1,id,nZ h)) \/(∃id,0<=id/\id<=255/\x=oa g id/\q=(2,id,nZ g))):∃T∈S.FK,PQ (jK L q).1 M (F++(jK L q).2.1.flatMap oo) l T:=by
 rcases hq with⟨id,i1,Q,rfl,rfl⟩|⟨id,i1,Q,rfl,rfl⟩
 ·have hi:0<=id/\id<=255:=⟨i1,Q⟩
  obtain⟨r1,r2,r3,r4⟩:=sS hh hi;have E:oo (2,id,nZ h)=[oa h id] :=FA (.inr rfl) hi hh;have hS:S.q1=true::IA l:=by rw[<-r.q1];unfold IA;rw[bh,(OH hh hi).1]
  have CM:S.FK=[⟨(oW S.s0 S.w0 true).1,(oW S.s0 S.w0 true).2.1,S.q0++(oW S.s0 S.w0 true).2.2,S.s1,S.w1,IA l⟩] :=by unfold Sp.FK;rw[hS]
  have Kf:=jH l r1;have Qh:=jR l r2;have H:∀em,ids 2 em=[id]->ids 2 (F++em)++ids 1 l=ids 2 F++ids 1 (mL h id::l):=λem he=>by
   rw[ku,he,Kf,aD];rfl
  have s0:=r.s0;rw[CM];refine⟨_,ar.2 rfl,?_⟩;obtain⟨li,h9|h7|U⟩:=WB J hh jt hi p.l p.lu
  ·obtain⟨s9,out,s8,u,A⟩:=h9;obtain⟨WI,adR⟩:=p.d.emp (.inr s9);have hb:=p.d.JV;have hX:Y id=false:=adR id (by rw[Kf];simp);have amg:((ids 1 (mL h id::l)).filter λi=> !Y i).length=((ids 1 l).filter λi=> !Y i).length+1:=by rw[Kf,List.filter_cons,hX];rfl
   have ho:=p.l.k.o1;have em:(L.ow+1) %256=L.ow+1:=dZ;have kT:0<=L.ow+1/\L.ow+1<=255:=dZ;obtain⟨q1,q2,q3,q4⟩:=sS J kT;rw[em]at out u;have e:(jK L (1,id,nZ h)).2.1.flatMap oo=[mL g (L.ow+1),oa h id] :=by
    rw[out];show oo _++(oo _++ [])=_;rw[FA (.inl rfl) kT J,E];rfl
   have V:oW S.s0 S.w0 true=(8,3,[true,false]):=by unfold oW;rw[ai rfl,ai dZ]
   rw[e,V];rw[Qh]at WI;have uf:=dP.1 WI;have i1:ids 1 [mL g (L.ow+1),oa h id] =[L.ow+1] :=by rw[jH _ q1,jR _ r3];rfl
   have Q:ids 2 [mL g (L.ow+1),oa h id] =[id] :=by rw[jR _ q2,jH _ r4];rfl
   refine⟨s8,λ_=>A,r.s1,r.w1,?_,rfl,.inr ?_,?_⟩;{rw[sU,r.q0];show S.q0++iB lb _=_;rw[bh,(OH J kT).1,bh,(OH hh hi).2];rfl};{rw[uf.1,ku,uf.2,i1,u];rfl};{rw[H _ Q];exact r.i1}
  ·obtain⟨s7,out,s9,u⟩:=h7;have e:(jK L (1,id,nZ h)).2.1.flatMap oo=[oa h id] :=by rw[out];show oo _++ [] =_;rw[E];rfl
   have V:oW S.s0 S.w0 true=(9,1,[false]):=by unfold oW;rw[ai rfl,af dZ,ai dZ]
   rw[e,V];have i1:ids 1 [oa h id] =[] :=by rw[jR _ r3];rfl
   have Q:ids 2 [oa h id] =[id] :=by rw[jH _ r4];rfl
   refine⟨s9,λh=>absurd rfl h,r.s1,r.w1,?_,rfl,?_,?_⟩;{rw[sU,r.q0];show S.q0++iB lb _=_;rw[bh,(OH hh hi).2];rfl};{rw[ku,i1,aB,<-Qh,u];exact r.i0};{rw[H _ Q];exact r.i1}
  ·obtain⟨s68,out,s8,u,A⟩:=U;have e:(jK L (1,id,nZ h)).2.1.flatMap oo=[oa h id] :=by rw[out];show oo _++ [] =_;rw[E];rfl
   have V:oW S.s0 S.w0 true=(8,S.w0,[false]):=by unfold oW;rw[ai rfl,af dZ,af dZ]
   rw[e,V];have i1:ids 1 [oa h id] =[] :=by rw[jR _ r3];rfl
   have Q:ids 2 [oa h id] =[id] :=by rw[jH _ r4];rfl
   refine⟨s8,λ_=>by rw[A];exact r.w0 dZ,r.s1,r.w1,?_,rfl,?_,?_⟩;{rw[sU,r.q0];show S.q0++iB lb _=_;rw[bh,(OH hh hi).2];rfl};{rw[ku,i1,aB,<-Qh,u];exact r.i0};{rw[H _ Q];exact r.i1}
 ·have hi:0<=id/\id<=255:=⟨i1,Q⟩
  obtain⟨r1,r2,r3,r4⟩:=sS J hi;have hS:S.q1=false::IA l:=by rw[<-r.q1];unfold IA;rw[bh,(OH J hi).2]
  have CM:S.FK=[⟨(oW S.s0 S.w0 false).1,(oW S.s0 S.w0 false).2.1,S.q0++(oW S.s0 S.w0 false).2.2,S.s1,S.w1,IA l⟩] :=by unfold Sp.FK;rw[hS]
  have Kf:=jR l r3;have Qh:=jH l r4;have ll:¬(L.st=7 \/L.st=9):=λh=>by
   have:=(p.d.emp h).1;rw[Qh]at this;simp at this
  have pU:id=L.ow/\ids 2 l++ids 1 F=[] :=by
   have:=r.i0;rw[Qh]at this;rcases this with z|z
   ·simp at z
   ·have z':id::(ids 2 l++ids 1 F)=[L.ow] :=z;injection z' with z1 z2
    exact⟨z1,z2⟩
  have U:L.st=6 \/L.st=8:=by have:=p.lu;have:=p.l.st;omega
  obtain⟨z1,z2⟩:=pU;subst z1;obtain⟨a1,a2,a3,a4,a5⟩:=WC J p.l U;have s0:=r.s0;rw[CM];refine⟨_,ar.2 rfl,?_⟩;rw[a2];have hF:F++List.flatMap oo [] =F:=gU;rw[hF];have vm:ids 2 F++ids 1 l=[] \/ids 2 F++ids 1 l=[M.ow] :=by rw[<-Kf];exact r.i1
  rcases U with h6|h8
  ·have V:oW S.s0 S.w0 false=(7,S.w0,[]):=by unfold oW;rw[af gU,ai dZ]
   rw[V];exact⟨by rw[a5,h6];rfl,λ_=>by rw[a4];exact r.w0 dZ,r.s1,r.w1,by rw[aB];exact r.q0,rfl,.inl z2,vm⟩
  ·have V:oW S.s0 S.w0 false=(9,1,[]):=by unfold oW;rw[af gU,af dZ,ai dZ]
   rw[V];exact⟨by rw[a5,h8];rfl,λh=>absurd rfl h,r.s1,r.w1,by rw[aB];exact r.q0,rfl,.inl z2,vm⟩
theorem adZ(U:tI a)(hN:Norm a)(h:qY X t a)(ht:∀x,t x<=127)(hc:c<a.nc)(hd:d<2)(hF:a.F c d=x::l)(Q:k<a.nc) {S:Sp} (Y:PQ (j0 a k 0) (j0 a k 1) (a.F k 0) (a.F k 1) S):∃T,(T=S \/T∈S.S1++S.FK)/\PQ (j0 (a.pop c d x l) k 0) (j0 (a.pop c d x l) k 1) ((a.pop c d x l).F k 0) ((a.pop c d x l).F k 1) T:=by
 have GH:d=0 \/d=1:=dZ;cases Iz U hN h hc hd hF with
 |other hx hL xk=>
  obtain⟨e0,a0,b0⟩:=xk k 0 Q ew;obtain⟨e1,J,b1⟩:=xk k 1 Q ew;refine⟨S,.inl rfl,?_⟩;rw[hL,hL,a0,J];by_cases e:k=c
  ·subst e;rcases GH with rfl|rfl
   {rw[ai ⟨rfl,rfl⟩,af dZ];rw[hF]at Y;exact(Y.symm.skip hx).symm.more b0 b1};{rw[af dZ,ai ⟨rfl,rfl⟩];rw[hF]at Y;exact(Y.skip hx).more b0 b1}
  ·rw[af (λz=>e z.1),af (λz=>e z.1)];exact Y.more b0 b1
 |link q hq hl hf u=>
  by_cases e:k=c
  ·subst e;have hi:=h.yX hc hd (x:=x) (by rw[hF];simp);have A:=(h.tM hc hd hi).symm;have gd:=rE U hc hd;have V:=rE U hc (show 1-d<2 by omega);have jt:=abl U hc hd (show 1-d<2 by omega) dZ;have MT:t (a.e k 0)+t (a.e k 1)<=255:=by have:=ht (a.e k 0);have:=ht (a.e k 1);omega
   obtain⟨o1,o2⟩:=u k d hc hd dZ;rw[ai ⟨rfl,rfl⟩]at o2;rw[hF]at A;rcases GH with rfl|rfl
   {rw[hF]at Y;obtain⟨T,E,H⟩:=PQ.pop V gd jt MT A Y.symm hq;refine⟨T.swap,.inr (av.2 (.inl (WQ S E))),?_⟩;have:=H.symm;rw[show(1:Nat)-0=1 from rfl]at hl hf;rw[o1,o2,hl,hf];exact this};{rw[hF]at Y;obtain⟨T,E,H⟩:=PQ.pop V gd jt MT A Y hq;refine⟨T,.inr (av.2 (.inr E)),?_⟩;rw[show(1:Nat)-1=0 from rfl]at hl hf;rw[o1,o2,hl,hf];exact H}
  ·refine⟨S,.inl rfl,?_⟩;obtain⟨J,a2⟩:=u k 0 Q ew (λz=>e z.1);obtain⟨b1,b2⟩:=u k 1 Q ew (λz=>e z.1);rw[J,a2,b1,b2,af (λz=>e z.1),af (λz=>e z.1)];exact Y
theorem vL.PQ {P:Sp->Bool} {a b:AN} (h:vL a b) {N k:Nat} (A:Inv N (λ_=>k) a)(hl:N<1000000)(hk:k<=126) {c:Nat} (hc:c<a.nc) {S:Sp} {j:Nat} (hS:PQ (j0 a c 0) (j0 a c 1) (a.F c 0) (a.F c 1) S)(u:vy P j S=true):∃T i,Rt.PQ (j0 b c 0) (j0 b c 1) (b.F c 0) (b.F c 1) T/\vy P i T=true:=by
 induction h with
 |nil=>exact⟨S,j,hS,u⟩
 |snoc c' d x l p J H E ih=>
  obtain⟨T,i,hT,hi⟩:=ih;have Y:=A.pps p hl hk;obtain⟨X,hX⟩:=Y.lk;obtain⟨U,Q,V⟩:=adZ Y.qQ Y.nrm hX (λ_=>dZ) J H E (k:=c) (by rw[p.path.same.2.1];exact hc) hT;rcases Q with rfl|Q
  {exact⟨U,i,V,hi⟩};{obtain⟨i',kT⟩:=S8 hi Q;exact⟨U,i',V,kT⟩}
theorem xR.at {T:List (Nat×Nat)} {a b:AN} (h:xR T a b)(E:T.Nodup)(H:tI a)(S:Norm a) {c d:Nat} (hc:c<a.nc)(hd:d<2):(a.e c d∉T->j0 b c d=j0 a c d/\b.F c d=a.F c d)/\(a.e c d∈T->j0 b c d=(jd (j0 a c d)).1/\∃m,b.F c d=a.F c d++((jd (j0 a c d)).2.flatMap oo++Ay m (a.e c d).2)):=by
 induction h with
 |nil=>exact⟨λ_=>⟨rfl,rfl⟩,λh=>by simp at h⟩
 | @snoc T a b i p tk hi hp ih=>
   have U:=bE.1 E;obtain⟨i1,A⟩:=ih U.1 H S hc;have Q:=tk.path.same;obtain⟨t1,t2⟩:=Ql (tk.path.norm S) i p c d;rw[Q.2.2.1]at t1 t2;refine⟨λJ=> ?_,λu=> ?_⟩;{have V:a.e c d∉T:=λz=>J (av.2 (.inl z));have Y:a.e c d≠(i,p):=λz=>J (av.2 (.inr (ar.2 z)));rw[(t1 Y).1,(t1 Y).2];exact i1 V}
   ·rcases av.1 u with g|g
    {have Y:a.e c d≠(i,p):=λz=>U.2.2 _ g _ (ar.2 rfl) z;rw[(t1 Y).1,(t1 Y).2];exact A g};{have g:=ar.1 g;have V:a.e c d∉T:=λz=>U.2.2 _ z _ (ar.2 rfl) g;obtain⟨z1,z2⟩:=t2 g (by rw[Q.2.1];exact hc) hd;obtain⟨y1,y2⟩:=i1 V;rw[z1,z2,y1,y2];exact⟨rfl,b.R i,by rw[g]⟩}
theorem JY(S:1<=g/\g<=255)(h:LI g L)(h6:6<=L.st)(hb:L.ow+1<=255):∃s w:Nat,(L.st=(s:Int)/\(s≠9->L.wt=(w:Int)))/\(s,w)∈S6/\∃u∈tV s w,(jd L).1.st=(u.1:Int)/\(u.1≠9->(jd L).1.wt=(u.2.1:Int))/\IA ((jd L).2.flatMap oo)=u.2.2/\ids 2 ((jd L).2.flatMap oo)=[] /\(ids 1 ((jd L).2.flatMap oo)=[] \/ids 1 ((jd L).2.flatMap oo)=[(jd L).1.ow]):=by
 obtain⟨o1,o2,o3,o4,o5,o6,o7,o8⟩:=(sJ _ _ _).1 h.k.ok;have ho:=h.k.o1;obtain⟨li,Y|Y⟩:=JR S h
 ·obtain⟨Y,H,V,E,U⟩:=Y;have Q:(jd L).2.flatMap oo=[] :=by rw[Y];rfl
  rw[Q];by_cases h9:L.st=9;{refine⟨9,1,⟨h9,λh=>absurd rfl h⟩,ew,(9,1,[]),ew,?_,λh=>absurd rfl h,rfl,rfl,.inl rfl⟩;rw[V,h9];rfl}
  ·have hw:=U (by have:=h.st;omega);refine⟨L.st.toNat,L.wt.toNat,⟨dZ,λ_=>dZ⟩,?_,(L.st.toNat,L.wt.toNat-1,[]),?_,by rw[V];simp only;omega,λ_=>by rw[hw.2];simp only;omega,rfl,rfl,.inl rfl⟩
   ·have:L.st=6 \/L.st=7 \/L.st=8:=by have:=h.st;omega
    have vK:L.wt=2 \/L.wt=3:=dZ;rcases this with e|e|e<;>rcases vK with f|f<;>rw[e,f] <;>decide
   ·unfold tV;rw[af dZ,af dZ];simp
 ·obtain⟨Y,H,V,E,U,A⟩:=Y;have hi:0<=L.ow+1/\L.ow+1<=255:=⟨dZ,hb⟩
  have em:(L.ow+1) %256=L.ow+1:=dZ;rw[em]at V E;have Q:(jd L).2.flatMap oo=[mL g (L.ow+1)] :=by
   rw[V];show oo _++ [] =_;rw[FA (.inl rfl) hi S];rfl
  obtain⟨q1,q2,_,_⟩:=sS S hi;have p1:IA [mL g (L.ow+1)] =[true] :=by unfold IA;rw[bh,(OH S hi).1];rfl
  have p2:ids 2 [mL g (L.ow+1)] =[] :=by rw[jR _ q2];rfl
  have p3:ids 1 [mL g (L.ow+1)] =[L.ow+1] :=by rw[jH _ q1];rfl
  rw[Q,p1,p2,p3,E];rcases A with g6|⟨g8,J⟩
  {refine⟨L.st.toNat,1,⟨dZ,λ_=>H⟩,?_,(6,3,[true]),?_,g6,λ_=>U,rfl,rfl,.inr rfl⟩;{have:L.st=6 \/L.st=7 \/L.st=8:=dZ;rcases this with e|e|e<;>rw[e] <;>decide};{have:L.st=6 \/L.st=7 \/L.st=8:=dZ;rcases this with e|e|e<;>rw[e] <;>decide}};{exact⟨8,1,⟨g8,λ_=>H⟩,ew,(8,3,[true]),ew,J,λ_=>U,rfl,rfl,.inr rfl⟩}
def Rel(L:LS)(s w:Nat):Prop:=L.st=(s:Int)/\(s≠9->L.wt=(w:Int))/\(s,w)∈S6
theorem IB(h:(9,w)∈S6):w=1:=by
 unfold S6 at h;simpa using h
theorem Rel.uniq {s s' w':Nat} (h:Rel L s w)(g:Rel L s' w'):s'=s/\w'=w:=by
 have e:s'=s:=by have:=h.1;have:=g.1;omega
 subst e;refine⟨rfl,?_⟩;by_cases Y:s'=9;{subst Y;rw[IB h.2.2,IB g.2.2]};{have:=h.2.1 Y;have:=g.2.1 Y;omega}
theorem JZ(S:1<=g/\g<=255)(h:LI g L)(U:6<=L.st)(hb:L.ow+1<=255):∃s w,Rel L s w:=by
 obtain⟨s,w,Y,V,_⟩:=JY S h U hb;exact⟨s,w,Y.1,Y.2,V⟩
def OI(a:AN)(c j:Nat):Prop:=∃s0 w0 s1 w1,Rel (j0 a c 0) s0 w0/\Rel (j0 a c 1) s1 w1/\tW j ⟨s0,w0,[],s1,w1,[]⟩=true
theorem WR(j:Nat) {s0 w0 v0 s1 w1 v1:Nat} (U:s0=9 \/w0=v0)(S:s1=9 \/w1=v1):tW j ⟨s0,w0,[],s1,w1,[]⟩=tW j ⟨s0,v0,[],s1,v1,[]⟩:=by
 have Y:tV s0 w0=tV s0 v0:=by
  rcases U with h|h
  {rw[h];rfl};{rw[h]}
 have V:tV s1 w1=tV s1 v1:=by
  rcases S with h|h
  {rw[h];rfl};{rw[h]}
 cases j with
 |zero=>rfl
 |succ k=>unfold tW;simp only[Y,V];rfl
theorem OJ {n:Nat} (hT:xR (mP n) a m)(hP:vL m b)(V:Inv N (λ_=>k) a)(hl:N+8*(mP n).length<1000000)(hk:k+1<=126)(h0:∀c d,c<a.nc->d<2->a.F c d=[])(h1:∀c d,c<a.nc->d<2->b.F c d=[])(hn:n=a.n)(hc:c<a.nc)(hi:a.iQ c=true)(hG:OI a c (j+1)):OI b c j:=by
 obtain⟨s0,w0,s1,w1,r0,r1,U⟩:=hG;obtain⟨nd,_,_⟩:=pz n;obtain⟨X,hX⟩:=V.lk;have g0:=rE V.qQ hc (show 0<2 by decide);have g1:=rE V.qQ hc (show 1<2 by decide);have p0:=hX.tM hc (show 0<2 by decide) hi;have p1:=hX.tM hc (show 1<2 by decide) hi;have bd:∀d,d<2->(j0 a c d).ow+1<=255:=λd hd=>by
  have:=(hX.tM hc hd hi).d.JV;have e:(λ_:Nat×Nat=>k) (a.e c 0)+(λ_:Nat×Nat=>k) (a.e c 1)=k+k:=rfl;omega
 obtain⟨a0,b0,ra0,in0,u,hu,us,uw,uq,ui2,ui1⟩:=JY g0 p0.l p0.lu (bd 0 ew);obtain⟨a1,b1,ra1,in1,v,hv,vs,vw,vq,vi2,vi1⟩:=JY g1 p1.l p1.lu (bd 1 ew);obtain⟨z0,z0'⟩:=r0.uniq ⟨ra0.1,ra0.2,in0⟩;obtain⟨z1,z1'⟩:=r1.uniq ⟨ra1.1,ra1.2,in1⟩;subst z0 z0' z1 z1';have rN:∀d,d<2->a.e c d∈mP n:=λd hd=>by
  obtain⟨e1,e2⟩:=V.qQ.en c d hc hd;unfold mP;refine aT.2 ⟨(a.e c d).1,aP.2 dZ,?_⟩;unfold SI;have:(a.e c d).2=0 \/(a.e c d).2=1 \/(a.e c d).2=2:=dZ;rcases this with e|e|e
  {rw[show a.e c d=((a.e c d).1,0)from aV rfl e];simp};{rw[show a.e c d=((a.e c d).1,1)from aV rfl e];simp};{rw[show a.e c d=((a.e c d).1,2)from aV rfl e];simp}
 obtain⟨m0,x0,f0⟩:=(hT.at nd V.qQ V.nrm hc (show 0<2 by decide)).2 (rN 0 ew);obtain⟨m1,x1,f1⟩:=(hT.at nd V.qQ V.nrm hc (show 1<2 by decide)).2 (rN 1 ew);rw[h0 c 0 hc ew,bU]at f0;rw[h0 c 1 hc ew,bU]at f1;have base:PQ (j0 m c 0) (j0 m c 1) ((jd (j0 a c 0)).2.flatMap oo) ((jd (j0 a c 1)).2.flatMap oo) ⟨u.1,u.2.1,u.2.2,v.1,v.2.1,v.2.2⟩:=by
  rw[m0,m1];exact⟨us,uw,vs,vw,uq,vq,by rw[vi2,bU];exact ui1,by rw[ui2,bU];exact vi1⟩
 have hm:=base.more (wW x0 (a.e c 0).2) (wW x1 (a.e c 1).2);rw[<-f0,<-f1]at hm;have nN:vy (tW j) 12 ⟨u.1,u.2.1,u.2.2,v.1,v.2.1,v.2.2⟩=true:=by
  unfold tW at U;rw[Bool.or_eq_true]at U;rcases U with U|U
  ·unfold JX at U;simp only[Bool.and_eq_true,beq_iff_eq]at U;obtain⟨y0,y1⟩:=U;subst y0 y1;have GF:u=(9,1,[]):=by simpa[tV]using hu
   have hv':v=(9,1,[]):=by simpa[tV]using hv
   rw[GF,hv'];exact Mu j rfl
  ·exact aZ.1 (aZ.1 U u hu) v hv
 have hlen:=hT.path.same;have hIm:Inv (N+8*(mP n).length) (λ_=>k+1) m:=(V.path hT.path hl λx=>Nat.le_trans (nK nd k x) hk).mono (Nat.le_refl _) (nK nd k);obtain⟨S,i,H,hSi⟩:=hP.PQ hIm hl hk (c:=c) (by rw[hlen.2.1];exact hc) hm nN;have QL:=hP.path.same;have hIb:=hIm.pps hP hl hk;have e0:S.q0=[] :=by rw[<-H.q0,h1 c 0 hc ew];rfl
 have e1:S.q1=[] :=by rw[<-H.q1,h1 c 1 hc ew];rfl
 have ahH:=S7 hSi e0 e1;obtain⟨Y,hY⟩:=hIb.lk;have uM:c<b.nc:=by rw[QL.2.1,hlen.2.1];exact hc
 have heb:b.e=a.e:=QL.2.2.1.trans hlen.2.2.1;have Q:b.iQ c=true:=by
  cases Q:b.iQ c;{have:=(hY.dn c uM Q 0 ew).2.1;have h6:=H.s0;have ip:=vL.iQ hP;have it:=xR.iQ hT;rw[ip,it,hi]at Q;exact absurd Q gU};{rfl}
 have q0:=hY.tM uM (show 0<2 by decide) Q;have q1:=hY.tM uM (show 1<2 by decide) Q;rw[heb]at q0 q1;have h:∀d,d<2->(j0 b c d).ow+1<=255:=λd hd=>by
  have:=(hY.tM uM hd Q).d.JV;have e:(λ_:Nat×Nat=>k+1) (b.e c 0)+(λ_:Nat×Nat=>k+1) (b.e c 1)=k+1+(k+1):=rfl;omega
 obtain⟨E,w0',R0⟩:=JZ g0 q0.l q0.lu (h 0 ew);obtain⟨A,w1',R1⟩:=JZ g1 q1.l q1.lu (h 1 ew);refine⟨E,w0',A,w1',R0,R1,?_⟩;have t0:S.s0=E:=by have:=H.s0;have:=R0.1;omega
 have t1:S.s1=A:=by have:=H.s1;have:=R1.1;omega
 rw[WR j (v0:=S.w0) (v1:=S.w1) (by
  by_cases J:E=9;{exact .inl J}
  ·right;have:=H.w0 (by rw[t0];exact J);have:=R0.2.1 J;omega) (by
  by_cases J:A=9;{exact .inl J}
  ·right;have:=H.w1 (by rw[t1];exact J);have:=R1.2.1 J;omega),<-t0,<-t1]
 have:S=⟨S.s0,S.w0,[],S.s1,S.w1,[]⟩:=by
  cases S;simp only at e0 e1;subst e0 e1;rfl
 rw[<-this];exact ahH
where
 vL.iQ {a b:AN} (h:vL a b):b.iQ=a.iQ:=by
  induction h with
  |nil=>rfl
  |snoc c d x l _ _ _ _ ih=>exact ih
 xR.iQ {T:List (Nat×Nat)} {a b:AN} (h:xR T a b):b.iQ=a.iQ:=by
  induction h with
  |nil=>rfl
  |snoc i p _ _ _ ih=>exact ih
def abr(a:AN):Prop:=∀c d,c<a.nc->d<2->a.iQ c=true->(j0 a c d).st=9
theorem OI.open(h:OI a c 0)(hd:d<2):(j0 a c d).st=9:=by
 obtain⟨s0,w0,s1,w1,U,r1,V⟩:=h;have Y:(s0==9&&s1==9)=true:=V;simp only[Bool.and_eq_true,beq_iff_eq]at Y;have:d=0 \/d=1:=dZ;rcases this with rfl|rfl
 {rw[U.1,Y.1];rfl};{rw[r1.1,Y.2];rfl}
theorem qY.ahI(H:Norm a)(h:qY X t a)(E:abr a)(i p:Nat):qY X t (a.op i ((a.R i).iW p))/\(∀c d,c<a.nc->d<2->j0 (a.op i ((a.R i).iW p)) c d=j0 a c d/\(a.op i ((a.R i).iW p)).F c d=a.F c d++(if a.e c d=(i,p)then Ay (a.R i) p else [])):=by
 have V:∀c d,c<a.nc->d<2->j0 (a.op i ((a.R i).iW p)) c d=j0 a c d/\(a.op i ((a.R i).iW p)).F c d=a.F c d++(if a.e c d=(i,p)then Ay (a.R i) p else []):=λc d hc hd=>by
  obtain⟨t1,t2⟩:=Ql H i p c d;by_cases e:a.e c d=(i,p)
  ·obtain⟨z1,z2⟩:=t2 e hc hd;have A:(j0 a c d).st=1 \/(j0 a c d).st=9:=by
    cases hi:a.iQ c;{exact .inl (h.dn c hc hi d hd).2.1};{exact .inr (E c d hc hd hi)}
   have u:jd (j0 a c d)=(j0 a c d,[]):=by
    have hb:(decide (4<=(j0 a c d).st)&&decide ((j0 a c d).st<=8))=false:=by
     rcases A with g|g<;>rw[g] <;>rfl
    unfold jd kj lO;rw[ai hb,ai hb,af (show¬(j0 a c d).st=3 by omega)]
   rw[z1,z2,u,ai e];exact⟨rfl,rfl⟩
  ·rw[(t1 e).1,(t1 e).2,af e,aB];exact⟨rfl,rfl⟩
 have S:∀c d,∀y∈(if a.e c d=(i,p)then Ay (a.R i) p else []),rD y:=λc d y hy=>by
  split at hy;{exact wW _ _ y hy};{simp at hy}
 refine⟨⟨λc hc hi=> ?_,λc hc hi d hd=> ?_⟩,V⟩;{obtain⟨U,Y⟩:=V c 0 hc ew;obtain⟨b1,b2⟩:=V c 1 hc ew;rw[U,Y,b1,b2];exact(((h.up c hc hi).more (S c 0)).symm.more (S c 1)).symm}
 ·obtain⟨U,Y,Q,J⟩:=h.dn c hc hi d hd;obtain⟨b1,b2⟩:=V c d hc hd;rw[b1,b2,J];refine⟨U,Y,Q,?_⟩;split
  ·rename_i e
   have pA:j0 a c d=((a.R i).P p).L:=by unfold j0;rw[e]
   unfold Ay;rw[<-pA];have hb:(decide (4<=(j0 a c d).st)&&decide ((j0 a c d).st<=8))=false:=by rw[Y];rfl
   have:(jd (j0 a c d)).1.st=1:=by
    unfold jd kj lO;rw[ai hb,af (show¬(j0 a c d).st=3 by omega)];exact Y
   rw[this,af ew];rfl
  ·rfl
structure St(D N k:Nat)(y:iM):Prop where
 ok:j3 y D 0
 g:GN y
 f:jA y
 i:Inv N (λ_=>k) (iI y)
theorem St.act {D N k:Nat} {y:iM} (h:St D N k y)(Y:D<=800000000)(V:N+144<1000000)(U:k+1<=126)(v:AV):St (D+1300000) (N+144) (k+1) (rB y v):=
 ⟨h.ok.act Y v,(h.g.act h.ok Y v).1,h.f.act h.g h.ok Y v,Inv.act h.f h.g h.ok Y h.i V U v⟩
theorem St.round {D N k:Nat} {y:iM} (h:St D N k y)(Y:D<=800000000)(hN:N+144<1000000)(V:k+1<=126):St (D+1300000) (N+144) (k+1) y.round:=by
 have n6:=h.ok.n6;obtain⟨a,b,_⟩:=pz y.n;refine⟨h.ok.round Y,h.g.round h.ok Y,h.f.round h.ok Y,?_⟩;exact(h.i.path (yV h.f h.ok Y) (by rw[b];omega) λx=>Nat.le_trans (nK a k x) V).mono (by rw[b];omega) (nK a k)
theorem St.mono {D N k D' N' k':Nat} {y:iM} (h:St D N k y)(Y:D<=D')(V:N<=N')(U:k<=k'):St D' N' k' y:=⟨h.ok.mono Y (Nat.le_refl _),h.g,h.f,h.i.mono V λ_=>U⟩
def lK(y:iM):Nat->iM
 |0=>y
 |k+1=>(lK y k).round
theorem xK(y:iM):∀k,(lK y k).n=y.n/\(lK y k).nc=y.nc/\(lK y k).ms=y.ms/\∀x,((lK y k).C x).e=(y.C x).e/\((lK y k).C x).iQ=(y.C x).iQ
 |0=>⟨rfl,rfl,rfl,λ_=>⟨rfl,rfl⟩⟩
 |k+1=>by
  obtain⟨a,b,c,d⟩:=xK y k;obtain⟨a',b',c',d'⟩:=kI (lK y k);exact⟨a'.trans a,b'.trans b,c'.trans c,λx=>⟨(d' x).1.trans (d x).1,(d' x).2.trans (d x).2⟩⟩
theorem St.light(h:St D N k y)(Y:Still y)(V:D<=800000000)(U:N+144<1000000)(Q:k+1<=126):∃m,xR (mP y.n) (iI y) m/\vL m (iI y.round)/\Still y.round:=by
 obtain⟨X,S⟩:=h.i.lk;exact Mt h.f h.ok V h.i U Q Y.adW S (Y.zero X).1 (Y.zero X).2
theorem St.pair(h:St D N k y)(Y:Still y)(J:D<=800000000)(E:N+144<1000000)(V:k+1<=126)(hc:c<y.nc)(hi:(y.C c).iQ=true)(H:OI (iI y) c (j+1)):OI (iI y.round) c j:=by
 have n6:=h.ok.n6;obtain⟨m,U,S,Q⟩:=h.light Y J E V;obtain⟨_,b,_⟩:=pz y.n;exact OJ U S h.i (by rw[b];omega) V Y.f (λc d hc hd=>Q.f c d (by rw[(kI y).2.1];exact hc) hd) rfl hc hi H
theorem St.opens {D N k:Nat} {y:iM} (h:St D N k y)(hD:D<=790000000)(hN:N+8*144<1000000)(hk:k+8<=126):∀j,j<=6->St (D+1300000*(j+1)) (N+144*(j+1)) (k+(j+1)) (lK y (j+1))/\Still (lK y (j+1))/\∀c,c<y.nc->(y.C c).iQ=true->OI (iI (lK y (j+1))) c (6-j)
 |0,_=>by
  have Y:=h.round dZ dZ dZ;have hs:=Cy h.f h.ok dZ h.i dZ dZ;refine⟨Y,hs,λc hc hi=> ?_⟩;obtain⟨X,U⟩:=Y.i.lk;have V:c<(iI y.round).nc:=by show c<y.round.nc;rw[(kI y).2.1];exact hc
  have S:(iI y.round).iQ c=true:=by show(y.round.C c).iQ=true;rw[((kI y).2.2.2 c).2];exact hi
  have Q:=U.tM V (show 0<2 by decide) S;have J:=U.tM V (show 1<2 by decide) S;have bd:∀d,d<2->(j0 (iI y.round) c d).ow+1<=255:=λd hd=>by
   have:=(U.tM V hd S).d.JV;have e:(λ_:Nat×Nat=>k+1) ((iI y.round).e c 0)+(λ_:Nat×Nat=>k+1) ((iI y.round).e c 1)=k+1+(k+1):=rfl;omega
  obtain⟨s0,w0,H⟩:=JZ (rE Y.i.qQ V ew) Q.l Q.lu (bd 0 ew);obtain⟨s1,w1,r1⟩:=JZ (rE Y.i.qQ V ew) J.l J.lu (bd 1 ew);exact⟨s0,w0,s1,w1,H,r1,aZ.1 (aZ.1 adY (s0,w0) H.2.2) (s1,w1) r1.2.2⟩
 |j+1,hj=>by
  obtain⟨Y,s1,g1⟩:=St.opens h hD hN hk j dZ;obtain⟨e1,E,_,A⟩:=xK y (j+1);have u:=Y.round dZ dZ dZ;obtain⟨m,_,_,s2⟩:=Y.light s1 dZ dZ dZ;refine⟨u.mono dZ dZ dZ,s2,λc hc hi=> ?_⟩;have:=g1 c hc hi;rw[show 6-j=(6-(j+1))+1 by omega]at this;exact Y.pair s1 dZ dZ dZ (by rw[E];exact hc) (by rw[(A c).2];exact hi) this
structure Env(N k:Nat)(a:AN):Prop where
 i:Inv N (λ_=>k) a
 o:abr a
 nl:∀c d,c<a.nc->d<2->∀x∈a.F c d,rD x
theorem Env.tick {N k:Nat} {a:AN} (h:Env N k a)(V:N<1000000) {i p:Nat} (hi:i<a.n)(S:p<3):Env (N+8) k (a.op i ((a.R i).iW p))/\∀c d,c<a.nc->d<2->j0 (a.op i ((a.R i).iW p)) c d=j0 a c d/\(a.op i ((a.R i).iW p)).F c d=a.F c d++(if a.e c d=(i,p)then Ay (a.R i) p else []):=by
 obtain⟨X,U⟩:=h.i.lk;obtain⟨B,Y⟩:=h.i.own;obtain⟨l1,l2⟩:=U.ahI h.i.nrm h.o i p;have s:=mR.tick (a:=a) i p hi S;obtain⟨C,hC⟩:=s.own h.i.qQ h.i.nrm Y V;refine⟨⟨⟨h.i.qQ.same rfl rfl rfl,s.norm h.i.nrm,⟨C,hC⟩,⟨X,l1⟩,s.abp h.i.qQ h.i.nrm Y V U h.i.fl⟩,λc d hc hd Q=> ?_,λc d hc hd x hx=> ?_⟩,l2⟩;{rw[(l2 c d hc hd).1];exact h.o c d hc hd Q}
 ·rw[(l2 c d hc hd).2]at hx;rcases av.1 hx with g|g
  {exact h.nl c d hc hd x g};{split at g;{exact wW _ _ x g};{simp at g}}
theorem Env.pop {N k:Nat} {a:AN} (h:Env N k a)(A:N<1000000)(hk:k<=126) {c d:Nat} {x:la} {l:List la} (hc:c<a.nc)(hd:d<2)(hF:a.F c d=x::l):Env N k (a.pop c d x l)/\(∀c' d',j0 (a.pop c d x l) c' d'=j0 a c' d')/\∀c' d',c'<a.nc->d'<2->∃U,(a.pop c d x l).F c' d'=(if c'=c/\d'=d then l else a.F c' d')++U:=by
 obtain⟨X,u⟩:=h.i.lk;have hx:=h.nl c d hc hd x (by rw[hF];simp);have E:=h.i.pps ((vL.nil a).snoc c d x l hc hd hF) A hk;cases Iz h.i.qQ h.i.nrm u hc hd hF with
 |link q hq _ _ _=>
  rcases hq with⟨id,_,_,e,_⟩|⟨id,_,_,e,_⟩<;>exact absurd rfl (hx _ _ e)
 |other _ Q J=>
  refine⟨⟨E,λc' d' Y V kL=> ?_,λc' d' Y V y hy=> ?_⟩,Q,λc' d' Y V=> ?_⟩;{rw[Q];exact h.o c' d' Y V kL}
  ·obtain⟨U,S,H⟩:=J c' d' Y V;rw[S]at hy;rcases av.1 hy with g|g
   {split at g;{exact h.nl c d hc hd y (by rw[hF];simp[g])};{exact h.nl c' d' Y V y g}};{exact H y g}
  ·obtain⟨U,S,_⟩:=J c' d' Y V;exact⟨U,S⟩
theorem xR.len(h:xR T a b):b.iQ=a.iQ:=by
 induction h with
 |nil=>rfl
 |snoc i p _ _ _ ih=>exact ih
theorem Ak(r:iN)(p q:Nat):((r.iW p).P q).pe=if q=p then(if(jd (r.P p).L).1.st=9 then iJ (r.P p).pe else nobody)else(r.P q).pe:=by
 have U:((jb r p).P p).L.st=(jd (r.P p).L).1.st:=by unfold jb;rw[kO,ai rfl,sP]
 have V:=λj=>(lS r p j).2;rw[k7,U];by_cases Y:(jd (r.P p).L).1.st=9;{rw[af (by rw[Y];simp),ai Y,((pG _ _).2.2.2.2 _).2.1,(kc _ _ _ _).2.2.2,V,V]};{rw[ai Y,af Y,(kc _ _ _ _).2.2.2,V]}
theorem DH {c:UInt8} (s:List UInt8)(hc:c≠76)(U:(r.P i).L.st=9)(q:Nat):((r.take i c s).P q).pe=if q=i/\c=72/\(kG s).2.2=0 then jg r.id (kG s).1 (kG s).2.1 else(r.P q).pe:=by
 rw[lJ,uA i s hc,af (by rw[U];simp)];unfold mB;split
 ·rename_i Y
  by_cases V:(kG s).2.2=0;{rw[ai V,(kc _ _ _ _).2.2.2];by_cases e:q=i;{rw[ai e,ai ⟨e,Y,V⟩]};{rw[af e,af (λz=>e z.1)]}};{rw[af V,af (λz=>V z.2.2)]}
 ·rename_i Y
  have S:¬(q=i/\c=72/\(kG s).2.2=0):=λz=>Y z.2.1;rw[af S];split;{exact(kh.state r i s q).2};{split;{unfold kC;simp only;split<;>rfl};{split;{unfold ry;split;{exact((np r _).2.2.2.2 q).2.1};{rfl}};{rfl}}}
theorem J0 {i w:Int} (hi:1<=i/\i<=6)(hw:0<=w/\w<=6):kG [jY i,jY w] =(i,w,0):=by
 have Y:=nF i dZ dZ;have V:=nF w dZ dZ;unfold kG;show(if [jY i,jY w].length=2/\um (((jY i).toNat:Nat):Int) (((jY w).toNat:Nat):Int)=true then((((jY i).toNat:Nat):Int),(((jY w).toNat:Nat):Int),0)else(0,0,4))=_;rw[Y,V,ai];refine⟨rfl,?_⟩;unfold um;simp;omega
def KG(i w:Int):la:=72::[jY i,jY w]
def isH(x:la):Prop:=∃s,x=72::s
theorem ZM(hx:x∈Ay r p)(h:isH x):x=KG r.id (iJ (r.P p).pe).who:=by
 obtain⟨s,rfl⟩:=h;unfold Ay at hx;split at hx
 ·rcases aO.1 hx with g|g
  {exact g};{split at g;{obtain⟨q,_,Y⟩:=aT.1 g;unfold DC at Y;split at Y;{have:=ar.1 Y;exact absurd (aC this).1 ew};{simp at Y}};{simp at g}}
 ·simp at hx
theorem ad0(h:xR T a b)(hT:T.Nodup)(J:Env N k a)(hl:N+8*T.length<1000000):Env (N+8*T.length) k b/\(∀c d,c<a.nc->d<2->j0 b c d=j0 a c d)/\(∀c d,c<a.nc->d<2->(a.e c d∉T->mM b c d=mM a c d/\b.F c d=a.F c d)/\(a.e c d∈T->a.iQ c=true->mM b c d=iJ (mM a c d)/\∃m:iN,m.id=((a.e c d).1:Int)+1/\(m.P (a.e c d).2).pe=mM a c d/\(m.P (a.e c d).2).L=j0 a c d/\b.F c d=a.F c d++Ay m (a.e c d).2)):=by
 induction h with
 |nil=>exact⟨J,λ_ _ _ _=>rfl,λc d _ _=>⟨λ_=>⟨rfl,rfl⟩,λh=>by simp at h⟩⟩
 | @snoc T a b i p tk hi hp ih=>
   rw[az]at hl⊢;have IV:[(i,p)].length=1:=rfl;have H:=bE.1 hT;obtain⟨A,l1,f1⟩:=ih H.1 J dZ;have Y:=tk.path.same;obtain⟨e2,l2⟩:=A.tick dZ hi hp;obtain⟨B,hB⟩:=A.i.own;refine⟨by rw[show N+8*(T.length+ [(i,p)].length)=N+8*T.length+8 by omega];exact e2,λc d hc hd=> ?_,λc d hc hd=>⟨λu=> ?_,λkL E=> ?_⟩⟩;{rw[(l2 c d (by rw[Y.2.1];exact hc) hd).1];exact l1 c d hc hd}
   ·have Q:a.e c d∉T:=λz=>u (av.2 (.inl z));have U:a.e c d≠(i,p):=λz=>u (av.2 (.inr (ar.2 z)));obtain⟨g1,V⟩:=(f1 c d hc hd).1 Q;have hF:=(l2 c d (by rw[Y.2.1];exact hc) hd).2;rw[Y.2.2.1,af U,aB]at hF;refine⟨?_,hF.trans V⟩;rw[Ai,Y.2.2.1];split
    ·rename_i e
     rw[Ak,af (λz=>U (aV e z)),<-g1];unfold mM;rw[Y.2.2.1,e]
    ·exact g1
   ·have hF:=(l2 c d (by rw[Y.2.1];exact hc) hd).2;rw[Y.2.2.1]at hF;rcases av.1 kL with g|g
    ·have U:a.e c d≠(i,p):=λz=>H.2.2 _ g _ (ar.2 rfl) z;obtain⟨g1,m,V,g3,g4,g5⟩:=(f1 c d hc hd).2 g E;rw[af U,aB]at hF;refine⟨?_,m,V,g3,g4,hF.trans g5⟩;rw[Ai,Y.2.2.1];split
     ·rename_i e
      rw[Ak,af (λz=>U (aV e z)),<-g1];unfold mM;rw[Y.2.2.1,e]
     ·exact g1
    ·have g:=ar.1 g;have Q:a.e c d∉T:=λz=>H.2.2 _ z _ (ar.2 rfl) g;obtain⟨g1,V⟩:=(f1 c d hc hd).1 Q;have pA:((b.R i).P p).L=j0 a c d:=by
      rw[<-l1 c d hc hd];unfold j0;rw[Y.2.2.1,g]
     have oS:((b.R i).P p).pe=mM a c d:=by
      rw[<-g1];unfold mM;rw[Y.2.2.1,g]
     rw[ai g,V]at hF;have S:(jd ((b.R i).P p).L).1.st=9:=by
      have S:(j0 a c d).st=9:=J.o c d hc hd E;have hb:(decide (4<=(j0 a c d).st)&&decide ((j0 a c d).st<=8))=false:=by rw[S];rfl
      rw[pA];unfold jd kj lO;rw[ai hb,af (show¬(j0 a c d).st=3 by omega)];exact S
     refine⟨?_,b.R i,?_,?_,?_,?_⟩;{rw[Ai,Y.2.2.1,g,ai rfl,Ak,ai rfl,ai S,oS]};{rw[g];exact(hB.r i hi).2.2.2.1};{rw[g];exact oS};{rw[g];exact pA};{rw[g];exact hF}
theorem WS(h:Env N k a)(hc:c<a.nc)(hd:d<2)(hF:a.F c d=x::l)(c' d':Nat)(H:c'<a.nc)(A:d'<2):(c'=c/\d'=1-d->∀s,x=72::s->(kG s).2.2=0->mM (a.pop c d x l) c' d'=jg ((a.e c (1-d)).1+1) (kG s).1 (kG s).2.1)/\(¬(c'=c/\d'=1-d/\isH x)->mM (a.pop c d x l) c' d'=mM a c' d'):=by
 obtain⟨X,S⟩:=h.i.lk;obtain⟨B,U⟩:=h.i.own;have E:=S.yX hc hd (x:=x) (by rw[hF];simp);have V:=h.i.qQ.en c (1-d) hc dZ;have pU:=(U.r _ V.1).2.2.2.1;have Y:((a.R (a.e c (1-d)).1).P (a.e c (1-d)).2).L.st=9:=h.o c (1-d) hc dZ E;unfold AN.pop;rw[Ai,yS];refine⟨λe s hs J=> ?_,λu=> ?_⟩;{rw[e.1,e.2,ai rfl,hs];show((iN.take _ _ 72 s).P _).pe=_;rw[DH s ew Y,ai ⟨rfl,rfl,J⟩,pU]}
 ·by_cases e:(a.e c' d').1=(a.e c (1-d)).1
  ·rw[ai e];cases x with
   |nil=>unfold mM;rw[e];rfl
   |cons k s=>
    show((iN.take _ _ k s).P _).pe=_;have Q:k≠76:=h.nl c d hc hd (k::s) (by rw[hF];simp) k s rfl;rw[DH s Q Y,af];{unfold mM;rw[e]};{intro g;have:=h.i.qQ.ds c' d' c (1-d) H A hc dZ (aV e g.1);exact u ⟨this.1,this.2,s,by rw[g.2.1]⟩}
  ·rw[af e];rfl
theorem CB(hT:xR (mP a.n) a m)(hP:vL m b)(V:Env N k a)(hl:N+8*(mP a.n).length<1000000)(hk:k<=126)(h0:∀c d,c<a.nc->d<2->a.F c d=[])(h1:∀c d,c<a.nc->d<2->b.F c d=[]):Env (N+8*(mP a.n).length) k b/\∀c d,c<a.nc->d<2->a.iQ c=true->mM b c d=jg ((a.e c d).1+1) ((a.e c (1-d)).1+1) (iJ (mM a c (1-d))).who:=by
 obtain⟨nd,_,_⟩:=pz a.n;obtain⟨e1,l1,f1⟩:=ad0 hT nd V hl;have hn:=hT.path.same;have hnb:=hP.path.same;have rN:∀c d,c<a.nc->d<2->a.e c d∈mP a.n:=λc d hc hd=>by
  obtain⟨e1,e2⟩:=V.i.qQ.en c d hc hd;unfold mP;refine aT.2 ⟨(a.e c d).1,aP.2 dZ,?_⟩;unfold SI;have:(a.e c d).2=0 \/(a.e c d).2=1 \/(a.e c d).2=2:=dZ;rcases this with e|e|e
  {rw[show a.e c d=((a.e c d).1,0)from aV rfl e];simp};{rw[show a.e c d=((a.e c d).1,1)from aV rfl e];simp};{rw[show a.e c d=((a.e c d).1,2)from aV rfl e];simp}
 have key:∀b',vL m b'->Env (N+8*(mP a.n).length) k b'/\∀c d,c<a.nc->d<2->a.iQ c=true->(∀x∈b'.F c (1-d),isH x->x=KG ((a.e c (1-d)).1+1) (iJ (mM a c (1-d))).who)/\((∃x∈b'.F c (1-d),isH x) \/mM b' c d=jg ((a.e c d).1+1) ((a.e c (1-d)).1+1) (iJ (mM a c (1-d))).who):=λb' A=>by
  induction A with
  |nil=>
   refine⟨e1,λc d hc hd U=> ?_⟩;obtain⟨_,x,x1,x2,x3,x4⟩:=(f1 c (1-d) hc dZ).2 (rN c (1-d) hc dZ) U;rw[h0 c (1-d) hc dZ,bU]at x4;rw[x4];refine⟨λy hy hh=> ?_,.inl ?_⟩;{rw[ZM hy hh,x1,x2]}
   ·have Q:(jd (x.P (a.e c (1-d)).2).L).1.st=9:=by
     have Q:(j0 a c (1-d)).st=9:=V.o c (1-d) hc dZ U;have hb:(decide (4<=(j0 a c (1-d)).st)&&decide ((j0 a c (1-d)).st<=8))=false:=by rw[Q];rfl
     rw[x3];unfold jd kj lO;rw[ai hb,af (show¬(j0 a c (1-d)).st=3 by omega)];exact Q
    unfold Ay;rw[ai Q];exact⟨_,List.mem_cons_self,_,rfl⟩
  |snoc c' d' x l p jX kg hF ih=>
   obtain⟨ie,ih⟩:=ih;have hs:=p.path.same;obtain⟨z1,z2,z3⟩:=ie.pop dZ hk jX kg hF;refine⟨z1,λc d hc hd U=> ?_⟩;obtain⟨i1,i2⟩:=ih c d hc hd U
   rename_i b'
   have uM:c<b'.nc:=by rw[hs.2.1,hn.2.1];exact hc
   have heb:b'.e=a.e:=hs.2.2.1.trans hn.2.2.1;obtain⟨em,g1⟩:=z3 c (1-d) uM dZ;have E:∀y∈(b'.pop c' d' x l).F c (1-d),isH y->y∈b'.F c (1-d):=λy hy hh=>by
    obtain⟨s,rfl⟩:=hh;obtain⟨m1,_⟩:=qq (ie.i.nrm.emp (b'.e c' (1-d')).1) (b'.e c' (1-d')).2 x;unfold AN.pop at hy;rw[vF]at hy;have CC:∀z,z∈(b'.lv c' d' l).F c (1-d)->z∈b'.F c (1-d):=λz J=>by
     rw[sQ]at J;split at J;{rename_i e;rw[e.1,e.2,hF];simp[J]};{exact J}
    split at hy
    ·rcases av.1 hy with u|u
     ·exact CC _ u
     ·exfalso;cases m1 ((b'.lv c' d' l).e c (1-d)).2 with
      |none h=>rw[h]at u;simp at u
      |link s' _ _ _ h=>rw[h]at u;obtain⟨v,hv⟩:=rQ u;exact absurd (aC hv).1 ew
      |heard s' _ _ _ _ _ _ _ h=>rw[h]at u;exact absurd (aC (ar.1 u)).1 ew
      |JL k1 k2 s' _ _ _ _ h=>rw[h]at u;exact absurd (aC (ar.1 u)).1 ew
    ·exact CC _ hy
   refine⟨λy hy hh=>i1 y (E y hy hh) hh,?_⟩;have MH:0<=(iJ (mM a c (1-d))).who/\(iJ (mM a c (1-d))).who<=6:=by
    obtain⟨B0,xj⟩:=V.i.own;have H:=V.i.qQ.en c (1-d) hc dZ;have iO:=(xj.r _ H.1).2.1;exact(oj.tick iO.id.1 (iO.pe (a.e c (1-d)).2 (by rw[(xj.r _ H.1).2.2.2.2];exact H.2))).who
   have S:1<=((a.e c (1-d)).1:Int)+1/\((a.e c (1-d)).1:Int)+1<=6:=by
    have:=V.i.qQ.en c (1-d) hc dZ;have:=V.i.qQ.n6;omega
   obtain⟨v1,v2⟩:=WS ie jX kg hF c d uM hd;by_cases Y:c=c'/\d=1-d'/\isH x;{right;have G0:1-d=d':=dZ;have hx:=i1 x (by rw[Y.1,G0,hF];simp) Y.2.2;rw[v1 ⟨Y.1,Y.2.1⟩ _ hx (by rw[J0 S MH]),J0 S MH,heb,<-Y.1,<-Y.2.1]}
   ·rw[v2 Y];rcases i2 with⟨y,y1,y2⟩|i2
    ·left;by_cases e:c=c'/\1-d=d'
     ·rw[e.1,e.2,hF]at y1;rcases aO.1 y1 with v|v
      {exact absurd ⟨e.1,dZ,by rw[<-v];exact y2⟩ Y};{refine⟨y,?_,y2⟩;rw[g1,ai e];simp[v]}
     ·refine⟨y,?_,y2⟩;rw[g1,af e];simp[y1]
    ·exact .inr i2
 obtain⟨k1,k2⟩:=key b hP;refine⟨k1,λc d hc hd U=> ?_⟩;rcases(k2 c d hc hd U).2 with⟨x,hx,_⟩|g
 {rw[h1 c (1-d) hc dZ]at hx;simp at hx};{exact g}
def rX(a:AN)(c d:Nat):Nat:=(a.e c d).1
structure Al(N k:Nat)(T:List (Nat×Nat))(a:AN):Prop where
 env:Env N k a
 pb:∀c d,c<a.nc->d<2->a.iQ c=true->rX a c d≠rX a c (1-d)->(mM a c d).who=(rX a c (1-d):Int)+1/\(mM a c d).both=true/\(if a.e c d∈T then 3 else 4)<=(mM a c d).left
 pn:∀c d,c<a.nc->d<2->(a.iQ c=false \/rX a c d=rX a c (1-d))->(mM a c d).who=0/\(mM a c d).both=false
 hh:∀c d,c<a.nc->d<2->a.iQ c=true->rX a c d≠rX a c (1-d)->∀x∈a.F c d,isH x->x=KG (rX a c d+1) (rX a c (1-d)+1)
 id:∀i p,i<a.n->p<3->(∀c d,c<a.nc->d<2->a.e c d≠(i,p))->((a.R i).P p).L.st=1/\((a.R i).P p).pe.who=0/\((a.R i).P p).pe.both=false
theorem J1(Y:q.who=(r.P i).pe.who)(V:q.both=(r.P i).pe.both):(r.meet i q).K=r.K/\(r.meet i q).O=r.O:=by
 unfold iN.meet;simp only;rw[ai ⟨Y,V⟩];exact⟨rfl,rfl⟩
theorem CD(h:L.st=1 \/L.st=9):jd L=(L,[]):=by
 have hb:(decide (4<=L.st)&&decide (L.st<=8))=false:=by rcases h with g|g<;>rw[g] <;>rfl
 unfold jd kj lO;rw[ai hb,ai hb,af (show¬L.st=3 by omega)]
theorem WT(h:((r.P p).L.st=9/\((iJ (r.P p).pe).who=(r.P p).pe.who/\(iJ (r.P p).pe).both=(r.P p).pe.both)) \/((r.P p).L.st=1/\(r.P p).pe.who=0/\(r.P p).pe.both=false)):(r.iW p).K=r.K/\(r.iW p).O=r.O/\(((jb r p).meet p (iJ (r.P p).pe)).O=r.O \/(r.P p).L.st=1):=by
 have J:jd (r.P p).L=((r.P p).L,[]):=CD (by rcases h with g|g;exact .inr g.1;exact .inl g.1);have H:((jb r p).P p).L.st=(r.P p).L.st:=by unfold jb;rw[kO,ai rfl,sP,J]
 have Y:=(lS r p p).2;have hK:(jb r p).K=r.K/\(jb r p).O=r.O:=⟨rfl,rfl⟩
 rw[k7,H,Y];rcases h with⟨Q,V,U⟩|⟨V,U,S⟩
 {rw[af (by rw[Q];simp)];obtain⟨t1,t2,_⟩:=pG ((jb r p).meet p (iJ (r.P p).pe)) p;obtain⟨m1,m2⟩:=J1 (r:=jb r p) (i:=p) (q:=iJ (r.P p).pe) (by rw[Y];exact V) (by rw[Y];exact U);rw[t1,t2,m1,m2];exact⟨rfl,rfl,.inl rfl⟩};{rw[ai (by rw[V];decide)];obtain⟨m1,m2⟩:=J1 (r:=jb r p) (i:=p) (q:=nobody) (by rw[Y,U];rfl) (by rw[Y,S];rfl);rw[m1,m2];exact⟨rfl,rfl,.inr V⟩}
theorem tX(Y:q.who=0)(V:q.both=false):(iJ q).who=0/\(iJ q).both=false:=by
 unfold iJ;split;{exact⟨rfl,rfl⟩};{exact⟨Y,V⟩}
theorem qZ(h:2<=q.left):(iJ q).who=q.who/\(iJ q).both=q.both/\(iJ q).left=q.left-1:=by
 unfold iJ;rw[af dZ];exact⟨rfl,rfl,rfl⟩
theorem Al.tick {N k:Nat} {T:List (Nat×Nat)} {a:AN} (h:Al N k T a)(hN:N<1000000) {i p:Nat} (hi:i<a.n)(hp:p<3)(hT:(i,p)∉T):Al (N+8) k (T++ [(i,p)]) (a.op i ((a.R i).iW p))/\(∀j,((a.op i ((a.R i).iW p)).R j).K=(a.R j).K/\((a.op i ((a.R i).iW p)).R j).O=(a.R j).O)/\∀c d,c<a.nc->d<2->∃l,(a.op i ((a.R i).iW p)).F c d=a.F c d++l/\(a.e c d≠(i,p)->l=[])/\(a.e c d=(i,p)->(a.iQ c=true->rX a c d≠rX a c (1-d)->l=KG (rX a c d+1) (rX a c (1-d)+1)::(lE ((a.R i).O p)).flatMap DC)/\((a.iQ c=false->l=[])/\(a.iQ c=true->rX a c d=rX a c (1-d)->l=[KG (rX a c d+1) 0]))):=by
 obtain⟨e1,l2⟩:=h.env.tick hN hi hp;obtain⟨X,hX⟩:=h.env.i.lk;obtain⟨B,hB⟩:=h.env.i.own;have hds:=h.env.i.qQ.ds;have ahK:(∃c d,c<a.nc/\d<2/\a.e c d=(i,p)/\((a.R i).P p).L=j0 a c d/\((a.R i).P p).pe=mM a c d) \/(∀c d,c<a.nc->d<2->a.e c d≠(i,p)):=by
  by_cases hex:∃c d,c<a.nc/\d<2/\a.e c d=(i,p)
  {obtain⟨c,d,hc,hd,U⟩:=hex;exact .inl ⟨c,d,hc,hd,U,by unfold j0;rw[U],by unfold mM;rw[U]⟩};{exact .inr λc d hc hd e=>hex ⟨c,d,hc,hd,e⟩}
 have Iw:(((a.R i).P p).L.st=9/\((iJ ((a.R i).P p).pe).who=((a.R i).P p).pe.who/\(iJ ((a.R i).P p).pe).both=((a.R i).P p).pe.both)) \/(((a.R i).P p).L.st=1/\((a.R i).P p).pe.who=0/\((a.R i).P p).pe.both=false):=by
  rcases ahK with⟨c,d,hc,hd,U,g1,g2⟩|ll
  {cases Y:a.iQ c;{have V:=h.pn c d hc hd (.inl Y);right;rw[g1,g2];exact⟨(hX.dn c hc Y d hd).2.1,V⟩};{left;rw[g1,g2];refine⟨h.env.o c d hc hd Y,?_⟩;by_cases hl:rX a c d=rX a c (1-d);{have V:=h.pn c d hc hd (.inr hl);have:=tX V.1 V.2;exact⟨by rw[this.1,V.1],by rw[this.2,V.2]⟩};{have hb:=h.pb c d hc hd Y hl;rw[U,af hT]at hb;obtain⟨q1,q2,_⟩:=qZ (q:=mM a c d) dZ;exact⟨q1,q2⟩}}};{exact .inr (h.id i p hi hp ll)}
 obtain⟨k1,k2,k3⟩:=WT Iw;have H:jd ((a.R i).P p).L=(((a.R i).P p).L,[]):=CD (by rcases Iw with g|g;exact .inr g.1;exact .inl g.1);have J:∀c d,mM (a.op i ((a.R i).iW p)) c d=if a.e c d=(i,p)then(if((a.R i).P p).L.st=9 then iJ (mM a c d)else nobody)else mM a c d:=λc d=>by
  rw[Ai];by_cases e:(a.e c d).1=i;{rw[ai e,Ak,H];by_cases S:(a.e c d).2=p;{rw[ai S,ai (aV e S)];unfold mM;rw[e,S]};{rw[af S,af (λz=>S (by rw[z]))];unfold mM;rw[e]}};{rw[af e,af (λz=>e (by rw[z]))]}
 have hKO:∀j,((a.op i ((a.R i).iW p)).R j).K=(a.R j).K/\((a.op i ((a.R i).iW p)).R j).O=(a.R j).O:=λj=>by
  rw[JW];by_cases e:j=i;{rw[ai e,e];exact⟨k1,k2⟩};{rw[af e];exact⟨rfl,rfl⟩}
 have hF:∀c d,c<a.nc->d<2->∃l,(a.op i ((a.R i).iW p)).F c d=a.F c d++l/\(a.e c d≠(i,p)->l=[])/\(a.e c d=(i,p)->(a.iQ c=true->rX a c d≠rX a c (1-d)->l=KG (rX a c d+1) (rX a c (1-d)+1)::(lE ((a.R i).O p)).flatMap DC)/\((a.iQ c=false->l=[])/\(a.iQ c=true->rX a c d=rX a c (1-d)->l=[KG (rX a c d+1) 0]))):=λc d hc hd=>by
  obtain⟨_,f2⟩:=l2 c d hc hd;refine⟨_,f2,λjt=>af jt,λU=> ?_⟩;rw[ai U];have oS:((a.R i).P p).pe=mM a c d:=by unfold mM;rw[U]
  have pU:(a.R i).id=(rX a c d:Int)+1:=by
   unfold rX;rw[U];exact(hB.r i hi).2.2.2.1
  have pA:((a.R i).P p).L=j0 a c d:=by unfold j0;rw[U]
  refine⟨λY hl=> ?_,λY=> ?_,λY hl=> ?_⟩;{have hb:=h.pb c d hc hd Y hl;rw[U,af hT]at hb;obtain⟨q1,q2,_⟩:=qZ (q:=mM a c d) dZ;have Q:=h.env.o c d hc hd Y;unfold Ay;rw[H,oS,ai (by rw[pA];exact Q),q1,q2,hb.2.1,ai rfl,hb.1,pU];rw[oS]at k3;rw[k3.resolve_right (by rw[pA,Q];decide)];rfl};{have:=(hX.dn c hc Y d hd).2.1;unfold Ay;rw[H,af (by rw[pA,this];decide)]};{have V:=h.pn c d hc hd (.inr hl);have mc:=tX V.1 V.2;have Q:=h.env.o c d hc hd Y;unfold Ay;rw[H,oS,ai (by rw[pA];exact Q),mc.1,mc.2,pU];rfl}
 refine⟨⟨e1,λc d hc hd Y hl=> ?_,λc d hc hd Ap=> ?_,λc d hc hd Y hl x hx hh=> ?_,λj q hj hq ll=> ?_⟩,hKO,hF⟩
 ·have hb:=h.pb c d hc hd Y hl;rw[J];show _=(rX a c (1-d):Int)+1/\_/\(if a.e c d∈T++ [(i,p)]then(3:Int)else 4)<=_;by_cases e:a.e c d=(i,p)
  ·rw[e,af hT]at hb;obtain⟨q1,q2,q3⟩:=qZ (q:=mM a c d) dZ;have Q:((a.R i).P p).L.st=9:=by
    have:=h.env.o c d hc hd Y;unfold j0 at this;rw[e]at this;exact this
   rw[ai e,ai Q,q1,q2,q3,e,ai gU];exact⟨hb.1,hb.2.1,dZ⟩
  ·rw[af e];refine⟨hb.1,hb.2.1,?_⟩;have sg:=hb.2.2;by_cases A:a.e c d∈T;{rw[ai A]at sg;rw[ai (by simp[A])];exact sg};{rw[af A]at sg;rw[af (by simp[A,e])];exact sg}
 ·have V:=h.pn c d hc hd Ap;rw[J];split;{split;{exact tX V.1 V.2};{exact⟨rfl,rfl⟩}};{exact V}
 ·obtain⟨l,f1,f2,f3⟩:=hF c d hc hd;rw[f1]at hx;rcases av.1 hx with g|g
  ·exact h.hh c d hc hd Y hl x g hh
  ·by_cases e:a.e c d=(i,p)
   ·rw[(f3 e).1 Y hl]at g;rcases aO.1 g with u|u
    {exact u};{obtain⟨q,_,E⟩:=aT.1 u;obtain⟨s,rfl⟩:=hh;unfold DC at E;split at E;{exact absurd (aC (ar.1 E)).1 ew};{simp at E}}
   ·rw[f2 e]at g;simp at g
 ·obtain⟨z1,z2,z3⟩:=h.id j q hj hq ll;rw[JW];by_cases e:j=i;{rw[ai e];show(((a.R i).iW p).P q).L.st=1/\(((a.R i).iW p).P q).pe.who=0/\(((a.R i).iW p).P q).pe.both=false;rw[BF,Ak,H];subst e;by_cases S:q=p;{subst S;rw[ai rfl,ai rfl,af (by rw[z1];decide)];exact⟨z1,rfl,rfl⟩};{rw[af S,af S];exact⟨z1,z2,z3⟩}};{rw[af e];exact⟨z1,z2,z3⟩}
theorem Al.tks(U:xR T a b)(h:Al N k [] a)(hT:T.Nodup)(hl:N+8*T.length<1000000):Al (N+8*T.length) k T b/\(∀j,(b.R j).K=(a.R j).K/\(b.R j).O=(a.R j).O)/\∀c d,c<a.nc->d<2->∃l,b.F c d=a.F c d++l/\(a.e c d∉T->l=[])/\(a.e c d∈T->(a.iQ c=true->rX a c d≠rX a c (1-d)->l=KG (rX a c d+1) (rX a c (1-d)+1)::(lE ((a.R (a.e c d).1).O (a.e c d).2)).flatMap DC)/\((a.iQ c=false->l=[])/\(a.iQ c=true->rX a c d=rX a c (1-d)->l=[KG (rX a c d+1) 0]))):=by
 induction U with
 |nil=>exact⟨h,λ_=>⟨rfl,rfl⟩,λc d _ _=>⟨[],gU,λ_=>rfl,λh=>by simp at h⟩⟩
 | @snoc T a b i p U hi hp ih=>
   rw[az]at hl⊢;have IV:[(i,p)].length=1:=rfl;have E:=bE.1 hT;have V:(i,p)∉T:=λz=>E.2.2 _ z _ (ar.2 rfl) rfl;obtain⟨s1,k1,f1⟩:=ih h E.1 dZ;have Q:=U.path.same;have kL:=U.len;obtain⟨s2,k2,f2⟩:=s1.tick dZ hi hp V;have A:∀c d,rX b c d=rX a c d:=λc d=>by unfold rX;rw[Q.2.2.1]
   refine⟨by rw[show N+8*(T.length+ [(i,p)].length)=N+8*T.length+8 by omega];exact s2,λj=>⟨(k2 j).1.trans (k1 j).1,(k2 j).2.trans (k1 j).2⟩,λc d hc hd=> ?_⟩;obtain⟨l1,S,u,a3⟩:=f1 c d hc hd;obtain⟨l2,b1,b2,b3⟩:=f2 c d (by rw[Q.2.1];exact hc) hd;rw[Q.2.2.1]at b2 b3;rw[A,A,kL]at b3;by_cases Y:a.e c d∈T;{have jt:a.e c d≠(i,p):=λz=>V (z▸Y);have J:=b2 jt;rw[J,aB]at b1;exact⟨l1,b1.trans S,λz=>absurd (av.2 (.inl Y)) z,λ_=>a3 Y⟩}
   ·have J:=u Y;rw[J,aB]at S;refine⟨l2,by rw[b1,S],λz=>b2 λw=>z (av.2 (.inr (ar.2 w))),λz=> ?_⟩
    ·have H:a.e c d=(i,p):=by
      rcases av.1 z with w|w
      {exact absurd w Y};{exact ar.1 w}
     have:=b3 H;rw[(k1 i).2]at this;rw[H];exact this
def knM(r:iN)(i:Nat):la->Int->Option PS
 |83::s=>(jj r i s).K
 |_=>r.K
def owM(r:iN)(i:Nat):la->Nat->Int->Option PS
 |83::s=>(jj r i s).O
 |65::s=>(kC r i s).O
 |_=>r.O
theorem IC(r:iN)(i:Nat) {c:UInt8} (s:List UInt8)(h:c≠83):knM r i (c::s)=r.K:=by
 unfold knM;split;{rename_i e;exact absurd (aC e).1 h};{rfl}
theorem IE(r:iN)(i:Nat) {c:UInt8} (s:List UInt8)(h:c≠83)(g:c≠65):owM r i (c::s)=r.O:=by
 unfold owM;split;{rename_i e;exact absurd (aC e).1 h};{rename_i e;exact absurd (aC e).1 g};{rfl}
theorem ZN(hx:rD x)(J:(r.P i).L.st=9)(H:∀s,x=72::s->(kG s).2.2=0->(jg r.id (kG s).1 (kG s).2.1).who=(r.P i).pe.who/\(jg r.id (kG s).1 (kG s).2.1).both=(r.P i).pe.both):(jN r i x).K=knM r i x/\(jN r i x).O=owM r i x:=by
 cases x with
 |nil=>exact⟨rfl,rfl⟩
 |cons c s=>
  have hc:c≠76:=hx c s rfl;have e:jN r i (c::s)=mB r i c s:=by
   show r.take i c s=_;rw[lJ,uA i s hc,af (by rw[J];simp)]
  rw[e];unfold mB;by_cases U:c=72;{rw[ai U];subst U;by_cases S:(kG s).2.2=0;{rw[ai S];obtain⟨g1,Q⟩:=H s rfl S;obtain⟨m1,m2⟩:=J1 (r:=r) (i:=i) g1 Q;exact⟨m1,m2⟩};{rw[af S];exact⟨rfl,rfl⟩}};{rw[af U];by_cases Y:c=83;{rw[ai Y];subst Y;exact⟨rfl,rfl⟩};{rw[af Y];rw[IC r i s Y];by_cases V:c=65;{rw[ai V];subst V;refine⟨?_,rfl⟩;unfold kC;simp only;split<;>rfl};{rw[af V,IE r i s Y V];split;{unfold ry;split;{exact⟨(np r _).1,(np r _).2.1⟩};{exact⟨rfl,rfl⟩}};{exact⟨rfl,rfl⟩}}}}
theorem Al.pop {N k:Nat} {T:List (Nat×Nat)} {a:AN} (h:Al N k T a)(hN:N<1000000)(hk:k<=126)(hT:∀c d,c<a.nc->d<2->a.e c d∈T) {c d:Nat} {x:la} {l:List la} (hc:c<a.nc)(hd:d<2)(hF:a.F c d=x::l):Al N k T (a.pop c d x l)/\(∀j,j≠rX a c (1-d)->((a.pop c d x l).R j).K=(a.R j).K/\((a.pop c d x l).R j).O=(a.R j).O)/\
 ((a.pop c d x l).R (rX a c (1-d))).K=knM (a.R (rX a c (1-d))) (a.e c (1-d)).2 x/\
 ((a.pop c d x l).R (rX a c (1-d))).O=owM (a.R (rX a c (1-d))) (a.e c (1-d)).2 x:=by
 obtain⟨X,hX⟩:=h.env.i.lk;obtain⟨B,hB⟩:=h.env.i.own;have A:x∈a.F c d:=by rw[hF];simp
 have kL:=hX.yX hc hd A;have E:=h.env.nl c d hc hd x A;have Ar:=h.env.i.qQ.en c (1-d) hc dZ;have hn6:=h.env.i.qQ.n6;have pU:=(hB.r _ Ar.1).2.2.2.1;have h9:((a.R (rX a c (1-d))).P (a.e c (1-d)).2).L.st=9:=h.env.o c (1-d) hc dZ kL;have amw:((a.R (rX a c (1-d))).P (a.e c (1-d)).2).pe=mM a c (1-d):=rfl;have S:1-(1-d)=d:=dZ;have J:∀s,x=72::s->(kG s).2.2=0->(jg ((rX a c (1-d):Int)+1) (kG s).1 (kG s).2.1).who=(mM a c (1-d)).who/\(jg ((rX a c (1-d):Int)+1) (kG s).1 (kG s).2.1).both=(mM a c (1-d)).both/\(rX a c d≠rX a c (1-d)->(jg ((rX a c (1-d):Int)+1) (kG s).1 (kG s).2.1).left=4):=λs hs Y=>by
  have AL:=((h.env.i.fl.kn c d hc hd x A).1).2 s hs Y;have amx:(a.R (a.e c d).1).id=(rX a c d:Int)+1:=(hB.r _ (h.env.i.qQ.en c d hc hd).1).2.2.2.1;by_cases hl:rX a c d=rX a c (1-d);{have mc:=h.pn c (1-d) hc dZ (.inr (by rw[S];exact hl.symm));unfold jg;rw[ai (by rw[AL,amx,hl])];exact⟨mc.1.symm,mc.2.symm,λz=>absurd hl z⟩}
  ·have hb:=h.pb c (1-d) hc dZ kL (by rw[S];exact λz=>hl z.symm);rw[S]at hb;have Wo:=h.hh c d hc hd kL hl x A ⟨s,hs⟩;have TC:s=[jY ((rX a c d:Int)+1),jY ((rX a c (1-d):Int)+1)] :=by
    rw[hs]at Wo;exact(aC Wo).2
   have hr:kG s=((rX a c d:Int)+1,(rX a c (1-d):Int)+1,0):=by
    rw[TC];refine J0 ?_ ?_;{have:=h.env.i.qQ.en c d hc hd;unfold rX;omega};{unfold rX;omega}
   unfold jg;rw[hr];simp only;rw[af dZ];refine⟨hb.1.symm,?_,λ_=>rfl⟩;rw[hb.2.1];simp
 have hK:=ZN (r:=a.R (rX a c (1-d))) (i:=(a.e c (1-d)).2) E h9 λs hs Y=>by
  rw[amw,show(a.R (rX a c (1-d))).id=(rX a c (1-d):Int)+1 from pU];exact⟨(J s hs Y).1,(J s hs Y).2.1⟩
 obtain⟨z1,z2,z3⟩:=h.env.pop hN hk hc hd hF;have oS:=λc' d' V U=>WS h.env hc hd hF c' d' V U;have hR:∀j,(a.pop c d x l).R j=if j=rX a c (1-d)then(jN (a.R (rX a c (1-d))) (a.e c (1-d)).2 x).core else a.R j:=λj=>rfl
 have H:∀c' d',c'<a.nc->d'<2->(mM (a.pop c d x l) c' d').who=(mM a c' d').who/\(mM (a.pop c d x l) c' d').both=(mM a c' d').both/\(a.iQ c'=true->rX a c' d'≠rX a c' (1-d')->(mM a c' d').left<=(mM (a.pop c d x l) c' d').left \/(mM (a.pop c d x l) c' d').left=4):=λc' d' V U=>by
  obtain⟨v1,v2⟩:=oS c' d' V U;by_cases Q:c'=c/\d'=1-d/\isH x
  ·obtain⟨s,hs⟩:=Q.2.2;by_cases Y:(kG s).2.2=0;{rw[v1 ⟨Q.1,Q.2.1⟩ s hs Y,Q.1,Q.2.1];have:=J s hs Y;exact⟨this.1,this.2.1,λ_ hl=>.inr (this.2.2 (by rw[S]at hl;exact λz=>hl z.symm))⟩}
   ·
    have:mM (a.pop c d x l) c' d'=mM a c' d':=by
     unfold AN.pop;rw[Ai,yS];split
     ·rename_i e
      rw[hs];show((iN.take _ _ 72 s).P _).pe=_;rw[DH (r:=a.R (a.e c (1-d)).1) s ew h9,af (λw=>Y w.2.2)];unfold mM;rw[e]
     ·rfl
    rw[this];exact⟨rfl,rfl,λ_ _=>.inl (Int.le_refl _)⟩
  ·rw[v2 Q];exact⟨rfl,rfl,λ_ _=>.inl (Int.le_refl _)⟩
 refine⟨⟨z1,λc' d' V U kT XQ=> ?_,λc' d' V U Ap=> ?_,λc' d' V U kT XQ y hy hh=> ?_,λj q hj Q ll=> ?_⟩,λj hj=>by rw[hR,af hj];exact⟨rfl,rfl⟩,?_,?_⟩;{have hb:=h.pb c' d' V U kT XQ;obtain⟨g1,g2,g3⟩:=H c' d' V U;rw[g1,g2];refine⟨hb.1,hb.2.1,?_⟩;show(if a.e c' d'∈T then(3:Int)else 4)<=_;have sg:=hb.2.2;rw[ai (hT c' d' V U)]at sg⊢;rcases g3 kT XQ with g|g<;>omega};{obtain⟨g1,g2,_⟩:=H c' d' V U;rw[g1,g2];exact h.pn c' d' V U Ap}
 ·
  obtain⟨m1,_⟩:=qq (h.env.i.nrm.emp (a.e c (1-d)).1) (a.e c (1-d)).2 x;have CC:∀z,z∈(a.lv c d l).F c' d'->z∈a.F c' d':=λz Y=>by
   rw[sQ]at Y;split at Y;{rename_i e;rw[e.1,e.2,hF];simp[Y]};{exact Y}
  refine h.hh c' d' V U kT XQ y ?_ hh;unfold AN.pop at hy;rw[vF]at hy;split at hy
  ·rcases av.1 hy with u|u
   ·exact CC _ u
   ·exfalso;obtain⟨w,rfl⟩:=hh;cases m1 ((a.lv c d l).e c' d').2 with
    |none h=>rw[h]at u;simp at u
    |link s' _ _ _ h=>rw[h]at u;obtain⟨v,hv⟩:=rQ u;exact absurd (aC hv).1 ew
    |heard s' _ _ _ _ _ _ _ h=>rw[h]at u;exact absurd (aC (ar.1 u)).1 ew
    |JL k1 k2 s' _ _ _ _ h=>rw[h]at u;exact absurd (aC (ar.1 u)).1 ew
  ·exact CC _ hy
 ·obtain⟨w1,w2,w3⟩:=h.id j q hj Q ll;rw[hR];by_cases e:j=rX a c (1-d)
  ·rw[ai e];have amy:q≠(a.e c (1-d)).2:=λz=>ll c (1-d) hc dZ (aV e.symm z.symm);subst e;show((jN _ _ x).P q).L.st=1/\((jN _ _ x).P q).pe.who=0/\((jN _ _ x).P q).pe.both=false;cases x with
   |nil=>exact⟨w1,w2,w3⟩
   |cons u s=>
    show((iN.take _ _ u s).P q).L.st=1/\((iN.take _ _ u s).P q).pe.who=0/\((iN.take _ _ u s).P q).pe.both=false;have hu:=E u s rfl;rw[uX _ _ s hu,DH s hu h9,af (λw=>amy w.1)];exact⟨w1,w2,w3⟩
  ·rw[af e];exact⟨w1,w2,w3⟩
 {rw[hR,ai rfl];exact hK.1};{rw[hR,ai rfl];exact hK.2}
