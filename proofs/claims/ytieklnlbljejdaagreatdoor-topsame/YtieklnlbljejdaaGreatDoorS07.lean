import Derived.Test.YtieklnlbljejdaaGreatDoorS06
open Option renaming none → ν, some → μ
open List renaming mem_filter → iu, append_nil → ij, range → ft, mem_cons → iz, not_mem_nil → iA, length_cons → eW, mem_singleton → iC, range_succ → iD, map_cons → eQ, sum_cons → iE
open Prod renaming fst → iw, snd → iy
namespace Go.Proofs.YtieklnlbljejdaaGreatDoor
open Go.RowKit St
namespace Rt
variable {B C D N c d i k p:Nat} {L s:LS} {S:List (Int×List UInt8)} {T U:List (Nat×Nat)} {code g g' id x:Int} {l:List UInt8} {ps:List (List UInt8)} {up:Bool} {y y':ja} {α:Type}
structure GN(y:ja):Prop where
 ends:∀c d,c<y.nc->d<2->pN (y.C c).jc ((y.R ((y.C c).e d).1).P ((y.C c).e d).2)
 off:∀c d,c<y.nc->d<2->(y.C c).jc=false->(y.C c).on d=[]
structure Ends(y:ja):Prop where
 ds:∀c d c' d',c<y.nc->d<2->c'<y.nc->d'<2->(y.C c).e d=(y.C c').e d'->c=c'/\d=d'
 p3:∀c d,c<y.nc->d<2->((y.C c).e d).2<3
 rn:∀i,(y.R i).n=3 \/y.n<=i
 en:∀c d,c<y.nc->d<2->((y.C c).e d).1<y.n
theorem ki.oY(h:ki y D k):Ends y:=⟨h.ds,λc d hc hd=>(h.en c d hc hd).2,λi=>by
 by_cases e:i<y.n;{exact .inl (h.rn i e).1}
 ·exact .inr eB,λc d hc hd=>(h.en c d hc hd).1⟩
theorem GN.alike(h:GN y)(Y:y'.nc=y.nc)(hC:∀c,c<y.nc->(y'.C c).e=(y.C c).e/\(y'.C c).jc=(y.C c).jc/\((y.C c).jc=false->∀d,d<2->(y'.C c).on d=[]))
 (Z:∀i p,kG (y.R i) (y'.R i) p):GN y':=by
 refine⟨λc d hc hd=> ?_,λc d hc hd hf=> ?_⟩;{rw[Y]at hc;rw[(hC c hc).1,(hC c hc).2.1];exact(h.ends c d hc hd).congr (Z _ _).1 (Z _ _).2};{rw[Y]at hc;rw[(hC c hc).2.1]at hf;exact(hC c hc).2.2 hf d hd}
theorem IG(h:GN y)(c d:Nat)(hc:c<y.nc):GN (y.lz c d):=by
 obtain⟨s1,X,s3,s4,Y⟩:=nt y c d;refine h.alike X (λx hx=>⟨(Y x).1,(Y x).2,λhf e Z=> ?_⟩) (λi p=> ?_)
 ·show(if x=c then(y.C c).put d _ else y.C x).on e=[]
  by_cases ex:x=c;{rw[ai ex];subst ex;unfold qX.put;rw[af (by simp[hf])];exact h.off x e hx Z hf};{rw[af ex];exact h.off x e hx Z hf}
 ·unfold kG;rw[BM];split<;>exact⟨rfl,rfl⟩
theorem II {y:ja} (h:GN y):∀k,k<=y.nc->GN (y.kh k)
 |0,_=>h
 |k+1,hk=>by
  have Y:=II h k eB;have Z:(y.kh k).nc=y.nc:=(kj y k).2.1;exact IG (IG Y k 0 (by rw[Z];omega)) k 1 (by show k<(y.kh k).nc;rw[Z];omega)
theorem GN.gather {y:ja} (h:GN y):GN y.gather:=by
 unfold ja.gather;have Y:=II h y.nc (Nat.le_refl _);obtain⟨e1,X,e3,Z⟩:=oy (y.kh y.nc) y.n;refine Y.alike X (λc hc=>⟨by rw[Z],by rw[Z],λhf d hd=>by rw[Z];exact Y.off c d hc hd hf⟩) (λi p=> ?_);rw[(xj (y.kh y.nc) i y.n).1];split<;>exact⟨rfl,rfl⟩
theorem GN.jO {y:ja} (h:GN y)(i:Nat)(r:iW)(Z:∀c d,c<y.nc->d<2->((y.C c).e d).1=i->pN (y.C c).jc ((y.R i).P ((y.C c).e d).2)->pN (y.C c).jc (r.P ((y.C c).e d).2)):GN (y.jO i r):=by
 refine⟨λc d hc hd=> ?_,h.off⟩;show pN (y.C c).jc ((j6 y.R i r ((y.C c).e d).1).P ((y.C c).e d).2);by_cases e:((y.C c).e d).1=i;{rw[e,iQ];exact Z c d hc hd e (by have:=h.ends c d hc hd;rw[e]at this;exact this)};{rw[iI _ _ e];exact h.ends c d hc hd}
theorem GN.jo(h:GN y)(X:Ends y)(pS:∀i p,i<y.n->p<3->(∀c d,c<y.nc->d<2->(y.C c).e d≠(i,p))->Idle ((y.R i).P p))(i:Nat)(hi:i<y.n):GN (y.jO i (y.R i).tick):=by
 classical
 have wj:(y.R i).n=3:=(X.rn i).resolve_right eB;obtain⟨U,G⟩:∃U:Nat->Bool,∀c d,c<y.nc->d<2->((y.C c).e d).1=i->U ((y.C c).e d).2=(y.C c).jc:=by
  refine⟨λp=>if h:∃c d,c<y.nc/\d<2/\(y.C c).e d=(i,p)then(y.C h.choose).jc else false,λc d hc hd Z=> ?_⟩;have hex:∃c' d',c'<y.nc/\d'<2/\(y.C c').e d'=(i,((y.C c).e d).2):=⟨c,d,hc,hd,by rw[<-Z]⟩
  show(if h:∃c' d',c'<y.nc/\d'<2/\(y.C c').e d'=(i,((y.C c).e d).2)then(y.C h.choose).jc else false)=_;rw[dif_pos hex];obtain⟨d',j9,kF,u⟩:=hex.choose_spec;have:=(X.ds _ _ _ _ j9 kF hc hd (u.trans (by rw[<-Z]))).1;rw[this]
 have j:∀p,p<3->pN (U p) ((y.R i).P p) \/ ∀c d,c<y.nc->d<2->(y.C c).e d≠(i,p):=λp _=>by
  by_cases hex:∃c d,c<y.nc/\d<2/\(y.C c).e d=(i,p)
  {obtain⟨c,d,hc,hd,Z⟩:=hex;refine .inl ?_;have Y:=h.ends c d hc hd;have J:=G c d hc hd (by rw[Z]);rw[Z]at Y J;rw[J];exact Y};{exact .inr λc d hc hd Z=>hex ⟨c,d,hc,hd,Z⟩}
 obtain⟨V,E⟩:∃V:Nat->Bool,V=λp=>if h:∃c d,c<y.nc/\d<2/\(y.C c).e d=(i,p)then U p else false:=⟨_,rfl⟩
 have Q:∀p,p<3->pN (V p) ((y.R i).P p):=λp A=>by
  rw[E];show pN (if h:∃c d,c<y.nc/\d<2/\(y.C c).e d=(i,p)then U p else false) _;by_cases hex:∃c d,c<y.nc/\d<2/\(y.C c).e d=(i,p)
  {rw[dif_pos hex];refine(j p A).resolve_right (λhn=> ?_);obtain⟨c,d,hc,hd,Z⟩:=hex;exact hn c d hc hd Z};{rw[dif_neg hex];have H:=pS i p hi A (λc d hc hd Z=>hex ⟨c,d,hc,hd,Z⟩);exact⟨by simpa using H.st,λe=>absurd (by rw[H.pe];rfl) e⟩}
 have ht:=(FF (r:=y.R i) (U:=V) 3 Q).1;refine h.jO i _ (λc d hc hd Z _=> ?_);have M:=X.p3 c d hc hd;have Y:=ht ((y.C c).e d).2 M;have hex:∃c' d',c'<y.nc/\d'<2/\(y.C c').e d'=(i,((y.C c).e d).2):=⟨c,d,hc,hd,by rw[<-Z]⟩
 have hv:V ((y.C c).e d).2=(y.C c).jc:=by
  rw[E];show(if h:∃c' d',c'<y.nc/\d'<2/\(y.C c').e d'=(i,((y.C c).e d).2)then U ((y.C c).e d).2 else false)=_;rw[dif_pos hex];exact G c d hc hd Z
 rw[hv]at Y;show pN _ (((y.R i).jn (y.R i).n).P _);rw[wj];exact Y
theorem GN.jE {y:ja} (h:GN y)(G:Ends y)(c d k:Nat)(hc:c<y.nc)(hd:d<2):GN (y.jE c d k):=by
 have H:GN (y.lP c {y.C c with on:=j6 (y.C c).on d (((y.C c).on d).drop k)}):=by
  refine h.alike rfl (λx hx=> ?_) (λi p=>kG.refl _ _);show(if x=c then _ else y.C x).e=_/\(if x=c then _ else y.C x).jc=_/\(_->∀d',d'<2->(if x=c then _ else y.C x).on d'=[])
  by_cases e:x=c
  ·rw[ai e];subst e;refine⟨rfl,rfl,λhf d' Z=> ?_⟩;show j6 (y.C x).on d _ d'=[]
   by_cases Q:d'=d;{subst Q;rw[iQ,h.off x d' hx Z hf];simp};{rw[iI _ _ Q];exact h.off x d' hx Z hf}
  ·rw[af e];exact⟨rfl,rfl,λhf d' Z=>h.off x d' hx Z hf⟩
 have M:∀x,((y.lP c {y.C c with on:=j6 (y.C c).on d (((y.C c).on d).drop k)}).C x).e=(y.C x).e/\((y.lP c {y.C c with on:=j6 (y.C c).on d (((y.C c).on d).drop k)}).C x).jc=(y.C x).jc:=λx=>by
  show(if x=c then _ else y.C x).e=_/\(if x=c then _ else y.C x).jc=_;by_cases e:x=c;{rw[ai e];subst e;exact⟨rfl,rfl⟩};{rw[af e];exact⟨rfl,rfl⟩}
 refine H.jO _ _ (λx d' hx Z J V=> ?_);rw[(M x).1]at J V⊢;rw[(M x).2]at V⊢;have A:x<y.nc:=hx;have Y:pN (y.C x).jc ((y.R ((y.C c).e (1-d)).1).P ((y.C x).e d').2):=V;by_cases X:(y.C c).jc=true
 ·have E:OY ((y.R ((y.C c).e (1-d)).1).P ((y.C c).e (1-d)).2):=by
   have:=h.ends c (1-d) hc eB;rw[X]at this;exact pN.up.1 this
  obtain⟨a,b⟩:=S0 ((y.C c).e (1-d)).2 (((y.C c).on d).take k) E;by_cases e:((y.C x).e d').2=((y.C c).e (1-d)).2;{have:=(G.ds x d' c (1-d) A Z hc eB (by rw[cR];exact⟨J,e⟩)).1;rw[e,this,X];exact pN.up.2 a};{exact Y.congr (b _ e).1 (b _ e).2}
 ·have hf:(y.C c).jc=false:=by simpa using X
  rw[h.off c d hc hd hf];have:=WQ (y.R ((y.C c).e (1-d)).1) ((y.C c).e (1-d)).2 ((y.C x).e d').2;rw[List.take_nil];exact Y.congr this.1 this.2
theorem GN.kd {y:ja} (h:GN y)(hE:Ends y)(c:Nat)(up:Bool)(hc:c<y.nc)(hu:(y.C c).jc= !up):GN (y.kd c up):=by
 obtain⟨Z,J⟩:=fq ((y.C c).e 0);obtain⟨Y,A⟩:=fq ((y.C c).e 1);have jx:Z≠Y:=λe=>by
  have:=(hE.ds c 0 c 1 hc eB hc eB (by rw[J,A,e])).2;omega
 have h0:=h.ends c 0 hc eB;have h1:=h.ends c 1 hc eB;rw[J,hu]at h0;rw[A,hu]at h1;obtain⟨j,_,b0⟩:=xV Z.2 h0;obtain⟨X,u⟩:∃X:qX,X={y.C c with jc:=up,on:=λ_=>[] }:=⟨_,rfl⟩
 have M:X.e=(y.C c).e:=by rw[u]
 have cbi:X.jc=up:=by rw[u]
 have cbo:∀d,X.on d=[] :=λd=>by rw[u]
 have hf:∀(z:ja) (d:Nat) (e:Nat×Nat),(z.C c).e d=e->z.np c d up=z.jO e.1 ((z.R e.1).iZ e.2 up).1:=by
  intro z d e he;unfold ja.np;rw[he]
 have H:(y.lP c X).C c=X:=iQ _ _ _;have hp:y.kd c up=((y.lP c X).jO Z.1 ((y.R Z.1).iZ Z.2 up).1).jO Y.1 ((j6 y.R Z.1 ((y.R Z.1).iZ Z.2 up).1 Y.1).iZ Y.2 up).1:=by
  unfold ja.kd;rw[<-u,hf (y.lP c X) 0 Z (by rw[H,M,J]),hf _ 1 Y (by show((y.lP c X).C c).e 1=Y;rw[H,M,A])];rfl
 obtain⟨r1,lE⟩:=fq (j6 y.R Z.1 ((y.R Z.1).iZ Z.2 up).1 Y.1);have Q:∀p,(Y.1,p)≠Z->kG (y.R Y.1) r1 p:=λp oQ=>by
  rw[<-lE];by_cases e:Y.1=Z.1;{rw[e,iQ];exact b0 p (λV=>oQ (by rw[cR];exact⟨e,V⟩))};{rw[iI _ _ e];exact kG.refl _ _}
 have aem:pN (!up) (r1.P Y.2):=h1.congr (Q Y.2 (λe=>jx e.symm)).1 (Q Y.2 (λe=>jx e.symm)).2;obtain⟨a1,_,b1⟩:=xV Y.2 aem;rw[hp,lE];have ahR:∀i p,pN up ((j6 (j6 y.R Z.1 ((y.R Z.1).iZ Z.2 up).1) Y.1 (r1.iZ Y.2 up).1 i).P p) \/((i,p)≠Z/\(i,p)≠Y):=λi p=>by
  by_cases x1:(i,p)=Y;{left;rw[<-x1]at a1⊢;rw[iQ];exact a1}
  ·by_cases x0:(i,p)=Z
   ·left;by_cases e:i=Y.1
    ·rw[e,iQ];have E:p≠Y.2:=λV=>x1 (by rw[cR];exact⟨e,V⟩);have hr:r1.P p=((y.R Z.1).iZ Z.2 up).1.P Z.2:=by
      rw[<-lE,<-e,<-x0,iQ]
     exact(j.congr (by rw[hr]) (by rw[hr]):pN up (r1.P p)).congr (b1 p E).1 (b1 p E).2
    ·rw[iI _ _ e,<-x0,iQ];rw[<-x0]at j;exact j
   ·exact .inr ⟨x0,x1⟩
 have kJ:∀i p,(i,p)≠Z->(i,p)≠Y->kG (y.R i) (j6 (j6 y.R Z.1 ((y.R Z.1).iZ Z.2 up).1) Y.1 (r1.iZ Y.2 up).1 i) p:=λi p x0 x1=>by
  by_cases e:i=Y.1;{subst e;rw[iQ];exact(Q p x0).trans (b1 p (λV=>x1 (by rw[cR];exact⟨rfl,V⟩)))};{rw[iI _ _ e];by_cases e':i=Z.1;{subst e';rw[iQ];exact b0 p (λV=>x0 (by rw[cR];exact⟨rfl,V⟩))};{rw[iI _ _ e'];exact kG.refl _ _}}
 refine⟨λx d hx hd=> ?_,λx d hx hd hf=> ?_⟩
 ·show pN ((if x=c then X else y.C x):qX).jc ((j6 (j6 y.R Z.1 ((y.R Z.1).iZ Z.2 up).1) Y.1 (r1.iZ Y.2 up).1 (((if x=c then X else y.C x):qX).e d).1).P (((if x=c then X else y.C x):qX).e d).2);have vY:x<y.nc:=hx;by_cases e:x=c
  ·rw[ai e,M,cbi];refine(ahR _ _).resolve_right (λhn=> ?_);have:d=0 \/d=1:=eB;rcases this with rfl|rfl
   {exact hn.1 J};{exact hn.2 A}
  ·rw[af e];have n0:(y.C x).e d≠Z:=λV=>e (hE.ds x d c 0 vY hd hc eB (by rw[J];exact V)).1;have n1:(y.C x).e d≠Y:=λV=>e (hE.ds x d c 1 vY hd hc eB (by rw[A];exact V)).1;have:=kJ ((y.C x).e d).1 ((y.C x).e d).2 n0 n1;exact(h.ends x d vY hd).congr this.1 this.2
 ·have G:((if x=c then X else y.C x):qX).jc=false:=hf;show((if x=c then X else y.C x):qX).on d=[]
  by_cases e:x=c;{rw[ai e];exact cbo d};{rw[af e]at G⊢;exact h.off x d hx hd G}
theorem Ends.kd {y:ja} (h:Ends y)(c:Nat)(up:Bool):Ends (y.kd c up):=by
 obtain⟨g1,V,g3,g4,Y⟩:=pY y c up;refine⟨λa d a' d' Z hd ha' M e=> ?_,λa d Z hd=> ?_,λi=> ?_,λa d Z hd=> ?_⟩;{rw[(Y a).1,(Y a').1]at e;rw[V]at Z ha';exact h.ds a d a' d' Z hd ha' M e};{rw[(Y a).1];rw[V]at Z;exact h.p3 a d Z hd}
 ·have Q:∀(x:ja) (d:Nat),(∀i,(x.R i).n=3 \/x.n<=i)->∀i,((x.np c d up).R i).n=3 \/(x.np c d up).n<=i:=λx d hx i=>by
   show(j6 x.R ((x.C c).e d).1 _ i).n=3 \/x.n<=i;by_cases e:i=((x.C c).e d).1;{rw[e,iQ,(jT.iZ _ _ up).n];exact hx _};{rw[iI _ _ e];exact hx i}
  unfold ja.kd;obtain⟨X,J⟩:∃X:qX,X={y.C c with jc:=up,on:=λ_=>[] }:=⟨_,rfl⟩
  rw[<-J];exact Q _ 1 (Q (y.lP c X) 0 h.rn) i
 ·rw[(Y a).1,g1];rw[V]at Z;exact h.en a d Z hd
theorem GN.jX(up:Bool):∀(l:List Nat) {y:ja},GN y->Ends y->l.Nodup->(∀c∈l,c<y.nc/\(y.C c).jc= !up)->GN (y.jX up l)/\Ends (y.jX up l)/\∀x,((y.jX up l).C x).jc=if x∈l then up else(y.C x).jc
 |[],y,h,hE,_,_=>⟨h,hE,λx=>by simp[ja.jX]⟩
 |c::l,y,h,hE,xW,hl=>by
  obtain⟨g1,Q,g3,g4,V⟩:=pY y c up;have hc:=hl c ik;have X:=bw.1 xW;obtain⟨a,b,d⟩:=GN.jX up l (h.kd hE c up hc.1 hc.2) (hE.kd c up) X.2 (λx hx=>by
   have M:x≠c:=λe=>X.1 (e▸hx);rw[Q,(V x).2,af M];exact hl x (by simp[hx]))
  refine⟨a,b,λx=> ?_⟩;show(((y.kd c up).jX up l).C x).jc=_;rw[d x,(V x).2];by_cases Z:x∈l;{rw[ai Z,ai (by simp[Z])]};{by_cases Y:x=c;{rw[af Z,ai Y,ai (by simp[Y])]};{rw[af Z,af Y,af (by simp[Z,Y])]}}
theorem GN.restart {y:ja} {D:Nat} (h:GN y)(jb:ki y D 0)(i:Int):GN (y.restart i).1/\∀x,x<y.nc->((y.restart i).1.C x).jc=(y.C x).jc:=by
 unfold ja.restart;split;{exact⟨h,λ_ _=>rfl⟩}
 ·rename_i hi
  obtain⟨k,hk⟩:=fq ((i-1).toNat);rw[hk];obtain⟨l,hl⟩:=fq (y.lT k);rw[hl];have X:∀c,c∈l↔c<y.nc/\(y.C c).jc=true/\(((y.C c).e 0).1=k \/((y.C c).e 1).1=k):=λc=>by
   rw[<-hl];unfold ja.lT;simp[iu]
  have H:l.Nodup:=by
   rw[<-hl];exact dw dq bX
  obtain⟨a,b,d⟩:=GN.jX false l h jb.oY H (λc hc=>⟨((X c).1 hc).1,((X c).1 hc).2.1⟩);obtain⟨s1,V,s3,s4,J⟩:=nI false l y;obtain⟨Z,G⟩:=fq (y.jX false l);rw[G]at a b d s1 V s3 s4 J⊢;have E:GN (Z.jO k (jZ i 3 (y.ms k))):=by
   refine a.jO k _ (λc e hc he heq _=> ?_);have j9:c<y.nc:=by rw[V]at hc;exact hc
   have hf:(Z.C c).jc=false:=by
    rw[d c];by_cases Y:c∈l;{rw[ai Y]}
    ·rw[af Y];by_cases M:(y.C c).jc=true
     ·exfalso;rw[J c]at heq;refine Y ((X c).2 ⟨j9,M,?_⟩);have:e=0 \/e=1:=eB;rcases this with rfl|rfl
      {exact .inl heq};{exact .inr heq}
     ·simpa using M
   rw[hf];have Q:=rz i (y.ms k) ((Z.C c).e e).2;exact⟨by simpa using Q.st,λe=>absurd (by rw[Q.pe];rfl) e⟩
  have b2:Ends (Z.jO k (jZ i 3 (y.ms k))):=⟨b.ds,b.p3,λj=>by
   show(j6 Z.R k _ j).n=3 \/Z.n<=j;by_cases e:j=k;{rw[e,iQ];exact .inl rfl}
   ·rw[iI _ _ e];exact b.rn j,b.en⟩
  obtain⟨A,_,u⟩:=GN.jX true l E b2 H (λc hc=>⟨by show c<Z.nc;rw[V];exact((X c).1 hc).1,by show(Z.C c).jc=_;rw[d c,ai hc];rfl⟩);refine⟨A.gather,λx hx=> ?_⟩;rw[((mr _).2.2.2 x).2,u x];show(if x∈l then true else(Z.C x).jc)=_;rw[d x];by_cases Y:x∈l;{rw[ai Y,((X x).1 Y).2.1]};{rw[af Y,af Y]}
theorem GN.iZ {y:ja} {D:Nat} (h:GN y)(Y:ki y D 0)(i:Int)(up:Bool):GN (y.iZ i up).1/\∀x,((y.iZ i up).1.C x).jc=if(x:Int)=i/\x<y.nc then up else(y.C x).jc:=by
 unfold ja.iZ;split
 ·rename_i hi
  exact⟨h,λx=>by rw[af eB]⟩
 ·rename_i hi
  split
  ·rename_i Z
   refine⟨h,λx=> ?_⟩;split
   ·rename_i hx
    have:x=i.toNat:=eB;rw[this,Z]
   ·rfl
  ·rename_i Z
   refine⟨(h.kd Y.oY i.toNat up eB (by cases hv:(y.C i.toNat).jc<;>cases up<;>simp_all)).gather,λx=> ?_⟩;rw[((mr _).2.2.2 x).2,((pY y i.toNat up).2.2.2.2 x).2];by_cases e:x=i.toNat;{rw[ai e,ai eB]};{rw[af e,af eB]}
theorem GN.tick {y:ja} {D:Nat} (h:GN y)(Z:ki y D 0)(i:Int):GN (y.tick i).1/\∀x,((y.tick i).1.C x).jc=(y.C x).jc:=by
 unfold ja.tick;split;{exact⟨h,λ_=>rfl⟩};{exact⟨(h.jo Z.oY Z.idle (i-1).toNat eB).gather,λx=>((mr _).2.2.2 x).2⟩}
theorem FG(y:ja)(c d k x:Nat):((y.jE c d k).C x).jc=(y.C x).jc:=by
 show((if x=c then _ else y.C x):qX).jc=_;by_cases e:x=c;{rw[ai e];subst e;rfl};{rw[af e]}
theorem GN.deliver {y:ja} {D:Nat} (h:GN y)(Z:ki y D 0)(i d m:Int):GN (y.deliver i d m).1/\∀x,((y.deliver i d m).1.C x).jc=(y.C x).jc:=by
 unfold ja.deliver;split;{exact⟨h,λ_=>rfl⟩};{exact⟨(h.jE Z.oY _ _ _ eB eB).gather,λx=>by rw[((mr _).2.2.2 x).2,FG]⟩}
theorem GN.send {y:ja} (h:GN y)(f t:Int)(tx:List UInt8):GN (y.send f t tx).1/\∀x,((y.send f t tx).1.C x).jc=(y.C x).jc:=by
 unfold ja.send;split;{exact⟨h,λ_=>rfl⟩}
 ·split;{exact⟨h,λ_=>rfl⟩}
  ·refine⟨GN.gather (h.jO _ _ (λc d hc hd he Z=> ?_)),λx=>((mr _).2.2.2 x).2⟩;have:∀(r:iW) (p:Nat),kG r (kD r t tx).1 p:=λr p=>by
    unfold kD;split;{exact kG.refl r p};{exact kG.send r (t,8,tx) p}
   exact Z.congr (this _ _).1 (this _ _).2
theorem GN.jn {y:ja} {D:Nat} (h:GN y)(Y:ki y D 0)(Z:D<=800000000):∀q,q<=6->GN (y.jn q)
 |0,_=>h
 |q+1,hq=>((GN.jn h Y Z q eB).tick (Y.jn Z q eB) ((q:Int)+1)).1
theorem GN.j0 {y:ja} {D:Nat} (h:GN y)(X:ki y D 0)(Y:D<=890000000):∀q,q<=9->GN (y.j0 q)
 |0,_=>h
 |q+1,hq=>by
  have Z:=X.j0 Y q eB;have V:=GN.j0 h X Y q eB;exact((V.deliver Z (q:Int) 0 2000).1.deliver (Z.deliver eB (q:Int) 0 2000) (q:Int) 1 2000).1
theorem GN.turns {y:ja} {D:Nat} (h:GN y)(Z:ki y D 0)(Y:D<=810000000):∀t,t<=12->GN (y.turns t)
 |0,_=>h
 |t+1,ht=>(GN.turns h Z Y t eB).j0 (Z.turns Y t eB) eB y.nc Z.c9
theorem GN.round {y:ja} {D:Nat} (h:GN y)(Z:ki y D 0)(Y:D<=800000000):GN y.round:=
 (h.jn Z Y y.n Z.n6).turns (Z.jn Y y.n Z.n6) (by have:=Z.n6;omega) 12 (Nat.le_refl _)
def BV(v:AV):Bool:=v.kind.toList==[112,108,117,103]
theorem GN.act(h:GN y)(Z:ki y D 0)(V:D<=800000000)(v:AV):GN (tT y v)/\∀x,x<y.nc->((tT y v).C x).jc=if BV v=true/\(x:Int)=v.a then v.b==1 else(y.C x).jc:=by
 unfold tT;by_cases k1:(v.kind.toList==[112,108,117,103])=true;{rw[ai k1];obtain⟨a,b⟩:=h.iZ Z v.a (v.b==1);refine⟨a,λx hx=> ?_⟩;rw[b x];have Y:BV v=true:=k1;by_cases e:(x:Int)=v.a;{rw[ai ⟨e,hx⟩,ai ⟨Y,e⟩]};{rw[af (λh=>e h.1),af (λh=>e h.2)]}}
 ·rw[af k1];have Y:∀x:Nat,¬(BV v=true/\(x:Int)=v.a):=λx e=>k1 e.1;have Q:∀z:ja,(GN z/\∀x,x<y.nc->(z.C x).jc=(y.C x).jc)->GN z/\∀x,x<y.nc->(z.C x).jc=if BV v=true/\(x:Int)=v.a then v.b==1 else(y.C x).jc:=λz X=>⟨X.1,λx hx=>by rw[af (Y x)];exact X.2 x hx⟩
  apply Q;split;{obtain⟨a,b⟩:=h.tick Z v.a;exact⟨a,λx _=>b x⟩};{split;{obtain⟨a,b⟩:=h.deliver Z v.a v.b v.c;exact⟨a,λx _=>b x⟩};{split;{exact h.restart Z v.a};{split;{obtain⟨a,b⟩:=h.send v.a v.b v.s.data.toList;exact⟨a,λx _=>b x⟩};{split;{exact⟨h.round Z V,λx _=>((kX y).2.2.2 x).2⟩};{exact⟨h,λ_ _=>rfl⟩}}}}}
theorem FH(many:Nat)(L:List pz):GN (j2 many L):=by
 refine⟨λc d _ _=> ?_,λc d _ _ _=>rfl⟩;have Z:=rz (((((j2 many L).C c).e d).1:Int)+1) (pL L (((j2 many L).C c).e d).1) (((j2 many L).C c).e d).2;have Y:((j2 many L).R (((j2 many L).C c).e d).1).P (((j2 many L).C c).e d).2=(jZ (((((j2 many L).C c).e d).1:Int)+1) 3 (pL L (((j2 many L).C c).e d).1)).P (((j2 many L).C c).e d).2:=rfl;rw[Y];exact⟨by rw[show((j2 many L).C c).jc=false from rfl,af eF];exact Z.st,λe=>absurd (by
  show((jZ _ 3 _).P _).pe.who=0;rw[Z.pe];rfl) e⟩
def yD(p:List UInt8):Prop:=1<=p.length/\p.length<=60
def Frames(l:List UInt8)(ps:List (List UInt8)):Prop:=l=ps.flatMap Plain.mb/\∀p∈ps,yD p
def lZ:kP:=([],false,false)
theorem Frames.nil:Frames [] [] :=⟨rfl,λ_ h=>by simp at h⟩
theorem Frames.snoc(h:Frames l ps) {p:List UInt8} (X:yD p):Frames (l++Plain.mb p) (ps++ [p]):=by
 obtain⟨Z,Y⟩:=h;refine⟨by rw[Z];simp,λq V=> ?_⟩;rcases av.1 V with e|e
 {exact Y q e};{rw[ar.1 e];exact X}
theorem rV:∀(ps:List (List UInt8)),(∀p∈ps,yD p)->kN lZ (ps.flatMap Plain.mb)=(ps,0,lZ)
 |[],_=>rfl
 |p::ps,h=>by
  have e:(p::ps).flatMap Plain.mb=Plain.mb p++ps.flatMap Plain.mb:=ik;have Z:kN lZ (Plain.mb p)=([p],0,lZ):=N7 p (h p ik).2;rw[e,rR,Z];simp only;rw[rV ps (λq Y=>h q (by simp[Y]))];rfl
structure nO(r r':iW):Prop where
 rd:∀p,(r'.P p).rd=(r.P p).rd
 out:∀p ps,Frames (r.P p).out ps->∃qs,Frames (r'.P p).out (ps++qs)
theorem nO.refl(r:iW):nO r r:=⟨λ_=>rfl,λ_ ps h=>⟨[],by simpa using h⟩⟩
theorem nO.trans {a b c:iW} (h:nO a b)(g:nO b c):nO a c:=by
 refine⟨λp=>(g.rd p).trans (h.rd p),λp ps X=> ?_⟩;obtain⟨q1,Z⟩:=h.out p ps X;obtain⟨q2,Y⟩:=g.out p _ Z;exact⟨q1++q2,by rw[<-aD];exact Y⟩
theorem nO.yk {r r':iW} (h:r'.P=r.P):nO r r':=⟨λ_=>by rw[h],λ_ ps Z=>⟨[],by rw[h];simpa using Z⟩⟩
structure sS(p q:jI):Prop where
 rd:q.rd=p.rd
 out:∀ps,Frames p.out ps->∃qs,Frames q.out (ps++qs)
theorem sS.refl(p:jI):sS p p:=⟨rfl,λps h=>⟨[],by simpa using h⟩⟩
theorem sS.trans {a b c:jI} (h:sS a b)(g:sS b c):sS a c:=by
 refine⟨g.rd.trans h.rd,λps X=> ?_⟩;obtain⟨q1,Z⟩:=h.out ps X;obtain⟨q2,Y⟩:=g.out _ Z;exact⟨q1++q2,by rw[<-aD];exact Y⟩
theorem sS.put(p:jI)(c:UInt8)(s:List UInt8):sS p (p.put c s):=by
 unfold jI.put;split;{exact sS.refl p}
 ·split
  ·rename_i h
   exact⟨rfl,λps Z=>⟨[c::s],Z.snoc ⟨ik,by simpa using h⟩⟩⟩
  ·exact sS.refl p
theorem sS.say:∀(l:List kZ) (p:jI),sS p (p.say l)
 |[],p=>sS.refl p
 |q::r,p=>by
  refine sS.trans ?_ (sS.say r _);split;{exact sS.put _ _ _};{exact sS.refl p}
theorem sS.kU:∀(l:List (Int×PS)) (p:jI),sS p (p.kU l)
 |[],p=>sS.refl p
 |q::r,p=>(sS.put p 83 (rN q.1 q.2.1 q.2.2)).trans (sS.kU r _)
theorem sS.ahS(p:jI)(L:LS)(l:List kZ):sS p (({p with L:=L}:jI).say l):=by
 have h:sS p ({p with L:=L}:jI):=⟨rfl,λps h=>⟨[],by simpa using h⟩⟩
 exact h.trans (sS.say l _)
theorem sS.tick(p:jI):sS p p.tick:=sS.ahS p _ _
theorem sS.packet(p:jI)(s:List UInt8):sS p (p.packet s):=by
 unfold jI.packet;simp only;split;{exact sS.ahS p _ _};{exact sS.refl p}
theorem nO.jh(r:iW)(i:Nat) {q:jI} (h:sS (r.P i) q):nO r (r.jh i q):=by
 refine⟨λp=> ?_,λp ps Z=> ?_⟩;{show(lF r.P i q p).rd=_;by_cases e:p=i;{subst e;rw[jL];exact h.rd};{rw[jG _ _ e]}};{show∃qs,Frames (lF r.P i q p).out (ps++qs);by_cases e:p=i;{subst e;rw[jL];exact h.out ps Z};{rw[jG _ _ e];exact⟨[],by simpa using Z⟩}}
theorem nO.meet(r:iW)(i:Nat)(q:lK):nO r (r.meet i q):=by
 refine⟨λp=> ?_,λp ps Z=>⟨[],?_⟩⟩;{rw[(nr r i q).2.2.2];by_cases e:p=i;{subst e;rw[jL]};{rw[jG _ _ e]}};{rw[(nr r i q).2.2.2];by_cases e:p=i;{subst e;rw[jL];simpa using Z};{rw[jG _ _ e];simpa using Z}}
theorem nO.send(r:iW)(t:zD):nO r (r.send t):=by
 unfold iW.send;split;{exact nO.yk rfl};{split;{exact nO.yk rfl};{exact nO.jh _ _ (sS.put _ _ _)}}
theorem nO.state(r:iW)(i:Nat)(l:List UInt8):nO r (jw r i l):=by
 unfold jw;simp only;split;{exact nO.refl r};{split;{exact nO.yk (oV _ _).2.2.2};{split;{exact⟨λp=>(nO.jh _ i (sS.put _ _ _)).rd p,λp ps Z=>(nO.jh _ i (sS.put _ _ _)).out p ps Z⟩};{exact nO.yk rfl}}}
theorem nO.take(r:iW)(i:Nat)(c:UInt8)(s:List UInt8):nO r (r.take i c s):=by
 rw[l7];have Z:nO r (kg r i c s):=by
  unfold kg;split;{exact nO.jh _ _ (sS.packet _ _)};{exact nO.refl r}
 split;{exact Z.trans (nO.meet _ _ _)};{refine Z.trans ?_;unfold mO;split;{split;{exact nO.meet _ _ _};{exact nO.refl _}};{split;{exact nO.state _ _ _};{split;{unfold kQ;simp only;split<;>exact nO.yk rfl};{split;{unfold rS;split;{exact nO.send _ _};{exact nO.refl _}};{exact nO.refl _}}}}}
theorem nO.takes:∀(l:List (List UInt8)) (r:iW) (i:Nat),nO r (r.takes i l)
 |[],r,_=>nO.refl r
 |t::l,r,i=>by
  refine nO.trans ?_ (nO.takes l _ i);cases t with
  |nil=>exact nO.refl r
  |cons c s=>exact nO.take r i c s
theorem nO.jj(r:iW)(i:Nat):nO r (r.jj i):=by
 rw[lA];have Z:nO r (jo r i):=nO.jh _ _ (sS.tick _);split;{exact Z.trans (nO.meet _ _ _)};{refine Z.trans ((nO.meet _ i (iV ((jo r i).P i).pe)).trans ?_);unfold mX;simp only;refine nO.jh _ i ?_;split;{exact(sS.put _ _ _).trans (sS.kU _ _)};{exact sS.put _ _ _}}
theorem nO.jn(r:iW):∀q,nO r (r.jn q)
 |0=>nO.refl r
 |q+1=>(nO.jn r q).trans (nO.jj _ _)
theorem nO.kD(r:iW)(t:Int)(tx:List UInt8):nO r (kD r t tx).1:=by
 unfold Rt.kD;split;{exact nO.refl r};{exact nO.send r (t,8,tx)}
theorem IJ(r:iW)(i:Nat)(l:List UInt8):((r.recv i l).P i).rd=(kN (r.P i).rd l).2.2/\(∀p,p≠i->((r.recv i l).P p).rd=(r.P p).rd)/\∀p ps,Frames (r.P p).out ps->∃qs,Frames ((r.recv i l).P p).out (ps++qs):=by
 unfold iW.recv;simp only;have h:=nO.takes (kN (r.P i).rd l).1 (r.jh i {r.P i with rd:=(kN (r.P i).rd l).2.2}) i;have Z:∀p,((r.jh i {r.P i with rd:=(kN (r.P i).rd l).2.2}).P p).out=(r.P p).out:=λp=>by
  show(lF r.P i _ p).out=_;by_cases e:p=i;{subst e;rw[jL]};{rw[jG _ _ e]}
 refine⟨?_,λp Y=> ?_,λp ps hf=>h.out p ps (by rw[Z];exact hf)⟩;{rw[h.rd];show(lF r.P i _ i).rd=_;rw[jL]};{rw[h.rd];show(lF r.P i _ p).rd=_;rw[jG _ _ Y]}
theorem IK {r:iW} (i:Nat)(h:pN (!up) (r.P i)):(((r.iZ i up).1.P i).rd=lZ)/\(∀p,p≠i->((r.iZ i up).1.P p).rd=(r.P p).rd)/\∀p ps,Frames (r.P p).out ps->∃qs,Frames ((r.iZ i up).1.P p).out (ps++qs):=by
 have V:(lr (r.P i).L (if up=true then 0 else 1)).2.2=0:=by
  cases up;{exact(ug (pN.up.1 h).1).1};{exact(EA (by simpa using h.st)).1}
 have e:(r.P i).iZ up=(({r.P i with L:=(lr (r.P i).L (if up=true then 0 else 1)).1,rd:=([],false,false)}:jI).say (lr (r.P i).L (if up=true then 0 else 1)).2.1,0):=by
  unfold jI.iZ;simp only;rw[af (by simp[V])]
 unfold iW.iZ;rw[e];simp only;rw[af ik];obtain⟨x,hx⟩:=fq (({r.P i with L:=(lr (r.P i).L (if up=true then 0 else 1)).1,rd:=([],false,false)}:jI).say (lr (r.P i).L (if up=true then 0 else 1)).2.1);have Y:sS {r.P i with L:=(lr (r.P i).L (if up=true then 0 else 1)).1,rd:=([],false,false)} x:=by rw[<-hx];exact sS.say _ _
 rw[hx];have Z:=nO.meet (r.jh i x) i nobody;refine⟨?_,λp J=> ?_,λp ps hf=> ?_⟩;{rw[Z.rd];show(lF r.P i x i).rd=_;rw[jL,Y.rd];rfl};{rw[Z.rd];show(lF r.P i x p).rd=_;rw[jG _ _ J]};{by_cases X:p=i;{subst X;obtain⟨q1,Q⟩:=Y.out ps hf;obtain⟨q2,M⟩:=Z.out p (ps++q1) (by show Frames (lF r.P p x p).out _;rw[jL];exact Q);exact⟨q1++q2,by rw[<-aD];exact M⟩};{exact Z.out p ps (by show Frames (lF r.P i x p).out _;rw[jG _ _ X];exact hf)}}
def j8(y:ja)(c d:Nat):kP:=((y.R ((y.C c).e (1-d)).1).P ((y.C c).e (1-d)).2).rd
structure jN(y:ja):Prop where
 q:∀c d,c<y.nc->d<2->(kN (j8 y c d) ((y.C c).on d)).2=(0,lZ)/\∀p∈(kN (j8 y c d) ((y.C c).on d)).1,yD p
 o:∀i p,∃ps,Frames ((y.R i).P p).out ps
theorem jN.lz {y:ja} (h:jN y)(c d:Nat)(_hc:c<y.nc):jN (y.lz c d):=by
 have Q:∀i p,(((y.lz c d).R i).P p).rd=((y.R i).P p).rd:=λi p=>by
  rw[BM];split<;>rfl
 have E:∀x,((y.lz c d).C x).e=(y.C x).e:=λx=>((nt y c d).2.2.2.2 x).1;have j:∀x e,j8 (y.lz c d) x e=j8 y x e:=λx e=>by
  unfold j8;rw[E,Q]
 refine⟨λx e hx H=> ?_,λi p=> ?_⟩
 ·have u:x<y.nc:=hx;rw[j];have G:((y.lz c d).C x).on e=(y.C x).on e \/(x=c/\e=d/\((y.lz c d).C x).on e=(y.C x).on e++((y.R ((y.C c).e d).1).P ((y.C c).e d).2).out):=by
   show((if x=c then(y.C c).put d _ else y.C x):qX).on e=_ \/(x=c/\e=d/\((if x=c then(y.C c).put d _ else y.C x):qX).on e=_);by_cases ex:x=c;{rw[ai ex];subst ex;unfold qX.put;split;{show j6 (y.C x).on d _ e=_ \/(x=x/\e=d/\j6 (y.C x).on d _ e=_);by_cases ed:e=d;{subst ed;rw[iQ];exact .inr ⟨rfl,rfl,rfl⟩};{rw[iI _ _ ed];exact .inl rfl}};{exact .inl rfl}};{rw[af ex];exact .inl rfl}
  obtain⟨M,J⟩:=h.q x e u H;rcases G with X|⟨_,_,X⟩
  ·rw[X];exact⟨M,J⟩
  ·obtain⟨ps,Y,Z⟩:=h.o ((y.C c).e d).1 ((y.C c).e d).2;rw[X,rR,M,Y,rV ps Z];refine⟨rfl,λp A=> ?_⟩;rcases av.1 A with V|V
   {exact J p V};{exact Z p V}
 ·rw[BM];split;{exact⟨[],Frames.nil⟩};{exact h.o i p}
theorem jN.kh {y:ja} (h:jN y):∀k,k<=y.nc->jN (y.kh k)
 |0,_=>h
 |k+1,hk=>by
  have Y:=jN.kh h k eB;have Z:(y.kh k).nc=y.nc:=(kj y k).2.1;exact(Y.lz k 0 (by rw[Z];omega)).lz k 1 (by show k<(y.kh k).nc;rw[Z];omega)
theorem jN.gather {y:ja} (h:jN y):jN y.gather:=by
 unfold ja.gather;have Y:=h.kh y.nc (Nat.le_refl _);obtain⟨e1,V,e3,Z⟩:=oy (y.kh y.nc) y.n;have X:∀i,(((y.kh y.nc).nA y.n).R i).P=((y.kh y.nc).R i).P:=λi=>by
  rw[(xj (y.kh y.nc) i y.n).1];split<;>rfl
 refine⟨λc d hc hd=> ?_,λi p=>by rw[X];exact Y.o i p⟩;have hf:j8 ((y.kh y.nc).nA y.n) c d=j8 (y.kh y.nc) c d:=by
  unfold j8;rw[Z,X]
 rw[hf,Z];exact Y.q c d (by rw[V]at hc;exact hc) hd
theorem jN.jO {y:ja} (h:jN y)(i:Nat) {r:iW} (Z:nO (y.R i) r):jN (y.jO i r):=by
 refine⟨λc d hc hd=> ?_,λj p=> ?_⟩
 ·have hf:j8 (y.jO i r) c d=j8 y c d:=by
   show((j6 y.R i r ((y.C c).e (1-d)).1).P ((y.C c).e (1-d)).2).rd=((y.R ((y.C c).e (1-d)).1).P ((y.C c).e (1-d)).2).rd;by_cases e:((y.C c).e (1-d)).1=i;{rw[e,iQ];exact Z.rd _};{rw[iI _ _ e]}
  rw[hf];exact h.q c d hc hd
 ·show∃ps,Frames ((j6 y.R i r j).P p).out ps;by_cases e:j=i;{subst e;rw[iQ];obtain⟨ps,X⟩:=h.o j p;obtain⟨qs,Y⟩:=Z.out p ps X;exact⟨_,Y⟩};{rw[iI _ _ e];exact h.o j p}
theorem jN.jE {y:ja} (h:jN y)(hE:Ends y)(c d k:Nat)(hc:c<y.nc)(hd:d<2):jN (y.jE c d k):=by
 obtain⟨i,hi⟩:=fq (((y.C c).e (1-d)).1);obtain⟨p,M⟩:=fq (((y.C c).e (1-d)).2);obtain⟨r1,r2,r3⟩:=IJ (y.R i) p (((y.C c).on d).take k);have Z:∀x,((y.jE c d k).C x).e=(y.C x).e:=λx=>((rT y c d k).2.2.2 x).1;have Q:∀j,(y.jE c d k).R j=j6 y.R i ((y.R i).recv p (((y.C c).on d).take k)) j:=λj=>by
  unfold ja.jE;rw[hi,M];rfl
 have A:∀x e,((y.jE c d k).C x).on e=if x=c/\e=d then((y.C c).on d).drop k else(y.C x).on e:=λx e=>by
  show((if x=c then {y.C c with on:=j6 (y.C c).on d (((y.C c).on d).drop k)}else y.C x):qX).on e=_;by_cases ex:x=c;{rw[ai ex];show j6 (y.C c).on d _ e=_;by_cases ed:e=d;{rw[ed,iQ,ai ⟨ex,rfl⟩]};{rw[iI _ _ ed,af (λh=>ed h.2),ex]}};{rw[af ex,af (λh=>ex h.1)]}
 refine⟨λx e hx he=> ?_,λj s=> ?_⟩
 ·have E:x<y.nc:=hx;rw[A];by_cases Y:x=c/\e=d
  ·obtain⟨rfl,rfl⟩:=Y;rw[ai ⟨rfl,rfl⟩];have hf:j8 (y.jE x e k) x e=(kN (j8 y x e) (((y.C x).on e).take k)).2.2:=by
    unfold j8;rw[Z,Q,hi,M,iQ];exact r1
   obtain⟨V,G⟩:=h.q x e hc hd;have H:=rR (j8 y x e) (((y.C x).on e).take k) (((y.C x).on e).drop k);rw[cL]at H;rw[H]at V G;rw[hf];refine⟨?_,λq J=>G q (av.2 (.inr J))⟩;have ha:=congrArg iw V;have hb:=congrArg iy V;simp only at ha hb;exact aU (by show _=0;omega) hb
  ·rw[af Y];have jx:(y.C x).e (1-e)≠(i,p):=λu=>Y (by
    have:=hE.ds x (1-e) c (1-d) E eB hc eB (by rw[u,<-hi,<-M]);exact⟨this.1,eB⟩)
   have hf:j8 (y.jE c d k) x e=j8 y x e:=by
    unfold j8;rw[Z,Q];by_cases X:((y.C x).e (1-e)).1=i;{rw[X,iQ];exact r2 _ (λe4=>jx (by rw[cR];exact⟨X,e4⟩))};{rw[iI _ _ X]}
   rw[hf];exact h.q x e E he
 ·rw[Q];by_cases e:j=i;{subst e;rw[iQ];obtain⟨ps,vf⟩:=h.o j s;obtain⟨qs,J⟩:=r3 s ps vf;exact⟨_,J⟩};{rw[iI _ _ e];exact h.o j s}
theorem jN.kd {y:ja} (h:jN y)(hG:GN y)(hE:Ends y)(c:Nat)(up:Bool)(hc:c<y.nc)(hu:(y.C c).jc= !up):jN (y.kd c up):=by
 obtain⟨Z,J⟩:=fq ((y.C c).e 0);obtain⟨Y,A⟩:=fq ((y.C c).e 1);have jx:Z≠Y:=λe=>by
  have:=(hE.ds c 0 c 1 hc eB hc eB (by rw[J,A,e])).2;omega
 have h0:=hG.ends c 0 hc eB;have h1:=hG.ends c 1 hc eB;rw[J,hu]at h0;rw[A,hu]at h1;obtain⟨X,vr⟩:∃X:qX,X={y.C c with jc:=up,on:=λ_=>[] }:=⟨_,rfl⟩
 have V:X.e=(y.C c).e:=by rw[vr]
 have cbo:∀d,X.on d=[] :=λd=>by rw[vr]
 have hf:∀(z:ja) (d:Nat) (e:Nat×Nat),(z.C c).e d=e->z.np c d up=z.jO e.1 ((z.R e.1).iZ e.2 up).1:=by
  intro z d e he;unfold ja.np;rw[he]
 have G:(y.lP c X).C c=X:=iQ _ _ _;have hp:y.kd c up=((y.lP c X).jO Z.1 ((y.R Z.1).iZ Z.2 up).1).jO Y.1 ((j6 y.R Z.1 ((y.R Z.1).iZ Z.2 up).1 Y.1).iZ Y.2 up).1:=by
  unfold ja.kd;rw[<-vr,hf (y.lP c X) 0 Z (by rw[G,V,J]),hf _ 1 Y (by show((y.lP c X).C c).e 1=Y;rw[G,V,A])];rfl
 obtain⟨r1,lE⟩:=fq (j6 y.R Z.1 ((y.R Z.1).iZ Z.2 up).1 Y.1);obtain⟨a1,a2,a3⟩:=IK Z.2 h0;obtain⟨_,_,b0⟩:=xV Z.2 h0;have aem:pN (!up) (r1.P Y.2):=by
  rw[<-lE];by_cases e:Y.1=Z.1;{rw[e,iQ];have E:Y.2≠Z.2:=λH=>jx (by rw[cR];exact⟨e.symm,H.symm⟩);rw[e]at h1;exact h1.congr (b0 _ E).1 (b0 _ E).2};{rw[iI _ _ e];exact h1}
 obtain⟨c1,c2,c3⟩:=IK Y.2 aem;rw[hp,lE];obtain⟨R2,u⟩:=fq (j6 (j6 y.R Z.1 ((y.R Z.1).iZ Z.2 up).1) Y.1 (r1.iZ Y.2 up).1);have hrd:∀i p,((R2 i).P p).rd=if(i,p)=Z \/(i,p)=Y then lZ else((y.R i).P p).rd:=λi p=>by
  rw[<-u];by_cases x1:i=Y.1;{rw[x1,iQ];by_cases y1:p=Y.2;{rw[y1,ai (.inr rfl)];exact c1};{rw[c2 p y1,<-lE];by_cases x0:Y.1=Z.1;{rw[x0,iQ];by_cases M:p=Z.2;{rw[M,ai (.inl rfl)];exact a1};{rw[a2 p M,af];rintro(e|e);{exact M (congrArg iy e)};{exact y1 (congrArg iy e)}}};{rw[iI _ _ x0,af];rintro(e|e);{exact x0 (by have Q:=congrArg iw e;exact Q)};{exact y1 (congrArg iy e)}}}};{rw[iI _ _ x1];by_cases x0:i=Z.1;{rw[x0,iQ];by_cases M:p=Z.2;{rw[M,ai (.inl rfl)];exact a1};{rw[a2 p M,af];rintro(e|e);{exact M (congrArg iy e)};{exact x1 (x0.trans (by have Q:=congrArg iw e;exact Q))}}};{rw[iI _ _ x0,af];rintro(e|e);{exact x0 (by have Q:=congrArg iw e;exact Q)};{exact x1 (by have Q:=congrArg iw e;exact Q)}}}
 have MZ:∀i p,∃ps,Frames ((R2 i).P p).out ps:=λi p=>by
  rw[<-u];have hA:∀j s,∃ps,Frames ((j6 y.R Z.1 ((y.R Z.1).iZ Z.2 up).1 j).P s).out ps:=λj s=>by
   by_cases x0:j=Z.1;{rw[x0,iQ];obtain⟨ps,vf⟩:=h.o Z.1 s;obtain⟨qs,hq⟩:=a3 s ps vf;exact⟨_,hq⟩};{rw[iI _ _ x0];exact h.o j s}
  by_cases x1:i=Y.1;{rw[x1,iQ];obtain⟨ps,vf⟩:=hA Y.1 p;rw[lE]at vf;obtain⟨qs,hq⟩:=c3 p ps vf;exact⟨_,hq⟩};{rw[iI _ _ x1];exact hA i p}
 refine⟨λx d hx hd=> ?_,λi p=> ?_⟩
 ·have vY:x<y.nc:=hx;show(kN (((j6 (j6 y.R Z.1 ((y.R Z.1).iZ Z.2 up).1) Y.1 (r1.iZ Y.2 up).1 ((((if x=c then X else y.C x):qX).e (1-d)).1)).P (((if x=c then X else y.C x):qX).e (1-d)).2).rd) (((if x=c then X else y.C x):qX).on d)).2=(0,lZ)/\∀p∈(kN (((j6 (j6 y.R Z.1 ((y.R Z.1).iZ Z.2 up).1) Y.1 (r1.iZ Y.2 up).1 ((((if x=c then X else y.C x):qX).e (1-d)).1)).P (((if x=c then X else y.C x):qX).e (1-d)).2).rd) (((if x=c then X else y.C x):qX).on d)).1,yD p;rw[u,hrd];by_cases e:x=c
  ·rw[ai e,V,cbo];have sy:(((y.C c).e (1-d)).1,((y.C c).e (1-d)).2)=Z \/(((y.C c).e (1-d)).1,((y.C c).e (1-d)).2)=Y:=by
    have:d=0 \/d=1:=eB;rcases this with rfl|rfl
    {exact .inr A};{exact .inl J}
   rw[ai sy];exact⟨rfl,λp hp=>by simp[kN]at hp⟩
  ·rw[af e];have n0:¬((((y.C x).e (1-d)).1,((y.C x).e (1-d)).2)=Z \/(((y.C x).e (1-d)).1,((y.C x).e (1-d)).2)=Y):=by
    rintro(H|H);{exact e (hE.ds x (1-d) c 0 vY eB hc eB (by rw[J];exact H)).1};{exact e (hE.ds x (1-d) c 1 vY eB hc eB (by rw[A];exact H)).1}
   rw[af n0];exact h.q x d vY hd
 ·show∃ps,Frames ((j6 (j6 y.R Z.1 ((y.R Z.1).iZ Z.2 up).1) Y.1 (r1.iZ Y.2 up).1 i).P p).out ps;rw[u];exact MZ i p
theorem jN.jX(up:Bool):∀(l:List Nat) {y:ja},jN y->GN y->Ends y->l.Nodup->(∀c∈l,c<y.nc/\(y.C c).jc= !up)->jN (y.jX up l)
 |[],_,h,_,_,_,_=>h
 |c::l,y,h,hG,hE,xW,hl=>by
  obtain⟨g1,Y,g3,g4,X⟩:=pY y c up;have hc:=hl c ik;have Z:=bw.1 xW;exact jN.jX up l (h.kd hG hE c up hc.1 hc.2) (hG.kd hE c up hc.1 hc.2) (hE.kd c up) Z.2 (λx hx=>by
   have V:x≠c:=λe=>Z.1 (e▸hx);rw[Y,(X x).2,af V];exact hl x (by simp[hx]))
theorem jN.anew(h:jN y)(Y:GN y)(i:Nat)(id:Int)(m:Nat->Int)(hf:∀c d,c<y.nc->d<2->((y.C c).e d).1=i->(y.C c).jc=false):jN (y.jO i (jZ id 3 m)):=by
 refine⟨λc d hc hd=> ?_,λj p=> ?_⟩;{have Z:c<y.nc:=hc;show(kN (((j6 y.R i (jZ id 3 m) ((y.C c).e (1-d)).1).P ((y.C c).e (1-d)).2).rd) ((y.C c).on d)).2=(0,lZ)/\∀p∈(kN (((j6 y.R i (jZ id 3 m) ((y.C c).e (1-d)).1).P ((y.C c).e (1-d)).2).rd) ((y.C c).on d)).1,yD p;by_cases e:((y.C c).e (1-d)).1=i;{rw[e,iQ,Y.off c d Z hd (hf c (1-d) Z eB e)];exact⟨rfl,λp X=>by simp[kN]at X⟩};{rw[iI _ _ e];exact h.q c d Z hd}};{show∃ps,Frames ((j6 y.R i (jZ id 3 m) j).P p).out ps;by_cases e:j=i;{rw[e,iQ];exact⟨[],Frames.nil⟩};{rw[iI _ _ e];exact h.o j p}}
theorem jN.restart {y:ja} {D:Nat} (h:jN y)(J:GN y)(E:ki y D 0)(i:Int):jN (y.restart i).1:=by
 unfold ja.restart;split;{exact h}
 ·rename_i hi
  obtain⟨k,hk⟩:=fq ((i-1).toNat);rw[hk];obtain⟨l,hl⟩:=fq (y.lT k);rw[hl];have Y:∀c,c∈l↔c<y.nc/\(y.C c).jc=true/\(((y.C c).e 0).1=k \/((y.C c).e 1).1=k):=λc=>by
   rw[<-hl];unfold ja.lT;simp[iu]
  have Q:l.Nodup:=by
   rw[<-hl];exact dw dq bX
  have wA:∀c∈l,c<y.nc/\(y.C c).jc= !false:=λc hc=>⟨((Y c).1 hc).1,((Y c).1 hc).2.1⟩
  obtain⟨a,b,d⟩:=GN.jX false l J E.oY Q wA;have f1:=jN.jX false l h J E.oY Q wA;obtain⟨s1,V,s3,s4,u⟩:=nI false l y;obtain⟨Z,CG⟩:=fq (y.jX false l);rw[CG]at a b d s1 V s3 s4 u f1⊢;have M:∀c e,c<Z.nc->e<2->((Z.C c).e e).1=k->(Z.C c).jc=false:=λc e hc G heq=>by
   have j9:c<y.nc:=by rw[V]at hc;exact hc
   rw[d c];by_cases X:c∈l;{rw[ai X]}
   ·rw[af X];by_cases A:(y.C c).jc=true
    ·exfalso;rw[u c]at heq;refine X ((Y c).2 ⟨j9,A,?_⟩);have:e=0 \/e=1:=eB;rcases this with rfl|rfl
     {exact .inl heq};{exact .inr heq}
    ·simpa using A
  have f2:=f1.anew a k i (y.ms k) M;have a2:GN (Z.jO k (jZ i 3 (y.ms k))):=by
   refine a.jO k _ (λc e hc G heq _=> ?_);rw[M c e hc G heq];have H:=rz i (y.ms k) ((Z.C c).e e).2;exact⟨by simpa using H.st,λe=>absurd (by rw[H.pe];rfl) e⟩
  have b2:Ends (Z.jO k (jZ i 3 (y.ms k))):=⟨b.ds,b.p3,λj=>by
   show(j6 Z.R k _ j).n=3 \/Z.n<=j;by_cases e:j=k;{rw[e,iQ];exact .inl rfl}
   ·rw[iI _ _ e];exact b.rn j,b.en⟩
  exact(jN.jX true l f2 a2 b2 Q (λc hc=>⟨by show c<Z.nc;rw[V];exact((Y c).1 hc).1,by show(Z.C c).jc=_;rw[d c,ai hc];rfl⟩)).gather
theorem jN.iZ {y:ja} {D:Nat} (h:jN y)(Z:GN y)(Y:ki y D 0)(i:Int)(up:Bool):jN (y.iZ i up).1:=by
 unfold ja.iZ;split;{exact h}
 ·split;{exact h}
  ·rename_i ld
   exact(h.kd Z Y.oY i.toNat up eB (by cases hv:(y.C i.toNat).jc<;>cases up<;>simp_all)).gather
theorem jN.tick {y:ja} (h:jN y)(i:Int):jN (y.tick i).1:=by
 unfold ja.tick;split;{exact h};{exact(h.jO _ (nO.jn _ _)).gather}
theorem jN.deliver {y:ja} {D:Nat} (h:jN y)(Z:ki y D 0)(i d m:Int):jN (y.deliver i d m).1:=by
 unfold ja.deliver;split;{exact h};{exact(h.jE Z.oY _ _ _ eB eB).gather}
theorem jN.send {y:ja} (h:jN y)(f t:Int)(tx:List UInt8):jN (y.send f t tx).1:=by
 unfold ja.send;split;{exact h};{split;{exact h};{exact(h.jO _ (nO.kD _ _ _)).gather}}
theorem jN.jn {y:ja} (h:jN y):∀q,jN (y.jn q)
 |0=>h
 |q+1=>(jN.jn h q).tick _
theorem jN.j0 {y:ja} {D:Nat} (h:jN y)(X:ki y D 0)(Y:D<=890000000):∀q,q<=9->jN (y.j0 q)
 |0,_=>h
 |q+1,hq=>by
  have Z:=X.j0 Y q eB;exact((jN.j0 h X Y q eB).deliver Z (q:Int) 0 2000).deliver (Z.deliver eB (q:Int) 0 2000) (q:Int) 1 2000
theorem jN.turns {y:ja} {D:Nat} (h:jN y)(Z:ki y D 0)(Y:D<=810000000):∀t,t<=12->jN (y.turns t)
 |0,_=>h
 |t+1,ht=>(jN.turns h Z Y t eB).j0 (Z.turns Y t eB) eB y.nc Z.c9
theorem jN.round {y:ja} {D:Nat} (h:jN y)(Z:ki y D 0)(Y:D<=800000000):jN y.round:=
 (h.jn y.n).turns (Z.jn Y y.n Z.n6) (by have:=Z.n6;omega) 12 (Nat.le_refl _)
theorem jN.act(h:jN y)(Y:GN y)(Z:ki y D 0)(X:D<=800000000)(v:AV):jN (tT y v):=by
 unfold tT;split;{exact h.iZ Y Z _ _};{split;{exact h.tick _};{split;{exact h.deliver Z _ _ _};{split;{exact h.restart Y Z _};{split;{exact h.send _ _ _};{split;{exact h.round Z X};{exact h}}}}}}
theorem O0(many:Nat)(L:List pz):jN (j2 many L):=⟨λ_ _ _ _=>⟨rfl,λp Z=>by simp[kN,j2,nh]at Z⟩,λ_ _=>⟨[],Frames.nil⟩⟩
def jI.pt(p:jI)(rd:kP)(o:List UInt8):jI:={p with rd:=rd,out:=o++p.out}
def iW.pat(s:iW)(rd:Nat->kP)(os:Nat->List UInt8)(ib:List zD):iW:={s with P:=λp=>(s.P p).pt (rd p) (os p),kx:=ib++s.kx}
def iW.core(r:iW):iW:={r with P:=λp=>{r.P p with rd:=lZ,out:=[] },kx:=[] }
theorem Mp(s:iW)(rd:Nat->kP)(os:Nat->List UInt8)(ib:List zD):(s.pat rd os ib).core=s.core:=rfl
theorem xu(r:iW):r.core.pat (λp=>(r.P p).rd) (λp=>(r.P p).out) r.kx=r:=by
 unfold iW.pat iW.core jI.pt;simp only[ij]
theorem FI(p:jI)(rd:kP)(o:List UInt8)(c:UInt8)(s:List UInt8):(p.pt rd o).put c s=(p.put c s).pt rd o:=by
 unfold jI.put;have e:(p.pt rd o).L=p.L:=rfl;rw[e];split;{rfl};{split;{simp[jI.pt]};{rfl}}
theorem JW(rd:kP)(o:List UInt8):∀(l:List kZ) (p:jI),(p.pt rd o).say l=(p.say l).pt rd o
 |[],_=>rfl
 |q::r,p=>by
  show((if j4 q.1 q.2.1 q.2.2=0 then(p.pt rd o).put 76 (mV q.1 q.2.1 q.2.2)else p.pt rd o)).say r=((if j4 q.1 q.2.1 q.2.2=0 then p.put 76 (mV q.1 q.2.1 q.2.2)else p).say r).pt rd o;split;{rw[FI,JW rd o r]};{exact JW rd o r p}
theorem Qn(rd:kP)(o:List UInt8)(L:LS)(l:List kZ)(p:jI):({p.pt rd o with L:=L}:jI).say l=(({p with L:=L}:jI).say l).pt rd o:=JW rd o l {p with L:=L}
theorem IL(rd:kP)(o:List UInt8):∀(l:List (Int×PS)) (p:jI),(p.pt rd o).kU l=(p.kU l).pt rd o
 |[],_=>rfl
 |q::r,p=>by
  show((p.pt rd o).put 83 _).kU r=_;rw[FI,IL rd o r];rfl
theorem Z1(rd:kP)(o:List UInt8)(p:jI):(p.pt rd o).tick=p.tick.pt rd o:=Qn rd o _ _ p
theorem S1(rd:kP)(o:List UInt8)(p:jI)(s:List UInt8):(p.pt rd o).packet s=(p.packet s).pt rd o:=by
 unfold jI.packet;simp only;split;{exact Qn rd o _ _ p};{rfl}
section
variable (rd:Nat->kP) (os:Nat->List UInt8) (ib:List zD)
theorem uV(s:iW)(i:Nat)(q:jI):(s.pat rd os ib).jh i (q.pt (rd i) (os i))=(s.jh i q).pat rd os ib:=by
 unfold iW.jh iW.pat;congr 1
 funext p
 show lF _ i _ p=(lF s.P i q p).pt (rd p) (os p);by_cases e:p=i;{subst e;rw[jL,jL]};{rw[jG _ _ e,jG _ _ e]}
theorem BW(s:iW)(n:Int):∀k,j1 (s.pat rd os ib).P n k=j1 s.P n k
 |0=>rfl
 |k+1=>by
  have ih:=BW s n k;unfold j1;rw[ih];rfl
theorem FJ(s:iW):jJ (s.pat rd os ib)=jJ s:=by
 unfold jJ;congr 1
 funext j
 rw[BW];rfl
theorem FK(s:iW)(q:Int):(s.pat rd os ib).behind q=(s.behind q).pat rd os ib:=by
 unfold iW.behind;rw[FJ];split<;>rfl
theorem O1(s:iW):(s.pat rd os ib).change=s.change.pat rd os ib:=by
 unfold iW.change;rw[FJ,FK];show(if Bw s.K s.id=jJ s then s.pat rd os ib else(s.behind (y8 s.K s.id)).pat rd os ib)=_;split<;>rfl
theorem xw(s:iW)(i:Nat)(q:lK):(s.pat rd os ib).meet i q=(s.meet i q).pat rd os ib:=by
 have Z:(s.pat rd os ib).jh i {(s.pat rd os ib).P i with pe:=q}=(s.jh i {s.P i with pe:=q}).pat rd os ib:=uV rd os ib s i {s.P i with pe:=q};unfold iW.meet;simp only;rw[Z];have Y:=O1 rd os ib ({s.jh i {s.P i with pe:=q}with O:=λx=>if x=i then λ_=>ν else s.O x}:iW);show(if q.who=(s.P i).pe.who/\q.both=(s.P i).pe.both then _ else _)=_;split;{rfl};{have X:({(s.jh i {s.P i with pe:=q}).pat rd os ib with O:=λx=>if x=i then λ_=>ν else((s.jh i {s.P i with pe:=q}).pat rd os ib).O x}:iW).change=(({s.jh i {s.P i with pe:=q}with O:=λx=>if x=i then λ_=>ν else s.O x}:iW).change).pat rd os ib:=Y;rw[X];split<;>rfl}
theorem Mq(s:iW)(t:zD):(s.pat rd os ib).send t=(s.send t).pat rd os ib:=by
 unfold iW.send;have Z:(λh:HP=>j1 (s.pat rd os ib).P h.sj (s.pat rd os ib).n)=λh:HP=>j1 s.P h.sj s.n:=by
  funext h;exact BW rd os ib s h.sj s.n
 rw[Z];show(if t.1=s.id then _ else match (if 1<=t.2.1 then(Bl (lv s) t.1).bind λh=>j1 s.P h.sj s.n else none)with|none=>_|some i=>_)=_;split;{simp[iW.pat]}
 ·cases (if 1<=t.2.1 then(Bl (lv s) t.1).bind λh=>j1 s.P h.sj s.n else ν)with
  |none=>rfl
  |some i=>
   show(s.pat rd os ib).jh i (((s.P i).pt (rd i) (os i)).put 77 _)=_;rw[FI];exact uV rd os ib s i _
theorem S6(s:iW)(i:Nat)(l:List UInt8):jw (s.pat rd os ib) i l=(jw s i l).pat rd os ib:=by
 unfold jw;simp only;show(if(St.iB l).2.2.2≠0 \/(s.P i).pe.both=false then _ else if(St.iB l).1=s.id/\0<newF s.K (St.iB l).1 (St.iB l).2.1 (St.iB l).2.2.1 then _ else if 0<=newF s.K (St.iB l).1 (St.iB l).2.1 (St.iB l).2.2.1 then _ else _)=_;split;{rfl}
 ·split;{exact FK rd os ib s _}
  ·split
   ·obtain⟨x,hx⟩:∃x:iW,({s with K:=lQ s.K (St.iB l).1 (St.iB l).2.1 (St.iB l).2.2.1,O:=pw s.K s.O i (St.iB l).1 (St.iB l).2.1 (St.iB l).2.2.1}:iW)=x:=⟨_,rfl⟩
    have Z:(x.pat rd os ib).jh i (((x.P i).pt (rd i) (os i)).put 65 (rN (St.iB l).1 (St.iB l).2.1 (St.iB l).2.2.1))=(x.jh i ((x.P i).put 65 (rN (St.iB l).1 (St.iB l).2.1 (St.iB l).2.2.1))).pat rd os ib:=by
     rw[FI];exact uV rd os ib x i _
    rw[<-hx]at Z;exact Z
   ·rfl
theorem WU(s:iW)(i:Nat)(c:UInt8)(l:List UInt8):(s.pat rd os ib).take i c l=(s.take i c l).pat rd os ib:=by
 rw[l7,l7];have Z:kg (s.pat rd os ib) i c l=(kg s i c l).pat rd os ib:=by
  unfold kg;split;{show(s.pat rd os ib).jh i (((s.P i).pt (rd i) (os i)).packet l)=_;rw[S1];exact uV rd os ib s i _};{rfl}
 rw[Z];show(if((kg s i c l).P i).L.st≠9 then _ else _)=_;split;{exact xw rd os ib _ i _};{unfold mO;split;{split;{exact xw rd os ib _ i _};{rfl}};{split;{exact S6 rd os ib _ i l};{split;{unfold kQ;simp only;split<;>rfl};{split;{unfold rS;split;{exact Mq rd os ib _ _};{rfl}};{rfl}}}}}
theorem S7(s:iW)(i:Nat)(x:List UInt8):jY (s.pat rd os ib) i x=(jY s i x).pat rd os ib:=by
 cases x with
 |nil=>rfl
 |cons c l=>exact WU rd os ib s i c l
theorem BX:∀(l:List (List UInt8)) (s:iW) (i:Nat),(s.pat rd os ib).takes i l=(s.takes i l).pat rd os ib
 |[],_,_=>rfl
 |x::l,s,i=>by
  show(jY (s.pat rd os ib) i x).takes i l=((jY s i x).takes i l).pat rd os ib;rw[S7,BX l]
theorem S8(s:iW)(i:Nat):(s.pat rd os ib).jj i=(s.jj i).pat rd os ib:=by
 rw[lA,lA];have Z:jo (s.pat rd os ib) i=(jo s i).pat rd os ib:=by
  show(s.pat rd os ib).jh i (((s.P i).pt (rd i) (os i)).tick)=_;rw[Z1];exact uV rd os ib s i _
 rw[Z];show(if((jo s i).P i).L.st≠9 then _ else _)=_;split;{exact xw rd os ib _ i _}
 ·show mX (((jo s i).pat rd os ib).meet i (iV ((jo s i).P i).pe)) i=_;rw[xw];obtain⟨x,hx⟩:=fq ((jo s i).meet i (iV ((jo s i).P i).pe));rw[hx];have Y:∀p q:jI,(if(x.P i).pe.both=true then p.pt (rd i) (os i)else q.pt (rd i) (os i))=(if(x.P i).pe.both=true then p else q).pt (rd i) (os i):=λp q=>by split<;>rfl
  show(x.pat rd os ib).jh i (if(x.P i).pe.both=true then(((x.P i).pt (rd i) (os i)).put 72 _).kU (lV (x.O i))else((x.P i).pt (rd i) (os i)).put 72 _)=_;rw[FI,IL,Y];exact uV rd os ib x i _
theorem Mr(s:iW)(i:Nat)(up:Bool)(Z:(lr (s.P i).L (if up=true then 0 else 1)).2.2=0):((s.pat rd os ib).iZ i up).1=((s.iZ i up).1).pat (j6 rd i lZ) os ib:=by
 obtain⟨E,Y⟩:=fq (lr (s.P i).L (if up=true then 0 else 1));rw[Y]at Z;have e:∀p:jI,p.L=(s.P i).L->p.iZ up=(({p with L:=E.1,rd:=lZ}:jI).say E.2.1,0):=λp Q=>by
  unfold jI.iZ;rw[Q,Y];simp only;rw[af (by simp[Z])];rfl
 unfold iW.iZ;rw[e _ rfl,e ((s.pat rd os ib).P i) rfl];simp only;rw[af ik,af ik];have X:(({(s.pat rd os ib).P i with L:=E.1,rd:=lZ}:jI).say E.2.1)=((({s.P i with L:=E.1,rd:=lZ}:jI)).say E.2.1).pt lZ (os i):=
  JW lZ (os i) _ ({s.P i with L:=E.1,rd:=lZ}:jI)
 rw[X];obtain⟨q,M⟩:=fq ((({s.P i with L:=E.1,rd:=lZ}:jI)).say E.2.1);rw[M];have V:(s.pat rd os ib).jh i (q.pt lZ (os i))=(s.jh i q).pat (j6 rd i lZ) os ib:=by
  unfold iW.jh iW.pat;congr 1
  funext p
  show lF _ i _ p=(lF s.P i q p).pt (j6 rd i lZ p) (os p);by_cases e:p=i;{subst e;rw[jL,jL,iQ]};{rw[jG _ _ e,jG _ _ e,iI _ _ e]}
 rw[V,xw]
end
def isM(k:Nat)(tx:List UInt8):List UInt8->Bool
 |77::a::_::s=>a.toNat==k&&s==tx
 |_=>false
def cP(k:Nat)(tx:List UInt8)(ps:List (List UInt8)):Nat:=ps.countP (isM k tx)
def isI(k:Nat)(tx:List UInt8)(m:zD):Bool:=m.1==(k:Int)&&m.2.2==tx
def cI(k:Nat)(tx:List UInt8)(l:List zD):Nat:=l.countP (isI k tx)
def jz(p:jI):List (List UInt8):=(kN lZ p.out).1
theorem nD {p:jI} (h:Frames p.out ps):jz p=ps:=by
 unfold jz;rw[h.1,rV ps h.2]
def pc(k:Nat)(tx:List UInt8)(p:jI):Nat:=cP k tx (jz p)
theorem sS.fr {p q:jI} (h:sS p q)(Z:∃ps,Frames p.out ps):∃ps,Frames q.out ps:=by
 obtain⟨ps,X⟩:=Z;obtain⟨qs,Y⟩:=h.out ps X;exact⟨_,Y⟩
abbrev lD:=List UInt8
structure AN where
 n:Nat
 nc:Nat
 e:Nat->Nat->Nat×Nat
 ms:Nat->Nat->Int
 jc:Nat->Bool
 R:Nat->iW
 F:Nat->Nat->List lD
 ib:Nat->List zD
def uC(y:ja)(c d:Nat):List lD:=(kN (j8 y c d) ((y.C c).on d)).1++jz ((y.R ((y.C c).e d).1).P ((y.C c).e d).2)
def iT(y:ja):AN:=⟨y.n,y.nc,λc=>(y.C c).e,y.ms,λc=>(y.C c).jc,λi=>(y.R i).core,λc d=>if c<y.nc/\d<2 then uC y c d else [],λi=>y.kx i++(y.R i).kx⟩
def AN.op(a:AN)(i:Nat)(s:iW):AN:=
 {a with R:=j6 a.R i s.core,F:=λc d=>if(c<a.nc/\d<2)/\(a.e c d).1=i then a.F c d++jz (s.P (a.e c d).2)else a.F c d,ib:=j6 a.ib i (a.ib i++s.kx)}
def AN.lR(a:AN)(c d:Nat)(l:List lD):AN:={a with F:=λc' d'=>if c'=c/\d'=d then l else a.F c' d'}
def AN.pop(a:AN)(c d:Nat)(x:lD)(l:List lD):AN:=(a.lR c d l).op (a.e c (1-d)).1 (jY (a.R (a.e c (1-d)).1) (a.e c (1-d)).2 x)
def AN.nW(a:AN)(c d:Nat)(up:Bool):AN:=a.op (a.e c d).1 ((a.R (a.e c d).1).iZ (a.e c d).2 up).1
def AN.iZ(a:AN)(c:Nat)(up:Bool):AN:=((({a with jc:=j6 a.jc c up}:AN).lR c 0 []).lR c 1 []).nW c 0 up|>.nW c 1 up
def xx(a b:AN):Prop:=b={a with F:=b.F} /\∀c d,∃m,b.F c d=(a.F c d).take m
theorem xx.refl(a:AN):xx a a:=⟨rfl,λc d=>⟨(a.F c d).length,ik⟩⟩
theorem xx.trans {a b c:AN} (h:xx a b)(g:xx b c):xx a c:=by
 refine⟨?_,λx d=> ?_⟩;{rw[g.1,h.1]};{obtain⟨m,Y⟩:=h.2 x d;obtain⟨k,Z⟩:=g.2 x d;exact⟨min k m,by rw[Z,Y,List.take_take]⟩}
inductive ni:AN->List (Nat×Nat)->List (Int×List UInt8)->AN->Prop
 |lost {a b:AN}:xx a b->ni a [] [] b
 |tick {a:AN} (i p:Nat):i<a.n->p<3->ni a [(i,p)] [] (a.op i ((a.R i).jj p))
 |pop {a:AN} (c d:Nat) (x:lD) (l:List lD):c<a.nc->d<2->a.F c d=x::l->ni a [] [] (a.pop c d x l)
 |send {a:AN} (i:Nat) (t:Int) (tx:List UInt8):i<a.n->1<=t->t<=6->tx.length<=20->ni a [] [(t,tx)] (a.op i ((a.R i).send (t,8,tx)))
 |iZ {a:AN} (c:Nat):c<a.nc->a.jc c=false->a.F c 0=[]->a.F c 1=[]->ni a [a.e c 0,a.e c 1] [] (a.iZ c true)
 |draw {a:AN} (c:Nat):c<a.nc->a.jc c=true->ni a [] [] (a.iZ c false)
 |anew {a:AN} (i m:Nat):i<a.n->(∀c d,c<a.nc->d<2->(a.e c d).1=i->a.jc c=false/\a.F c 0=[] /\a.F c 1=[])->ni a [] [] {a with R:=j6 a.R i (jZ ((i:Int)+1) 3 (a.ms i)),ib:=j6 a.ib i ((a.ib i).take m)}
inductive j5:AN->List (Nat×Nat)->List (Int×List UInt8)->AN->Prop
 |nil (a:AN):j5 a [] [] a
 |snoc {a b c:AN} {T U:List (Nat×Nat)} {S V:List (Int×List UInt8)}:j5 a T S b->ni b U V c->j5 a (T++U) (S++V) c
theorem j5.one {a b:AN} (h:ni a T S b):j5 a T S b:=j5.snoc (j5.nil a) h
theorem j5.trans {a b c:AN} {V:List (Int×List UInt8)} (h:j5 a T S b)(g:j5 b U V c):j5 a (T++U) (S++V) c:=by
 induction g with
 |nil=>simpa using h
 |snoc _ s ih=>rw[<-aD,<-aD];exact ih.snoc s
theorem j5.lost {a b c:AN} {T:List (Nat×Nat)} {S:List (Int×List UInt8)} (h:j5 a T S b)(g:xx b c):j5 a T S c:=by
 have:=h.snoc (ni.lost g);simpa using this
theorem ni.same {a b:AN} (h:ni a T S b):b.n=a.n/\b.nc=a.nc/\b.e=a.e/\b.ms=a.ms:=by
 cases h with
 |lost h=>rw[h.1];exact⟨rfl,rfl,rfl,rfl⟩
 |_=>exact⟨rfl,rfl,rfl,rfl⟩
theorem j5.same {a b:AN} {T:List (Nat×Nat)} {S:List (Int×List UInt8)} (h:j5 a T S b):b.n=a.n/\b.nc=a.nc/\b.e=a.e/\b.ms=a.ms:=by
 induction h with
 |nil=>exact⟨rfl,rfl,rfl,rfl⟩
 |snoc _ s ih=>
  obtain⟨Z,Y,X,V⟩:=s.same;exact⟨Z.trans ih.1,Y.trans ih.2.1,X.trans ih.2.2.1,V.trans ih.2.2.2⟩
theorem AN.ext' {a b:AN} (Z:a.n=b.n)(Y:a.nc=b.nc)(X:a.e=b.e)(V:a.ms=b.ms)(Q:a.jc=b.jc)(M:a.R=b.R)(J:a.F=b.F)(H:a.ib=b.ib):a=b:=by
 cases a;cases b;simp only at*;subst Z Y X V Q M J H;rfl
theorem Ax {p:jI} {o:List UInt8} {ps:List lD} (Y:Frames o ps)(X:∃qs,Frames p.out qs)(rd:kP):jz (p.pt rd o)=ps++jz p/\∃qs,Frames (p.pt rd o).out qs:=by
 obtain⟨qs,Z⟩:=X;have h:Frames (p.pt rd o).out (ps++qs):=by
  refine⟨?_,λx hx=> ?_⟩;{show o++p.out=_;rw[Y.1,Z.1,cA]}
  ·rcases av.1 hx with e|e
   {exact Y.2 x e};{exact Z.2 x e}
 exact⟨by rw[nD h,nD Z],_,h⟩
theorem jM {p:jI} (h:p.out=[]):jz p=[] :=by unfold jz;rw[h];rfl
theorem JX {p:jI} (h:∃ps,Frames p.out ps):Frames p.out (jz p):=by
 obtain⟨ps,Z⟩:=h;rw[nD Z];exact Z
theorem JY(hF:∀i p,∃ps,Frames ((y.R i).P p).out ps)(i:Nat) {s r:iW} (rd:Nat->kP)(X:r=s.pat rd (λp=>((y.R i).P p).out) (y.R i).kx)(V:∀c d,c<y.nc->d<2->((y.C c).e (1-d)).1=i->rd ((y.C c).e (1-d)).2=((y.R i).P ((y.C c).e (1-d)).2).rd \/(y.C c).on d=[])(hs:∀p,∃ps,Frames (s.P p).out ps):iT (y.jO i r)=(iT y).op i s:=by
 have Y:∀j,(y.jO i r).R j=if j=i then r else y.R j:=λj=>rfl
 refine AN.ext' rfl rfl rfl rfl rfl ?_ ?_ ?_
 ·funext j
  show((y.jO i r).R j).core=j6 _ i s.core j;rw[Y];by_cases e:j=i;{subst e;rw[ai rfl,iQ,X,Mp]};{rw[af e,iI _ _ e];rfl}
 ·funext c d
  show(if c<y.nc/\d<2 then uC (y.jO i r) c d else [])=if(c<y.nc/\d<2)/\((y.C c).e d).1=i then(if c<y.nc/\d<2 then uC y c d else [])++jz (s.P ((y.C c).e d).2)else if c<y.nc/\d<2 then uC y c d else []
  by_cases hc:c<y.nc/\d<2
  ·rw[ai hc,ai hc];have hf:(kN (j8 (y.jO i r) c d) ((y.C c).on d)).1=(kN (j8 y c d) ((y.C c).on d)).1:=by
    have Z:j8 (y.jO i r) c d=j8 y c d \/(y.C c).on d=[] :=by
     show(((y.jO i r).R ((y.C c).e (1-d)).1).P ((y.C c).e (1-d)).2).rd=_ \/_;rw[Y];by_cases e:((y.C c).e (1-d)).1=i;{rw[ai e,X];unfold j8;rw[e];exact V c d hc.1 hc.2 e};{rw[af e];exact .inl rfl}
    rcases Z with Z|Z
    {rw[Z]};{rw[Z];rfl}
   unfold uC;show(kN (j8 (y.jO i r) c d) ((y.C c).on d)).1++_=_;rw[hf];show(kN (j8 y c d) ((y.C c).on d)).1++jz (((y.jO i r).R ((y.C c).e d).1).P ((y.C c).e d).2)=_;rw[Y];by_cases e:((y.C c).e d).1=i;{rw[ai e,ai ⟨hc,e⟩,X,e];obtain⟨ps,Q⟩:=hF i ((y.C c).e d).2;have M:=(Ax Q (hs ((y.C c).e d).2) (rd ((y.C c).e d).2)).1;show _++jz ((s.P ((y.C c).e d).2).pt _ _)=_;rw[M,nD Q,aD]};{rw[af e,af (λh=>e h.2)]}
  ·rw[af hc,af (λh=>hc h.1),af hc]
 ·funext j
  show y.kx j++((y.jO i r).R j).kx=j6 _ i _ j;rw[Y];by_cases e:j=i;{subst e;rw[ai rfl,iQ,X];show y.kx j++((y.R j).kx++s.kx)=(y.kx j++(y.R j).kx)++s.kx;rw[aD]};{rw[af e,iI _ _ e];rfl}
theorem WV(hF:∀i p,∃ps,Frames ((y.R i).P p).out ps)(i:Nat) {s r:iW} (Z:r=s.pat (λp=>((y.R i).P p).rd) (λp=>((y.R i).P p).out) (y.R i).kx)(hs:∀p,∃ps,Frames (s.P p).out ps):iT (y.jO i r)=(iT y).op i s:=JY hF i _ Z (λ_ _ _ _ _=>.inl rfl) hs
def Room(y:ja):Prop:=∀c d,c<y.nc->d<2->((y.R ((y.C c).e d).1).P ((y.C c).e d).2).out=[] \/((y.C c).jc=true/\((y.C c).on d).length+((y.R ((y.C c).e d).1).P ((y.C c).e d).2).out.length<=2000)
theorem DS(y:ja)(c d x f:Nat):((y.lz c d).C x).on f=(if x=c/\f=d/\(y.C c).jc=true/\((y.C c).on d).length+((y.R ((y.C c).e d).1).P ((y.C c).e d).2).out.length<=2000 then(y.C c).on d++((y.R ((y.C c).e d).1).P ((y.C c).e d).2).out else(y.C x).on f):=by
 show((if x=c then(y.C c).put d _ else y.C x):qX).on f=_;by_cases ex:x=c
 ·rw[ai ex];subst ex;unfold qX.put;split
  ·rename_i h
   show j6 (y.C x).on d _ f=_;by_cases ed:f=d;{subst ed;rw[iQ,ai ⟨rfl,rfl,h⟩]};{rw[iI _ _ ed,af (λq=>ed q.2.1)]}
  ·rename_i h
   rw[af (λq=>h q.2.2)]
 ·rw[af ex,af (λq=>ex q.1)]
theorem Ms(hF:jN y)(u:Ends y)(c d:Nat)(hc:c<y.nc)(hd:d<2):xx (iT y) (iT (y.lz c d))/\(Room y->iT (y.lz c d)=iT y/\Room (y.lz c d)):=by
 have X:∀x,((y.lz c d).C x).e=(y.C x).e:=λx=>((nt y c d).2.2.2.2 x).1;have hi:∀x,((y.lz c d).C x).jc=(y.C x).jc:=λx=>((nt y c d).2.2.2.2 x).2;have hR:∀j,((y.lz c d).R j)=if j=((y.C c).e d).1 then(y.R j).out ((y.C c).e d).2 else y.R j:=λj=>by
  show j6 y.R ((y.C c).e d).1 _ j=_;by_cases e:j=((y.C c).e d).1;{subst e;rw[iQ,ai rfl]};{rw[iI _ _ e,af e]}
 have Q:∀j,((y.lz c d).R j).core=(y.R j).core:=λj=>by
  rw[hR];split
  ·show iW.core (iW.jh _ _ _)=_;unfold iW.core iW.jh;congr 1
   funext p
   show({lF (y.R j).P ((y.C c).e d).2 {(y.R j).P ((y.C c).e d).2 with out:=[] } p with rd:=lZ,out:=[] }:jI)=_;by_cases e:p=((y.C c).e d).2;{rw[e,jL]};{rw[jG _ _ e]}
  ·rfl
 have M:∀j,((y.lz c d).R j).kx=(y.R j).kx:=λj=>by
  rw[hR];split<;>rfl
 have V:∀j p,((y.lz c d).R j).P p=if(y.C c).e d=(j,p)then {(y.R j).P p with out:=[] }else(y.R j).P p:=λj p=>BM y c d j p
 have vp:∀x f,j8 (y.lz c d) x f=j8 y x f:=λx f=>by
  unfold j8;rw[X,V];split<;>rfl
 have A:∀x f,x<y.nc->f<2->¬(x=c/\f=d)->uC (y.lz c d) x f=uC y x f:=λx f hx hf hn=>by
  unfold uC;rw[vp,X,DS,af (λq=>hn ⟨q.1,q.2.1⟩),V,af (λq=>hn (u.ds x f c d hx hf hc hd q.symm))]
 have hq:=(hF.q c d hc hd).1;obtain⟨ps,H⟩:=hF.o ((y.C c).e d).1 ((y.C c).e d).2;have h0:jz (((y.lz c d).R ((y.C c).e d).1).P ((y.C c).e d).2)=[] :=jM (by rw[V,ai rfl]);have Y:uC (y.lz c d) c d=(if(y.C c).jc=true/\((y.C c).on d).length+((y.R ((y.C c).e d).1).P ((y.C c).e d).2).out.length<=2000 then uC y c d else(kN (j8 y c d) ((y.C c).on d)).1):=by
  unfold uC;rw[vp,X,h0,aB,DS];split
  ·rename_i h
   rw[ai h.2.2,rR,hq,nD H];rw[H.1,rV ps H.2]
  ·rename_i h
   rw[af (λq=>h ⟨rfl,rfl,q⟩)]
 have E:∀G:Nat->Nat->List lD,(∀x f,(if x<y.nc/\f<2 then uC (y.lz c d) x f else [])=G x f)->iT (y.lz c d)={iT y with F:=G}:=λG hG=>by
  refine AN.ext' rfl rfl (funext X) rfl (funext hi) (funext Q) ?_ (funext λj=> ?_);{funext x f;exact hG x f};{show y.kx j++((y.lz c d).R j).kx=_;rw[M];rfl}
 refine⟨⟨?_,λx f=> ?_⟩,λhr=>⟨?_,λx f hx hf=> ?_⟩⟩;{exact E _ λ_ _=>rfl}
 ·show∃m,(if x<y.nc/\f<2 then uC (y.lz c d) x f else [])=(if x<y.nc/\f<2 then uC y x f else []).take m;split
  ·rename_i Z
   by_cases e:x=c/\f=d;{obtain⟨rfl,rfl⟩:=e;rw[Y];split;{exact⟨(uC y x f).length,ik⟩};{exact⟨(kN (j8 y x f) ((y.C x).on f)).1.length,by unfold uC;simp⟩}};{rw[A x f Z.1 Z.2 e];exact⟨(uC y x f).length,ik⟩}
  ·exact⟨0,rfl⟩
 ·refine E (iT y).F λx f=> ?_;show _=if x<y.nc/\f<2 then uC y x f else []
  split
  ·rename_i Z
   by_cases e:x=c/\f=d
   ·obtain⟨rfl,rfl⟩:=e;rw[Y];rcases hr x f hc hd with J|J
    {split;{rfl};{unfold uC;rw[jM J,aB]}};{rw[ai J]}
   ·exact A x f Z.1 Z.2 e
  ·rfl
 ·rw[X,V,hi,DS];by_cases e:x=c/\f=d;{obtain⟨rfl,rfl⟩:=e;rw[ai rfl];exact .inl rfl};{rw[af (λq=>e (u.ds x f c d hx hf hc hd q.symm)),af (λq=>e ⟨q.1,q.2.1⟩)];exact hr x f hx hf}
theorem Ends.same(h:Ends y)(X:y'.n=y.n)(Y:y'.nc=y.nc)(Z:∀c,(y'.C c).e=(y.C c).e)(V:∀i,(y'.R i).n=(y.R i).n):Ends y':=
 ⟨λc d c' d'=>by rw[Y,Z,Z];exact h.ds c d c' d',λc d=>by rw[Y,Z];exact h.p3 c d,λi=>by rw[V,X];exact h.rn i,λc d=>by rw[Y,Z,X];exact h.en c d⟩
theorem Ends.lz {y:ja} (h:Ends y)(c d:Nat):Ends (y.lz c d):=h.same (nt y c d).1 (nt y c d).2.1 (λx=>((nt y c d).2.2.2.2 x).1) λj=>by
 show(j6 y.R ((y.C c).e d).1 _ j).n=_;by_cases e:j=((y.C c).e d).1;{subst e;rw[iQ];rfl};{rw[iI _ _ e]}
theorem Mt {y:ja} (hF:jN y)(X:Ends y):∀k,k<=y.nc->(Ends (y.kh k)/\xx (iT y) (iT (y.kh k)))/\(Room y->iT (y.kh k)=iT y/\Room (y.kh k))
 |0,_=>⟨⟨X,xx.refl _⟩,λh=>⟨rfl,h⟩⟩
 |k+1,hk=>by
  obtain⟨⟨Z,l1⟩,r1⟩:=Mt hF X k eB;have f1:=jN.kh hF k eB;have n1:(y.kh k).nc=y.nc:=(kj y k).2.1;obtain⟨l2,M⟩:=Ms f1 Z k 0 (by rw[n1];omega) eF;have Y:=Z.lz k 0;have f2:=f1.lz k 0 (by rw[n1];omega);obtain⟨V,J⟩:=Ms f2 Y k 1 (by show k<(y.kh k).nc;rw[n1];omega) eF;refine⟨⟨Y.lz k 1,l1.trans (l2.trans V)⟩,λh=> ?_⟩;obtain⟨q1,s1⟩:=r1 h;obtain⟨q2,H⟩:=M s1;obtain⟨Q,G⟩:=J H;exact⟨Q.trans (q2.trans q1),G⟩
theorem Mu(y:ja):∀k,iT (y.nA k)=iT y
 |0=>rfl
 |k+1=>by
  rw[<-Mu y k];obtain⟨z,Y⟩:=fq (y.nA k);show iT ((y.nA k).yy k)=iT (y.nA k);rw[Y];have Z:∀j,((z.yy k).R j).P=(z.R j).P:=λj=>by
   show(j6 z.R k {z.R k with kx:=[] } j).P=_;by_cases e:j=k;{subst e;rw[iQ]};{rw[iI _ _ e]}
  refine AN.ext' rfl rfl rfl rfl rfl (funext λj=> ?_) (funext λc=>funext λd=> ?_) (funext λj=> ?_);{show(j6 z.R k {z.R k with kx:=[] } j).core=_;by_cases e:j=k;{subst e;rw[iQ];rfl};{rw[iI _ _ e];rfl}};{show(if c<z.nc/\d<2 then(kN (((z.yy k).R _).P _).rd _).1++jz (((z.yy k).R _).P _)else [])=_;rw[Z,Z];rfl};{show j6 z.kx k (z.kx k++(z.R k).kx) j++(j6 z.R k {z.R k with kx:=[] } j).kx=z.kx j++(z.R j).kx;by_cases e:j=k;{subst e;rw[iQ,iQ];simp};{rw[iI _ _ e,iI _ _ e]}}
theorem qb(hF:jN y)(Z:Ends y):xx (iT y) (iT y.gather)/\(Room y->iT y.gather=iT y):=by
 obtain⟨⟨_,l⟩,r⟩:=Mt hF Z y.nc (Nat.le_refl _);unfold ja.gather;rw[Mu];exact⟨l,λh=>(r h).1⟩
theorem vZ(a:AN)(i:Nat)(s:iW)(c d:Nat):(a.op i s).F c d=if(c<a.nc/\d<2)/\(a.e c d).1=i then a.F c d++jz (s.P (a.e c d).2)else a.F c d:=rfl
theorem S9(a:AN)(i:Nat)(s:iW):(a.op i s).e=a.e:=rfl
theorem ahV(a:AN)(i:Nat)(s:iW):(a.op i s).nc=a.nc:=rfl
theorem tK(a:AN)(c d:Nat)(l:List lD)(x f:Nat):(a.lR c d l).F x f=if x=c/\f=d then l else a.F x f:=rfl
theorem zq(a:AN)(c d:Nat)(l:List lD):(a.lR c d l).e=a.e:=rfl
theorem DT(a:AN)(c d:Nat)(l:List lD):(a.lR c d l).nc=a.nc:=rfl
def Norm(a:AN):Prop:=∀i,(a.R i).core=a.R i
theorem xy(y:ja):Norm (iT y):=λ_=>rfl
theorem rI {a:AN} (h:Norm a)(i:Nat)(s:iW):Norm (a.op i s):=λj=>by
 show(j6 a.R i s.core j).core=j6 a.R i s.core j;by_cases e:j=i;{subst e;rw[iQ];rfl};{rw[iI _ _ e];exact h j}
theorem Norm.out {a:AN} (h:Norm a)(i p:Nat):((a.R i).P p).out=[] :=by rw[<-h i];rfl
theorem Norm.kx {a:AN} (h:Norm a)(i:Nat):(a.R i).kx=[] :=by rw[<-h i];rfl
theorem nO.frN {r s:iW} (h:nO r s)(Y:∀p,(r.P p).out=[]):∀p,∃ps,Frames (s.P p).out ps:=λp=>by
 obtain⟨qs,Z⟩:=h.out p [] (by rw[Y p];exact Frames.nil);exact⟨_,Z⟩
theorem nO.jY(r:iW)(i:Nat)(x:lD):nO r (jY r i x):=by
 cases x with
 |nil=>exact nO.refl r
 |cons c s=>exact nO.take r i c s
theorem ahX(a:AN)(i:Nat)(s t:iW)(rd:Nat->kP)(hs:∀p,∃ps,Frames (s.P p).out ps)(Z:∀p,∃ps,Frames (t.P p).out ps):(a.op i s).op i t=a.op i (t.pat rd (λp=>(s.P p).out) s.kx):=by
 refine AN.ext' rfl rfl rfl rfl rfl (funext λj=> ?_) (funext λc=>funext λd=> ?_) (funext λj=> ?_);{show j6 (j6 a.R i s.core) i t.core j=j6 a.R i t.core j;by_cases e:j=i;{subst e;rw[iQ,iQ]};{rw[iI _ _ e,iI _ _ e,iI _ _ e]}};{rw[vZ,vZ,vZ,S9,ahV];by_cases e:(c<a.nc/\d<2)/\(a.e c d).1=i;{rw[ai e,ai e,ai e,aD];congr 1;exact(Ax (JX (hs _)) (Z _) _).1.symm};{rw[af e,af e,af e]}};{show j6 (j6 a.ib i (a.ib i++s.kx)) i (j6 a.ib i (a.ib i++s.kx) i++t.kx) j=j6 a.ib i (a.ib i++(s.kx++t.kx)) j;by_cases e:j=i;{subst e;rw[iQ,iQ,iQ,aD]};{rw[iI _ _ e,iI _ _ e,iI _ _ e]}}
inductive zr(c d:Nat):List lD->AN->AN->Prop
 |nil (a:AN):zr c d [] a a
 |cons {a b:AN} {x:lD} {l r:List lD}:c<a.nc->d<2->a.F c d=x::r->zr c d l (a.pop c d x r) b->zr c d (x::l) a b
theorem zr.path {l:List lD} {a b:AN} (h:zr c d l a b):j5 a [] [] b:=by
 induction h with
 |nil a=>exact j5.nil a
 |cons Z Y X _ ih=>exact(j5.one (ni.pop _ _ _ _ Z Y X)).trans ih
theorem aen:∀(l rest:List lD) (a:AN) (c d:Nat),Norm a->c<a.nc->d<2->a.F c d=l++rest->zr c d l a ((a.lR c d rest).op (a.e c (1-d)).1 ((a.R (a.e c (1-d)).1).takes (a.e c (1-d)).2 l))
 |[],rest,a,c,d,hN,hc,hd,hF=>by
  have H:(a.lR c d rest).op (a.e c (1-d)).1 ((a.R (a.e c (1-d)).1).takes (a.e c (1-d)).2 [])=a:=by
   refine AN.ext' rfl rfl rfl rfl rfl ?_ (funext λx=>funext λf=> ?_) ?_;{show j6 a.R _ (a.R _).core=_;rw[hN];exact wU _ _}
   ·show(if _/\_ then(if x=c/\f=d then rest else a.F x f)++jz _ else if x=c/\f=d then rest else a.F x f)=_;have G:(if x=c/\f=d then rest else a.F x f)=a.F x f:=by
     split;{rename_i h;rw[h.1,h.2,hF];rfl};{rfl}
    rw[G];split;{show _++jz ((a.R _).P _)=_;rw[jM (hN.out _ _),aB]};{rfl}
   ·show j6 a.ib _ (a.ib _++(a.R _).kx)=_;rw[hN.kx,aB];exact wU _ _
  rw[H];exact zr.nil a
 |x::l,rest,a,c,d,hN,hc,hd,hF=>by
  obtain⟨i,hi⟩:=fq ((a.e c (1-d)).1);obtain⟨p,Q⟩:=fq ((a.e c (1-d)).2);have hs:=(nO.jY (a.R i) p x).frN (hN.out i);obtain⟨s,Z⟩:=fq (jY (a.R i) p x);have u:a.pop c d x (l++rest)=(a.lR c d (l++rest)).op i s:=by unfold AN.pop;rw[hi,Q,Z]
  rw[Z]at hs;have M:Norm ((a.lR c d (l++rest)).op i s):=rI (a:=a.lR c d (l++rest)) hN i s;have V:(if c=c/\d=d then l++rest else a.F c d)=l++rest:=ai ⟨rfl,rfl⟩;have J:((a.lR c d (l++rest)).op i s).F c d=l++(if(c<a.nc/\d<2)/\(a.e c d).1=i then rest++jz (s.P (a.e c d).2)else rest):=by
   show(if(c<a.nc/\d<2)/\(a.e c d).1=i then(if c=c/\d=d then l++rest else a.F c d)++jz (s.P (a.e c d).2)else(if c=c/\d=d then l++rest else a.F c d))=_;rw[V];split<;>simp
  have ih:=aen l _ _ c d M hc hd J;have X:((a.lR c d (l++rest)).op i s).R i=s.core:=iQ _ _ _;have Y:=ih;have A:((a.lR c d (l++rest)).op i s).e=a.e:=rfl;rw[A,hi,Q,X]at Y;have E:(((a.lR c d (l++rest)).op i s).lR c d (if(c<a.nc/\d<2)/\(a.e c d).1=i then rest++jz (s.P (a.e c d).2)else rest))=(a.lR c d rest).op i s:=by
   refine AN.ext' rfl rfl rfl rfl rfl rfl (funext λy=>funext λf=> ?_) rfl;rw[tK,vZ,vZ,tK,tK,zq,zq,DT,DT];by_cases e:y=c/\f=d;{rw[ai e,ai e,e.1,e.2]};{rw[af e,af e,af e]}
  rw[E,ahX _ _ _ _ (λq=>(s.P q).rd) hs ((nO.takes l s.core p).frN λ_=>rfl),<-BX,xu]at Y;rw[hi,Q];show zr c d (x::l) a ((a.lR c d rest).op i ((jY (a.R i) p x).takes p l));rw[Z];exact zr.cons (r:=l++rest) hc hd hF (by rw[u];exact Y)
theorem FL(hF:jN y)(hE:Ends y)(c d k:Nat)(hc:c<y.nc)(hd:d<2):∃l rest,uC y c d=l++rest/\l=(kN (j8 y c d) (((y.C c).on d).take k)).1/\iT (y.jE c d k)=((iT y).lR c d rest).op ((y.C c).e (1-d)).1 (((y.R ((y.C c).e (1-d)).1).core).takes ((y.C c).e (1-d)).2 l):=by
 obtain⟨i,hi⟩:=fq (((y.C c).e (1-d)).1);obtain⟨p,V⟩:=fq (((y.C c).e (1-d)).2);obtain⟨A,hA⟩:=fq (kN ((y.R i).P p).rd (((y.C c).on d).take k));have H:j8 y c d=((y.R i).P p).rd:=by unfold j8;rw[hi,V]
 have M:(kN (j8 y c d) ((y.C c).on d)).1=A.1++(kN A.2.2 (((y.C c).on d).drop k)).1:=by
  have:=rR (j8 y c d) (((y.C c).on d).take k) (((y.C c).on d).drop k);rw[cL,H,hA]at this;rw[H,this]
 refine⟨A.1,(kN A.2.2 (((y.C c).on d).drop k)).1++jz ((y.R ((y.C c).e d).1).P ((y.C c).e d).2),?_,by rw[H,hA],?_⟩;{unfold uC;rw[M,aD]}
 rw[hi,V];have X:(y.R i).recv p (((y.C c).on d).take k)=(((y.R i).core).takes p A.1).pat (j6 (λq=>((y.R i).P q).rd) p A.2.2) (λq=>((y.R i).P q).out) (y.R i).kx:=by
  rw[<-BX];unfold iW.recv;simp only;rw[hA];congr 1;unfold iW.jh iW.pat iW.core jI.pt;simp only[ij];congr 1
  funext q
  by_cases e:q=p;{subst e;rw[jL,iQ]};{rw[jG _ _ e,iI _ _ e]}
 have hs:=(nO.takes A.1 (y.R i).core p).frN λ_=>rfl;obtain⟨s,u⟩:=fq (((y.R i).core).takes p A.1);rw[u]at X hs⊢;have Q:∀j,(y.jE c d k).R j=if j=i then(y.R i).recv p (((y.C c).on d).take k)else y.R j:=λj=>by
  unfold ja.jE;rw[hi,V];rfl
 have Y:∀x,((y.jE c d k).C x).e=(y.C x).e:=λx=>((rT y c d k).2.2.2 x).1;have E:∀x e,((y.jE c d k).C x).on e=if x=c/\e=d then((y.C c).on d).drop k else(y.C x).on e:=λx e=>by
  show((if x=c then {y.C c with on:=j6 (y.C c).on d (((y.C c).on d).drop k)}else y.C x):qX).on e=_;by_cases ex:x=c;{rw[ai ex];show j6 (y.C c).on d _ e=_;by_cases ed:e=d;{rw[ed,iQ,ai ⟨ex,rfl⟩]};{rw[iI _ _ ed,af (λh=>ed h.2),ex]}};{rw[af ex,af (λh=>ex h.1)]}
 refine AN.ext' rfl rfl (funext Y) rfl (funext λx=>FG y c d k x) (funext λj=> ?_) (funext λx=>funext λf=> ?_) (funext λj=> ?_);{show((y.jE c d k).R j).core=j6 _ i s.core j;rw[Q];by_cases e:j=i;{subst e;rw[ai rfl,iQ,X,Mp]};{rw[af e,iI _ _ e];rfl}}
 ·show(if x<y.nc/\f<2 then uC (y.jE c d k) x f else [])=if(x<y.nc/\f<2)/\((y.C x).e f).1=i then(if x=c/\f=d then _ else if x<y.nc/\f<2 then uC y x f else [])++jz (s.P ((y.C x).e f).2)else if x=c/\f=d then _ else if x<y.nc/\f<2 then uC y x f else []
  by_cases hx:x<y.nc/\f<2
  ·rw[ai hx];have hq:uC (y.jE c d k) x f=(if x=c/\f=d then(kN A.2.2 (((y.C c).on d).drop k)).1 else(kN (j8 y x f) ((y.C x).on f)).1)++(if((y.C x).e f).1=i then jz ((y.R ((y.C x).e f).1).P ((y.C x).e f).2)++jz (s.P ((y.C x).e f).2)else jz ((y.R ((y.C x).e f).1).P ((y.C x).e f).2)):=by
    unfold uC;congr 1
    ·unfold j8;rw[Y,Q,E];by_cases e:x=c/\f=d
     ·rw[ai e,ai e,e.1,e.2,hi,ai rfl,X,V];have:((s.pat (j6 (λq=>((y.R i).P q).rd) p A.2.2) (λq=>((y.R i).P q).out) (y.R i).kx).P p).rd=A.2.2:=by
       show j6 (λq=>((y.R i).P q).rd) p A.2.2 p=_;rw[iQ]
      rw[this]
     ·rw[af e,af e];by_cases Z:((y.C x).e (1-f)).1=i
      ·have J:((y.C x).e (1-f)).2≠p:=λJ=>by
        have:=hE.ds x (1-f) c (1-d) hx.1 eB hc eB (aU (Z.trans hi.symm) (J.trans V.symm));exact e ⟨this.1,eB⟩
       rw[ai Z,X,Z];have:((s.pat (j6 (λq=>((y.R i).P q).rd) p A.2.2) (λq=>((y.R i).P q).out) (y.R i).kx).P ((y.C x).e (1-f)).2).rd=((y.R i).P ((y.C x).e (1-f)).2).rd:=by
        show j6 (λq=>((y.R i).P q).rd) p A.2.2 ((y.C x).e (1-f)).2=_;rw[iI _ _ J]
       rw[this]
      ·rw[af Z]
    ·rw[Y,Q];by_cases Z:((y.C x).e f).1=i;{rw[ai Z,ai Z,X,Z];obtain⟨ps,G⟩:=hF.o i ((y.C x).e f).2;show jz ((s.P ((y.C x).e f).2).pt _ _)=_;rw[(Ax G (hs _) _).1,nD G]};{rw[af Z,af Z]}
   rw[hq];by_cases e:x=c/\f=d;{rw[ai e,ai e,<-e.1,<-e.2];by_cases Z:((y.C x).e f).1=i;{rw[ai Z,ai ⟨hx,Z⟩,aD]};{rw[af Z,af (λh=>Z h.2)]}};{rw[af e,af e,ai hx];unfold uC;by_cases Z:((y.C x).e f).1=i;{rw[ai Z,ai ⟨hx,Z⟩,aD]};{rw[af Z,af (λh=>Z h.2)]}}
  ·rw[af hx,af (λh=>hx h.1),af (λh=>hx ⟨by rw[h.1];exact hc,by rw[h.2];exact hd⟩),af hx]
 ·show y.kx j++((y.jE c d k).R j).kx=j6 _ i _ j;rw[Q];by_cases e:j=i;{subst e;rw[ai rfl,iQ,X];show y.kx j++((y.R j).kx++s.kx)=(y.kx j++(y.R j).kx)++s.kx;rw[aD]};{rw[af e,iI _ _ e];rfl}
theorem WX:((ft 10).all λs=>(lO s 1).1.all λc=>c==115||c==100)=true:=by decide+kernel
theorem Mv(zJ:kZ):∀(l:List UInt8) (s:LS),l.all (λc=>c==115||c==100)=true->yI l s zJ=[]
 |[],_,_=>rfl
 |c::r,s,h=>by
  rw[List.all_cons,Bool.and_eq_true]at h;show Gz c s zJ++yI r _ zJ=[]
  rw[Mv zJ r _ h.2,aB];have Z:c=115 \/c=100:=by simpa using h.1
  rcases Z with rfl|rfl<;>rfl
theorem Mw(h:uU s.st=true):(lr s 1).2.1=[] :=by
 obtain⟨k,V,Y⟩:=DR h;have Z:=(ug h).1;have e:lr s 1=tO s 1 (0,0,[]):=rfl;rw[e]at Z⊢;have X:(jv s.st 1).2.2=0:=by
  by_cases g:(jv s.st 1).2.2=0;{exact g};{rw[wB _ g]at Z;exact absurd Z g}
 rw[uo _ X];show yI (jv s.st 1).1 _ _=[]
 rw[V,show jv (k:Int) 1=lO k 1 from nQ k 1 Y eF];exact Mv _ _ _ (aZ.1 WX k (aN.2 Y))
theorem JZ(r:iW)(p:Nat)(up:Bool)(q:Nat)(Z:q≠p):((r.iZ p up).1.P q).out=(r.P q).out:=by
 unfold iW.iZ;simp only;split;{rfl};{rw[(nr _ p nobody).2.2.2];rw[jG _ _ Z];show(lF r.P p _ q).out=_;rw[jG _ _ Z]}
theorem FN {r:iW} (h:uU (r.P p).L.st=true):((r.iZ p false).1.P p).out=(r.P p).out:=by
 unfold iW.iZ jI.iZ;simp only[Bool.false_eq_true,if_false];rw[Mw h,(ug h).1];simp only[ne_eq,not_true_eq_false,if_false];rw[(nr _ p nobody).2.2.2,jL];show(lF r.P p _ p).out=_;rw[jL];rfl
theorem Qo(h:if(!up)=true then uU L.st=true else L.st=1):(lr L (if up=true then 0 else 1)).2.2=0:=by
 cases up;{exact(ug (by simpa using h)).1};{exact(EA (by simpa using h)).1}
theorem nO.abI {s:iW} (hs:∀p,(s.P p).out=[])(X:(lr (s.P i).L (if up=true then 0 else 1)).2.2=0):∀p,∃ps,Frames ((s.iZ i up).1.P p).out ps:=λp=>by
 have e:(s.P i).iZ up=(({s.P i with L:=(lr (s.P i).L (if up=true then 0 else 1)).1,rd:=([],false,false)}:jI).say (lr (s.P i).L (if up=true then 0 else 1)).2.1,0):=by
  unfold jI.iZ;simp only;rw[af (by simp[X])]
 unfold iW.iZ;rw[e];simp only;rw[af ik];obtain⟨x,hx⟩:=fq (({s.P i with L:=(lr (s.P i).L (if up=true then 0 else 1)).1,rd:=([],false,false)}:jI).say (lr (s.P i).L (if up=true then 0 else 1)).2.1);have Y:sS {s.P i with L:=(lr (s.P i).L (if up=true then 0 else 1)).1,rd:=([],false,false)} x:=by rw[<-hx];exact sS.say _ _
 rw[hx,(nr _ i nobody).2.2.2];by_cases Z:p=i;{subst Z;rw[jL];show∃ps,Frames (lF s.P p x p).out ps;rw[jL];obtain⟨qs,V⟩:=Y.out [] (by show Frames (s.P p).out [];rw[hs];exact Frames.nil);exact⟨_,V⟩};{rw[jG _ _ Z];show∃ps,Frames (lF s.P i x p).out ps;rw[jG _ _ Z,hs];exact⟨[],Frames.nil⟩}
theorem Tc(hF:∀i p,∃ps,Frames ((y.R i).P p).out ps)(hG:GN y)(hE:Ends y)(c:Nat)(up:Bool)(hc:c<y.nc)(hu:(y.C c).jc= !up)(ho:∀d,d<2->((y.R ((y.C c).e d).1).P ((y.C c).e d).2).out=[]):iT (y.kd c up)=(iT y).iZ c up/\(∀i p,(∀d,d<2->(y.C c).e d≠(i,p))->(((y.kd c up).R i).P p).out=((y.R i).P p).out)/\(up=false->∀d,d<2->(((y.kd c up).R ((y.C c).e d).1).P ((y.C c).e d).2).out=[]):=by
 have e0:=hG.ends c 0 hc eF;have e1:=hG.ends c 1 hc eF;have o0:=ho 0 eF;have o1:=ho 1 eF;rw[hu]at e0 e1;have jx:(y.C c).e 0≠(y.C c).e 1:=λh=>by
  have:=(hE.ds c 0 c 1 hc eF hc eF h).2;omega
 obtain⟨z,u⟩:=fq (y.lP c {y.C c with jc:=up,on:=λ_=>[] });have X:∀x,z.C x=if x=c then {y.C c with jc:=up,on:=λ_=>[] }else y.C x:=λx=>by rw[<-u];rfl
 have Q:∀x,(z.C x).e=(y.C x).e:=λx=>by rw[X];split<;>simp_all
 have Y:z.R=y.R:=by rw[<-u];rfl
 have Z3:z.nc=y.nc:=by rw[<-u];rfl
 have ahY:∀d,(z.C c).on d=[] :=λd=>by rw[X,ai rfl]
 have oN:iT z=(({iT y with jc:=j6 (iT y).jc c up}:AN).lR c 0 []).lR c 1 [] :=by
  refine AN.ext' (by rw[<-u];rfl) Z3 (funext Q) (by rw[<-u];rfl) (funext λx=> ?_) (funext λj=> ?_) (funext λx=>funext λf=> ?_) (by rw[<-u];rfl);{show(z.C x).jc=j6 _ c up x;rw[X];by_cases e:x=c;{subst e;rw[ai rfl,iQ]};{rw[af e,iI _ _ e];rfl}};{show(z.R j).core=(y.R j).core;rw[Y]}
  ·show(if x<z.nc/\f<2 then uC z x f else [])=if x=c/\f=1 then []else if x=c/\f=0 then []else if x<y.nc/\f<2 then uC y x f else []
   rw[Z3];by_cases V:x<y.nc/\f<2
   ·rw[ai V,ai V];by_cases e:x=c
    ·subst e;have:uC z x f=[] :=by
      unfold uC;rw[ahY,Q,Y,jM (ho f V.2)];rfl
     rw[this];split;{rfl};{split;{rfl};{omega}}
    ·rw[af (λh=>e h.1),af (λh=>e h.1)];unfold uC j8;rw[X,af e,Y]
   ·rw[af V,af (λh=>V ⟨by rw[h.1];exact hc,eB⟩),af (λh=>V ⟨by rw[h.1];exact hc,eB⟩),af V]
 obtain⟨i,hi⟩:=fq (((y.C c).e 0).1);obtain⟨p,E⟩:=fq (((y.C c).e 0).2);obtain⟨j,G⟩:=fq (((y.C c).e 1).1);obtain⟨q,A⟩:=fq (((y.C c).e 1).2);rw[hi,E]at e0 o0;rw[G,A]at e1 o1;have hpq:i=j->p≠q:=λh1 h2=>jx (aU (by rw[hi,G,h1]) (by rw[E,A,h2]));have d0:=Qo e0.st;have d1:=Qo e1.st;have k1:((z.R i).iZ p up).1=(((z.R i).core.iZ p up).1).pat (j6 (λs=>((z.R i).P s).rd) p lZ) (λs=>((z.R i).P s).out) (z.R i).kx:=by
  have:=Mr (λs=>((z.R i).P s).rd) (λs=>((z.R i).P s).out) (z.R i).kx (z.R i).core p up (by rw[Y];exact d0);rw[xu]at this;exact this
 have f1:∀s,∃ps,Frames (((z.R i).core.iZ p up).1.P s).out ps:=nO.abI (s:=(z.R i).core) (λ_=>rfl) (by rw[Y];exact d0);have hrd:∀(w:ja),w.nc=y.nc->(∀x,(w.C x)=z.C x)->∀d0:Nat,d0<2->∀x f,x<w.nc->f<2->((w.C x).e (1-f)).1=((y.C c).e d0).1->j6 (λs=>((w.R ((y.C c).e d0).1).P s).rd) ((y.C c).e d0).2 lZ ((w.C x).e (1-f)).2=((w.R ((y.C c).e d0).1).P ((w.C x).e (1-f)).2).rd \/(w.C x).on f=[] :=λw hw hwC d0 hd0 x f hx hf WT=>by
  by_cases e:((w.C x).e (1-f)).2=((y.C c).e d0).2;{refine .inr ?_;rw[hwC,Q]at WT e;have:=hE.ds x (1-f) c d0 (by rw[<-hw];exact hx) eB hc hd0 (aU WT e);rw[hwC,this.1];exact ahY f};{rw[iI _ _ e];exact .inl rfl}
 have a1:=JY (y:=z) (by rw[Y];exact hF) i _ k1 (by have:=hrd z Z3 (λ_=>rfl) 0 eF;rw[hi,E]at this;exact this) f1;obtain⟨Z,nG⟩:=fq (z.jO i ((z.R i).iZ p up).1);have M:∀x,Z.C x=z.C x:=λx=>by rw[<-nG];rfl
 have J:∀k,Z.R k=if k=i then((z.R i).iZ p up).1 else z.R k:=λk=>by rw[<-nG];rfl
 have Z4:∀k s,¬(k=i/\s=p)->((Z.R k).P s).L=((y.R k).P s).L/\((Z.R k).P s).out=((y.R k).P s).out:=λk s h=>by
  rw[J];by_cases e:k=i;{rw[ai e,e,Y];have hs:s≠p:=λh2=>h ⟨e,h2⟩;exact⟨((xV (up:=up) p (by simpa using e0)).2.2 s hs).1,JZ _ _ _ _ hs⟩};{rw[af e,Y];exact⟨rfl,rfl⟩}
 have L1:=Z4 j q (λh=>hpq h.1.symm h.2.symm);have k2:((Z.R j).iZ q up).1=(((Z.R j).core.iZ q up).1).pat (j6 (λs=>((Z.R j).P s).rd) q lZ) (λs=>((Z.R j).P s).out) (Z.R j).kx:=by
  have:=Mr (λs=>((Z.R j).P s).rd) (λs=>((Z.R j).P s).out) (Z.R j).kx (Z.R j).core q up (by show(lr ((Z.R j).P q).L _).2.2=0;rw[L1.1];exact d1);rw[xu]at this;exact this
 have f2:∀s,∃ps,Frames (((Z.R j).core.iZ q up).1.P s).out ps:=nO.abI (s:=(Z.R j).core) (λ_=>rfl) (by show(lr ((Z.R j).P q).L _).2.2=0;rw[L1.1];exact d1);have amP:∀k s,∃ps,Frames ((Z.R k).P s).out ps:=λk s=>by
  by_cases e:k=i/\s=p;{rw[J,ai e.1,k1,e.2];obtain⟨ps,vf⟩:=hF i p;have:=(Ax vf (f1 p) (j6 (λs=>((z.R i).P s).rd) p lZ p)).2;rw[<-Y]at this;exact this};{rw[(Z4 k s e).2];exact hF k s}
 have a2:=JY (y:=Z) amP j _ k2 (by have:=hrd Z (by rw[<-nG];exact Z3) M 1 eF;rw[G,A]at this;exact this) f2;have um:y.kd c up=Z.jO j ((Z.R j).iZ q up).1:=by
  unfold ja.kd;rw[u];have t1:z.np c 0 up=Z:=by unfold ja.np;rw[Q,hi,E,nG]
  rw[t1];unfold ja.np;rw[M,Q,G,A]
 have H:∀k,(y.kd c up).R k=if k=j then((Z.R j).iZ q up).1 else Z.R k:=λk=>by rw[um];rfl
 refine⟨?_,λk s hks=> ?_,λhup d hd=> ?_⟩
 ·rw[um,a2,<-nG,a1];unfold AN.iZ;rw[<-oN];have t1:(iT z).nW c 0 up=(iT z).op i ((z.R i).core.iZ p up).1:=by
   have ez:(iT z).e c=(y.C c).e:=Q c;unfold AN.nW;rw[ez,hi,E];rfl
  rw[t1,<-a1,nG];have ez:(iT Z).e c=(y.C c).e:=by show(Z.C c).e=_;rw[M,Q]
  unfold AN.nW;rw[ez,G,A];rfl
 ·have h0:¬(k=i/\s=p):=λh=>hks 0 eF (aU (hi.trans h.1.symm) (E.trans h.2.symm));have h1:¬(k=j/\s=q):=λh=>hks 1 eF (aU (G.trans h.1.symm) (A.trans h.2.symm));rw[H];by_cases e:k=j;{rw[ai e,JZ _ _ _ _ (λh=>h1 ⟨e,h⟩),<-e];exact(Z4 k s h0).2};{rw[af e];exact(Z4 k s h0).2}
 ·subst hup;have u0:uU ((y.R i).P p).L.st=true:=by simpa using e0.st
  have u1:uU ((y.R j).P q).L.st=true:=by simpa using e1.st
  have Ha:d=0 \/d=1:=eB;have hA:((Z.R i).P p).out=[] :=by
   rw[J,ai rfl,FN (by rw[Y];exact u0),Y];exact o0
  rcases Ha with rfl|rfl
  {rw[hi,E,H];by_cases e:i=j;{rw[ai e,JZ _ _ _ _ (hpq e),<-e];exact hA};{rw[af e];exact hA}};{rw[G,A,H,ai rfl,FN (by rw[L1.1];exact u1),L1.2];exact o1}
theorem ki.Z5(h:ki y D 0):∀c d,c<y.nc->d<2->((y.R ((y.C c).e d).1).P ((y.C c).e d).2).out=[] :=λc d hc hd=>by
 obtain⟨Z,Y⟩:=h.en c d hc hd;exact aJ (by have:=(h.fit _ Z).2 _ Y;omega)
theorem DU(Z:GN y)(hc:c<y.nc)(hi:(y.C c).jc=false)(Y:∀d,d<2->((y.R ((y.C c).e d).1).P ((y.C c).e d).2).out=[])(hd:d<2):(iT y).F c d=[] :=by
 show(if c<y.nc/\d<2 then uC y c d else [])=[]
 rw[ai ⟨hc,hd⟩];unfold uC;rw[Z.off c d hc hd hi,jM (Y d hd)];rfl
def nP(y:ja)(l:List Nat):List (Nat×Nat):=l.flatMap λc=>[(y.C c).e 0,(y.C c).e 1]
theorem vG(up:Bool):∀(l:List Nat) {y:ja},jN y->GN y->Ends y->l.Nodup->(∀c∈l,c<y.nc/\(y.C c).jc= !up)->(∀c∈l,∀d,d<2->((y.R ((y.C c).e d).1).P ((y.C c).e d).2).out=[])->
 j5 (iT y) (if up=true then nP y l else []) [] (iT (y.jX up l))/\(up=false->(∀c d,c<y.nc->d<2->((y.R ((y.C c).e d).1).P ((y.C c).e d).2).out=[])->∀c d,c<y.nc->d<2->(((y.jX up l).R ((y.C c).e d).1).P ((y.C c).e d).2).out=[])
 |[],y,_,_,_,_,_,_=>⟨by cases up<;>exact j5.nil _,λ_ h=>h⟩
 |c::l,y,hF,hG,hE,xW,hm,ho=>by
  obtain⟨hc,hi⟩:=hm c ik;have Z:=ho c ik;obtain⟨a1,G,u⟩:=Tc hF.o hG hE c up hc hi Z;obtain⟨s1,J,_,_,Y⟩:=pY y c up;have A:=hF.kd hG hE c up hc hi;have Q:=hG.kd hE c up hc hi;have V:=hE.kd c up;have X:=bw.1 xW;have j:∀x∈l,x≠c:=λx hx e=>X.1 (e▸hx);have yo:j5 (iT y) (if up=true then [(y.C c).e 0,(y.C c).e 1]else []) [] (iT (y.kd c up)):=by
   rw[a1];cases up;{exact j5.one (ni.draw c hc (show(y.C c).jc=true by simpa using hi))};{exact j5.one (ni.iZ c hc (show(y.C c).jc=false by simpa using hi) (DU hG hc (by simpa using hi) Z eF) (DU hG hc (by simpa using hi) Z eF))}
  obtain⟨y1,H⟩:=fq (y.kd c up);rw[H]at G u J Y A Q V yo;obtain⟨p1,p2⟩:=vG up l (y:=y1) A Q V X.2 (λx hx=>⟨by rw[J];exact(hm x (by simp[hx])).1,by rw[(Y x).2,af (j x hx)];exact(hm x (by simp[hx])).2⟩) (λx hx d hd=>by
   rw[(Y x).1];rw[G _ _ (λd' E h=>(j x hx) (hE.ds x d c d' (hm x (by simp[hx])).1 hd hc E h.symm).1)];exact ho x (by simp[hx]) d hd)
  have hP:nP y1 l=nP y l:=by unfold nP;congr 1;funext x;rw[(Y x).1]
  refine⟨?_,λM oa x d hx hd=> ?_⟩;{have:=yo.trans p1;rw[hP]at this;show j5 _ _ _ (iT ((y.kd c up).jX up l));rw[H];cases up;{simpa using this};{simpa[nP]using this}}
  ·show(((y.kd c up).jX up l).R _|>.P _).out=[]
   rw[H];have:=p2 M (λx d hx hd=>by
    rw[(Y x).1];have vY:x<y.nc:=by rw[<-J];exact hx
    by_cases e:x=c;{subst e;exact u M d hd}
    ·rw[G _ _ (λd' E h=>e (hE.ds x d c d' vY hd hc E h.symm).1)];exact oa x d vY hd) x d (by rw[J];exact hx) hd
   rw[(Y x).1]at this;exact this
structure Td(T:List (Nat×Nat)):Prop where
 nd:T.Nodup
 len:T.length<=18
theorem Td.nil:Td [] :=⟨da,ik⟩
theorem xA {y:ja} (Y:Ends y):∀l:List Nat,l.Nodup->(∀c∈l,c<y.nc)->(nP y l).Nodup/\(nP y l).length=2*l.length
 |[],_,_=>⟨by simp[nP],rfl⟩
 |c::l,xW,hm=>by
  have V:=bw.1 xW;obtain⟨a,b⟩:=xA Y l V.2 λx hx=>hm x (by simp[hx]);have hc:=hm c ik;have e:nP y (c::l)=(y.C c).e 0::(y.C c).e 1::nP y l:=by simp[nP]
  have Q:∀d,d<2->(y.C c).e d∉nP y l:=λd hd hx=>by
   obtain⟨x,Z,X⟩:=aT.1 hx;have M:=hm x (by simp[Z]);have:(∃f,f<2/\(y.C c).e d=(y.C x).e f):=by
    simp only[iz,iA,or_false]at X;rcases X with h|h
    {exact⟨0,eF,h⟩};{exact⟨1,eF,h⟩}
   obtain⟨f,hf,h⟩:=this;exact V.1 ((Y.ds c d x f hc hd M hf h).1▸Z)
  refine⟨?_,by rw[e];simp only[eW,b];omega⟩;rw[e,bw,bw];refine⟨λhx=> ?_,Q 1 eF,a⟩;rcases aP.1 hx with h|h
  {have:=(Y.ds c 0 c 1 hc eF hc eF h).2;omega};{exact Q 0 eF h}
inductive ym:List (Nat×Nat)->AN->AN->Prop
 |nil (a:AN):ym [] a a
 |snoc {T:List (Nat×Nat)} {a b:AN} (i p:Nat):ym T a b->i<b.n->p<3->ym (T++ [(i,p)]) a (b.op i ((b.R i).jj p))
theorem ym.path {a b:AN} (h:ym T a b):j5 a T [] b:=by
 induction h with
 |nil a=>exact j5.nil a
 |snoc i p _ hi Z ih=>have:=ih.snoc (ni.tick i p hi Z);simpa using this
theorem ym.trans {a b c:AN} (h:ym T a b)(g:ym U b c):ym (T++U) a c:=by
 induction g with
 |nil=>simpa using h
 |snoc i p _ hi Z ih=>rw[<-aD];exact(ih h).snoc i p hi Z
theorem CO {y:ja} (hF:jN y)(k:Nat)(Q:k<y.n):∀j,j<=3->ym ((ft j).map λp=>(k,p)) (iT y) (iT (y.jO k ((y.R k).jn j)))
 |0,_=>by
  have e:y.jO k ((y.R k).jn 0)=y:=by
   show y.jO k (y.R k)=y;unfold ja.jO;rw[wU]
  rw[e];exact ym.nil _
 |j+1,hj=>by
  have X:=CO hF k Q j eB;have V:=hF.jO k (nO.jn (y.R k) j);obtain⟨z,Z⟩:=fq (y.jO k ((y.R k).jn j));rw[Z]at X V;have Y:z.R k=(y.R k).jn j:=by rw[<-Z];exact iQ _ _ _
  have e:y.jO k ((y.R k).jn (j+1))=z.jO k ((z.R k).jj j):=by
   rw[Y,<-Z];show({y with R:=_}:ja)={y with R:=j6 (j6 y.R k _) k _}
   congr 1
   funext x
   by_cases ex:x=k;{subst ex;rw[iQ,iQ];rfl};{rw[iI _ _ ex,iI _ _ ex,iI _ _ ex]}
  have M:(z.R k).jj j=((z.R k).core.jj j).pat (λp=>((z.R k).P p).rd) (λp=>((z.R k).P p).out) (z.R k).kx:=by
   rw[<-S8,xu]
  rw[e,WV V.o k M ((nO.jj (z.R k).core j).frN λ_=>rfl),cg,cW];have SH:z.n=y.n:=by rw[<-Z];rfl
  exact X.snoc k j (by show k<z.n;omega) eB
def Te(k:Nat):List (Nat×Nat):=[(k,0),(k,1),(k,2)]
theorem FO(hF:jN y)(Y:ki y D 0)(hD:D<=900000000)(k:Nat)(Z:k<y.n):ym (Te k) (iT y) (iT (y.jO k (y.R k).tick))/\Ends (y.jO k (y.R k).tick)/\jN (y.jO k (y.R k).tick):=by
 have h:=CO hF k Z 3 (Nat.le_refl _);have e:(y.R k).tick=(y.R k).jn 3:=by unfold iW.tick;rw[(Y.rn k Z).1]
 rw[<-e]at h;exact⟨h,(Y.jo eB Z).oY,hF.jO k (nO.jn _ _)⟩
theorem IP(hF:jN y)(V:ki y D 0)(Y:D<=900000000)(k:Nat)(X:k<y.n):j5 (iT y) (Te k) [] (iT (y.tick ((k:Int)+1)).1):=by
 obtain⟨h,Z,f1⟩:=FO hF V Y k X;unfold ja.tick;rw[af eB];rw[show((k:Int)+1-1).toNat=k by omega];exact h.path.lost (qb f1 Z).1
theorem vH(hF:jN y)(X:ki y D 0)(hD:D<=900000000)(i d m:Int):j5 (iT y) [] [] (iT (y.deliver i d m).1):=by
 unfold ja.deliver;split;{exact j5.nil _}
 ·rename_i h
  have hc:i.toNat<y.nc:=eB;have hd:d.toNat<2:=eB;obtain⟨k,M⟩:=fq (min m.toNat ((y.C i.toNat).on d.toNat).length);rw[M];have Y:=X.oY;obtain⟨l,rest,V,_,Q⟩:=FL hF Y i.toNat d.toNat k hc hd;have Z:(iT y).F i.toNat d.toNat=l++rest:=by
   show(if i.toNat<y.nc/\d.toNat<2 then uC y i.toNat d.toNat else [])=_;rw[ai ⟨hc,hd⟩,V]
  have J:=(aen l rest (iT y) i.toNat d.toNat (xy y) hc hd Z).path;have:j5 (iT y) [] [] (iT (y.jE i.toNat d.toNat k)):=by rw[Q];exact J
  exact this.lost (qb (hF.jE Y _ _ _ hc hd) (X.jE eB hc hd).oY).1
theorem Tf(hF:jN y)(X:GN y)(Q:ki y D 0)(i:Int)(up:Bool):∃T,Td T/\j5 (iT y) T [] (iT (y.iZ i up).1):=by
 unfold ja.iZ;split;{exact⟨[],Td.nil,j5.nil _⟩}
 ·split;{exact⟨[],Td.nil,j5.nil _⟩}
  ·rename_i h ld
   have hc:i.toNat<y.nc:=eB;have hi:(y.C i.toNat).jc= !up:=by cases hv:(y.C i.toNat).jc<;>cases up<;>simp_all
   have Y:=Q.oY;have M:=(vG up [i.toNat] hF X Y ik (λc Z=>by simp only[iC]at Z;subst Z;exact⟨hc,hi⟩) (λc Z d hd=>by simp only[iC]at Z;subst Z;exact Q.Z5 _ d hc hd)).1;have V:=xA Y [i.toNat] ik (λc Z=>by simp only[iC]at Z;subst Z;exact hc);refine⟨_,?_,M.lost (qb (hF.kd X Y _ _ hc hi) (Y.kd _ _)).1⟩;split;{exact⟨V.1,by rw[V.2];simp⟩};{exact Td.nil}
theorem J0(hF:jN y)(hG:GN y)(jb:ki y D 0)(i:Int):∃T,Td T/\j5 (iT y) T [] (iT (y.restart i).1):=by
 unfold ja.restart;split;{exact⟨[],Td.nil,j5.nil _⟩}
 ·rename_i hi
  obtain⟨k,hk⟩:=fq ((i-1).toNat);have hik:i=(k:Int)+1:=eB;have Bh:k<y.n:=eB;simp only;rw[hk];obtain⟨l,hl⟩:=fq (y.lT k);rw[hl];have u:∀c,c∈l↔c<y.nc/\(y.C c).jc=true/\(((y.C c).e 0).1=k \/((y.C c).e 1).1=k):=λc=>by
   rw[<-hl];unfold ja.lT;simp[iu]
  have hll:l.length<=9:=by rw[<-hl];exact Nat.le_trans (zo y k) jb.c9
  have J:l.Nodup:=by
   rw[<-hl];exact dw dq bX
  have wA:∀c∈l,c<y.nc/\(y.C c).jc= !false:=λc hc=>⟨((u c).1 hc).1,((u c).1 hc).2.1⟩
  have hE:=jb.oY;obtain⟨a,b,d⟩:=GN.jX false l hG hE J wA;have f1:=jN.jX false l hF hG hE J wA;obtain⟨p1,o1⟩:=vG false l hF hG hE J wA (λc hc d hd=>jb.Z5 c d (wA c hc).1 hd);have o1:=o1 rfl jb.Z5;obtain⟨s1,s2,s3,s4,s5⟩:=nI false l y;have hpo:∀z:ja,(∀x,(z.C x).e=(y.C x).e)->nP z l=nP y l:=λz hz=>by unfold nP;congr 1;funext x;rw[hz]
  obtain⟨Z,CG⟩:=fq (y.jX false l);rw[CG]at a b d s1 s2 s3 s4 s5 f1 p1 o1⊢;have OZ:∀c e,c<Z.nc->e<2->((Z.C c).e e).1=k->(Z.C c).jc=false:=λc e hc M heq=>by
   have j9:c<y.nc:=by rw[s2]at hc;exact hc
   rw[d c];by_cases hm:c∈l;{rw[ai hm]}
   ·rw[af hm];by_cases ld:(y.C c).jc=true
    ·exfalso;rw[s5 c]at heq;refine hm ((u c).2 ⟨j9,ld,?_⟩);have:e=0 \/e=1:=eB;rcases this with rfl|rfl
     {exact .inl heq};{exact .inr heq}
    ·simpa using ld
  have V:∀c d,c<Z.nc->d<2->((Z.R ((Z.C c).e d).1).P ((Z.C c).e d).2).out=[] :=λc d hc hd=>by
   rw[s5 c];exact o1 c d (by rw[<-s2];exact hc) hd
  have f2:=f1.anew a k i (y.ms k) OZ;have a2:GN (Z.jO k (jZ i 3 (y.ms k))):=by
   refine a.jO k _ (λc e hc M heq _=> ?_);rw[OZ c e hc M heq];have hI:=rz i (y.ms k) ((Z.C c).e e).2;exact⟨by simpa using hI.st,λe=>absurd (by rw[hI.pe];rfl) e⟩
  have b2:Ends (Z.jO k (jZ i 3 (y.ms k))):=⟨b.ds,b.p3,λj=>by
   show(j6 Z.R k _ j).n=3 \/Z.n<=j;by_cases e:j=k;{rw[e,iQ];exact .inl rfl}
   ·rw[iI _ _ e];exact b.rn j,b.en⟩
  have Dz:j5 (iT Z) [] [] (iT (Z.jO k (jZ i 3 (y.ms k)))):=by
   have kC:=ni.anew (a:=iT Z) k (Z.kx k).length (by show k<Z.n;omega) (λc e hc M heq=>by
    have A:=OZ c e hc M heq;exact⟨A,DU a hc A (λd hd=>V c d hc hd) eF,DU a hc A (λd hd=>V c d hc hd) eF⟩)
   have heq:iT (Z.jO k (jZ i 3 (y.ms k)))={iT Z with R:=j6 (iT Z).R k (jZ ((k:Int)+1) 3 ((iT Z).ms k)),ib:=j6 (iT Z).ib k (((iT Z).ib k).take (Z.kx k).length)}:=by
    refine AN.ext' rfl rfl rfl rfl rfl (funext λj=> ?_) (funext λc=>funext λe=> ?_) (funext λj=> ?_);{show(j6 Z.R k _ j).core=j6 _ k (jZ ((k:Int)+1) 3 (Z.ms k)) j;by_cases Y:j=k;{rw[Y,iQ,iQ,hik,s3];rfl};{rw[iI _ _ Y,iI _ _ Y];rfl}}
    ·show(if c<Z.nc/\e<2 then uC (Z.jO k (jZ i 3 (y.ms k))) c e else [])=if c<Z.nc/\e<2 then uC Z c e else []
     split
     ·rename_i Dw
      obtain⟨hc,M⟩:=Dw;have hP:∀p,(((Z.jO k (jZ i 3 (y.ms k))).R k).P p).out=[] :=λp=>by
       show((j6 Z.R k _ k).P p).out=[]
       rw[iQ];rfl
      have hO:jz (((Z.jO k (jZ i 3 (y.ms k))).R ((Z.C c).e e).1).P ((Z.C c).e e).2)=jz ((Z.R ((Z.C c).e e).1).P ((Z.C c).e e).2):=by
       by_cases E:((Z.C c).e e).1=k;{rw[jM (V c e hc M),E,jM (hP _)]};{show jz ((j6 Z.R k _ _).P _)=_;rw[iI _ _ E]}
      show(kN (j8 (Z.jO k (jZ i 3 (y.ms k))) c e) ((Z.C c).on e)).1++jz (((Z.jO k (jZ i 3 (y.ms k))).R ((Z.C c).e e).1).P ((Z.C c).e e).2)=_;rw[hO];congr 1;by_cases E:((Z.C c).e (1-e)).1=k;{have A:=OZ c (1-e) hc eB E;rw[a.off c e hc M A];rfl}
      ·have hR:j8 (Z.jO k (jZ i 3 (y.ms k))) c e=j8 Z c e:=by
        show((j6 Z.R k _ ((Z.C c).e (1-e)).1).P ((Z.C c).e (1-e)).2).rd=_;rw[iI _ _ E];rfl
       rw[hR]
     ·rfl
    ·show Z.kx j++(j6 Z.R k (jZ i 3 (y.ms k)) j).kx=j6 _ k ((Z.kx k++(Z.R k).kx).take (Z.kx k).length) j;by_cases Y:j=k;{rw[Y,iQ,iQ,List.take_left];show Z.kx k++ [] =_;rw[aB]};{rw[iI _ _ Y,iI _ _ Y];rfl}
   rw[heq];exact j5.one kC
  obtain⟨H,X⟩:=fq (Z.jO k (jZ i 3 (y.ms k)));have Q:H.C=Z.C:=by rw[<-X];rfl
  have G:H.nc=Z.nc:=by rw[<-X];rfl
  rw[X]at f2 a2 b2 Dz⊢;have Je:∀c∈l,c<H.nc/\(H.C c).jc= !true:=λc hc=>⟨by rw[G,s2];exact((u c).1 hc).1,by rw[Q,d c,ai hc];rfl⟩
  have jy:∀j p,((H.R j).P p).out=[] \/((H.R j).P p).out=((Z.R j).P p).out:=λj p=>by
   rw[<-X];show((j6 Z.R k _ j).P p).out=[] \/((j6 Z.R k _ j).P p).out=_;by_cases Y:j=k;{rw[Y,iQ];exact .inl rfl};{rw[iI _ _ Y];exact .inr rfl}
  have p2:=(vG true l f2 a2 b2 J Je (λc hc d hd=>by
   rw[Q];rcases jy ((Z.C c).e d).1 ((Z.C c).e d).2 with h|h
   ·exact h
   ·rw[h];exact V c d (by rw[<-G];exact(Je c hc).1) hd)).1
  have g2:=GN.jX true l a2 b2 J Je;have f3:=jN.jX true l f2 a2 b2 J Je;have oa:=((p1.trans Dz).trans p2).lost (qb f3 g2.2.1).1;rw[hpo H (λx=>by rw[Q,s5 x])]at oa;have hn:=xA hE l J (λc hc=>((u c).1 hc).1);exact⟨nP y l,⟨hn.1,by rw[hn.2];omega⟩,by simpa using oa⟩
def Ay(n:Nat)(f t:Int)(tx:List UInt8):List (Int×List UInt8):=if(1<=f/\f<=(n:Int))/\(1<=t/\t<=6)/\tx.length<=20 then [(t,tx)]else []
theorem Tg(hF:jN y)(J:ki y D 0)(hD:D<=900000000)(f t:Int)(tx:List UInt8):j5 (iT y) [] (Ay y.n f t tx) (iT (y.send f t tx).1):=by
 unfold ja.send;split;{unfold Ay;rw[af eB];exact j5.nil _}
 ·rename_i h
  obtain⟨k,Q⟩:=fq ((f-1).toNat);have Z:k<y.n:=eB;rw[Q];by_cases hv:t<1 \/6<t \/20<tx.length
  ·have e:kD (y.R k) t tx=(y.R k,1):=by unfold kD;rw[ai hv]
   rw[e,ai ik];unfold Ay;rw[af eB];exact j5.nil _
  ·have e:kD (y.R k) t tx=((y.R k).send (t,8,tx),0):=by unfold kD;rw[af hv]
   have Y:=(J.Wv eB Z t tx).oY;rw[e]at Y;rw[e,af ik];unfold Ay;rw[ai eB];have H:=nO.send (y.R k).core (t,8,tx);have M:(y.R k).send (t,8,tx)=((y.R k).core.send (t,8,tx)).pat (λp=>((y.R k).P p).rd) (λp=>((y.R k).P p).out) (y.R k).kx:=by rw[<-Mq,xu]
   have X:=WV hF.o k M (H.frN λ_=>rfl);have V:j5 (iT y) [] [(t,tx)] (iT (y.jO k ((y.R k).send (t,8,tx)))):=by
    rw[X];exact j5.one (ni.send k t tx Z eB eB eB)
   exact V.lost (qb (hF.jO k (nO.send (y.R k) (t,8,tx))) Y).1
def m9(k:Nat):List (Nat×Nat):=(ft k).flatMap Te
theorem BZ(k:Nat):m9 (k+1)=m9 k++Te k:=by simp[m9,iD]
theorem pU:∀k,(m9 k).Nodup/\(m9 k).length=3*k/\∀x∈m9 k,x.1<k
 |0=>⟨da,rfl,λ_ h=>by simp[m9]at h⟩
 |k+1=>by
  obtain⟨a,b,c⟩:=pU k;rw[BZ];refine⟨bG.2 ⟨a,by simp[Te],λx hx z Z e=> ?_⟩,by simp[b,Te];omega,λx hx=> ?_⟩;{have Y:=c x hx;subst e;simp only[Te,iz,iA,or_false]at Z;rcases Z with rfl|rfl|rfl<;>simp at Y}
  ·rcases av.1 hx with h|h
   {have:=c x h;omega};{simp only[Te,iz,iA,or_false]at h;rcases h with rfl|rfl|rfl<;>simp}
theorem zt {y:ja} {D:Nat} (hF:jN y)(Z:ki y D 0)(Y:D<=800000000):∀q,q<=y.n->j5 (iT y) (m9 q) [] (iT (y.jn q))
 |0,_=>j5.nil _
 |q+1,hq=>by
  have n6:=Z.n6;have X:=zt hF Z Y q eB;have V:=IP (jN.jn hF q) (Z.jn Y q eB) eB q (by rw[(oX y q).1];omega);rw[BZ];exact X.trans V
theorem CP {y:ja} {D:Nat} (hF:jN y)(Y:ki y D 0)(Z:D<=890000000):∀q,q<=9->j5 (iT y) [] [] (iT (y.j0 q))
 |0,_=>j5.nil _
 |q+1,hq=>by
  have X:=CP hF Y Z q eB;have f1:=jN.j0 hF Y Z q eB;have k1:=Y.j0 Z q eB;have V:=vH f1 k1 eB (q:Int) 0 2000;have Q:=vH (f1.deliver k1 (q:Int) 0 2000) (k1.deliver eB (q:Int) 0 2000) eB (q:Int) 1 2000;exact(X.trans V).trans Q
theorem FP {y:ja} {D:Nat} (hF:jN y)(Z:ki y D 0)(Y:D<=810000000):∀t,t<=12->j5 (iT y) [] [] (iT (y.turns t))
 |0,_=>j5.nil _
 |t+1,ht=>(FP hF Z Y t eB).trans (CP (jN.turns hF Z Y t eB) (Z.turns Y t eB) eB y.nc Z.c9)
theorem zu(hF:jN y)(Z:ki y D 0)(Y:D<=800000000):j5 (iT y) (m9 y.n) [] (iT y.round):=by
 have n6:=Z.n6;have h:=(zt hF Z Y y.n (Nat.le_refl _)).trans (FP (hF.jn y.n) (Z.jn Y y.n n6) eB 12 (Nat.le_refl _));rw[aB]at h;exact h
def J1(v:AV):Bool:=v.kind.toList==[115,101,110,100]
def sOf(n:Nat)(v:AV):List (Int×List UInt8):=if J1 v=true then Ay n v.a v.b v.s.data.toList else []
theorem J2 {v:AV} (n:Nat)(h:(v.kind.toList==l)=true)(hl:(l==[115,101,110,100])=false):sOf n v=[] :=by
 unfold sOf J1;rw[dX]at h;rw[h,hl];rfl
theorem Mx(hF:jN y)(Y:GN y)(Z:ki y D 0)(X:D<=800000000)(v:AV):∃T,Td T/\j5 (iT y) T (sOf y.n v) (iT (tT y v)):=by
 unfold tT;split
 ·rename_i h
  rw[J2 y.n h eF];exact Tf hF Y Z _ _
 ·split
  ·rename_i h
   rw[J2 y.n h eF];by_cases hi:v.a<1 \/(y.n:Int)<v.a;{refine⟨[],Td.nil,?_⟩;unfold ja.tick;rw[ai hi];exact j5.nil _};{have:=IP hF Z eB (v.a-1).toNat eB;rw[show(((v.a-1).toNat:Nat):Int)+1=v.a by omega]at this;exact⟨_,⟨by simp[Te],by simp[Te]⟩,this⟩}
  ·split
   ·rename_i h
    rw[J2 y.n h eF];exact⟨[],Td.nil,vH hF Z eB _ _ _⟩
   ·split
    ·rename_i h
     rw[J2 y.n h eF];exact J0 hF Y Z _
    ·split
     ·rename_i h
      unfold sOf;rw[ai (show J1 v=true from h)];exact⟨[],Td.nil,Tg hF Z eB _ _ _⟩
     ·rename_i h
      unfold sOf;rw[af (show¬J1 v=true from h)];split;{obtain⟨a,b,_⟩:=pU y.n;have:=Z.n6;exact⟨_,⟨a,by rw[b];omega⟩,zu hF Z X⟩};{exact⟨[],Td.nil,j5.nil _⟩}
def Ti(m:Nat):List (Nat×Nat):=(ft m).flatMap λc=>[(c,0),(c,1)]
theorem qL {m:Nat} {x:Nat×Nat}:x∈Ti m↔x.1<m/\x.2<2:=by
 obtain⟨c,d⟩:=x;unfold Ti;simp only[List.mem_flatMap,List.mem_range,iz,Prod.mk.injEq,iA,or_false];constructor;{rintro⟨b,Z,Y|Y⟩<;>omega};{rintro⟨Z,Y⟩;exact⟨c,Z,eB⟩}
theorem xX:∀m,(Ti m).Nodup
 |0=>da
 |m+1=>by
  have e:Ti (m+1)=Ti m++ [(m,0),(m,1)] :=by simp[Ti,iD]
  rw[e];refine bG.2 ⟨xX m,ik,λx hx z Z h=> ?_⟩;have Y:=(qL.1 hx).1;subst h;simp only[iz,iA,or_false]at Z;rcases Z with rfl|rfl<;>simp at Y
def sm {α:Type} (f:α->Nat)(l:List α):Nat:=(l.map f).sum
theorem vS {α:Type} {f g:α->Nat}:∀ {l:List α},(∀x∈l,f x<=g x)->sm f l<=sm g l
 |[],_=>Nat.le_refl _
 |x::l,h=>by
  have:=vS (l:=l) λy hy=>h y (by simp[hy]);have h1:=h x ik;simp only[sm,eQ,iE]at*;omega
theorem FQ {α:Type} (f g:α->Nat):∀l:List α,sm (λx=>f x+g x) l=sm f l+sm g l
 |[] =>rfl
 |x::l=>by
  have:=FQ f g l;simp only[sm,eQ,iE]at*;omega
theorem qz(f:α->Nat)(l m:List α):sm f (l++m)=sm f l+sm f m:=by simp[sm]
theorem J3 {α:Type} [DecidableEq α] (y:α)(k:Nat):∀ {l:List α},l.Nodup->sm (λx=>if x=y then k else 0) l=if y∈l then k else 0
 |[],_=>rfl
 |x::l,h=>by
  have Z:=bw.1 h;have:=J3 y k Z.2;have e:sm (λx=>if x=y then k else 0) (x::l)=(if x=y then k else 0)+sm (λx=>if x=y then k else 0) l:=rfl;rw[e,this];by_cases hx:x=y;{subst hx;rw[ai rfl,af Z.1,ai ik];rfl};{rw[af hx];by_cases hy:y∈l;{rw[ai hy,ai (by simp[hy])];omega};{rw[af hy,af (by simp[hy,Ne.symm hx])]}}
theorem Az [DecidableEq α] {f g:α->Nat} {y:α} {l:List α} (Y:l.Nodup)(hy:y∈l)(h:∀x∈l,f x+(if x=y then k else 0)<=g x):sm f l+k<=sm g l:=by
 have Z:=vS h;rw[FQ,J3 y k Y,ai hy]at Z;exact Z
structure uh(a:AN):Prop where
 n6:a.n<=6
 c9:a.nc<=9
 ds:∀c d c' d',c<a.nc->d<2->c'<a.nc->d'<2->a.e c d=a.e c' d'->c=c'/\d=d'
 en:∀c d,c<a.nc->d<2->(a.e c d).1<a.n/\(a.e c d).2<3
theorem uh.same {a b:AN} (h:uh a)(Y:b.n=a.n)(Z:b.nc=a.nc)(X:b.e=a.e):uh b:=
 ⟨by rw[Y];exact h.n6,by rw[Z];exact h.c9,by rw[Z,X];exact h.ds,by rw[Y,Z,X];exact h.en⟩
theorem ki.rD(h:ki y D k):uh (iT y):=⟨h.n6,h.c9,h.ds,h.en⟩
theorem IQ(e:Nat×Nat->Nat×Nat)(i:Nat)(h:Nat->Nat):∀l:List (Nat×Nat),l.Nodup->(∀x∈l,(e x).2<3)->(∀x∈l,∀y∈l,e x=e y->x=y)->sm (λx=>if(e x).1=i then h (e x).2 else 0) l<=sm (λp=>if(i,p)∈l.map e then h p else 0) [0,1,2]
 |[],_,_,_=>Nat.zero_le _
 |x::l,hn,hp,hi=>by
  have X:=bw.1 hn;have ih:=IQ e i h l X.2 (λy hy=>hp y (by simp[hy])) (λy hy z M=>hi y (by simp[hy]) z (by simp[M]));have Q:sm (λx=>if(e x).1=i then h (e x).2 else 0) (x::l)=(if(e x).1=i then h (e x).2 else 0)+sm (λx=>if(e x).1=i then h (e x).2 else 0) l:=rfl;rw[Q];by_cases hx:(e x).1=i
  ·rw[ai hx];have J:(i,(e x).2)∉l.map e:=λZ=>by
    obtain⟨y,hy,Y⟩:=bK.1 Z;have:=hi x ik y (by simp[hy]) (by rw[Y,<-hx]);exact X.1 (this▸hy)
   have h3:sm (λp=>if(i,p)∈l.map e then h p else 0) [0,1,2] +h (e x).2<=sm (λp=>if(i,p)∈(x::l).map e then h p else 0) [0,1,2] :=by
    refine Az (y:=(e x).2) eF ?_ λp _=> ?_;{have:=hp x ik;simp only[iz,iA,or_false];omega};{by_cases V:p=(e x).2;{subst V;rw[af J,ai rfl,ai (by simp[<-hx])];omega};{rw[af V];by_cases Z:(i,p)∈l.map e;{rw[ai Z,ai (by simp only[eQ,iz];exact .inr Z)];omega};{rw[af Z];omega}}}
   omega
  ·rw[af hx,Nat.zero_add];refine Nat.le_trans ih (vS λp _=> ?_);by_cases Z:(i,p)∈l.map e;{rw[ai Z,ai (by simp only[eQ,iz];exact .inr Z)];exact Nat.le_refl _};{rw[af Z];exact Nat.zero_le _}
def AN.W(a:AN)(w:lD->Nat):Nat:=sm (λx:Nat×Nat=>sm w (a.F x.1 x.2)) (Ti a.nc)
theorem aeu {a b:AN} (h:xx a b)(w:lD->Nat):b.W w<=a.W w:=by
 have e:b.nc=a.nc:=by rw[h.1]
 unfold AN.W;rw[e];refine vS λx _=> ?_;obtain⟨m,Z⟩:=h.2 x.1 x.2;show sm w (b.F x.1 x.2)<=sm w (a.F x.1 x.2);rw[Z];have:=qz w ((a.F x.1 x.2).take m) ((a.F x.1 x.2).drop m);rw[cL]at this;omega
theorem aev {a:AN} (Z:uh a)(i:Nat)(s:iW)(w:lD->Nat):(a.op i s).W w<=a.W w+(sm w (jz (s.P 0))+sm w (jz (s.P 1))+sm w (jz (s.P 2))):=by
 have X:∀x∈Ti a.nc,sm w ((a.op i s).F x.1 x.2)=sm w (a.F x.1 x.2)+(if(a.e x.1 x.2).1=i then sm w (jz (s.P (a.e x.1 x.2).2))else 0):=λx hx=>by
  have V:=qL.1 hx;rw[vZ];by_cases e:(a.e x.1 x.2).1=i;{rw[ai ⟨V,e⟩,ai e,qz]};{rw[af (λh=>e h.2),af e];rfl}
 unfold AN.W;refine Nat.le_trans (vS (g:=λx:Nat×Nat=>sm w (a.F x.1 x.2)+(if(a.e x.1 x.2).1=i then sm w (jz (s.P (a.e x.1 x.2).2))else 0)) λx hx=>Nat.le_of_eq (X x hx)) ?_;rw[FQ];refine Nat.add_le_add_left ?_ _;refine Nat.le_trans (IQ (λx=>a.e x.1 x.2) i (λp=>sm w (jz (s.P p))) (Ti a.nc) (xX _) (λx hx=>(Z.en _ _ (qL.1 hx).1 (qL.1 hx).2).2) (λx hx z Y h=> ?_)) ?_;{have:=Z.ds _ _ _ _ (qL.1 hx).1 (qL.1 hx).2 (qL.1 Y).1 (qL.1 Y).2 h;exact aU this.1 this.2};{refine Nat.le_trans (vS (g:=λp=>sm w (jz (s.P p))) λp _=> ?_) ?_;{show(if _ then _ else 0)<=_;split;{exact Nat.le_refl _};{exact Nat.zero_le _}};{show sm w (jz (s.P 0))+(sm w (jz (s.P 1))+(sm w (jz (s.P 2))+0))<=_;omega}}
theorem abK {a:AN} (w:lD->Nat) {x:lD} {l:List lD} (hc:c<a.nc)(hd:d<2)(h:a.F c d=x::l):(a.lR c d l).W w+w x<=a.W w:=by
 unfold AN.W;refine Az (y:=(c,d)) (xX _) (qL.2 ⟨hc,hd⟩) λy _=> ?_;show sm w (if y.1=c/\y.2=d then l else a.F y.1 y.2)+(if y=(c,d)then w x else 0)<=sm w (a.F y.1 y.2);by_cases e:y.1=c/\y.2=d;{rw[ai e,ai (aU e.1 e.2),e.1,e.2,h];show sm w l+w x<=w x+sm w l;omega};{rw[af e,af (λh=>e (by rw[h];exact⟨rfl,rfl⟩))];exact Nat.le_refl _}
theorem DV(a:AN)(w:lD->Nat)(c d:Nat):(a.lR c d []).W w<=a.W w:=by
 unfold AN.W;refine vS λy _=> ?_;show sm w (if y.1=c/\y.2=d then []else a.F y.1 y.2)<=sm w (a.F y.1 y.2);split;{exact Nat.zero_le _};{exact Nat.le_refl _}
theorem IU {a:AN} (h:Norm a)(c:Nat)(up:Bool):Norm (a.iZ c up):=by
 unfold AN.iZ AN.nW;exact rI (rI (a:=(({a with jc:=j6 a.jc c up}:AN).lR c 0 []).lR c 1 []) h _ _) _ _
theorem ni.norm {a b:AN} (h:ni a T S b)(Z:Norm a):Norm b:=by
 cases h with
 |lost h=>rw[h.1];exact Z
 |tick i p _ _=>exact rI Z _ _
 |pop c d x l _ _ _=>exact rI (a:=a.lR c d l) Z _ _
 |send i t tx _ _ _ _=>exact rI Z _ _
 |iZ c _ _ _ _=>exact IU Z c true
 |draw c _ _=>exact IU Z c false
 |anew i m _ _=>
  intro j;show(j6 a.R i _ j).core=j6 a.R i _ j;by_cases e:j=i;{subst e;rw[iQ];rfl};{rw[iI _ _ e];exact Z j}
theorem j5.rD {a b:AN} (h:j5 a T S b)(Z:uh a):uh b:=Z.same h.same.1 h.same.2.1 h.same.2.2.1
theorem j5.norm {a b:AN} {T:List (Nat×Nat)} {S:List (Int×List UInt8)} (h:j5 a T S b)(Z:Norm a):Norm b:=by
 induction h with
 |nil=>exact Z
 |snoc _ s ih=>exact s.norm ih
def Kw(r:iW):Prop:=∀p,(r.P p).out=[]
theorem Norm.emp {a:AN} (h:Norm a)(i:Nat):Kw (a.R i):=h.out i
def Fr(p:jI):Prop:=∃ps,Frames p.out ps
theorem Kw.fr {r:iW} (h:Kw r)(p:Nat):Fr (r.P p):=⟨[],by rw[h];exact Frames.nil⟩
theorem Fr.put {p:jI} (h:Fr p)(c:UInt8)(s:List UInt8):Fr (p.put c s):=(sS.put p c s).fr h
theorem nX {p q:jI} (h:q.out=p.out):jz q=jz p:=by unfold jz;rw[h]
theorem uW {p:jI} (h:Fr p)(c:UInt8)(s:List UInt8):jz (p.put c s)=jz p++(if(c≠76/\p.L.st≠9) \/60<s.length+1 then []else [c::s]):=by
 obtain⟨ps,Z⟩:=h;unfold jI.put;split;{rename_i g;rw[ai (.inl g)];simp}
 ·rename_i g
  split
  ·rename_i hl
   rw[af (λz=>z.elim g eB)];have Y:Frames ({p with out:=p.out++Plain.mb (c::s)}:jI).out (ps++ [c::s]):=Z.snoc ⟨ik,by simpa using hl⟩;rw[nD Y,nD Z]
  ·rw[ai (.inr eB)];simp
def oJ(q:kZ):List lD:=if j4 q.1 q.2.1 q.2.2=0/\(mV q.1 q.2.1 q.2.2).length+1<=60 then [76::mV q.1 q.2.1 q.2.2]else []
theorem xB:∀(l:List kZ) {p:jI},Fr p->jz (p.say l)=jz p++l.flatMap oJ/\Fr (p.say l)
 |[],p,h=>⟨by simp[jI.say],h⟩
 |q::r,p,h=>by
  show jz ((if j4 q.1 q.2.1 q.2.2=0 then p.put 76 (mV q.1 q.2.1 q.2.2)else p).say r)=_/\Fr ((if j4 q.1 q.2.1 q.2.2=0 then p.put 76 (mV q.1 q.2.1 q.2.2)else p).say r);rw[ch];unfold oJ;split
  ·rename_i g
   obtain⟨a,b⟩:=xB r (h.put 76 (mV q.1 q.2.1 q.2.2));refine⟨?_,b⟩;rw[a,uW h,aD];congr 2;by_cases hl:(mV q.1 q.2.1 q.2.2).length+1<=60;{rw[af (by simp;omega),ai ⟨g,hl⟩]};{rw[ai (.inr eB),af (λz=>hl z.2)]}
  ·rename_i g
   obtain⟨a,b⟩:=xB r h;exact⟨by rw[a,af (λz=>g z.1)];rfl,b⟩
def DW(q:Int×PS):List lD:=if(rN q.1 q.2.1 q.2.2).length+1<=60 then [83::rN q.1 q.2.1 q.2.2]else []
theorem CQ:∀(l:List (Int×PS)) {p:jI},Fr p->p.L.st=9->jz (p.kU l)=jz p++l.flatMap DW
 |[],p,h,_=>by simp[jI.kU]
 |q::r,p,h,h9=>by
  show jz ((p.put 83 (rN q.1 q.2.1 q.2.2)).kU r)=_;rw[CQ r (h.put 83 _) (by rw[xr];exact h9),uW h,ch,aD];congr 2;unfold DW;by_cases hl:(rN q.1 q.2.1 q.2.2).length+1<=60;{rw[af eB,ai hl]};{rw[ai (.inr eB),af hl]}
theorem kB(r:iW)(i:Nat)(q:lK)(p:Nat):((r.meet i q).P p).out=(r.P p).out/\((r.meet i q).P p).L=(r.P p).L/\((r.meet i q).P p).m=(r.P p).m/\((r.meet i q).P p).pe=if p=i then q else(r.P p).pe:=by
 rw[(nr r i q).2.2.2];by_cases e:p=i;{subst e;rw[jL,ai rfl];exact⟨rfl,rfl,rfl,rfl⟩};{rw[jG _ _ e,af e];exact⟨rfl,rfl,rfl,rfl⟩}
theorem k9(r:iW)(i:Nat)(q:jI)(p:Nat):(r.jh i q).P p=if p=i then q else r.P p:=rfl
theorem AA {r:iW} (h:Kw r)(i:Nat)(c:UInt8)(s:List UInt8):(∀p,jz ((kg r i c s).P p)=if p=i/\c=76/\(jk s).2.2.2=0 then(jW (r.P i).L ((jk s).1,(jk s).2.1,(jk s).2.2.1)).2.1.flatMap oJ else [])/\(∀p,Fr ((kg r i c s).P p))/\(∀p,((kg r i c s).P p).pe=(r.P p).pe/\((kg r i c s).P p).m=(r.P p).m/\((kg r i c s).P p).L=if p=i/\c=76/\(jk s).2.2.2=0 then(jW (r.P i).L ((jk s).1,(jk s).2.1,(jk s).2.2.1)).1 else(r.P p).L)/\(kg r i c s).K=r.K/\(kg r i c s).O=r.O/\(kg r i c s).kx=r.kx/\(kg r i c s).id=r.id/\(kg r i c s).n=r.n:=by
 unfold kg;by_cases hc:c=76
 ·rw[ai hc];obtain⟨E,Y⟩:=fq (jW (r.P i).L ((jk s).1,(jk s).2.1,(jk s).2.2.1));rw[Y];have Z:(r.P i).packet s=if(jk s).2.2.2=0 then({r.P i with L:=E.1}:jI).say E.2.1 else r.P i:=by
   unfold jI.packet;simp only;rw[Y]
  have hs:=xB E.2.1 (p:={r.P i with L:=E.1}) (show Fr _ from h.fr i);have V:jz ({r.P i with L:=E.1}:jI)=[] :=jM (h i);have X:=xd E.2.1 ({r.P i with L:=E.1}:jI);have Q:=FC E.2.1 ({r.P i with L:=E.1}:jI);refine⟨λp=> ?_,λp=> ?_,λp=> ?_,rfl,rfl,rfl,rfl,rfl⟩;{rw[k9];by_cases e:p=i;{rw[ai e,Z];by_cases f:(jk s).2.2.2=0;{rw[ai f,ai ⟨e,hc,f⟩,hs.1,V];rfl};{rw[af f,af (λz=>f z.2.2),jM (h i)]}};{rw[af e,af (λz=>e z.1),jM (h p)]}};{rw[k9,Z];split;{split;{exact hs.2};{exact h.fr i}};{exact h.fr p}};{rw[k9,Z];by_cases e:p=i;{subst e;rw[ai rfl];by_cases f:(jk s).2.2.2=0;{rw[ai f,ai ⟨rfl,hc,f⟩,X.1,X.2,Q];exact⟨rfl,rfl,rfl⟩};{rw[af f,af (λz=>f z.2.2)];exact⟨rfl,rfl,rfl⟩}};{rw[af e,af (λz=>e z.1)];exact⟨rfl,rfl,rfl⟩}}
 ·rw[af hc];refine⟨λp=> ?_,λp=>h.fr p,λp=> ?_,rfl,rfl,rfl,rfl,rfl⟩;{rw[af (λz=>hc z.2.1),jM (h p)]};{rw[af (λz=>hc z.2.1)];exact⟨rfl,rfl,rfl⟩}
theorem uX {r:iW} (i:Nat) {c:UInt8} (s:List UInt8)(hc:c≠76):kg r i c s=r:=by unfold kg;rw[af hc]
theorem WZ {r:iW} (h:Kw r)(i:Nat)(s:List UInt8)(p:Nat):jz ((jw r i s).P p)=[] \/(p=i/\(iB s).2.2.2=0/\(r.P i).pe.both=true/\¬((iB s).1=r.id/\0<newF r.K (iB s).1 (iB s).2.1 (iB s).2.2.1)/\0<=newF r.K (iB s).1 (iB s).2.1 (iB s).2.2.1/\jz ((jw r i s).P p)=[65::rN (iB s).1 (iB s).2.1 (iB s).2.2.1]):=by
 unfold jw;simp only;split;{exact .inl (jM (h p))}
 ·rename_i Z
  split;{left;rw[(oV r _).2.2.2];exact jM (h p)}
  ·rename_i Y
   split
   ·rename_i X
    rw[k9];by_cases e:p=i;{rw[ai e,uW (h.fr i),jM (h i)];split;{exact .inl rfl};{refine .inr ⟨e,eB,?_,Y,X,rfl⟩;cases hb:(r.P i).pe.both;{exact absurd (.inr hb) Z};{rfl}}};{rw[af e];exact .inl (jM (h p))}
   ·exact .inl (jM (h p))
theorem DX {r:iW} (h:Kw r)(t:zD):∃j,(∀p,p≠j->jz ((r.send t).P p)=[])/\(jz ((r.send t).P j)=[] \/(((r.P j).L.st=9/\1<=t.2.1)/\jz ((r.send t).P j)=[77::kc t.1::kc (t.2.1-1)::t.2.2])):=by
 unfold iW.send;split;{exact⟨0,λp _=>jM (h p),.inl (jM (h 0))⟩}
 ·cases hv:(if 1<=t.2.1 then(Bl (lv r) t.1).bind λh=>j1 r.P h.sj r.n else ν)with
  |none=>exact⟨0,λp _=>jM (h p),.inl (jM (h 0))⟩
  |some i=>
   have Y:1<=t.2.1:=by
    by_cases g:1<=t.2.1;{exact g};{rw[af g]at hv;simp at hv}
   refine⟨i,λp X=> ?_,?_⟩
   ·show jz ((r.jh i _).P p)=[]
    rw[k9,af X];exact jM (h p)
   ·show jz ((r.jh i _).P i)=[] \/(((r.P i).L.st=9/\1<=t.2.1)/\jz ((r.jh i _).P i)=_);rw[k9,ai rfl,uW (h.fr i),jM (h i)];split;{exact .inl rfl}
    ·rename_i g
     refine .inr ⟨⟨?_,Y⟩,rfl⟩;by_cases Z:(r.P i).L.st=9;{exact Z};{exact absurd (.inl ⟨eF,Z⟩) g}
inductive FR(r:iW)(i:Nat)(x:lD)(p:Nat)(l:List lD):Prop
 |none:l=[]->FR r i x p l
 |link (s:List UInt8):x=76::s->p=i->(jk s).2.2.2=0->l=(jW (r.P i).L ((jk s).1,(jk s).2.1,(jk s).2.2.1)).2.1.flatMap oJ->FR r i x p l
 |heard (s:List UInt8):x=83::s->p=i->(r.P i).L.st=9->(iB s).2.2.2=0->(r.P i).pe.both=true->¬((iB s).1=r.id/\0<newF r.K (iB s).1 (iB s).2.1 (iB s).2.2.1)->0<=newF r.K (iB s).1 (iB s).2.1 (iB s).2.2.1->l=[65::rN (iB s).1 (iB s).2.1 (iB s).2.2.1]->FR r i x p l
 |J4 (a b:UInt8) (s:List UInt8):x=77::a::b::s->(r.P p).L.st=9->1<=b.toNat->s.length<=20->l=[77::a::kc ((b.toNat:Int)-1)::s]->FR r i x p l
theorem qM {r:iW} (h:Kw r)(i:Nat)(x:lD):(∀p,FR r i x p (jz ((jY r i x).P p)))/\∀p q,jz ((jY r i x).P p)≠ []->jz ((jY r i x).P q)≠ []->p=q:=by
 have X:∀r':iW,(∀p,jz (r'.P p)=[])->(∀p,FR r i x p (jz (r'.P p)))/\∀p q,jz (r'.P p)≠ []->jz (r'.P q)≠ []->p=q:=λr' J=>⟨λp=>.none (J p),λp q Z=>absurd (J p) Z⟩
 cases x with
 |nil=>exact X r λp=>jM (h p)
 |cons c s=>
  show(∀p,FR r i (c::s) p (jz ((r.take i c s).P p)))/\_;have G:jY r i (c::s)=r.take i c s:=rfl;rw[G];by_cases hc:c=76
  ·obtain⟨M,a2,a3,_⟩:=AA h i c s;have H:∀p,jz ((r.take i c s).P p)=jz ((kg r i c s).P p):=λp=>by
    rw[l7];split;{exact nX (kB _ _ _ _).1};{unfold mO;rw[af (by rw[hc];decide),af (by rw[hc];decide),af (by rw[hc];decide),af (by rw[hc];decide)]}
   refine⟨λp=> ?_,λp q Z Y=> ?_⟩
   ·rw[H,M];split
    ·rename_i g
     exact .link s (by rw[hc]) g.1 g.2.2 rfl
    ·exact .none rfl
   ·rw[H,M]at Z Y;split at Z
    ·rename_i g
     split at Y;{rename_i V;exact g.1.trans V.1.symm};{exact absurd rfl Y}
    ·exact absurd rfl Z
  ·rw[l7,uX i s hc];by_cases Q:(r.P i).L.st=9
   ·rw[af (by rw[Q];simp)];unfold mO;split;{split;{exact X _ λp=>by rw[nX (kB _ _ _ _).1];exact jM (h p)};{exact X _ λp=>jM (h p)}}
    ·split
     ·rename_i hS
      have hs:=WZ h i s;refine⟨λp=> ?_,λp q Z Y=> ?_⟩
      ·rcases hs p with g|⟨g1,V,g3,g4,g5,g6⟩
       {exact .none g};{exact .heard s (by rw[hS]) g1 Q V g3 g4 g5 g6}
      ·rcases hs p with g|g
       ·exact absurd g Z
       ·rcases hs q with f|f
        {exact absurd f Y};{exact g.1.trans f.1.symm}
     ·split;{refine X _ λp=> ?_;unfold kQ;simp only;split<;>exact jM (h p)}
      ·split
       ·rename_i hM
        unfold rS;split
        ·rename_i hl
         match s,hl with
         |a::b::u,hl=>
          obtain⟨j,g1,V⟩:=DX h (((((a::b::u).getD 0 0).toNat:Nat):Int),((((a::b::u).getD 1 0).toNat:Nat):Int),(a::b::u).drop 2);have E:((a::b::u).getD 0 0)=a:=rfl;have A:((a::b::u).getD 1 0)=b:=rfl;have e3:(a::b::u).drop 2=u:=rfl;rw[E,A,e3]at g1 V⊢;refine⟨λp=> ?_,λp q Z Y=> ?_⟩
          ·by_cases e:p=j
           ·subst e;rcases V with g|⟨g,f⟩
            ·exact .none g
            ·obtain⟨g9,g⟩:=g;have ea:kc ((a.toNat:Nat):Int)=a:=by unfold kc;simp
             refine .J4 a b u (by rw[hM]) g9 (by simp only at g;omega) ?_ ?_;{simp only[eW]at hl;omega};{rw[f];show [77::kc ((a.toNat:Nat):Int)::_::u] =_;rw[ea]}
           ·exact .none (g1 p e)
          ·by_cases e:p=j;{by_cases f:q=j;{rw[e,f]};{exact absurd (g1 q f) Y}};{exact absurd (g1 p e) Z}
        ·exact X _ λp=>jM (h p)
       ·exact X _ λp=>jM (h p)
   ·rw[ai Q];exact X _ λp=>by rw[nX (kB _ _ _ _).1];exact jM (h p)
theorem xY {r:iW} (h:Kw r)(i:Nat):(∀p,p≠i->jz ((r.jj i).P p)=[])/\jz ((r.jj i).P i)=(jq (r.P i).L).2.flatMap oJ++(if(jq (r.P i).L).1.st=9 then(72::[kc r.id,kc (iV (r.P i).pe).who])::(if(iV (r.P i).pe).both=true then(lV (((jo r i).meet i (iV (r.P i).pe)).O i)).flatMap DW else [])else []):=by
 have hs:=xB (jq (r.P i).L).2 (p:={r.P i with L:=(jq (r.P i).L).1}) (show Fr _ from h.fr i);have u:jz ({r.P i with L:=(jq (r.P i).L).1}:jI)=[] :=jM (h i);have hm:=(xd (jq (r.P i).L).2 ({r.P i with L:=(jq (r.P i).L).1}:jI)).2;have j:=FC (jq (r.P i).L).2 ({r.P i with L:=(jq (r.P i).L).1}:jI);have Y:∀p,(jo r i).P p=if p=i then({r.P i with L:=(jq (r.P i).L).1}:jI).say (jq (r.P i).L).2 else r.P p:=λp=>by
  unfold jo;rw[k9];rfl
 have oQ:((jo r i).P i).pe=(r.P i).pe:=by rw[Y,ai rfl,hm]
 have A:((jo r i).P i).L.st=(jq (r.P i).L).1.st:=by rw[Y,ai rfl,j]
 have pS:(jo r i).id=r.id:=rfl;have M:jz ((jo r i).P i)=(jq (r.P i).L).2.flatMap oJ/\Fr ((jo r i).P i):=by
  rw[Y,ai rfl,hs.1,u];exact⟨rfl,hs.2⟩
 rw[lA,A,oQ];by_cases Z:(jq (r.P i).L).1.st=9
 ·rw[af (by rw[Z];simp),ai Z];obtain⟨x,hx⟩:=fq ((jo r i).meet i (iV (r.P i).pe));obtain⟨m1,m2,_,H⟩:=kB (jo r i) i (iV (r.P i).pe) i;have Q:x.id=r.id:=by rw[<-hx];exact(jT.meet (jo r i) i _).id
  rw[hx]at m1 m2 H;rw[ai rfl]at H;have J:jz (x.P i)=(jq (r.P i).L).2.flatMap oJ:=by rw[nX m1];exact M.1
  have E:Fr (x.P i):=by obtain⟨ps,vf⟩:=M.2;exact⟨ps,by rw[m1];exact vf⟩
  have X:(x.P i).L.st=9:=by rw[m2,A];exact Z
  rw[hx];unfold mX;simp only;refine⟨λp V=> ?_,?_⟩;{rw[k9,af V,<-hx,nX (kB _ _ _ _).1,Y,af V];exact jM (h p)};{rw[k9,ai rfl,H,Q];have G:=uW E 72 [kc r.id,kc (iV (r.P i).pe).who];rw[af (by rw[X];simp),J]at G;split;{rw[CQ _ (E.put 72 _) (by rw[xr];exact X),G,aD];rfl};{rw[G]}}
 ·rw[ai Z,af Z];refine⟨λp V=> ?_,?_⟩;{rw[nX (kB _ _ _ _).1,Y,af V];exact jM (h p)};{rw[nX (kB _ _ _ _).1,M.1,aB]}
theorem J5 {r:iW} (h:Kw r)(i:Nat)(up:Bool)(Y:(lr (r.P i).L (if up=true then 0 else 1)).2.2=0):(∀p,p≠i->jz ((r.iZ i up).1.P p)=[])/\jz ((r.iZ i up).1.P i)=(lr (r.P i).L (if up=true then 0 else 1)).2.1.flatMap oJ/\(r.iZ i up).1=((r.jh i (({r.P i with L:=(lr (r.P i).L (if up=true then 0 else 1)).1,rd:=lZ}:jI).say (lr (r.P i).L (if up=true then 0 else 1)).2.1)).meet i nobody):=by
 obtain⟨E,X⟩:=fq (lr (r.P i).L (if up=true then 0 else 1));rw[X]at Y⊢;have hs:=xB E.2.1 (p:={r.P i with L:=E.1,rd:=lZ}) (show Fr _ from h.fr i);have V:jz ({r.P i with L:=E.1,rd:=lZ}:jI)=[] :=jM (h i);have e:(r.P i).iZ up=(({r.P i with L:=E.1,rd:=lZ}:jI).say E.2.1,0):=by
  unfold jI.iZ;rw[X];simp only;rw[af (by simp[Y])];rfl
 have Z:(r.iZ i up).1=(r.jh i (({r.P i with L:=E.1,rd:=lZ}:jI).say E.2.1)).meet i nobody:=by
  unfold iW.iZ;rw[e];simp only;rw[af ik]
 refine⟨λp Q=> ?_,?_,Z⟩;{rw[Z,nX (kB _ _ _ _).1,k9,af Q];exact jM (h p)};{rw[Z,nX (kB _ _ _ _).1,k9,ai rfl,hs.1,V];rfl}
structure Own(r:iW):Prop where
 tie:∀p x q,r.O p x=μ q->r.K x=μ q
 val:∀x q,r.K x=μ q->oK x q.1 q.2=0
 own:Bw r.K r.id=jJ r
def mJ(B:Nat)(r:iW):Prop:=∀x q,r.K x=μ q->q.1<=(B:Int)
theorem mJ.mono {r:iW} (h:mJ B r)(hc:B<=C):mJ C r:=λx q Z=>by have:=h x q Z;omega
theorem CR {P Q:Nat->jI} (n:Int)(h:∀p,(Q p).m=(P p).m/\(Q p).pe.who=(P p).pe.who/\(Q p).pe.both=(P p).pe.both):∀k,j1 Q n k=j1 P n k
 |0=>rfl
 |k+1=>by
  have ih:=CR n h k;unfold j1;rw[ih,(h k).1,(h k).2.1,(h k).2.2];cases j1 P n k with
  |none=>rfl
  |some b=>simp only[(h b).1]
theorem pj {r s:iW} (Z:s.n=r.n)(h:∀p,(s.P p).m=(r.P p).m/\(s.P p).pe.who=(r.P p).pe.who/\(s.P p).pe.both=(r.P p).pe.both):jJ s=jJ r:=by
 unfold jJ;congr 1
 funext j
 rw[Z,CR _ h];cases j1 r.P ((j:Int)+1) r.n with
 |none=>rfl
 |some b=>simp only[Option.map_some,(h b).1]
theorem Own.alike {r s:iW} (h:Own r)(Z:s.K=r.K)(Y:s.O=r.O)(hi:s.id=r.id)(X:s.n=r.n)(V:∀p,(s.P p).m=(r.P p).m/\(s.P p).pe.who=(r.P p).pe.who/\(s.P p).pe.both=(r.P p).pe.both):Own s:=
 ⟨by rw[Z,Y];exact h.tie,by rw[Z];exact h.val,by rw[Z,hi,pj X V];exact h.own⟩
theorem mJ.alike {r s:iW} (h:mJ B r)(Z:s.K=r.K):mJ B s:=by unfold mJ;rw[Z];exact h
structure aew(r:iW):Prop where
 tie:∀p x q,r.O p x=μ q->r.K x=μ q
 val:∀x q,r.K x=μ q->oK x q.1 q.2=0
theorem FU {r:iW} (h:aew r)(X:lM r)(hs:mJ B r) {q:Int} (h0:0<=q)(hq:q<=B)(hB:B<1000000):Own (r.behind q)/\mJ (B+1) (r.behind q):=by
 unfold iW.behind;rw[ai eB];have hv:=Ah X (seq:=q+1) eB;refine⟨⟨λp x u Z=> ?_,λx u Z=> ?_,?_⟩,λx u Z=> ?_⟩;{have e:(if x=r.id then μ (q+1,jJ r)else r.O p x)=μ u:=Z;show(if x=r.id then μ (q+1,jJ r)else r.K x)=μ u;split;{rename_i g;rw[ai g]at e;exact e};{rename_i g;rw[af g]at e;exact h.tie p x u e}};{have e:(if x=r.id then μ (q+1,jJ r)else r.K x)=μ u:=Z;by_cases g:x=r.id;{rw[ai g]at e;injection e with e;rw[<-e,g];exact hv};{rw[af g]at e;exact h.val x u e}}
 ·have Y:jJ (r.EP (q+1) (jJ r))=jJ r:=pj rfl λ_=>⟨rfl,rfl,rfl⟩
  rw[Y];show Bw (wF r.K r.id (q+1,jJ r)) r.id=_;unfold Bw wF;rw[ai rfl]
 ·have e:(if x=r.id then μ (q+1,jJ r)else r.K x)=μ u:=Z;by_cases g:x=r.id;{rw[ai g]at e;injection e with e;rw[<-e];push_cast;show q+1<=_;omega};{rw[af g]at e;have:=hs x u e;push_cast;omega}
theorem Qp {r:iW} (h:mJ B r)(Y:lM r):y8 r.K r.id<=B/\0<=y8 r.K r.id:=by
 obtain⟨q,Z,_⟩:=Y.own;have h2:=Y.seq;refine⟨?_,eB⟩;unfold y8;rw[Z];exact h _ _ Z
theorem O2 {r:iW} (h:aew r)(Z:lM r)(hs:mJ B r)(Y:B<1000000):Own r.change/\mJ (B+1) r.change:=by
 unfold iW.change;split;{rename_i g;exact⟨⟨h.tie,h.val,g⟩,hs.mono eB⟩};{exact FU h Z hs (Qp hs Z).2 (Qp hs Z).1 Y}
def dif(a b:lK):Nat:=if a.who=b.who/\a.both=b.both then 0 else 1
theorem FV {r:iW} (h:Own r)(M:lM r)(hs:mJ B r)(V:B<1000000)(i:Nat) {q:lK} (Q:oI r.id q):Own (r.meet i q)/\mJ (B+dif q (r.P i).pe) (r.meet i q):=by
 unfold iW.meet dif;simp only;split
 ·rename_i g
  refine⟨h.alike rfl rfl rfl rfl λp=> ?_,hs.alike rfl⟩;rw[k9];split;{rename_i e;rw[e];exact⟨rfl,g.1,g.2⟩};{exact⟨rfl,rfl,rfl⟩}
 ·have X:lM (r.jh i {r.P i with pe:=q}):=M.jh i _ rfl λ_=>Q;obtain⟨x,hx⟩:∃x:iW,({r.jh i {r.P i with pe:=q}with O:=λx=>if x=i then λ_=>ν else(r.jh i {r.P i with pe:=q}).O x}:iW)=x:=⟨_,rfl⟩
  have Y:lM x:=by rw[<-hx];exact X.zd _
  have o2:aew x:=by
   refine⟨λp y u Z=> ?_,λy u Z=> ?_⟩;{rw[<-hx]at Z⊢;have e:(if p=i then λ_=>ν else r.O p) y=μ u:=Z;split at e;{exact absurd e ik};{exact h.tie p y u e}};{rw[<-hx]at Z;exact h.val y u Z}
  have J:mJ B x:=by rw[<-hx];exact hs.alike rfl
  obtain⟨c1,c2⟩:=O2 o2 Y J V;rw[hx];split;{refine⟨⟨λp y u Z=> ?_,c1.val,?_⟩,c2⟩;{have e:(if p=i then qU (x.change.O i) x.change.K else x.change.O p) y=μ u:=Z;show x.change.K y=μ u;split at e;{unfold qU at e;split at e;{exact e};{exact c1.tie i y u e}};{exact c1.tie p y u e}};{exact(c1.own).trans (pj rfl λ_=>⟨rfl,rfl,rfl⟩).symm}};{exact⟨c1,c2⟩}
theorem Tj {r:iW} (h:Own r)(jb:lM r)(hs:mJ B r)(hB:B<1000000)(i:Nat)(l:List UInt8)(hl:(iB l).2.2.2=0->(iB l).2.1<=B):Own (jw r i l)/\mJ (B+1) (jw r i l):=by
 unfold jw;simp only;split;{exact⟨h,hs.mono eB⟩}
 ·rename_i h1
  have G:(iB l).2.2.2=0:=eB;have hv:oK (iB l).1 (iB l).2.1 (iB l).2.2.1=0:=qy (by rw[<-G]);have Q:=hl G;have qN:=(jC hv).2.1;split;{exact FU ⟨h.tie,h.val⟩ jb hs eB Q hB}
  ·rename_i j
   generalize (iB l).1=own,(iB l).2.1=seq,(iB l).2.2.1=es at*;have H:∀x u,lQ r.K own seq es x=μ u->r.K x=μ u \/(x=own/\u=(seq,es)/\0<newF r.K own seq es):=λx u X=>by
    unfold lQ at X;split at X
    ·rename_i g
     have e:(if x=own then μ (seq,es)else r.K x)=μ u:=X;split at e;{rename_i Z;injection e with e;exact .inr ⟨Z,e.symm,g⟩};{exact .inl e}
    ·exact .inl X
   have M:Own {r with K:=lQ r.K own seq es,O:=pw r.K r.O i own seq es} /\mJ B {r with K:=lQ r.K own seq es,O:=pw r.K r.O i own seq es}:=by
    refine⟨⟨λp x u X=> ?_,λx u X=> ?_,?_⟩,λx u X=> ?_⟩
    ·have Y:pw r.K r.O i own seq es p x=μ u:=X;show lQ r.K own seq es x=μ u;unfold pw at Y;unfold lQ;by_cases g:0<newF r.K own seq es;{rw[ai g]at Y⊢;show(if x=own then μ (seq,es)else r.K x)=μ u;split at Y;{have e:(if x=own then ν else if x=own then μ (seq,es)else r.O i x)=μ u:=Y;by_cases Z:x=own;{rw[ai Z]at e;exact absurd e ik};{rw[af Z,af Z]at e;rw[af Z];exact h.tie i x u e}};{have e:(if x=own then μ (seq,es)else r.O p x)=μ u:=Y;by_cases Z:x=own;{rw[ai Z]at e⊢;exact e};{rw[af Z]at e⊢;exact h.tie p x u e}}}
     ·rw[af g]at Y⊢;by_cases V:newF r.K own seq es<0
      ·rw[ai V]at Y;split at Y
       ·cases J:r.K own with
        |none=>rw[J]at Y;exact h.tie i x u Y
        |some q=>
         rw[J]at Y;have e:(if x=own then μ q else r.O i x)=μ u:=Y;by_cases Z:x=own;{rw[ai Z]at e;rw[Z,J];exact e};{rw[af Z]at e;exact h.tie i x u e}
       ·exact h.tie p x u Y
      ·rw[af V]at Y;split at Y;{have e:(if x=own then ν else r.O i x)=μ u:=Y;by_cases Z:x=own;{rw[ai Z]at e;exact absurd e ik};{rw[af Z]at e;exact h.tie i x u e}};{exact h.tie p x u Y}
    ·rcases H x u X with g|⟨g1,V,_⟩
     {exact h.val x u g};{rw[g1,V];exact hv}
    ·have A:jJ {r with K:=lQ r.K own seq es,O:=pw r.K r.O i own seq es}=jJ r:=pj rfl λ_=>⟨rfl,rfl,rfl⟩
     rw[A,<-h.own];show Bw (lQ r.K own seq es) r.id=_;have:lQ r.K own seq es r.id=r.K r.id:=by
      unfold lQ;split
      ·rename_i g
       have Z:r.id≠own:=λe=>j ⟨e.symm,g⟩;show(if r.id=own then _ else _)=_;rw[af Z]
      ·rfl
     unfold Bw;rw[this]
    ·rcases H x u X with g|⟨_,V,_⟩
     {exact hs x u g};{rw[V];exact Q}
   split
   ·refine⟨M.1.alike rfl rfl rfl rfl λp=> ?_,(M.2.alike (s:=iW.jh _ i _) rfl).mono eB⟩;rw[k9];split
    ·rename_i e
     rw[e];have E:∀(p:jI) c s,(p.put c s).m=p.m/\(p.put c s).pe=p.pe:=λp c s=>by unfold jI.put;split<;>(try split)<;>exact⟨rfl,rfl⟩
     rw[(E _ _ _).1,(E _ _ _).2];exact⟨rfl,rfl,rfl⟩
    ·exact⟨rfl,rfl,rfl⟩
   ·exact⟨M.1,M.2.mono eB⟩
theorem Tk {r:iW} (h:Own r)(i:Nat)(l:List UInt8):Own (kQ r i l)/\(kQ r i l).K=r.K:=by
 unfold kQ;simp only;split;{refine⟨⟨λp x u Y=> ?_,h.val,h.own.trans (pj rfl λ_=>⟨rfl,rfl,rfl⟩).symm⟩,rfl⟩;have e:(if p=i/\0<=newF r.K (iB l).1 (iB l).2.1 (iB l).2.2.1 then yU (r.O i) (iB l).1 else r.O p) x=μ u:=Y;show r.K x=μ u;split at e;{have Z:(if x=(iB l).1 then ν else r.O i x)=μ u:=e;split at Z;{exact absurd Z ik};{exact h.tie i x u Z}};{exact h.tie p x u e}};{exact⟨h,rfl⟩}
theorem sT(p:jI)(c:UInt8)(s:List UInt8):(p.put c s).m=p.m/\(p.put c s).pe=p.pe:=by unfold jI.put;split<;>(try split)<;>exact⟨rfl,rfl⟩
theorem nJ(r:iW)(t:zD):(r.send t).K=r.K/\(r.send t).O=r.O/\(r.send t).id=r.id/\(r.send t).n=r.n/\∀p,((r.send t).P p).m=(r.P p).m/\((r.send t).P p).pe=(r.P p).pe/\((r.send t).P p).L=(r.P p).L:=by
 unfold iW.send;split;{exact⟨rfl,rfl,rfl,rfl,λ_=>⟨rfl,rfl,rfl⟩⟩};{split;{exact⟨rfl,rfl,rfl,rfl,λ_=>⟨rfl,rfl,rfl⟩⟩};{refine⟨rfl,rfl,rfl,rfl,λp=> ?_⟩;rw[k9];split;{rename_i e;rw[e,(sT _ _ _).1,(sT _ _ _).2,xr];exact⟨rfl,rfl,rfl⟩};{exact⟨rfl,rfl,rfl⟩}}}
theorem My {r:iW} (h:Own r)(t:zD):Own (r.send t):=by
 obtain⟨a,b,c,d,e⟩:=nJ r t;exact h.alike a b c d λp=>by rw[(e p).1,(e p).2.1];exact⟨rfl,rfl,rfl⟩
def Tl(q:lK):Nat:=if q.who=0/\q.both=false then 0 else 1
def rJ(r:iW):Nat:=Tl (r.P 0).pe+Tl (r.P 1).pe+Tl (r.P 2).pe
theorem qA {r s:iW} (h:∀p,(s.P p).pe=(r.P p).pe):rJ s=rJ r:=by unfold rJ;rw[h,h,h]
theorem FX {r:iW} (hi:i<3)(q:lK):rJ (r.meet i q)+Tl (r.P i).pe=rJ r+Tl q:=by
 have h:=λp=>(kB r i q p).2.2.2;unfold rJ;rw[h,h,h];have:i=0 \/i=1 \/i=2:=eB;rcases this with rfl|rfl|rfl
 {rw[ai rfl,af eF,af eF];omega};{rw[af eF,ai rfl,af eF];omega};{rw[af eF,af eF,ai rfl];omega}
theorem aex(a b:lK):dif a b<=1:=by unfold dif;split<;>decide
theorem aey(a:lK):Tl a<=1:=by unfold Tl;split<;>decide
theorem FY(q:lK):dif nobody q+Tl nobody<=Tl q:=by
 unfold dif Tl;show(if(0:Int)=q.who/\false=q.both then 0 else 1)+(if(0:Int)=0/\false=false then 0 else 1)<=_;rw[ai (⟨rfl,rfl⟩:(0:Int)=0/\false=false)];by_cases e:q.who=0/\q.both=false;{rw[ai ⟨e.1.symm,e.2.symm⟩];omega};{rw[af (λh=>e ⟨h.1.symm,h.2.symm⟩),af e];exact Nat.le_refl _}
theorem W8(q:lK):dif (iV q) q+Tl (iV q)<=Tl q:=by
 unfold iV;split;{exact FY q};{unfold dif Tl;rw[ai ⟨rfl,rfl⟩];simp}
def sw:lD->Nat
 |72::_=>2
 |83::_=>1
 |_=>0
def AB(B:Nat)(x:lD):Prop:=∀s,x=83::s->(iB s).2.2.2=0->(iB s).2.1<=(B:Int)
theorem AB.mono {x:lD} (h:AB B x)(hc:B<=C):AB C x:=λs e Z=>by have:=h s e Z;omega
theorem B1 {r:iW} (h:Own r)(Z:lM r)(hs:mJ B r)(Y:B<1000000)(hi:i<3):∃C,Own (r.meet i nobody)/\mJ C (r.meet i nobody)/\B<=C/\C+rJ (r.meet i nobody)<=B+rJ r:=by
 obtain⟨a,b⟩:=FV h Z hs Y i (oI.nobody Z.id.1);have h1:=FX (r:=r) hi nobody;have h2:=FY (r.P i).pe;exact⟨_,a,b,eB,eB⟩
theorem Tm {r:iW} (h:Own r)(M:lM r)(hs:mJ B r)(X:B<1000000)(hi:i<3)(x:lD)(hx:AB B x):∃C,Own (jY r i x)/\mJ C (jY r i x)/\B<=C/\C+rJ (jY r i x)<=B+rJ r+sw x:=by
 cases x with
 |nil=>exact⟨B,h,hs,Nat.le_refl _,by show B+rJ r<=_;omega⟩
 |cons c s=>
  show∃C,Own (r.take i c s)/\mJ C (r.take i c s)/\B<=C/\C+rJ (r.take i c s)<=B+rJ r+sw (c::s);have hl:Own (kg r i c s)/\mJ B (kg r i c s)/\rJ (kg r i c s)=rJ r:=by
   unfold kg;split
   ·have e:∀p,((r.jh i ((r.P i).packet s)).P p).m=(r.P p).m/\((r.jh i ((r.P i).packet s)).P p).pe=(r.P p).pe:=λp=>by
     rw[k9];split;{rename_i e;rw[e,(uS _ _).1,(uS _ _).2];exact⟨rfl,rfl⟩};{exact⟨rfl,rfl⟩}
    exact⟨h.alike rfl rfl rfl rfl λp=>by rw[(e p).1,(e p).2];exact⟨rfl,rfl,rfl⟩,hs.alike rfl,qA λp=>(e p).2⟩
   ·exact⟨h,hs,rfl⟩
  have Y:=M.link i c s;rw[l7];obtain⟨r1,Q⟩:=fq (kg r i c s);have pS:r1.id=r.id:=by rw[<-Q];exact(jT.link r i c s).id
  rw[Q]at hl Y⊢;obtain⟨l1,l2,l3⟩:=hl;split;{obtain⟨C,a,b,c1,c2⟩:=B1 l1 Y l2 X hi;exact⟨C,a,b,c1,eB⟩}
  ·unfold mO;split
   ·rename_i hc
    split
    ·rename_i V
     obtain⟨a,b⟩:=FV l1 Y l2 X i (oI.Zr (s:=(kT s).2.1) Y.id.1 (Fg V));have h1:=FX (r:=r1) hi (ju r1.id (kT s).1 (kT s).2.1);have h2:=aex (ju r1.id (kT s).1 (kT s).2.1) (r1.P i).pe;have h3:=aey (ju r1.id (kT s).1 (kT s).2.1);exact⟨_,a,b,eB,by rw[hc];show _<=B+rJ r+2;omega⟩
    ·exact⟨B,l1,l2,Nat.le_refl _,eB⟩
   ·split
    ·rename_i hc
     obtain⟨a,b⟩:=Tj l1 Y l2 X i s λV=>hx s (by rw[hc]) V;have e:rJ (jw r1 i s)=rJ r1:=qA λp=>(kG.state r1 i s p).2;exact⟨_,a,b,eB,by rw[hc,e];show _<=B+rJ r+1;omega⟩
    ·split
     ·obtain⟨a,b⟩:=Tk l1 i s;have e:rJ (kQ r1 i s)=rJ r1:=qA λp=>by unfold kQ;simp only;split<;>rfl
      exact⟨B,a,l2.alike b,Nat.le_refl _,by rw[e];omega⟩
     ·split;{unfold rS;split;{have Z:=nJ r1 (((s.getD 0 0).toNat:Int),((s.getD 1 0).toNat:Int),s.drop 2);exact⟨B,My l1 _,l2.alike Z.1,Nat.le_refl _,by rw[qA λp=>(Z.2.2.2.2 p).2.1];omega⟩};{exact⟨B,l1,l2,Nat.le_refl _,eB⟩}};{exact⟨B,l1,l2,Nat.le_refl _,eB⟩}
theorem mB(r:iW)(i p:Nat):((jo r i).P p).m=(r.P p).m/\((jo r i).P p).pe=(r.P p).pe:=by
 unfold jo;rw[k9];split;{rename_i e;rw[e,(tH _).1,(tH _).2.1];exact⟨rfl,rfl⟩};{exact⟨rfl,rfl⟩}
theorem qe(r:iW)(i:Nat):(mX r i).K=r.K/\(mX r i).O=r.O/\(mX r i).id=r.id/\(mX r i).n=r.n/\∀p,((mX r i).P p).m=(r.P p).m/\((mX r i).P p).pe=(r.P p).pe/\((mX r i).P p).L=(r.P p).L:=by
 have hA:∀(l:List (Int×PS)) (p:jI),(p.kU l).m=p.m:=λl=>by
  induction l with
  |nil=>intro p;rfl
  |cons q r ih=>intro p;show((p.put 83 _).kU r).m=_;rw[ih,(sT _ _ _).1]
 refine⟨rfl,rfl,rfl,rfl,λp=> ?_⟩;unfold mX;simp only;rw[k9];split
 ·rename_i e
  rw[e];split;{rw[hA,(xt _ _).1,(xt _ _).2,(sT _ _ _).1,(sT _ _ _).2,xr];exact⟨rfl,rfl,rfl⟩};{rw[(sT _ _ _).1,(sT _ _ _).2,xr];exact⟨rfl,rfl,rfl⟩}
 ·exact⟨rfl,rfl,rfl⟩
theorem B3 {r:iW} (h:Own r)(Q:lM r)(hs:mJ B r)(X:B<1000000)(hi:i<3)(hn:r.n=3):∃C,Own (r.jj i)/\mJ C (r.jj i)/\B<=C/\C+rJ (r.jj i)<=B+rJ r/\lM (r.jj i):=by
 rw[lA];have Z:Own (jo r i):=h.alike rfl rfl rfl rfl λp=>by rw[(mB r i p).1,(mB r i p).2];exact⟨rfl,rfl,rfl⟩
 have s1:mJ B (jo r i):=hs.alike rfl;have k1:=Q.jo i;have c1:rJ (jo r i)=rJ r:=qA λp=>(mB r i p).2;have n1:(jo r i).n=r.n:=rfl;obtain⟨r1,M⟩:=fq (jo r i);rw[M]at Z s1 k1 c1 n1⊢;split;{obtain⟨C,a,b,c,d⟩:=B1 Z k1 s1 X hi;exact⟨C,a,b,c,eB,k1.meet i (oI.nobody k1.id.1)⟩};{have V:=oI.tick k1.id.1 (k1.pe i eB);obtain⟨a,b⟩:=FV Z k1 s1 X i V;have h2:=FX (r:=r1) hi (iV (r1.P i).pe);have h3:=W8 (r1.P i).pe;obtain⟨t1,t2,J,H,Y⟩:=qe (r1.meet i (iV (r1.P i).pe)) i;refine⟨_,a.alike t1 t2 J H λp=> ?_,b.alike t1,eB,?_,(k1.meet i V).tell i⟩;{rw[(Y p).1,(Y p).2.1];exact⟨rfl,rfl,rfl⟩};{rw[qA λp=>(Y p).2.1];omega}}
theorem Xa {r:iW} (h:Own r)(Y:lM r)(hs:mJ B r)(V:B<1000000)(hi:i<3)(up:Bool):∃C,Own (r.iZ i up).1/\mJ C (r.iZ i up).1/\B<=C/\C+rJ (r.iZ i up).1<=B+rJ r/\lM (r.iZ i up).1:=by
 unfold iW.iZ;simp only;split;{exact⟨B,h,hs,Nat.le_refl _,Nat.le_refl _,Y⟩}
 ·have e:((r.P i).iZ up).1.m=(r.P i).m/\((r.P i).iZ up).1.pe=(r.P i).pe:=by
   unfold jI.iZ;generalize lr (r.P i).L (if up=true then 0 else 1)=E;simp only;split;{exact⟨rfl,rfl⟩};{rw[(xd _ _).1,(xd _ _).2];exact⟨rfl,rfl⟩}
  have Z:∀p,((r.jh i ((r.P i).iZ up).1).P p).m=(r.P p).m/\((r.jh i ((r.P i).iZ up).1).P p).pe=(r.P p).pe:=λp=>by
   rw[k9];split;{rename_i g;rw[g];exact e};{exact⟨rfl,rfl⟩}
  have X:Own (r.jh i ((r.P i).iZ up).1):=h.alike rfl rfl rfl rfl λp=>by rw[(Z p).1,(Z p).2];exact⟨rfl,rfl,rfl⟩
  have k1:lM (r.jh i ((r.P i).iZ up).1):=Y.jh i _ e.1 λhi=>by rw[e.2];exact Y.pe i hi
  obtain⟨C,a,b,c,d⟩:=B1 X k1 (hs.alike (s:=r.jh i _) rfl) V hi;exact⟨C,a,b,c,by rw[qA λp=>(Z p).2]at d;exact d,k1.meet i (oI.nobody k1.id.1)⟩
structure wa(B N:Nat)(a:AN):Prop where
 r:∀i,i<a.n->Own (a.R i)/\lM (a.R i)/\mJ B (a.R i)/\(a.R i).id=(i:Int)+1/\(a.R i).n=3
 f:∀c d,c<a.nc->d<2->∀x∈a.F c d,AB B x
 b:B+a.W sw+sm (λi=>rJ (a.R i)) (ft a.n)<=N
 one:1<=B
 ms:∀i p,i<a.n->p<3->1<=a.ms i p/\a.ms i p<=20
theorem Xb {s:iW} (h:Own s):Own s.core:=h.alike rfl rfl rfl rfl λ_=>⟨rfl,rfl,rfl⟩
theorem Z6 {s:iW} (h:lM s):lM s.core:=⟨h.id,h.m,h.pe,h.own,h.P5⟩
theorem own_op {a:AN} (hB:uh a)(h:wa B N a)(i:Nat)(hi:i<a.n)(s:iW)(C k:Nat)(G:Own s)(E:lM s)(A:mJ C s)(u:s.id=(i:Int)+1)(h5:s.n=3)(Z:B<=C)(X:∀p,∀x∈jz (s.P p),AB C x)(hb:C+rJ s+(sm sw (jz (s.P 0))+sm sw (jz (s.P 1))+sm sw (jz (s.P 2)))<=B+rJ (a.R i)+k):wa C (N+k) (a.op i s):=by
 refine⟨λj hj=> ?_,λc d hc hd x hx=> ?_,?_,by have:=h.one;omega,h.ms⟩;{show Own (j6 a.R i s.core j)/\lM (j6 a.R i s.core j)/\mJ C (j6 a.R i s.core j)/\(j6 a.R i s.core j).id=_/\(j6 a.R i s.core j).n=3;by_cases e:j=i;{rw[e,iQ];exact⟨Xb G,Z6 E,A.alike (s:=s.core) rfl,u,h5⟩};{rw[iI _ _ e];obtain⟨V,Q,M,J,H⟩:=h.r j hj;exact⟨V,Q,M.mono Z,J,H⟩}}
 ·rw[vZ]at hx;split at hx
  ·rcases av.1 hx with e|e
   {exact(h.f c d hc hd x e).mono Z};{exact X _ x e}
  ·exact(h.f c d hc hd x hx).mono Z
 ·have h6:=aev hB i s sw;have h7:sm (λj=>rJ ((a.op i s).R j)) (ft a.n)+rJ (a.R i)<=sm (λj=>rJ (a.R j)) (ft a.n)+rJ s:=by
   have Y:sm (λj=>rJ ((a.op i s).R j)+(if j=i then rJ (a.R i)else 0)) (ft a.n)<=sm (λj=>rJ (a.R j)+(if j=i then rJ s else 0)) (ft a.n):=vS λj _=>by
    show rJ (j6 a.R i s.core j)+_<=_;by_cases e:j=i;{subst e;rw[iQ,ai rfl,ai rfl];have:rJ s.core=rJ s:=rfl;omega};{rw[iI _ _ e,af e,af e];exact Nat.le_refl _}
   rw[FQ,FQ,J3 i _ bX,J3 i _ bX,ai (aN.2 hi),ai (aN.2 hi)]at Y;exact Y
  have h8:=h.b;show C+(a.op i s).W sw+sm (λj=>rJ ((a.op i s).R j)) (ft a.n)<=N+k;omega
theorem xZ {F:Int->Option PS} {y:Int×PS} (h:y∈lV F):F y.1=μ y.2:=by
 unfold lV at h;obtain⟨j,_,Z⟩:=bZ.1 h;cases e:F ((j:Int)+1)with
 |none=>rw[e]at Z;simp at Z
 |some q=>rw[e]at Z;simp only[Option.map_some,Option.some.injEq]at Z;rw[<-Z];exact e
theorem sD {x:lD} {l:List kZ} (h:x∈l.flatMap oJ):∃s,x=76::s:=by
 obtain⟨q,_,Z⟩:=aT.1 h;unfold oJ at Z;split at Z;{exact⟨_,ar.1 Z⟩};{simp at Z}
theorem AE:∀ {l:List lD},(∀x∈l,sw x=0)->sm sw l=0
 |[],_=>rfl
 |x::l,h=>by
  have:=AE (l:=l) λy hy=>h y (by simp[hy]);have h1:=h x ik;show sw x+sm sw l=0;omega
theorem Qr:∀l:List (Int×PS),sm sw (l.flatMap DW)<=l.length
 |[] =>Nat.le_refl _
 |q::l=>by
  have:=Qr l;rw[ch,qz];have h1:sm sw (DW q)<=1:=by
   unfold DW;split;{exact Nat.le_refl _};{exact Nat.zero_le _}
  simp only[eW];omega
theorem Qs {r:iW} {x:lD} {l:List lD} (h:FR r i x p l):(∀y∈l,sw y=0)/\∀B,∀y∈l,AB B y:=by
 have Z:∀(c:UInt8) (s:List UInt8),c≠72->c≠83->sw (c::s)=0/\∀B,AB B (c::s):=λc s X Y=>by
  refine⟨?_,λB t e=>absurd (aC e).1 Y⟩;unfold sw;split;{rename_i e;exact absurd (aC e).1 X};{rename_i e;exact absurd (aC e).1 Y};{rfl}
 cases h with
 |none h=>rw[h];exact⟨λ_ h=>by simp at h,λ_ _ h=>by simp at h⟩
 |link s _ _ _ h=>
  rw[h];exact⟨λy hy=>by obtain⟨s,rfl⟩:=sD hy;exact(Z 76 s eF eF).1,λB y hy=>by obtain⟨s,rfl⟩:=sD hy;exact(Z 76 s eF eF).2 B⟩
 |heard s _ _ _ _ _ _ _ h=>
  rw[h];exact⟨λy hy=>by rw[ar.1 hy];exact(Z 65 _ eF eF).1,λB y hy=>by rw[ar.1 hy];exact(Z 65 _ eF eF).2 B⟩
 |J4 a b s _ _ _ _ h=>
  rw[h];exact⟨λy hy=>by rw[ar.1 hy];exact(Z 77 _ eF eF).1,λB y hy=>by rw[ar.1 hy];exact(Z 77 _ eF eF).2 B⟩
theorem Mz {r:iW} (h:lM r)(i:Nat)(x:lD):lM (jY r i x)/\(jY r i x).id=r.id/\(jY r i x).n=r.n:=by
 cases x with
 |nil=>exact⟨h,rfl,rfl⟩
 |cons c s=>exact⟨h.take i c s,(OI r i c s).2,(OI r i c s).1⟩
theorem J6(r:iW)(i:Nat)(up:Bool):(r.iZ i up).1.id=r.id/\(r.iZ i up).1.n=r.n:=⟨(jT.iZ r i up).id,(jT.iZ r i up).n⟩
theorem J7 {s:iW} (h:∀p,∀y∈jz (s.P p),sw y=0):sm sw (jz (s.P 0))+sm sw (jz (s.P 1))+sm sw (jz (s.P 2))=0:=by
 rw[AE (h 0),AE (h 1),AE (h 2)]
theorem Qt {r:iW} (h:Kw r)(i:Nat)(up:Bool):∀p,∀y∈jz ((r.iZ i up).1.P p),∃s,y=76::s:=λp y hy=>by
 by_cases Z:(lr (r.P i).L (if up=true then 0 else 1)).2.2=0;{obtain⟨a,b,_⟩:=J5 h i up Z;by_cases e:p=i;{subst e;rw[b]at hy;exact sD hy};{rw[a p e]at hy;simp at hy}}
 ·have:(r.iZ i up).1=r:=by
   unfold iW.iZ jI.iZ;generalize lr (r.P i).L (if up=true then 0 else 1)=E at*;simp only;rw[ai Z];simp only;rw[ai Z]
  rw[this,jM (h p)]at hy;simp at hy
theorem Xc(s:List UInt8):sw (76::s)=0/\∀B,AB B (76::s):=⟨rfl,λB t e=>absurd (aC e).1 eF⟩
theorem B5 {a:AN} (Z:uh a)(G:Norm a)(h:wa B N a)(hl:N<1000000)(hc:c<a.nc)(hd:d<2)(up:Bool):∃C,wa C N (a.nW c d up):=by
 obtain⟨hi,E⟩:=Z.en c d hc hd;obtain⟨X,V,Q,M,J⟩:=h.r _ hi;obtain⟨C,c1,c2,c3,c4,H⟩:=Xa X V Q (by have:=h.b;omega) E up;have Y:=Qt (G.emp (a.e c d).1) (a.e c d).2 up;refine⟨C,own_op Z h _ hi _ C 0 c1 H c2 ((J6 _ _ _).1.trans M) ((J6 _ _ _).2.trans J) c3 (λp x hx=> ?_) ?_⟩;{obtain⟨s,rfl⟩:=Y p x hx;exact(Xc s).2 C};{rw[J7 λp y hy=>by obtain⟨s,rfl⟩:=Y p y hy;rfl];omega}
theorem MA {a:AN} (J:uh a)(H:Norm a)(h:wa B N a)(hl:N<1000000)(hc:c<a.nc)(up:Bool):∃C,wa C N (a.iZ c up):=by
 obtain⟨b,hb⟩:=fq ((({a with jc:=j6 a.jc c up}:AN).lR c 0 []).lR c 1 []);have Y:uh b:=J.same (by rw[<-hb];rfl) (by rw[<-hb];rfl) (by rw[<-hb];rfl);have X:Norm b:=by rw[<-hb];exact H
 have V:c<b.nc:=by rw[<-hb];exact hc
 have Q:wa B N b:=by
  have w1:=DV {a with jc:=j6 a.jc c up} sw c 0;have E:=DV (({a with jc:=j6 a.jc c up}:AN).lR c 0 []) sw c 1;have w3:=h.b;rw[hb]at E;have e1:({a with jc:=j6 a.jc c up}:AN).W sw=a.W sw:=rfl;refine⟨by rw[<-hb];exact h.r,λx f hx hf y hy=> ?_,?_,h.one,by rw[<-hb];exact h.ms⟩
  ·have G:y∈a.F x f \/y∈([] :List lD):=by
    rw[<-hb]at hy;have Z:y∈(if x=c/\f=1 then []else if x=c/\f=0 then []else a.F x f):=hy;split at Z;{exact .inr Z};{split at Z;{exact .inr Z};{exact .inl Z}}
   rcases G with g|g
   {exact h.f x f (by rw[<-hb]at hx;exact hx) hf y g};{simp at g}
  ·have Z:sm (λi=>rJ (b.R i)) (ft b.n)=sm (λi=>rJ (a.R i)) (ft a.n):=by rw[<-hb];rfl
   omega
 obtain⟨C,M⟩:=B5 Y X Q hl V (by decide:0<2) up;unfold AN.iZ;rw[hb];exact B5 (a:=b.nW c 0 up) (Y.same rfl rfl rfl) (rI X _ _) M hl V (by decide:1<2) up
theorem ni.own {a b:AN} (h:ni a T S b)(X:uh a)(A:Norm a)(Z:wa B N a)(hl:N<1000000):∃C,wa C (N+8*T.length) b:=by
 have hBl:=Z.b;cases h with
 |lost h=>
  refine⟨B,by rw[h.1];exact Z.r,λc d hc hd x hx=> ?_,?_,Z.one,by rw[h.1];exact Z.ms⟩;{obtain⟨m,hm⟩:=h.2 c d;rw[hm]at hx;rw[h.1]at hc;exact Z.f c d hc hd x (dj hx)}
  ·have h1:=aeu h sw;have e:sm (λi=>rJ (b.R i)) (ft b.n)=sm (λi=>rJ (a.R i)) (ft a.n):=by rw[h.1]
   show _<=N+0;omega
 |tick i p hi hp=>
  obtain⟨J,V,H,G,Q⟩:=Z.r i hi;obtain⟨C,c1,c2,c3,c4,c5⟩:=B3 J V H eB hp Q;obtain⟨E,e2⟩:=xY (A.emp i) p;have pS:((a.R i).jj p).id=(i:Int)+1/\((a.R i).jj p).n=3:=⟨(jT.jj (a.R i) p).id.trans G,(jT.jj (a.R i) p).n.trans Q⟩
  have hOp:((a.R i).jj p).O=((jo (a.R i) p).meet p (iV ((a.R i).P p).pe)).O \/(jq ((a.R i).P p).L).1.st≠9:=by
   by_cases h9:(jq ((a.R i).P p).L).1.st=9
   ·left;have kC:((jo (a.R i) p).P p).L.st=9:=by
     unfold jo;rw[k9,ai rfl];rw[tJ];exact h9
    rw[lA,af (by rw[kC];simp),(mB _ _ _).2];rfl
   ·exact .inr h9
  refine⟨C,own_op X Z i hi _ C 8 c1 c5 c2 pS.1 pS.2 c3 (λq x hx=> ?_) ?_⟩
  ·by_cases e:q=p
   ·subst e;rw[e2]at hx;rcases av.1 hx with g|g
    ·obtain⟨s,rfl⟩:=sD g;exact(Xc s).2 C
    ·split at g
     ·rename_i h9
      rcases aP.1 g with g|g
      {rw[g];intro s e;exact absurd (aC e).1 eF};{split at g;{obtain⟨y,hy,Dt⟩:=aT.1 g;unfold DW at Dt;split at Dt;{rw[ar.1 Dt];intro s e u;rw[<-(aC e).2];have hK:=c1.tie q y.1 y.2 (by rw[hOp.resolve_right (by rw[h9];simp)];exact xZ hy);rw[od _ _ _ (c1.val _ _ hK)];exact c2 _ _ hK};{simp at Dt}};{simp at g}}
     ·simp at g
   ·rw[E q e]at hx;simp at hx
  ·have hp3:p=0 \/p=1 \/p=2:=eB;have hs:sm sw (jz (((a.R i).jj p).P p))<=8:=by
    rw[e2,qz,AE λx hx=>by obtain⟨s,rfl⟩:=sD hx;rfl];split;{have e3:∀(x:lD) l,sm sw (x::l)=sw x+sm sw l:=λ_ _=>rfl;rw[e3];have e4:sw (72::[kc (a.R i).id,kc (iV ((a.R i).P p).pe).who])=2:=rfl;split;{have:=Qr (lV (((jo (a.R i) p).meet p (iV ((a.R i).P p).pe)).O p));have:=BJ (((jo (a.R i) p).meet p (iV ((a.R i).P p).pe)).O p);omega};{have e5:sm sw [] =0:=rfl;omega}};{have e5:sm sw [] =0:=rfl;omega}
   have M:∀q,q≠p->sm sw (jz (((a.R i).jj p).P q))=0:=λq hq=>by rw[E q hq];rfl
   rcases hp3 with rfl|rfl|rfl
   {rw[M 1 eF,M 2 eF];omega};{rw[M 0 eF,M 2 eF];omega}
   ·rw[M 0 eF,M 1 eF];omega
 |pop c d x l hc hd hF=>
  obtain⟨hi,hp⟩:=X.en c (1-d) hc eB;have hw:=abK sw hc hd hF;have h1:wa B (N-sw x) (a.lR c d l):=by
   refine⟨Z.r,λy f hy hf z u=> ?_,?_,Z.one,Z.ms⟩
   ·rw[tK]at u;split at u
    ·rename_i e
     exact Z.f c d hc hd z (by rw[hF];simp[u])
    ·exact Z.f y f hy hf z u
   ·show B+(a.lR c d l).W sw+sm (λi=>rJ (a.R i)) (ft a.n)<=_;omega
  obtain⟨J,V,H,G,Q⟩:=Z.r _ hi;obtain⟨C,c1,c2,c3,c4⟩:=Tm J V H eB hp x (Z.f c d hc hd x (by rw[hF];simp));obtain⟨t1,t2,t3⟩:=Mz V (a.e c (1-d)).2 x;obtain⟨m1,_⟩:=qM (A.emp (a.e c (1-d)).1) (a.e c (1-d)).2 x;have h2:=own_op (a:=a.lR c d l) (X.same rfl rfl rfl) h1 _ hi (jY (a.R (a.e c (1-d)).1) (a.e c (1-d)).2 x) C (sw x) c1 t1 c2 (t2.trans G) (t3.trans Q) c3 (λq y hy=>(Qs (m1 q)).2 C y hy) (by
   rw[J7 λq y hy=>(Qs (m1 q)).1 y hy];show C+_+0<=B+rJ (a.R (a.e c (1-d)).1)+sw x;omega)
  refine⟨C,?_⟩;have e:N-sw x+sw x=N+8*0:=eB;rw[e]at h2;exact h2
 |send i t tx hi _ _ _=>
  obtain⟨J,V,H,G,Q⟩:=Z.r i hi;obtain⟨s1,s2,s3,s4,s5⟩:=nJ (a.R i) (t,8,tx);obtain⟨j,g1,g2⟩:=DX (A.emp i) (t,8,tx);have hq:∀p,∀y∈jz (((a.R i).send (t,8,tx)).P p),∃s,y=77::s:=λp y hy=>by
   by_cases e:p=j
   ·subst e;rcases g2 with g|⟨_,g⟩
    {rw[g]at hy;simp at hy};{rw[g]at hy;exact⟨_,ar.1 hy⟩}
   ·rw[g1 p e]at hy;simp at hy
  refine⟨B,own_op X Z i hi _ B 0 (My J _) (V.send _) (H.alike s1) (s3.trans G) (s4.trans Q) (Nat.le_refl _) (λp x hx=> ?_) ?_⟩;{obtain⟨s,rfl⟩:=hq p x hx;intro t e;exact absurd (aC e).1 eF}
  ·rw[J7 λp y hy=>by obtain⟨s,rfl⟩:=hq p y hy;rfl,qA λp=>(s5 p).2.1];omega
 |iZ c hc _ _ _=>
  obtain⟨C,h⟩:=MA X A Z hl hc true;exact⟨C,h.r,h.f,Nat.le_trans h.b (Nat.le_add_right _ _),h.one,h.ms⟩
 |draw c hc _=>exact MA X A Z hl hc false
 |anew i m hi hd=>
  have pS:(1:Int)<=(i:Int)+1/\(i:Int)+1<=6:=by have:=X.n6;omega
  have hR:∀j,({a with R:=j6 a.R i (jZ ((i:Int)+1) 3 (a.ms i)),ib:=j6 a.ib i ((a.ib i).take m)}:AN).R j=if j=i then jZ ((i:Int)+1) 3 (a.ms i)else a.R j:=λj=>rfl
  refine⟨B,λj hj=> ?_,Z.f,?_,Z.one,Z.ms⟩
  ·rw[hR];by_cases e:j=i
   ·subst e;rw[ai rfl];refine⟨⟨λp x q h=>h,λx q h=> ?_,?_⟩,Ao pS (Z.ms j · hi),λx q h=> ?_,rfl,rfl⟩
    ·have Y:(if x=(j:Int)+1 then μ ((1:Int),([] :List jQ))else ν)=μ q:=h;split at Y
     ·rename_i e;injection Y with Y;rw[<-Y,e]
      unfold oK;rw[af eB,af ik];rfl
     ·exact absurd Y ik
    ·have E:Bw (jZ ((j:Int)+1) 3 (a.ms j)).K (jZ ((j:Int)+1) 3 (a.ms j)).id=[] :=by
      show(match (if(j:Int)+1=(j:Int)+1 then some ((1:Int),([] :List jQ))else none)with|none=>[] |some q=>q.2)=_;rw[ai rfl]
     rw[E];have e2:∀n k,j1 (jZ ((j:Int)+1) 3 (a.ms j)).P n k=ν:=λn k=>by
      induction k with
      |zero=>rfl
      |succ k ih=>unfold j1;rw[af (λh=>absurd h.1 (show¬false=true by simp)),ih]
     unfold jJ;simp only[e2,Option.map_none];rfl
    ·have Y:(if x=(j:Int)+1 then μ ((1:Int),([] :List jQ))else ν)=μ q:=h;split at Y;{injection Y with Y;rw[<-Y];have:=Z.one;show(1:Int)<=_;omega};{exact absurd Y ik}
   ·rw[af e];exact Z.r j hj
  ·have E:sm (λj=>rJ (({a with R:=j6 a.R i (jZ ((i:Int)+1) 3 (a.ms i)),ib:=j6 a.ib i ((a.ib i).take m)}:AN).R j)) (ft a.n)<=sm (λj=>rJ (a.R j)) (ft a.n):=vS λj _=>by
    rw[hR];split;{exact Nat.zero_le _};{exact Nat.le_refl _}
   show B+a.W sw+sm (λj=>rJ (({a with R:=j6 a.R i (jZ ((i:Int)+1) 3 (a.ms i)),ib:=j6 a.ib i ((a.ib i).take m)}:AN).R j)) (ft a.n)<=N+0;omega
def oz(g:Int):List jQ:=[(1,255),(5,g)]
structure LI(g:Int)(L:LS):Prop where
 fs:L.fs=255
 fm:L.fm=g
 ns:L.ns=255
 nm:L.nm=g
 q:6<=L.st->L.qs=255/\L.qm=g
 st:L.st=1 \/(6<=L.st/\L.st<=9)
 k:AY L
theorem IV {ev:Int} {nx:Int} (zJ:kZ)(h:jv s.st ev=(l,nx,0)):tO s ev zJ=(rk l (s.next nx),yI l (s.next nx) zJ,0):=by
 rw[uo zJ (by rw[h])];unfold ot qk;rw[h]
theorem zv:(jv 6 6=([97],8,0)/\jv 7 6=([97,117],9,0)/\jv 8 6=([97],8,0)/\jv 9 6=([100,114,97],8,0))/\(jv 6 8=([105],7,0)/\jv 8 8=([105,117],9,0))/\(jv 6 4=([114],6,0)/\jv 7 4=([114],6,0)/\jv 8 4=([114],8,0))/\(jv 6 5=([102],3,0)/\jv 7 5=([102],3,0)/\jv 8 5=([102],3,0))/\(jv 3 1=([115],1,0)/\jv 1 0=([105,114],6,0))/\(jv 6 1=([],1,0)/\jv 7 1=([],1,0)/\jv 8 1=([],1,0)/\jv 9 1=([100],1,0)):=by
 refine⟨⟨?_,?_,?_,?_⟩,⟨?_,?_⟩,⟨?_,?_,?_⟩,⟨?_,?_,?_⟩,⟨?_,?_⟩,?_,?_,?_,?_⟩<;>rfl
theorem J8(hg:1<=g/\g<=255):oM 255 g=oz g:=by
 unfold oM oz;rw[ai eF,ai eB];rfl
theorem Qu(h:6<=x/\x<=9):x=6 \/x=7 \/x=8 \/x=9:=eB
theorem abM(X:1<=g/\g<=255)(h:LI g L)(Y:L.st=1):LI g (lr L 0).1/\(lr L 0).2.1=[(1,(L.ow+1) %256,oz g)] /\(lr L 0).1.ow=(L.ow+1) %256/\(lr L 0).1.st=6/\(lr L 0).1.wt=3:=by
 have Z:=h.k.lr 0;have e:lr L 0=tO L 0 (0,0,[]):=rfl;have V:jv L.st 0=([105,114],6,0):=by rw[Y];exact zv.2.2.2.2.1.2
 rw[e,IV _ V]at Z⊢;have en:L.next 6={L with st:=6}:=by unfold LS.next;rw[af eF]
 rw[en]at Z⊢;refine⟨⟨h.fs,h.fm,h.ns,h.nm,λ_=>⟨h.ns,h.nm⟩,.inr ⟨by show(6:Int)<=6;decide,by show(6:Int)<=9;decide⟩,Z⟩,?_,rfl,rfl,rfl⟩;show [(1,(L.ow+1) %256,oM L.ns L.nm)] =_;rw[h.ns,h.nm,J8 X]
theorem Z7(h:LI g L)(Q:6<=L.st):LI g (lr L 1).1/\(lr L 1).1.st=1/\(lr L 1).1.ow=L.ow:=by
 have Z:=h.k.lr 1;have e:lr L 1=tO L 1 (0,0,[]):=rfl;obtain⟨a,b,c,d⟩:=zv.2.2.2.2.2;have M:=Qu ⟨Q,by have:=h.st;omega⟩;have hl:∃l,jv L.st 1=(l,1,0)/\(l=[] \/l=[100]):=by
  rcases M with g|g|g|g<;>rw[g]
  {exact⟨_,a,.inl rfl⟩};{exact⟨_,b,.inl rfl⟩};{exact⟨_,c,.inl rfl⟩};{exact⟨_,d,.inr rfl⟩}
 obtain⟨l,X,V⟩:=hl;rw[e,IV _ X]at Z⊢;have en:L.next 1={L with st:=1,ns:=L.fs,nm:=L.fm,sz:=255}:=by unfold LS.next;rw[ai eF]
 have Y:rk l (L.next 1)=L.next 1:=by rcases V with rfl|rfl<;>rfl
 rw[Y,en]at Z;rw[Y,en];exact⟨⟨h.fs,h.fm,h.fs,h.fm,λh=>absurd h (by show¬(6:Int)<=1;decide),.inl rfl,Z⟩,rfl,rfl⟩
structure ah2(g:Int)(L L':LS)(out:List kZ):Prop where
 li:LI g L'
 or:(out=[] /\L'.ow=L.ow/\L'.st=L.st/\(L.st=1 \/L.st=9->L'=L)/\(6<=L.st/\L.st<=8->1<L.wt/\L'.wt=L.wt-1)) \/((6<=L.st/\L.st<=8)/\L.wt=1/\out=[(1,(L.ow+1) %256,oz g)] /\L'.ow=(L.ow+1) %256/\L'.wt=3/\(L'.st=6 \/(L.st=8/\L'.st=8)))
theorem J9(j:1<=g/\g<=255)(h:LI g L):ah2 g L (jq L).1 (jq L).2:=by
 obtain⟨o1,o2,o3,o4,o5,o6,o7,o8⟩:=(tj _ _ _).1 h.k.ok;by_cases A:6<=L.st/\L.st<=8
 ·have hb:¬(decide (4<=L.st)&&decide (L.st<=8))=false:=by simp;omega
  by_cases J:0<L.wt-1
  ·have Z:kI L={L with wt:=L.wt-1}:=by unfold kI;rw[af hb,ai J]
   have V:l9 L=[] :=by unfold l9;rw[af hb,ai J]
   have G:=h.k.tick;have Q:jq L=({L with wt:=L.wt-1},[]):=by
    unfold jq;rw[Z,V,af (show¬L.st=3 by omega)]
   rw[Z]at G;rw[Q];exact⟨⟨h.fs,h.fm,h.ns,h.nm,h.q,h.st,G⟩,.inl ⟨rfl,rfl,rfl,λh=>eB,λ_=>⟨eB,rfl⟩⟩⟩
  ·have ng:L.wt=1:=eB;by_cases hf:0<L.lf
   ·have E:∃nx,jv L.st 4=([114],nx,0)/\(nx=6 \/(L.st=8/\nx=8)):=by
     obtain⟨a,b,c⟩:=zv.2.2.1;have:L.st=6 \/L.st=7 \/L.st=8:=eB;rcases this with g|g|g<;>rw[g]
     {exact⟨_,a,.inl rfl⟩};{exact⟨_,b,.inl rfl⟩};{exact⟨_,c,.inr ⟨rfl,rfl⟩⟩}
    obtain⟨nx,mP,pQ⟩:=E;have G:=h.k.tick;have en:({L with wt:=L.wt-1}:LS).next nx={L with wt:=L.wt-1,st:=nx}:=by unfold LS.next;rw[af eB]
    have Z:kI L=rk [114] {L with wt:=L.wt-1,st:=nx}:=by
     unfold kI;rw[af hb,af J,ai hf];unfold ot;rw[show({L with wt:=L.wt-1}:LS).st=L.st from rfl,mP];simp only;rw[en]
    have V:l9 L=[(1,(L.ow+1) %256,oM L.ns L.nm)] :=by
     unfold l9;rw[af hb,af J,ai hf];unfold qk;rw[show({L with wt:=L.wt-1}:LS).st=L.st from rfl,mP];simp only;rw[en];rfl
    have Q:jq L=(kI L,l9 L):=by
     unfold jq;rw[af (by rw[Z];show¬nx=3;omega)]
    rw[Q];refine⟨⟨?_,?_,?_,?_,?_,?_,G⟩,.inr ⟨A,ng,?_,?_,?_,?_⟩⟩;{rw[Z];exact h.fs};{rw[Z];exact h.fm};{rw[Z];exact h.ns};{rw[Z];exact h.nm};{rw[Z];exact λ_=>⟨h.ns,h.nm⟩};{rw[Z];show nx=1 \/(6<=nx/\nx<=9);omega};{show l9 L=_;rw[V,h.ns,h.nm,J8 j]};{rw[Z];rfl};{rw[Z];rfl};{rw[Z];exact pQ}
   ·have E:jv L.st 5=([102],3,0):=by
     obtain⟨a,b,c⟩:=zv.2.2.2.1;have:L.st=6 \/L.st=7 \/L.st=8:=eB;rcases this with g|g|g<;>rw[g] <;>assumption
    have en:({L with wt:=L.wt-1}:LS).next 3={L with wt:=L.wt-1,st:=3,ns:=L.fs,nm:=L.fm,sz:=255}:=by unfold LS.next;rw[ai eF]
    have Z:kI L={L with wt:=L.wt-1,st:=3,ns:=L.fs,nm:=L.fm,sz:=255}:=by
     unfold kI;rw[af hb,af J,af hf];unfold ot;rw[show({L with wt:=L.wt-1}:LS).st=L.st from rfl,E];simp only;rw[en];rfl
    have V:l9 L=[] :=by
     unfold l9;rw[af hb,af J,af hf];unfold qk;rw[show({L with wt:=L.wt-1}:LS).st=L.st from rfl,E];simp only;rw[en];rfl
    obtain⟨L3,X⟩:∃L3:LS,({L with wt:=L.wt-1,st:=3,ns:=L.fs,nm:=L.fm,sz:=255}:LS)=L3:=⟨_,rfl⟩
    rw[X]at Z;have k3:AY L3:=by rw[<-Z];exact h.k.tick
    have H:L3.st=3:=by rw[<-X]
    have d1:lr L3 1=({L3 with st:=1,ns:=L3.fs,nm:=L3.fm,sz:=255},[],0):=by
     show tO L3 1 (0,0,[])=_;rw[IV _ (show jv L3.st 1=_ by rw[H];exact zv.2.2.2.2.1.1)];have:L3.next 1={L3 with st:=1,ns:=L3.fs,nm:=L3.fm,sz:=255}:=by unfold LS.next;rw[ai eF]
     rw[this];rfl
    have k1:=k3.lr 1;obtain⟨L1,M⟩:=fq ((lr L3 1).1);rw[M]at k1;have Y:L1={L3 with st:=1,ns:=L3.fs,nm:=L3.fm,sz:=255}:=by rw[<-M,d1]
    have u:LI g L1:=by
     refine⟨?_,?_,?_,?_,?_,?_,k1⟩;{rw[Y,<-X];exact h.fs};{rw[Y,<-X];exact h.fm};{rw[Y,<-X];exact h.fs};{rw[Y,<-X];exact h.fm};{rw[Y];exact λh=>absurd h (by show¬(6:Int)<=1;decide)};{rw[Y];exact .inl rfl}
    have how:L1.ow=L.ow:=by rw[Y,<-X]
    obtain⟨u1,u2,u3,u4,u5⟩:=abM j u (by rw[Y]);have Q:jq L=((lr L1 0).1,(lr L1 0).2.1):=by
     unfold jq;rw[Z,ai H,V,M,d1];rfl
    rw[Q];exact⟨u1,.inr ⟨A,ng,by rw[u2,how],by rw[u3,how],u5,.inl u4⟩⟩
 ·have hb:(decide (4<=L.st)&&decide (L.st<=8))=false:=by
   have:=h.st;simp only[Bool.and_eq_false_iff,decide_eq_false_iff_not];omega
  have Z:kI L=L:=by unfold kI;rw[ai hb]
  have V:l9 L=[] :=by unfold l9;rw[ai hb]
  have Q:jq L=(L,[]):=by
   unfold jq;rw[Z,V,af (show¬L.st=3 by have:=h.st;omega)]
  rw[Q];exact⟨h,.inl ⟨rfl,rfl,rfl,λ_=>rfl,λh=>absurd h A⟩⟩
theorem FZ(h0:0<=x)(h1:x<=255):yK x=true:=by
 unfold yK;simp;omega
theorem AF(hc:code=1 \/code=2)(hi:0<=id/\id<=255)(M:1<=g/\g<=255):j4 code id (oz g)=0:=by
 have V:=FZ hi.1 hi.2;have Q:yK g=true:=FZ eB M.2;unfold j4 oz;rw[af (by rw[V];simp;omega),af ik,af eB];have Y:yK 1=true:=FZ eF eF;have X:yK 5=true:=FZ eF eF;have Z:yK 255=true:=FZ eF eF;simp[qC,Y,X,Z,Q]
theorem Z8(hg:1<=g'/\g'<=255)(jx:g'≠g):mL g (oz g')=(2,oz g'):=by
 unfold mL oz uk rM KC ye;rw[af ik,af];simp;omega
structure amV(g:Int)(L L':LS)(out:List kZ)(a:kZ):Prop where
 li:LI g L'
 or:(L.st=9/\out=[(1,(L.ow+1) %256,oz g),a] /\L'.st=8/\L'.ow=(L.ow+1) %256/\L'.wt=3) \/(L.st=7/\out=[a] /\L'.st=9/\L'.ow=L.ow) \/((L.st=6 \/L.st=8)/\out=[a] /\L'.st=8/\L'.ow=L.ow/\L'.wt=L.wt)
theorem Xd(Q:1<=g/\g<=255)(X:1<=g'/\g'<=255)(H:g'≠g)(hi:0<=id/\id<=255)(h:LI g L)(Y:6<=L.st):amV g L (jW L (1,id,oz g')).1 (jW L (1,id,oz g')).2.1 (2,id,oz g'):=by
 have Z:=h.k.jW (1,id,oz g');have V:jW L (1,id,oz g')=uK L id (oz g'):=by
  unfold jW;rw[af (by rw[AF (.inl rfl) hi X];simp),ai rfl]
 rw[V]at Z⊢;have G:=Qu ⟨Y,by have:=h.st;omega⟩;have M:(mL L.nm (oz g')).1=2:=by rw[h.nm,Z8 X H]
 obtain⟨E,A,u,j⟩:=zv.1;have key:∀(l:List UInt8) (nx:Int),jv L.st 6=(l,nx,0)->uK L id (oz g')=((rk l (L.next nx)).sized (oz g'),yI l (L.next nx) (2,id,oz g'),0):=λl nx hs=>by
  unfold uK;rw[ai M,IV _ hs,ai rfl]
 have nx:∀n:Int,¬n<=3->L.next n={L with st:=n}:=λn J=>by unfold LS.next;rw[af J]
 have sz:∀s:LS,(s.sized (oz g')).fs=s.fs/\(s.sized (oz g')).fm=s.fm/\(s.sized (oz g')).ns=s.ns/\(s.sized (oz g')).nm=s.nm/\(s.sized (oz g')).qs=s.qs/\(s.sized (oz g')).qm=s.qm/\(s.sized (oz g')).st=s.st/\(s.sized (oz g')).ow=s.ow/\(s.sized (oz g')).wt=s.wt:=λs=>by
  unfold LS.sized;split<;>exact⟨rfl,rfl,rfl,rfl,rfl,rfl,rfl,rfl,rfl⟩
 have build:∀s:LS,AY (s.sized (oz g'))->s.fs=L.fs->s.fm=L.fm->s.ns=L.ns->s.nm=L.nm->(s.qs=255/\s.qm=g)->(6<=s.st/\s.st<=9)->LI g (s.sized (oz g')):=λs Z a b c d e f=>by
  obtain⟨z1,z2,z3,z4,z5,z6,z7,_,_⟩:=sz s;exact⟨by rw[z1,a,h.fs],by rw[z2,b,h.fm],by rw[z3,c,h.ns],by rw[z4,d,h.nm],λ_=>by rw[z5,z6];exact e,by rw[z7];exact .inr f,Z⟩
 rcases G with hs|hs|hs|hs
 {have e:=key [97] 8 (by rw[hs];exact E);rw[e,nx 8 eF]at Z;rw[e,nx 8 eF];refine⟨build (rk [97] {L with st:=8}) Z rfl rfl rfl rfl (h.q Y) ⟨by show(6:Int)<=8;decide,by show(8:Int)<=9;decide⟩,.inr (.inr ⟨.inl hs,rfl,?_,?_,?_⟩)⟩;{exact(sz _).2.2.2.2.2.2.1};{exact(sz _).2.2.2.2.2.2.2.1};{exact(sz _).2.2.2.2.2.2.2.2}};{have e:=key [97,117] 9 (by rw[hs];exact A);rw[e,nx 9 eF]at Z;rw[e,nx 9 eF];refine⟨build (rk [97,117] {L with st:=9}) Z rfl rfl rfl rfl (h.q Y) ⟨by show(6:Int)<=9;decide,by show(9:Int)<=9;decide⟩,.inr (.inl ⟨hs,rfl,?_,?_⟩)⟩;{exact(sz _).2.2.2.2.2.2.1};{exact(sz _).2.2.2.2.2.2.2.1}};{have e:=key [97] 8 (by rw[hs];exact u);rw[e,nx 8 eF]at Z;rw[e,nx 8 eF];refine⟨build (rk [97] {L with st:=8}) Z rfl rfl rfl rfl (h.q Y) ⟨by show(6:Int)<=8;decide,by show(8:Int)<=9;decide⟩,.inr (.inr ⟨.inr hs,rfl,?_,?_,?_⟩)⟩;{exact(sz _).2.2.2.2.2.2.1};{exact(sz _).2.2.2.2.2.2.2.1};{exact(sz _).2.2.2.2.2.2.2.2}};{have e:=key [100,114,97] 8 (by rw[hs];exact j);rw[e,nx 8 eF]at Z;rw[e,nx 8 eF];refine⟨build (rk [100,114,97] {L with st:=8}) Z rfl rfl rfl rfl ⟨h.ns,h.nm⟩ ⟨by show(6:Int)<=8;decide,by show(8:Int)<=9;decide⟩,.inl ⟨hs,?_,?_,?_,?_⟩⟩;{show [(1,(L.ow+1) %256,oM L.ns L.nm),(2,id,oz g')] =_;rw[h.ns,h.nm,J8 Q]};{exact(sz _).2.2.2.2.2.2.1};{exact(sz _).2.2.2.2.2.2.2.1};{exact(sz _).2.2.2.2.2.2.2.2}}
theorem aez(Z:1<=g/\g<=255)(hi:0<=id/\id<=255)(Y:id≠L.ow):jW L (2,id,oz g)=(L,[],6):=by
 unfold jW;rw[af (by rw[AF (.inr rfl) hi Z];simp),af (by show¬(2:Int)=1;decide),af (by show¬(2:Int)=5;decide),af (by show¬(2:Int)=6;decide)];unfold ur;rw[ai Y]
theorem Xe(V:1<=g/\g<=255)(h:LI g L)(X:L.st=6 \/L.st=8):LI g (jW L (2,L.ow,oz g)).1/\(jW L (2,L.ow,oz g)).2.1=[] /\(jW L (2,L.ow,oz g)).1.ow=L.ow/\(jW L (2,L.ow,oz g)).1.wt=L.wt/\(jW L (2,L.ow,oz g)).1.st=L.st+1:=by
 have Z:=h.k.jW (2,L.ow,oz g);have Y:=h.q eB;have Q:jW L (2,L.ow,oz g)=tO L 8 (0,L.ow,[]):=by
  unfold jW;rw[af (by rw[AF (.inr rfl) ⟨h.k.o1,h.k.o2⟩ V];simp),af (by show¬(2:Int)=1;decide),af (by show¬(2:Int)=5;decide),af (by show¬(2:Int)=6;decide)];unfold ur;rw[af ik,ai rfl,af (by rw[Y.1,Y.2,J8 V];simp)]
 rw[Q]at Z⊢;obtain⟨J,H⟩:=zv.2.1;have nx:∀n:Int,¬n<=3->L.next n={L with st:=n}:=λn M=>by unfold LS.next;rw[af M]
 rcases X with hs|hs
 {rw[IV _ (show jv L.st 8=_ by rw[hs];exact J),nx 7 eF]at Z⊢;exact⟨⟨h.fs,h.fm,h.ns,h.nm,λ_=>Y,.inr ⟨by show(6:Int)<=7;decide,by show(7:Int)<=9;decide⟩,Z⟩,rfl,rfl,rfl,by show(7:Int)=_;omega⟩};{rw[IV _ (show jv L.st 8=_ by rw[hs];exact H),nx 9 eF]at Z⊢;exact⟨⟨h.fs,h.fm,h.ns,h.nm,λ_=>Y,.inr ⟨by show(6:Int)<=9;decide,by show(9:Int)<=9;decide⟩,Z⟩,rfl,rfl,rfl,by show(9:Int)=_;omega⟩}
def mY(g id:Int):lD:=76::mV 1 id (oz g)
def oC(g id:Int):lD:=76::mV 2 id (oz g)
theorem Xf(code id g:Int):(mV code id (oz g)).length=7:=by
 unfold mV;simp only[eW,sM];rfl
theorem AG(hc:code=1 \/code=2)(hi:0<=id/\id<=255)(Y:1<=g/\g<=255):jk (mV code id (oz g))=(code,id,oz g,0):=by
 have e:mV code id (oz g)=[kc code,kc id,2,1,255,5,kc g] :=rfl;have V:m8 [1,255,5,kc g] =oz g:=by
  have X:m8 [1,255,5,kc g] =[(1,255),(5,((kc g).toNat:Int))] :=rfl;rw[X,nU g eB Y.2];rfl
 have Z:=nU code eB eB;have Q:=nU id hi.1 hi.2;rw[e];unfold jk;rw[af ik];show(if j4 ((kc code).toNat:Int) ((kc id).toNat:Int) (m8 [1,255,5,kc g])=0 then(((kc code).toNat:Int),((kc id).toNat:Int),m8 [1,255,5,kc g],0)else(0,0,[],4))=_;rw[V,Z,Q,ai (AF hc hi Y)]
theorem F8(hc:code=1 \/code=2)(hi:0<=id/\id<=255)(Z:1<=g/\g<=255):oJ (code,id,oz g)=[76::mV code id (oz g)] :=by
 unfold oJ;rw[ai ⟨AF hc hi Z,by show(mV code id (oz g)).length+1<=60;rw[Xf];decide⟩]
