import Derived.Test.YtieklnlbljejdaaGreatDoorW09
open Go.Value renaming int → ι, slice → σ, pointer → π, tuple → τ, nilIface → η
open Go.IntKind renaming i64 → κ
open Go.Ending renaming returned → ρ
open Go.Obj renaming cells → γ
open Option renaming none → ν, some → μ
open Go renaming World → dY, Calls → eZ, Value → dZ
open Go.Proofs.Tryz renaming prog → e7
open Go.RowKit renaming intOf → fa
open Go.Value renaming int → eB, ownBlock → eu, cells → fL
open List renaming range → gg, append_nil → gW, length_append → eR, length_cons → eT, length_nil → eU
open Classical renaming choose → ia
set_option maxRecDepth 100000
set_option maxHeartbeats 8000000
open Go.Proofs.Tryz
namespace Go.Proofs.YtieklnlbljejdaaGreatDoor
open Go.RowKit St
namespace Rt
variable {L:List oQ} {P:Nat->Nat} {W W2 w w':World} {a:Option Addr} {b cap g i n q:Nat} {c:oQ} {many p:Int} {r:iO} {z:Zt}
theorem Ij(y:iP)(i:Int):(y.tick i).1.n=y.n/\(y.tick i).1.nc=y.nc/\(y.tick i).1.ms=y.ms/\∀x,((y.tick i).1.C x).e=(y.C x).e/\((y.tick i).1.C x).iT=(y.C x).iT:=by
 unfold iP.tick;split
 ·exact⟨rfl,rfl,rfl,λ_=>⟨rfl,rfl⟩⟩
 ·exact lV _
theorem rD(y:iP)(c d q:Nat):(y.jt c d q).n=y.n/\(y.jt c d q).nc=y.nc/\(y.jt c d q).ms=y.ms/\∀x,((y.jt c d q).C x).e=(y.C x).e/\((y.jt c d q).C x).iT=(y.C x).iT:=by
 refine⟨rfl,rfl,rfl,λx=> ?_⟩;show(if x=c then({y.C c with on:=jW (y.C c).on d (((y.C c).on d).drop q)}:qF)else y.C x).e=_/\(if x=c then({y.C c with on:=jW (y.C c).on d (((y.C c).on d).drop q)}:qF)else y.C x).iT=_;by_cases e:x=c
 ·rw[ai e];subst e;exact⟨rfl,rfl⟩
 ·rw[af e];exact⟨rfl,rfl⟩
theorem ng(y:iP)(i d many:Int):(y.deliver i d many).1.n=y.n/\(y.deliver i d many).1.nc=y.nc/\(y.deliver i d many).1.ms=y.ms/\∀x,((y.deliver i d many).1.C x).e=(y.C x).e/\((y.deliver i d many).1.C x).iT=(y.C x).iT:=by
 unfold iP.deliver;split
 ·exact⟨rfl,rfl,rfl,λ_=>⟨rfl,rfl⟩⟩
 ·obtain⟨g1,X,V,Z⟩:=lV (y.jt i.toNat d.toNat (min many.toNat ((y.C i.toNat).on d.toNat).length));obtain⟨r1,U,T,Y⟩:=rD y i.toNat d.toNat (min many.toNat ((y.C i.toNat).on d.toNat).length);exact⟨g1.trans r1,X.trans U,V.trans T,λx=>⟨(Z x).1.trans (Y x).1,(Z x).2.trans (Y x).2⟩⟩
theorem oL(y:iP):∀q,(y.jc q).n=y.n/\(y.jc q).nc=y.nc/\(y.jc q).ms=y.ms/\∀x,((y.jc q).C x).e=(y.C x).e/\((y.jc q).C x).iT=(y.C x).iT
 |0=>⟨rfl,rfl,rfl,λ_=>⟨rfl,rfl⟩⟩
 |q+1=>by
  obtain⟨g1,X,V,Z⟩:=Ij (y.jc q) ((q:Int)+1);obtain⟨r1,U,T,Y⟩:=oL y q;exact⟨g1.trans r1,X.trans U,V.trans T,λx=>⟨(Z x).1.trans (Y x).1,(Z x).2.trans (Y x).2⟩⟩
def iP.qR(y:iP)(c d:Nat):iP:=if d=0 then y.jQ c else if d=1 then((y.jQ c).deliver (c:Int) 0 2000).1 else y.jQ (c+1)
theorem LP(y:iP)(c d:Nat)(hd:d<2):y.qR c (d+1)=((y.qR c d).deliver (c:Int) (d:Int) 2000).1:=by
 have:d=0 \/d=1:=eh;rcases this with rfl|rfl<;>rfl
theorem lW(y:iP):∀q,(y.jQ q).n=y.n/\(y.jQ q).nc=y.nc/\(y.jQ q).ms=y.ms/\∀x,((y.jQ q).C x).e=(y.C x).e/\((y.jQ q).C x).iT=(y.C x).iT
 |0=>⟨rfl,rfl,rfl,λ_=>⟨rfl,rfl⟩⟩
 |q+1=>by
  obtain⟨T,S,Q,Y⟩:=ng ((y.jQ q).deliver (q:Int) 0 2000).1 (q:Int) 1 2000;obtain⟨g1,V,U,Z⟩:=ng (y.jQ q) (q:Int) 0 2000;obtain⟨r1,M,J,X⟩:=lW y q;exact⟨T.trans (g1.trans r1),S.trans (V.trans M),Q.trans (U.trans J),λx=>⟨(Y x).1.trans ((Z x).1.trans (X x).1),(Y x).2.trans ((Z x).2.trans (X x).2)⟩⟩
theorem LQ(y:iP)(q d:Nat):(y.qR q d).n=y.n/\(y.qR q d).nc=y.nc:=by
 unfold iP.qR;split
 ·exact⟨(lW y q).1,(lW y q).2.1⟩
 ·split
  ·exact⟨(ng _ _ _ _).1.trans (lW y q).1,(ng _ _ _ _).2.1.trans (lW y q).2.1⟩
  ·exact⟨(lW y (q+1)).1,(lW y (q+1)).2.1⟩
theorem qS(y:iP):∀t,(y.turns t).n=y.n/\(y.turns t).nc=y.nc/\(y.turns t).ms=y.ms/\∀x,((y.turns t).C x).e=(y.C x).e/\((y.turns t).C x).iT=(y.C x).iT
 |0=>⟨rfl,rfl,rfl,λ_=>⟨rfl,rfl⟩⟩
 |t+1=>by
  obtain⟨g1,X,V,Z⟩:=lW (y.turns t) y.nc;obtain⟨r1,U,T,Y⟩:=qS y t;exact⟨g1.trans r1,X.trans U,V.trans T,λx=>⟨(Z x).1.trans (Y x).1,(Z x).2.trans (Y x).2⟩⟩
theorem kM(y:iP):y.round.n=y.n/\y.round.nc=y.nc/\y.round.ms=y.ms/\∀x,(y.round.C x).e=(y.C x).e/\(y.round.C x).iT=(y.C x).iT:=by
 obtain⟨g1,X,V,Z⟩:=qS (y.jc y.n) 12;obtain⟨r1,U,T,Y⟩:=oL y y.n;exact⟨g1.trans r1,X.trans U,V.trans T,λx=>⟨(Z x).1.trans (Y x).1,(Z x).2.trans (Y x).2⟩⟩
theorem j5.jc {y:iP} {D:Nat} (h:j5 y D 0)(Z:D<=800000000):∀q,q<=6->j5 (y.jc q) (D+6*q) 0
 |0,_=>h
 |q+1,hq=>((j5.jc h Z q eh).tick eh ((q:Int)+1)).mono eh (Nat.le_refl _)
theorem j5.jQ {y:iP} {D:Nat} (h:j5 y D 0)(Z:D<=890000000):∀q,q<=9->j5 (y.jQ q) (D+12000*q) 0
 |0,_=>h
 |q+1,hq=>(((j5.jQ h Z q eh).deliver eh (q:Int) 0 2000).deliver eh (q:Int) 1 2000).mono eh (Nat.le_refl _)
theorem j5.qR {y:iP} {D:Nat} (h:j5 y D 0)(Z:D<=890000000)(q d:Nat)(hq:q<9)(hd:d<=2):j5 (y.qR q d) (D+12000*q+6000*d) 0:=by
 unfold iP.qR;split
 ·exact(h.jQ Z q eh).mono eh (Nat.le_refl _)
 ·split
  ·exact((h.jQ Z q eh).deliver eh _ _ _).mono eh (Nat.le_refl _)
  ·exact(h.jQ Z (q+1) eh).mono eh (Nat.le_refl _)
theorem j5.turns {y:iP} {D:Nat} (h:j5 y D 0)(X:D<=810000000):∀t,t<=12->j5 (y.turns t) (D+108000*t) 0
 |0,_=>h
 |t+1,ht=>by
  have Z:=j5.turns h X t eh;have Y:=h.c9;exact(Z.jQ eh y.nc Y).mono eh (Nat.le_refl _)
theorem j5.round {y:iP} {D:Nat} (h:j5 y D 0)(Y:D<=800000000):j5 y.round (D+1300000) 0:=by
 have n6:=h.n6;have Z:=h.jc Y y.n n6;exact(Z.turns eh 12 (Nat.le_refl _)).mono eh (Nat.le_refl _)
theorem Bu(y:Yt)(n:iP)(D:Nat)(w:dY)(h:jJ w y n)(hT:jh w)(iQ:j5 n D 0)(hD:D<=800000000):
 eZ e7 54 #[π (μ ⟨y.N,0,ν⟩)] w λe w'=>e=ρ (τ #[])/\iH w w' y n.round n.n:=by
 have c0:=h.k0;have cl:=h.yg;have n6:=h.n6;have c9:=h.c9;obtain⟨a,cp,wj,LH⟩:=h.cvs;obtain⟨m,S⟩:=gq (n.n);obtain⟨nc,ui⟩:=gq (n.nc);have H0:Hid (iH w w y (n.jc 0) m):=by
  show iH _ _ _ _ _;rw[<-S];exact iH.refl h
 have u:Hid (∀q W,q<m->iH w W y (n.jc q) m->eZ e7 56 #[π (μ ⟨y.N,0,ν⟩),ι κ ((q:Int)+1)] W λe w'=>(∃v,e=ρ v)/\iH w w' y (n.jc (q+1)) m):=by
  intro q W hq Z;have J:=Z.tab h S hT;refine(Z.call (E:=λe=>∃v,e=ρ v) λy1 R1 s1=> ?_);rw[<-s1.N];refine(LL y1 (n.jc q) (D+6*q) ((q:Int)+1) W R1 J (iQ.jc hD q eh) eh).mono ?_;rintro e w' ⟨rfl,hw⟩;rw[(oL n q).1,S]at hw;exact⟨⟨_,rfl⟩,hw⟩
 have Q:=iQ.jc hD m eh;have HK3:Hid (∀M W,M.nc=nc->iH w W y M m->W.cell? ⟨y.N,3,ν⟩=μ (σ a nc cp)/\y.N<W.heap.size):=by
  intro M W hM Z;have h1:=Z.k3;rw[hM,<-ui,wj]at h1;rw[<-ui];exact⟨h1,Z.lt⟩
 have JA:Hid (n.round=(n.jc m).turns 12):=by
  show _=_;unfold iP.round;rw[S]
 obtain⟨T,Y⟩:=gq (n.jc m);have hTn:T.n=m:=by rw[<-Y,(oL n m).1,S]
 have H:T.nc=nc:=by rw[<-Y,(oL n m).2.1,ui]
 have G:Hid (∀W,iH w W y (n.jc m) m->iH w W y (T.turns 0) m):=by
  intro W Z;rw[Y]at Z;exact Z
 rw[Y]at Q JA;have alN:Hid (∀t c d W,t<12->c<nc->d<2->iH w W y ((T.turns t).qR c d) m->eZ e7 101 #[π (μ ⟨y.N,0,ν⟩),ι κ (c:Int),ι κ (d:Int),ι κ 2000] W λe w'=>(∃v,e=ρ v)/\iH w w' y ((T.turns t).qR c (d+1)) m):=by
  intro t c d W ht hc hd Z;have J:=Z.tab h S hT;refine(Z.call (E:=λe=>∃v,e=ρ v) λy1 R1 s1=> ?_);rw[<-s1.N];have h1:=Q.turns eh t eh;have h2:=h1.qR eh c d eh eh;refine(Ct y1 _ _ (c:Int) (d:Int) 2000 W R1 J h2 eh).mono ?_;rintro e w' ⟨rfl,hw⟩;rw[<-LP _ _ _ hd,(LQ _ _ _).1,(qS T t).1,hTn]at hw;exact⟨⟨_,rfl⟩,hw⟩
 have HNC:Hid (∀t,(T.turns t).nc=nc):=λt=>by rw[(qS T t).2.1,H]
 have agJ:Hid (∀t W,iH w W y ((T.turns t).jQ nc) m->iH w W y (T.turns (t+1)) m):=by
  intro t W Z;show iH w W y ((T.turns t).jQ T.nc) m;rw[H];exact Z
 rw[S]at c0 n6⊢;rw[ui]at c9;clear h hT iQ Q wj LH S ui Y hTn H
 go_in
 go_wp2
 go_loopw [10] (λx wr=>∃q:Nat,q<=m/\x=ι κ q/\iH w wr y (n.jc q) m) (λx _=>m-(fa x).toNat)
 case atStart=>exact⟨0,Nat.zero_le _,rfl,H0.out⟩
 case round=>
  obtain⟨q,hq,rfl,r7⟩:=hrel;obtain⟨V,rfl⟩:∃V,V=wr:=⟨_,rfl⟩
  by_cases kD:q<m
  ·have nS:(q:Int)<(m:Int):=eh;have UW:IntKind.i64.wrap ((q:Int)+1)=(q:Int)+1:=aQ _ ⟨eh,eh⟩;have ht:=u.out q V kD r7;clear r7;go_wp2_with(fail);refine ht.mono ?_;rintro e w1 ⟨⟨v,rfl⟩,mU⟩;have X:Hid _:=mU;clear ht mU
   go_wp2
   go_roundw
   case rel=>exact⟨q+1,eh,by go_num,X.out⟩
   case measure=>simp[fa];omega
  ·have xZ:¬(q:Int)<(m:Int):=eh;obtain rfl:q=m:=eh;have HT0:Hid (iH w V y (T.turns 0) q):=G.out V r7;clear r7 G H0 u
   go_wp2
   go_loopw [18] (λx wr=>∃t:Nat,t<=12/\x=ι κ t/\iH w wr y (T.turns t) q) (λx _=>12-(fa x).toNat)
   case atStart=>exact⟨0,Nat.zero_le _,rfl,HT0.out⟩
   case round=>
    obtain⟨t,ht,rfl,A⟩:=hrel;obtain⟨V2,rfl⟩:∃V2,V2=wr:=⟨_,rfl⟩
    by_cases ade:t<12
    ·have agK:(t:Int)<12:=eh;obtain⟨d3,dl⟩:=HK3.out _ V2 (HNC.out t) A;have HD0:Hid _:=A;clear A
     go_wp2
     go_loopw [25] (λx wr=>∃c:Nat,c<=nc/\x=ι κ c/\iH w wr y ((T.turns t).qR c 0) q) (λx _=>nc-(fa x).toNat)
     case atStart=>exact⟨0,Nat.zero_le _,rfl,HD0.out⟩
     case round=>
      obtain⟨c,hc,rfl,U⟩:=hrel;obtain⟨V3,rfl⟩:∃V3,V3=wr:=⟨_,rfl⟩
      by_cases alO:c<nc
      ·have aov:(c:Int)<(nc:Int):=eh;have HDc:Hid _:=U;clear U
       go_wp2
       go_loopw [28] (λx wr=>∃d:Nat,d<=2/\x=ι κ d/\iH w wr y ((T.turns t).qR c d) q) (λx _=>2-(fa x).toNat)
       case atStart=>exact⟨0,Nat.zero_le _,rfl,HDc.out⟩
       case round=>
        obtain⟨d,hd,rfl,Dz⟩:=hrel;obtain⟨V4,rfl⟩:∃V4,V4=wr:=⟨_,rfl⟩
        by_cases alP:d<2
        ·have aow:(d:Int)<2:=eh;have agL:=alN.out t c d V4 ade alO alP Dz;clear Dz;go_wp2_with(fail);refine agL.mono ?_;rintro e w1 ⟨⟨v,rfl⟩,mU⟩;have X:Hid _:=mU;clear agL mU
         go_wp2
         go_roundw
         case rel=>exact⟨d+1,eh,by go_num,X.out⟩
         case measure=>simp[fa];omega
        ·have aqS:¬(d:Int)<2:=eh;obtain rfl:d=2:=eh;have X:Hid _:=Dz;clear Dz
         go_wp2
         go_roundw
         case rel=>exact⟨c+1,eh,by go_num,X.out⟩
         case measure=>simp[fa];omega
      ·have aqT:¬(c:Int)<(nc:Int):=eh;obtain rfl:c=nc:=eh;have X:Hid (iH w V3 y (T.turns (t+1)) q):=agJ.out t V3 U;clear U
       go_wp2
       go_roundw
       case rel=>exact⟨t+1,eh,by go_num,X.out⟩
       case measure=>simp[fa];omega
    ·have agM:¬(t:Int)<12:=eh;obtain rfl:t=12:=eh;have X:Hid (iH w V2 y n.round q):=by
      show iH _ _ _ _ _;rw[JA.out];exact A
     clear A
     go_wp2
     first|go_end0|refine iM rfl rfl ?_
     exact⟨rfl,X.out⟩
def qG(l:List Nat):List dZ:=l.map λ(n:Nat)=>eB .i64 (n:Int)
def tD(n:iP)(k c:Nat):Bool:=(n.C c).iT&& (((n.C c).e 0).1==k||((n.C c).e 1).1==k)
theorem JD(y:Yt)(n:iP)(k:Nat)(w:dY)(h:jJ w y n):
 eZ e7 115 #[π (μ ⟨y.N,0,ν⟩),ι κ ((k:Int)+1)] w λe w'=>∃v,e=ρ v/\Row w' 1 v (n.lA k).length (qG (n.lA k))/\(∀b,v.ownBlock=μ b->w.heap.size<=b)/\eE w w':=by
 obtain⟨i0,hi,oB,np,mI⟩:=aX PY;have c3:=h.k3;obtain⟨a,cp,wj,LH⟩:=h.cvs;rw[wj]at c3;have cl:=h.yg;have c9:=h.c9;obtain⟨nc,H⟩:=gq (n.nc);have HGC:Hid (∀c,c<nc->∃g,y.gC=μ g/\a=μ ⟨g,0,ν⟩):=by
  show∀c,_->_;rw[<-H];exact LH
 have HF:Hid (∀W q g,eE w W->q<nc->y.gC=μ g->∃T A c0 S n1 c1,W.cell? ⟨g,q*7,ν⟩=μ (ι κ ((((n.C q).e 0).1:Int)+1))/\W.cell? ⟨g,q*7+1,ν⟩=μ (ι κ (((n.C q).e 0).2:Int))/\W.cell? ⟨g,q*7+2,ν⟩=μ (ι κ ((((n.C q).e 1).1:Int)+1))/\W.cell? ⟨g,q*7+3,ν⟩=μ (ι κ (((n.C q).e 1).2:Int))/\W.cell? ⟨g,q*7+4,ν⟩=μ (.bool (n.C q).iT)/\W.cell? ⟨g,q*7+5,ν⟩=μ (σ T A c0)/\W.cell? ⟨g,q*7+6,ν⟩=μ (σ S n1 c1)/\g<W.heap.size):=by
  intro W q g hb hq hg;have R:=h.below hb;have hC:=R.rc g hg q (by rw[H];exact hq);obtain⟨T,c0,e0⟩:=Row.shape (R.ob q 0 (by rw[H];exact hq) eA);obtain⟨S,c1,e1⟩:=Row.shape (R.ob q 1 (by rw[H];exact hq) eA);refine⟨T,((n.C q).on 0).length,c0,S,((n.C q).on 1).length,c1,hC.cell 0 eA,hC.cell 1 eA,hC.cell 2 eA,hC.cell 3 eA,hC.cell 4 eA,?_,?_,hC.lt eA⟩
  ·rw[<-e0];exact hC.cell 5 eA
  ·rw[<-e1];exact hC.cell 6 eA
 have HE:Hid (n.lA k=(gg nc).filter (tD n k)):=by
  show _=_;rw[<-H];rfl
 rw[H]at c3 c9;clear h LH wj H
 go_in
 go_wp2
 go_loopw [5,13] (λv x wr=>∃q:Nat,q<=nc/\x=ι κ q/\Row wr 1 v ((gg q).filter (tD n k)).length (qG ((gg q).filter (tD n k)))/\(∀b,v.ownBlock=μ b->w.heap.size<=b)/\eE w wr) (λ_ x _=>nc-(fa x).toNat)
 case atStart=>exact⟨0,Nat.zero_le _,rfl,Row.nil _ _,λb hb=>by simp[eu]at hb,au _ _⟩
 case round=>
  obtain⟨q,hq,rfl,Y,jq,u⟩:=hrel;by_cases kD:q<nc
  ·have nS:(q:Int)<(nc:Int):=eh;have hq0:(0:Int)<=(q:Int):=eh;obtain⟨g,hg,rfl⟩:=HGC.out q kD;obtain⟨T,A,c0,S,n1,c1,k0,k1,k2,k3,k4,k5,k6,gl⟩:=HF.out wr q g u kD hg;have HP:Hid ((gg (q+1)).filter (tD n k)=(gg q).filter (tD n k)++if tD n k q=true then [q]else []):=by
    show _=_;rw[bX,cy];congr 1;by_cases e:tD n k q=true
    ·rw[ai e,List.filter_cons_of_pos e];rfl
    ·rw[af e,List.filter_cons_of_neg e];rfl
   have Z:tD n k q=((n.C q).iT&& (((n.C q).e 0).1==k||((n.C q).e 1).1==k)):=rfl;have HR:Hid _:=Y;have G:Hid _:=jq;have U:Hid _:=u;clear jq u hg;obtain⟨L,D⟩:=gq ((gg q).filter (tD n k));have hLq:L.length<=q:=by
    rw[<-D];have:=cK (tD n k) (gg q);simpa using this
   rw[D]at Y HP;generalize ((n.C q).e 0).1=V at k0 Z;generalize ((n.C q).e 1).1=r1 at k2 Z;generalize ((n.C q).e 0).2=p0 at k1;generalize ((n.C q).e 1).2=p1 at k3;generalize (n.C q).iT=iT at k4 Z;cases iT with
   |false=>
    have M:True:=trivial;have GL:True:=trivial;have X:tD n k q=false:=by rw[Z];first|rfl|simp[M,GL]
    have Q:Hid (Row (wr.alloc (γ #[ι κ ((V:Int)+1),ι κ (p0:Int),ι κ ((r1:Int)+1),ι κ (p1:Int),.bool false,σ T A c0,σ S n1 c1] 197)) 1 u5 ((gg (q+1)).filter (tD n k)).length (qG ((gg (q+1)).filter (tD n k)))/\(∀b,u5.ownBlock=μ b->w.heap.size<=b)/\eE w (wr.alloc (γ #[ι κ ((V:Int)+1),ι κ (p0:Int),ι κ ((r1:Int)+1),ι κ (p1:Int),.bool false,σ T A c0,σ S n1 c1] 197))):=by
     rw[HP.out,X];simp only[Bool.false_eq_true,if_false,gW];exact⟨Y.alloc _,G.out,U.out.alloc U.out.size _⟩
    clear Y Z X D
    go_wp2
    go_roundw
    case rel=>exact⟨q+1,eh,by go_num,Q.out⟩
    case measure=>simp[fa];omega
   |true=>
    by_cases h0:V=k
    ·rw[h0]at k0 Z;have X:tD n k q=true:=by rw[Z];simp
     go_wp2_with(at_builtin;go_must(refine iI _ rfl (.tmp 36) (.tmp 38) 22 rfl 3 i0 (ι κ 0) 1 8 underlying22 hi oB np mI rfl eA u5 L.length (qG L) rfl ((Y.alloc _).alloc _) _ 1 1 [ι κ (q:Int)] rfl rfl eA (yH _ _ _ _ gZ) (xm _ _) (by unfold maxLen;omega) eh ?_));intro J jv w3 sM rZ zH;have Q:Hid (Row w3 1 (σ (μ ⟨J,0,ν⟩) (L.length+1) jv) ((gg (q+1)).filter (tD n k)).length (qG ((gg (q+1)).filter (tD n k)))/\(∀b,eu (σ (μ ⟨J,0,ν⟩) (L.length+1) jv)=μ b->w.heap.size<=b)/\eE w w3):=by
      have hs:=U.out.size;rw[HP.out,X];simp only[if_true,eR,eT,eU];refine⟨?_,λb hb=> ?_,?_⟩
      ·have e9:qG (L++ [q])=qG L++ [ι κ (q:Int)] :=by simp[qG]
       rw[e9];exact sM
      ·have:J=b:=by simpa[eu]using hb
       subst this;rcases zH with e|e
       ·exact G.out _ e
       ·(try simp at e)
        omega
      ·exact((U.out.alloc hs _).alloc (by simp;omega) _).grown rZ (by simp;omega) (λb hb=>G.out b (by rw[<-hb]))
     clear sM rZ zH Y Z X D
     go_wp2
     go_roundw
     case rel=>exact⟨q+1,eh,by go_num,Q.out⟩
     case measure=>simp[fa];omega
    ·have M:(V==k)=false:=by simpa using h0
     have hz:¬((V:Int)+1=(k:Int)+1):=eh;have Tv:((V:Int)+1==(k:Int)+1)=false:=by simpa using hz
     have P2:¬((V:Int)=(k:Int)):=eh;by_cases h1:r1=k
     ·rw[h1]at k2 Z;have X:tD n k q=true:=by rw[Z];simp
      go_wp2_with(at_builtin;go_must(refine iI _ rfl (.tmp 36) (.tmp 38) 22 rfl 3 i0 (ι κ 0) 1 8 underlying22 hi oB np mI rfl eA u5 L.length (qG L) rfl ((Y.alloc _).alloc _) _ 1 1 [ι κ (q:Int)] rfl rfl eA (yH _ _ _ _ gZ) (xm _ _) (by unfold maxLen;omega) eh ?_));intro J jv w3 sM rZ zH;have Q:Hid (Row w3 1 (σ (μ ⟨J,0,ν⟩) (L.length+1) jv) ((gg (q+1)).filter (tD n k)).length (qG ((gg (q+1)).filter (tD n k)))/\(∀b,eu (σ (μ ⟨J,0,ν⟩) (L.length+1) jv)=μ b->w.heap.size<=b)/\eE w w3):=by
       have hs:=U.out.size;rw[HP.out,X];simp only[if_true,eR,eT,eU];refine⟨?_,λb hb=> ?_,?_⟩
       ·have e9:qG (L++ [q])=qG L++ [ι κ (q:Int)] :=by simp[qG]
        rw[e9];exact sM
       ·have:J=b:=by simpa[eu]using hb
        subst this;rcases zH with e|e
        ·exact G.out _ e
        ·(try simp at e)
         omega
       ·exact((U.out.alloc hs _).alloc (by simp;omega) _).grown rZ (by simp;omega) (λb hb=>G.out b (by rw[<-hb]))
      clear sM rZ zH Y Z X D
      go_wp2
      go_roundw
      case rel=>exact⟨q+1,eh,by go_num,Q.out⟩
      case measure=>simp[fa];omega
     ·have GL:(r1==k)=false:=by simpa using h1
      have hy:¬((r1:Int)+1=(k:Int)+1):=eh;have qp:((r1:Int)+1==(k:Int)+1)=false:=by simpa using hy
      have hy3:¬((r1:Int)=(k:Int)):=eh;have X:tD n k q=false:=by rw[Z];first|rfl|simp[M,GL]
      have Q:Hid (Row (wr.alloc (γ #[ι κ ((V:Int)+1),ι κ (p0:Int),ι κ ((r1:Int)+1),ι κ (p1:Int),.bool true,σ T A c0,σ S n1 c1] 197)) 1 u5 ((gg (q+1)).filter (tD n k)).length (qG ((gg (q+1)).filter (tD n k)))/\(∀b,u5.ownBlock=μ b->w.heap.size<=b)/\eE w (wr.alloc (γ #[ι κ ((V:Int)+1),ι κ (p0:Int),ι κ ((r1:Int)+1),ι κ (p1:Int),.bool true,σ T A c0,σ S n1 c1] 197))):=by
       rw[HP.out,X];simp only[Bool.false_eq_true,if_false,gW];exact⟨Y.alloc _,G.out,U.out.alloc U.out.size _⟩
      clear Y Z X D
      go_wp2
      go_roundw
      case rel=>exact⟨q+1,eh,by go_num,Q.out⟩
      case measure=>simp[fa];omega
  ·obtain rfl:q=nc:=eh;have HW:Hid (Row wr 1 u5 (n.lA k).length (qG (n.lA k))/\(∀b,u5.ownBlock=μ b->w.heap.size<=b)/\eE w wr):=by
    show _/\_/\_;rw[HE.out];exact⟨Y,jq,u⟩
   have xZ:¬(q:Int)<(q:Int):=eh;clear Y jq u
   go_wp2
   go_ret;exact⟨_,rfl,HW.out⟩
theorem mC.yQ(h:mC w z r)(Z:r.n=3)(hb:z.pA b):b<w.heap.size:=by
 rcases hb with e|e|e
 ·have:=h.Bg b;rw[Z]at this;exact this e
 ·exact h.bs.mlt b (.inl e)
 ·exact h.bs.mlt b (.inr e)
theorem mC.LR(h:mC w z r)(Y:r.n=3)(Z:z.fm.no g/\¬z.mine 3 g)(j:Nat)(v:dZ):mC (w.setCell ⟨g,j,ν⟩ v) (z.plus λ_=>False) r:=by
 refine h.besides gZ (λk _ hc=>ak _ _ _ k (λe=> ?_)) _ (λk e=>e.elim);have e':k=g:=e;subst e';rcases hc with hc|hc
 ·exact hc Z.1
 ·rw[Y]at hc;exact Z.2 hc
theorem jJ.renew {W0 W3:dY} {y y1:Yt} {n n3:iP} {k:Nat} (h0:jJ W0 y n)(hk:k<n.n)(hb:eE W0 W2)(hz:mC W2 z r)(hr:r.n=3/\r.id=(k:Int)+1)
 (Sk:∀b,z.pA b->W0.heap.size<=b) (D:∀b,y.all n.n b \/y.ext b->z.fm.no b) (DV:y.same y1) (G:∀b,y1.all n.n b↔y.all n.n b) (zk:∀b,y1.ext b↔y.ext b \/z.pA b)
 (hW:iH W2 W3 y1 n3 n.n) (M:n3.n=n.n):
 ∃y2,jJ (W3.setCell ⟨y.gR,k,ν⟩ (π (μ ⟨z.R,0,ν⟩))) y2 (n3.jA k r)/\y.same y2/\(∀b,y2.all n.n b->y.all n.n b \/z.pA b \/W2.heap.size<=b)/\(∀b,y2.ext b↔y.ext b)/\yf W0 (W3.setCell ⟨y.gR,k,ν⟩ (π (μ ⟨z.R,0,ν⟩))) y n.n:=by
 obtain⟨y',R',s',U2,Cb⟩:=hW.ex;have H:=hW.kept;have Y3:y'.gR=y.gR:=s'.gR.trans DV.gR;have hbM:y'.bM=y.bM:=s'.bM.trans DV.bM;have alQ:∀b,z.pA b->b<W2.heap.size:=λb e=>hz.yQ hr.1 e;have nO:∀b,y'.all n.n b->y.all n.n b \/W2.heap.size<=b:=λb e=>(U2 b e).imp_left (G b).1;have V9:∀b,y.all n.n b->b<W0.heap.size:=λb e=>h0.Cp e;have alR:∀b,y'.all n.n b->b<W3.heap.size:=λb e=>R'.Cp (by rw[M];exact e);obtain⟨X,MH⟩:∃X:Nat->Prop,X=λb=>W2.heap.size<=b/\b<W3.heap.size/\y'.all n.n b:=⟨_,rfl⟩
 have hX:∀b,X b->W2.heap.size<=b/\b<W3.heap.size:=λb e=>by rw[MH]at e;exact⟨e.1,e.2.1⟩
 have P2:mC W3 (z.plus X) r:=by
  refine hz.besides H.size (λb A hc=>H.block b A (λe=> ?_)) X hX;have Y:=(G b).1 e;rcases hc with hc|hc
  ·exact hc (D b (.inl Y))
  ·rw[hr.1]at hc;have:=Sk b (.inl hc);have:=V9 b Y;omega
 have jn:∀b,y'.all n.n b->(z.fm.no b \/X b)/\¬z.mine 3 b:=λb e=>by
  rcases nO b e with Y|Y
  ·exact⟨.inl (D b (.inl Y)),λV=>by have:=Sk b (.inl V);have:=V9 b Y;omega⟩
  ·exact⟨.inr (by rw[MH];exact⟨Y,alR b e,e⟩),λV=>by have:=alQ b (.inl V);omega⟩
 have Oq:y'.own y.gR:=⟨.R,by rw[<-Y3];rfl⟩
 have agN:(z.plus X).fm.no y.gR/\¬(z.plus X).mine 3 y.gR:=jn y.gR (.inl Oq);obtain⟨T,u⟩:=gq (W3.setCell ⟨y.gR,k,ν⟩ (π (μ ⟨z.R,0,ν⟩)));have Yp:mC T ((z.plus X).plus λ_=>False) r:=by rw[<-u];exact P2.LR hr.1 agN k _
 have zP:∀j,j<n.n->mC T ((y'.z j).plus λ_=>False) (n3.R j):=λj U=>by
  rw[<-u];exact(R'.rt j (by rw[M];exact U)).LR (R'.rn j (by rw[M];exact U)).1 (R'.away j (by rw[M];exact U) y.gR (.inl Oq)) k _
 have oz:∀b,b≠y.gR->T.heap[b]? =W3.heap[b]? :=λb e=>by rw[<-u];exact ak _ _ _ b e
 have rV:T.heap.size=W3.heap.size:=by rw[<-u];simp
 have hat:∀l b,y'.at l=μ b->l≠ .R->T.heap[b]? =W3.heap[b]? :=λl b e hl=>oz b (λY=>R'.wL e (show y'.at .R=μ y'.gR from rfl) hl (by rw[Y3];exact Y));obtain⟨Z,hZ⟩:∃Z:Nat->Zt,Z=λj=>if j=k then(z.plus X).plus λ_=>False else(y'.z j).plus λ_=>False:=⟨_,rfl⟩
 have Q:Z k=(z.plus X).plus λ_=>False:=by rw[hZ];simp
 have YU:∀j,j≠k->Z j=(y'.z j).plus λ_=>False:=λj U=>by rw[hZ];simp[U]
 have S:∀j b,(Z j).pA b->(j=k/\z.pA b) \/(j≠k/\(y'.z j).pA b):=λj b e=>by
  by_cases ej:j=k
  ·subst ej;rw[Q]at e;exact .inl ⟨rfl,e⟩
  ·rw[YU j ej]at e;exact .inr ⟨ej,e⟩
 have agO:yf W0 T y n.n:=by
  have b1:Below 0 W3 T:=by rw[<-u];exact(au 0 W3).setCell (Nat.zero_le _) _
  refine⟨b1.os.trans (H.os.trans hb.os),b1.tape.trans (H.tape.trans hb.tape),b1.output.trans (H.output.trans hb.output),by rw[rV];exact Nat.le_trans hb.size H.size,λb A hn=> ?_⟩;have Y:b≠y.gR:=λe=>hn (.inl ⟨.R,by rw[e];rfl⟩);rw[oz b Y,H.block b (Nat.lt_of_lt_of_le A hb.size) (λe=>hn ((G b).1 e)),hb.block b A]
 rw[u];refine⟨{y' with z:=Z,ext:=λb=>y'.ext b/\¬z.pA b},⟨R'.n1,R'.n6,R'.c9,R'.oh.keep (hat .N _ rfl (λe=>nomatch e)),?_,R'.ri.keep (hat .I _ rfl (λe=>nomatch e)),λg hg c hc=>(R'.rc g hg c hc).keep (hat .C _ hg (λe=>nomatch e)),R'.gc,?_,?_,?_,λj U=>(R'.ib j U).keep eh (λb e=>hat (.ib j) b e (λe=>nomatch e)),λc d hc hd=>(R'.ob c d hc hd).keep eh (λb e=>hat (.on c d) b e (λe=>nomatch e)),R'.ol,R'.en,R'.inj,?_,λb e=>R'.nx b e.1,⟨R'.nM.1,λe=>R'.nM.2.1 e.1,?_⟩,R'.z0⟩,Yt.yP DV (Yt.yP s' ⟨rfl,rfl,rfl,rfl,rfl,rfl,rfl,rfl⟩),?_,?_,agO⟩
 ·have h:=R'.rr.set k (by rw[M];exact hk) (π (μ ⟨z.R,0,ν⟩));rw[Y3,Nat.zero_add,u]at h;show qz T y'.gR 0 n3.n _;rw[Y3];refine h.congr λj U=> ?_;show tC _ k _ j=π (μ ⟨(Z j).R,0,ν⟩);by_cases e:j=k
  ·subst e;rw[Q];unfold tC;simp;rfl
  ·rw[YU j e,jM _ _ e];rfl
 ·obtain⟨E,h,h2⟩:=R'.mp;refine⟨E,h.keep (oz y'.bM (λe=>R'.nM.1 ?_)),h2⟩;rw[e];exact Oq
 ·intro j U;show mC T (Z j) (jW n3.R k r j);by_cases e:j=k
  ·subst e;rw[Q,iF];exact Yp
  ·rw[YU j e,iE _ _ e];exact zP j (by rw[<-M];exact U)
 ·intro j U;show(jW n3.R k r j).n=3/\(jW n3.R k r j).id=(j:Int)+1;by_cases e:j=k
  ·subst e;rw[iF];exact hr
  ·rw[iE _ _ e];exact R'.rn j U
 ·intro i hi b A;have kX:i<n.n:=by rw[<-M];exact hi
  show(Z i).fm.no b/\¬(Z i).mine 3 b;by_cases ei:i=k
  ·subst ei;rw[Q];have LU:(z.fm.no b \/X b)/\¬z.mine 3 b:=by
    rcases A with e|e|⟨j,U,jx,e⟩
    ·exact jn b (.inl e)
    ·have Y:=(Cb b).1 e.1;rcases(zk b).1 Y with V|V
     ·exact⟨.inl (D b (.inr V)),λJ=>e.2 (.inl J)⟩
     ·exact absurd V e.2
    ·rcases S j b e with⟨Y,_⟩|⟨Y,V⟩
     ·exact absurd Y jx
     ·exact jn b (.inr ⟨j,by rw[<-M];exact U,V⟩)
   exact⟨.inl LU.1,LU.2⟩
  ·rw[YU i ei];have LU:(y'.z i).fm.no b/\¬(y'.z i).mine 3 b:=by
    rcases A with e|e|⟨j,U,jx,e⟩
    ·exact R'.away i hi b (.inl e)
    ·exact R'.away i hi b (.inr (.inl e.1))
    ·rcases S j b e with⟨Y,V⟩|⟨Y,V⟩
     ·exact R'.away i hi b (.inr (.inl ((Cb b).2 ((zk b).2 (.inr V)))))
     ·exact R'.away i hi b (.inr (.inr ⟨j,U,jx,V⟩))
   exact⟨.inl LU.1,LU.2⟩
 ·intro i hi e;show False;rcases S i _ e with⟨_,V⟩|⟨_,V⟩
  ·have J:=Sk _ V;have h:=h0.H7;have e4:W0.heap.size<=y'.bM:=J;rw[hbM]at e4;omega
  ·exact R'.nM.2.2 i hi V
 ·intro b e;rcases e with e|⟨j,U,e⟩
  ·rcases nO b (.inl e)with Y|Y
   ·exact .inl Y
   ·exact .inr (.inr Y)
  ·rcases S j b e with⟨_,V⟩|⟨_,V⟩
   ·exact .inr (.inl V)
   ·rcases nO b (.inr ⟨j,U,V⟩)with Y|Y
    ·exact .inl Y
    ·exact .inr (.inr Y)
 ·intro b;constructor
  ·rintro⟨Y,V⟩;rcases(zk b).1 ((Cb b).1 Y)with J|J
   ·exact J
   ·exact absurd J V
  ·intro e;refine⟨(Cb b).2 ((zk b).2 (.inl e)),λV=> ?_⟩;have h:=h0.lt (.inr e);have h2:=Sk b V;omega
theorem E8(up:Bool):∀(l:List Nat) (y:iP) (c:Nat),y.jD up (l++ [c])=(y.jD up l).jZ c up
 |[],_,_=>rfl
 |_::l,_,c=>E8 up l _ c
theorem Wa(l:List Nat)(j:Nat)(h:j<l.length):(qG l)[j]? =μ (ι κ (l[j] :Int)):=by simp[qG,h]
theorem zY(Z:dY)(y:Yt)(S M:iP)(D m:Nat)(up:Bool)(L:List Nat)(G:jJ Z y S)(J:S.n=m)(h:jh Z)(iQ:j5 M D 20)(u:D<=900000000)(V:∀c∈L,c<M.nc)(hl:L.length<=9)(Y:M.n=m)(q:Nat)(T:q<L.length)(W:dY)(U:iH Z W y (M.jD up (L.take q)) m):
 eZ e7 113 #[π (μ ⟨y.N,0,ν⟩),ι κ (L[q] :Int),.bool up] W λe w'=>e=ρ (τ #[])/\iH Z w' y (M.jD up (L.take (q+1))) m:=by
 have X:=U.tab G J h;obtain⟨s1,s2,s3,s4,s5⟩:=nt up (L.take q) M;have k9:=j5.jD eh up (L.take q) iQ (λc hc=>V c (de hc));have hlq:(L.take q).length<=q:=ct _ _;have H:M.jD up (L.take (q+1))=(M.jD up (L.take q)).jZ L[q] up:=by
  rw[aA T,E8]
 rw[H];refine U.call λy1 Q A=> ?_;rw[<-A.N];have:=Ii y1 _ D _ L[q] up W Q X k9 u eh (by rw[s2];exact V _ (aF T));rw[s1,Y]at this;exact this
theorem Cv(y:Yt)(n:iP)(D:Nat)(i:Int)(w:dY)(h:jJ w y n)(hT:jh w)(iQ:j5 n D 0)(hD:D<=900000000):
 eZ e7 62 #[π (μ ⟨y.N,0,ν⟩),ι κ i] w λe w'=>e=ρ (jk (n.restart i).2)/\iH w w' y (n.restart i).1 n.n:=by
 have hh:=qY y n i w h;rcases yS i n.n with⟨hn,hi⟩|⟨k,hk,rfl⟩
 ·have hE:n.restart i=(n,6):=by unfold iP.restart;rw[ai hi]
  rw[hE];rw[hn]at hh;have HW:Hid _:=iH.refl h;clear h iQ hT
  go_in
  go_wp2_with(fail);refine hh.mono ?_;rintro e w1 ⟨rfl,rfl⟩;clear hh
  go_wp2
  go_ret;exact⟨rfl,HW.out⟩
 ·rw[zT hk]at hh;have n6:=h.n6;obtain⟨L,hL⟩:=gq (n.lA k);have hE:n.restart ((k:Int)+1)=((((n.jD false L).jA k (jO ((k:Int)+1) 3 (n.ms k))).jD true L).gather,0):=by
   unfold iP.restart;have e1:((k:Int)+1-1).toNat=k:=eh;rw[af eh,e1,hL]
  rw[hE];have e0:jk 0=η:=rfl;rw[e0];obtain⟨E,hEm,hET,hEO⟩:=h.mp;have Pp:=yh y.N y.bM k E (n.ms k) w h.k2 hEm hEO eh (λp hp=>hET k p hk hp) hT (λb=>y.all n.n b \/y.ext b) (λb hb=>hb.elim (λe=>h.Cp e) (λe=>h.lt (.inr e)));have hLl:L.length<=9:=by
   rw[<-hL];exact Nat.le_trans (yW n k) h.c9
  have hLc:∀c∈L,c<n.nc:=λc hc=>by rw[<-hL]at hc;exact Bs c hc
  have Zg:Hid (∀W,eE w W->eZ e7 115 #[π (μ ⟨y.N,0,ν⟩),ι κ ((k:Int)+1)] W λe w'=>∃v,e=ρ v/\Row w' 1 v L.length (qG L)/\(∀b,v.ownBlock=μ b->W.heap.size<=b)/\eE W w'):=by
   intro W U;have:=JD y n k W (h.below U);rw[hL]at this;exact this
  have HH:Hid _:=h;have HT:Hid _:=hT;have Ra:Hid _:=iQ;have HK:Hid _:=hk;have J:Hid _:=hLc;clear h hT iQ hEm hET hEO hE hL hLc
  go_in
  go_wp2_with(fail);refine hh.mono ?_;rintro e w1 ⟨rfl,rfl⟩;clear hh;go_wp2_with(fail);refine Pp.mono ?_;rintro e W1 ⟨z,rfl,np,kC,P2,hz4,hz5,hz6⟩;have hca:=Zg.out W1 kC;have HZ1:Hid _:=np;have Ds:Hid _:=kC;have Sk:Hid (∀b,z.pA b->w.heap.size<=b):=by
   intro b hb;rcases hb with e|e|e
   ·exact P2 b e
   ·rw[e];exact hz4
   ·exact hz5 b e
  have HZX:Hid (∀b,y.all n.n b \/y.ext b->z.fm.no b):=λb hb=>hz6 b hb;clear Pp np kC P2 hz4 hz5 hz6;go_wp2_with(fail);refine hca.mono ?_;rintro e W2 ⟨v,rfl,iX,jq,mX⟩;clear hca;have Wc:eE w W2:=gu Ds.out mX;have mI:mC W2 z (jO ((k:Int)+1) 3 (n.ms k)):=HZ1.out.below mX;have tj:(jO ((k:Int)+1) 3 (n.ms k)).n=3/\(jO ((k:Int)+1) 3 (n.ms k)).id=(k:Int)+1:=⟨rfl,rfl⟩
  have xx:∀b,z.pA b->b<W1.heap.size:=λb e=>HZ1.out.yQ rfl e;obtain⟨y1,R1,s1,ha1,zk⟩:=HH.out.beside Wc.size (λb qq _=>Wc.block b qq) z.pA (λb e=>⟨Sk.out b e,Nat.lt_of_lt_of_le (xx b e) mX.size⟩);have YF:jh W2:=jh.below (w:=w) HT.out Wc;have aa3:j5 n D 20:=Ra.out.mono (Nat.le_refl _) eh;obtain⟨a,cp,hve⟩:=Row.shape iX;subst hve;have XU:Hid (∀b,eu (σ a L.length cp)=μ b->W1.heap.size<=b/\b<W2.heap.size):=λb hb=>⟨jq b hb,iX.lt b hb⟩
  have En:Hid _:=iX;have HP0:Hid (iH W2 W2 y1 (n.jD false (L.take 0)) n.n):=iH.refl R1;have HPl:Hid (∀q W,(hq:q<L.length)->iH W2 W y1 (n.jD false (L.take q)) n.n->eZ e7 113 #[π (μ ⟨y.N,0,ν⟩),ι κ (L[q] :Int),.bool false] W λe w'=>e=ρ (τ #[])/\iH W2 w' y1 (n.jD false (L.take (q+1))) n.n):=by
   intro q W hq U;rw[<-s1.N];exact zY W2 y1 n n D n.n false L R1 rfl YF aa3 hD J.out hLl rfl q hq W U
  have VO:Hid (∀q W M,(hq:q<L.length)->iH W2 W y1 M n.n->∃g,a=μ ⟨g,0,ν⟩/\W.cell? ⟨g,q,ν⟩=μ (ι κ (L[q] :Int))):=by
   intro q W M hq U;rcases En.out.2 with⟨_,e2⟩|⟨g,c,e,_,_,_,hc,_⟩
   ·omega
   ·have ea:a=μ ⟨g,0,ν⟩:=(bO e).1;have hg:=XU.out g (by rw[ea];rfl);refine⟨g,ea,(aj (a:=⟨g,q,ν⟩) (U.kept.block g hg.2 (λe3=> ?_))).trans (hc q _ (Wa L q hq))⟩;have Y:=HH.out.Cp ((ha1 g).1 e3);have h2:=Ds.out.size;omega
  have HR1:Hid _:=R1;have Z:Hid _:=s1;have HA1:Hid _:=ha1;have HE1:Hid _:=zk;have HZ2:Hid _:=mI;have agT:Hid _:=Wc;have HFL:Hid _:=xx;have HT2:Hid _:=YF;have AA:Hid _:=mX;obtain⟨len,hlen⟩:=gq (L.length);have Sl:Hid _:=hlen;rw[hlen]at hLl;clear iX jq Wc mI tj xx R1 s1 ha1 zk YF mX aa3
  go_wp2
  go_loopw [31] (λx wr=>∃q:Nat,q<=len/\x=ι κ q/\iH W2 wr y1 (n.jD false (L.take q)) n.n) (λx _=>len-(fa x).toNat)
  case atStart=>exact⟨0,Nat.zero_le _,rfl,HP0.out⟩
  case round=>
   obtain⟨q,hq,rfl,X⟩:=hrel;obtain⟨V,rfl⟩:∃V,V=wr:=⟨_,rfl⟩
   by_cases kD:q<len
   ·have nS:(q:Int)<(len:Int):=eh;have hq0:(0:Int)<=(q:Int):=eh;have hqL:q<L.length:=by rw[Sl.out];exact kD
    obtain⟨g,rfl,hcell⟩:=VO.out q V _ hqL X;have gl:=ag _ _ hcell;have u:=HPl.out q V hqL X;generalize L[q] =cq at hcell u;clear X;go_wp2_with(fail);refine u.mono ?_;rintro e w1 ⟨rfl,G⟩;have HW:Hid _:=G;clear u G
    go_wp2
    go_roundw
    case rel=>exact⟨q+1,eh,by go_num,HW.out⟩
    case measure=>simp[fa];omega
   ·have xZ:¬(q:Int)<(len:Int):=eh;obtain rfl:q=len:=eh;have e9:L.take q=L:=by rw[<-Sl.out];exact cg
    rw[e9]at X;obtain⟨n3,ye⟩:=gq (n.jD false L);obtain⟨A,p2,p3,p4,p5⟩:=nt false L n;rw[ye]at X A p2;have agU:j5 n3 D 20:=by
     rw[<-ye];exact(j5.jD eh false L Ra.out J.out).mono (Nat.le_refl _) (by rw[Sl.out];omega)
    obtain⟨H,R2,s2,ha2,he2,rO⟩:=jJ.renew HH.out HK.out agT.out HZ2.out ⟨rfl,rfl⟩ Sk.out HZX.out Z.out HA1.out HE1.out X A;have Wd:=agU.anew k (by rw[A];exact HK.out);have e8:n3.ms k=n.ms k:=by rw[<-ye,p3]
    rw[e8]at Wd;obtain⟨S,Q⟩:=gq (n3.jA k (jO ((k:Int)+1) 3 (n.ms k)));rw[Q]at R2 Wd;have Wf:S.n=n.n:=by rw[<-Q];exact A
    have adk:S.nc=n.nc:=by rw[<-Q];exact p2
    have d0:=X.k0;have dl:=X.lt;rw[Z.out.N,Z.out.gR,Z.out.tY,A]at d0;rw[Z.out.N]at dl;obtain⟨Rk,hRk⟩:=X.ptr (i:=k) (by rw[A];exact HK.out);rw[Z.out.gR]at hRk;have gRl:=ag _ _ hRk;have gRf:V.frozen? ⟨y.gR,k,ν⟩=false:=by
     obtain⟨y9,R9,s9,_,_⟩:=X.ex;have Y:=R9.rr.fz k (by rw[A];exact HK.out);rw[Nat.zero_add,s9.gR,Z.out.gR]at Y;exact Y
    have UW:=Bt HK.out n6;have hki:(k:Int)<(n.n:Int):=eh;have Hr:(0:Int)<=(k:Int):=eh;have hTV:jh V:=X.tab HR1.out rfl HT2.out;obtain⟨T,uW⟩:=gq (V.setCell ⟨y.gR,k,ν⟩ (π (μ ⟨z.R,0,ν⟩)));rw[uW]at R2 rO;have alT:y.gR≠0:=λe=>HH.out.z0 ⟨.R,by rw[<-e];rfl⟩;have hT4:jh T:=λe s he hs=>by
     rw[<-uW,aW _ _ _ _ (λe1=>alT (congrArg Addr.block e1))];exact hTV e s he hs
    have aqW:T.heap.size=V.heap.size:=by rw[<-uW];simp
    have hVs:=X.kept.size;have agW:Hid (∀q' W M,(Yk:q'<L.length)->iH T W H M n.n->∃g,a=μ ⟨g,0,ν⟩/\W.cell? ⟨g,q',ν⟩=μ (ι κ (L[q'] :Int))):=by
     intro q' W M Yk U;obtain⟨g,ea,hc⟩:=VO.out q' V _ Yk X;have hg:=XU.out g (by rw[ea];rfl);have DV:=Ds.out.size;have QH:g≠y.gR:=λe=>by
      have:=HH.out.RJ;omega
     refine⟨g,ea,(aj (a:=⟨g,q',ν⟩) (U.kept.block g eh (λe3=> ?_))).trans ?_⟩
     ·rcases ha2 g e3 with Y|Y|Y
      ·have:=HH.out.Cp Y;omega
      ·have:=HFL.out g Y;omega
      ·omega
     ·rw[<-uW,aW _ _ _ _ (λe1=>QH (congrArg Addr.block e1).symm)];exact hc
    have HP2:Hid (iH T T H (S.jD true (L.take 0)) n.n):=by
     show iH _ _ _ _ _;rw[<-Wf];exact iH.refl R2
    have alU:Hid (∀q' W,(Yk:q'<L.length)->iH T W H (S.jD true (L.take q')) n.n->eZ e7 113 #[π (μ ⟨y.N,0,ν⟩),ι κ (L[q'] :Int),.bool true] W λe w'=>e=ρ (τ #[])/\iH T w' H (S.jD true (L.take (q'+1))) n.n):=by
     intro q' W Yk U;rw[<-s2.N];exact zY T H S S D n.n true L R2 Wf hT4 Wd hD (λc hc=>by rw[adk];exact J.out c hc) (by rw[Sl.out];exact hLl) Wf q' Yk W U
    have HG:Hid (∀W,iH T W H (S.jD true L) n.n->eZ e7 111 #[π (μ ⟨y.N,0,ν⟩)] W λe w'=>e=ρ (τ #[])/\iH T w' H (S.jD true L).gather n.n):=by
     intro W U;refine U.call λy3 R3 s3=> ?_;rw[<-s2.N,<-s3.N];have h5:=j5.jD eh true L Wd (λc hc=>by rw[adk];exact J.out c hc);have h6:=sW y3 _ D _ W R3 h5 eh (by rw[Sl.out];omega);rw[(nt true L S).1,Wf]at h6;exact h6
    have acV:Hid (∀W,iH T W H (S.jD true L).gather n.n->iH w W y ((((n.jD false L).jA k (jO ((k:Int)+1) 3 (n.ms k))).jD true L).gather) n.n):=by
     intro W U;rw[ye,Q];refine iH.qP rO s2 (λb e=> ?_) he2 U;rcases ha2 b e with Y|Y|Y
     ·exact .inl Y
     ·exact .inr (Sk.out b Y)
     ·exact .inr (Nat.le_trans agT.out.size Y)
    have Lx:Hid _:=uW;clear X R2 s2 ha2 he2 rO agU Wd ye Q Wf adk hTV hT4 uW A p2 p3 p4 p5 e8 VO HPl HP0;go_wp2_with(fail);rw[Lx.out]
    go_loopw [49] (λx wr=>∃q':Nat,q'<=q/\x=ι κ q'/\iH T wr H (S.jD true (L.take q')) n.n) (λx _=>q-(fa x).toNat)
    case atStart=>exact⟨0,Nat.zero_le _,rfl,HP2.out⟩
    case round=>
     obtain⟨t,ht,rfl,NK⟩:=hrel;by_cases ade:t<q
     ·have agK:(t:Int)<(q:Int):=eh;have ht0:(0:Int)<=(t:Int):=eh;have htL:t<L.length:=by rw[Sl.out];exact ade
      obtain⟨g,rfl,hcell⟩:=agW.out t wr _ htL NK;have gl:=ag _ _ hcell;have u:=alU.out t wr htL NK;generalize L[t] =cq at hcell u;clear NK;go_wp2_with(fail);refine u.mono ?_;rintro e w1 ⟨rfl,G⟩;have HW:Hid _:=G;clear u G
      go_wp2
      go_roundw
      case rel=>exact⟨t+1,eh,by go_num,HW.out⟩
      case measure=>simp[fa];omega
     ·have agM:¬(t:Int)<(q:Int):=eh;obtain rfl:t=q:=eh;rw[e9]at NK;have hg:=HG.out wr NK;clear NK;go_wp2_with(fail);refine hg.mono ?_;rintro e w1 ⟨rfl,G⟩;have HW:Hid _:=acV.out _ G;clear hg G
      go_wp2
      go_ret;exact⟨rfl,HW.out⟩
def zZ(w:dY)(a:Option Addr)(L:List oQ):Prop:=∀j,(hj:j<L.length)->∃b off,a=μ ⟨b,off,ν⟩/\w.cell? ⟨b,off+j*5,ν⟩=μ (ι κ L[j].a)/\w.cell? ⟨b,off+j*5+1,ν⟩=μ (ι κ L[j].pa)/\w.cell? ⟨b,off+j*5+2,ν⟩=μ (ι κ L[j].b)/\w.cell? ⟨b,off+j*5+3,ν⟩=μ (ι κ L[j].pb)/\w.cell? ⟨b,off+j*5+4,ν⟩=μ (ι κ L[j].m)
theorem zZ.below(h:zZ w a L)(hb:eE w w'):zZ w' a L:=λj S=>by
 obtain⟨b,off,e,Y,X,V,U,T⟩:=h j S;have Z:=hb.block b (ag _ _ Y);exact⟨b,off,e,(aj (a:=⟨b,off+j*5,ν⟩) Z).trans Y,(aj (a:=⟨b,off+j*5+1,ν⟩) Z).trans X,(aj (a:=⟨b,off+j*5+2,ν⟩) Z).trans V,(aj (a:=⟨b,off+j*5+3,ν⟩) Z).trans U,(aj (a:=⟨b,off+j*5+4,ν⟩) Z).trans T⟩
theorem Wg:(e7.info? 193).map (·.size)=μ 4:=gX
theorem E9(a pa b pb m:Int)(w:dY):eZ e7 97 #[.agg #[ι κ a,ι κ pa,ι κ b,ι κ pb,ι κ m]] w λe w'=>e=ρ (.agg #[ι κ a,ι κ pa,ι κ b,ι κ pb])/\eE w w':=by
 have Z:iZ ((w.alloc (γ #[ι κ a,ι κ pa,ι κ b,ι κ pb,ι κ m] 81)).alloc (γ #[ι κ a,ι κ pa,ι κ b,ι κ pb] 193)) (w.heap.size+1) #[ι κ a,ι κ pa,ι κ b,ι κ pb] 193:=by
  have:=iZ.new (w.alloc (γ #[ι κ a,ι κ pa,ι κ b,ι κ pb,ι κ m] 81)) #[ι κ a,ι κ pa,ι κ b,ι κ pb] 193;simpa using this
 have hb:eE w ((w.alloc (γ #[ι κ a,ι κ pa,ι κ b,ι κ pb,ι κ m] 81)).alloc (γ #[ι κ a,ι κ pa,ι κ b,ι κ pb] 193)):=(gY _ _).alloc gZ _;have Y:=bU (P:=e7) _ (w.heap.size+1) 193 193 #[ι κ a,ι κ pa,ι κ b,ι κ pb] (0,0) _ Z underlying193 rfl Wg
 go_in
 go_wp2_with(fail);refine aE (v:=.agg #[ι κ a,ι κ pa,ι κ b,ι κ pb]) (by simp[results,results97,asAddr,Y]) rfl ?_;exact⟨rfl,hb⟩
theorem xt(r p many:Int)(w:dY):eZ e7 154 #[.agg #[ι κ r,ι κ p],ι κ many] w λe w'=>e=ρ (.bool (oY many r p))/\eE w w':=by
 have hb:=gY w (γ #[ι κ r,ι κ p] 192);unfold oY;by_cases Z:1<=r
 ·by_cases Y:r<=many
  ·by_cases X:0<=p
   ·by_cases V:p<3
    ·have hv:(decide (1<=r)&&decide (r<=many)&&decide (0<=p)&&decide (p<3))=true:=by simp[Z,Y,X,V]
     rw[hv];clear hv
     go_in
     go_wp2
     go_ret;exact⟨by first|rfl|(simp;omega),hb⟩
    ·have hv:(decide (1<=r)&&decide (r<=many)&&decide (0<=p)&&decide (p<3))=false:=by simp[V]
     rw[hv];clear hv
     go_in
     go_wp2
     go_ret;exact⟨by first|rfl|(simp;omega),hb⟩
   ·have hv:(decide (1<=r)&&decide (r<=many)&&decide (0<=p)&&decide (p<3))=false:=by simp[X]
    rw[hv];clear hv
    go_in
    go_wp2
    go_ret;exact⟨by first|rfl|(simp;omega),hb⟩
  ·have hv:(decide (1<=r)&&decide (r<=many)&&decide (0<=p)&&decide (p<3))=false:=by simp[Y]
   rw[hv];clear hv
   go_in
   go_wp2
   go_ret;exact⟨by first|rfl|(simp;omega),hb⟩
 ·have hv:(decide (1<=r)&&decide (r<=many)&&decide (0<=p)&&decide (p<3))=false:=by simp[Z]
  rw[hv];clear hv
  go_in
  go_wp2
  go_ret;exact⟨by first|rfl|(simp;omega),hb⟩
theorem Ot(l:List oQ)(c:oQ):kx (l++ [c])=kx l++ [(c.a,c.pa,c.m),(c.b,c.pb,c.m)] :=by simp[kx]
theorem Sm {r:Int} (h:oY many r p=true)(h6:many<=6):1<=r/\r<=6/\0<=p/\p<=2:=by
 unfold oY at h;simp only[Bool.and_eq_true,decide_eq_true_eq]at h;omega
def rE(many:Int)(c:oQ)(E:List (Int×Int×Int)):Nat:=
 if c.m<1 \/20<c.m then 1
 else if oY many c.a c.pa=false then 1
 else if(kS E c.a c.pa).isSome=true then 8
 else if oY many c.b c.pb=false then 1
 else if(kS (E++ [(c.a,c.pa,c.m)]) c.b c.pb).isSome=true then 8
 else 0
theorem Ik(many:Int)(c:oQ)(l:List oQ)(E:List (Int×Int×Int)):yN many (c::l) E=if rE many c E≠0 then rE many c E else yN many l (E++ [(c.a,c.pa,c.m),(c.b,c.pb,c.m)]):=by
 conv=>lhs;unfold yN
 unfold rE;split
 ·rfl
 ·split
  ·rfl
  ·split
   ·rfl
   ·split
    ·rfl
    ·split
     ·rfl
     ·rw[af gZ]
def Bv(w:dY)(many:Int)(L:List oQ)(e:Ending)(w':dY):Prop:=(nP many L≠0->e=ρ (τ #[.map ν,jk (nP many L)]))/\(nP many L=0->∃b,e=ρ (τ #[.map (μ b),η])/\oI w' b (kx L)/\Dx (kx L)/\w.heap.size<=b)/\eE w w'
theorem Bv.bad {f:Nat} (hf:nP many L=f)(Z:f≠0)(hb:eE w w'):Bv w many L (ρ (τ #[.map ν,jk f])) w':=⟨λ_=>by rw[hf],λe=>absurd (hf.symm.trans e) Z,hb⟩
theorem Bv.good(hf:nP many L=0)(X:oI w' b (kx L))(Y:Dx (kx L))(hb:w.heap.size<=b)(Z:eE w w'):Bv w many L (ρ (τ #[.map (μ b),η])) w':=⟨λe=>absurd hf e,λ_=>⟨b,rfl,X,Y,hb⟩,Z⟩
theorem Zh(W:dY):(Instr.makeMap 184 ν).run e7 W=.ok (.map (μ W.heap.size)) (W.alloc (.map #[] 0)):=rfl
theorem Cw(w:dY)(b:Nat)(E:List (Int×Int×Int))(T:Dx E)(many r p:Int)(h6:many<=6)(W:dY)(u:oI W b E)(hb:w.heap.size<=b)(y:eE w W)(qe:b<W.heap.size)(Z Y:Nat)(m:Int)(J:W.cell? ⟨Z,0,ν⟩=μ (ι κ r)/\W.cell? ⟨Z,1,ν⟩=μ (ι κ p))(S:W.cell? ⟨Y,4,ν⟩=μ (ι κ m)):
 eZ e7 154 #[.agg #[ι κ r,ι κ p],ι κ many] W λe w1=>e=ρ (.bool (oY many r p))/\eE w w1/\(w1.cell? ⟨Z,0,ν⟩=μ (ι κ r)/\w1.cell? ⟨Z,1,ν⟩=μ (ι κ p))/\w1.cell? ⟨Y,4,ν⟩=μ (ι κ m)/\
  (oY many r p=true->(Instr.lookup 184 (.map (μ b)) (.agg #[ι κ r,ι κ p]) true).run e7 w1=.ok (τ #[ι κ ((kS E r p).getD 0),.bool (kS E r p).isSome]) w1/\
   (kS E r p=ν->∃X,(Instr.mapUpdate 184 (.map (μ b)) (.agg #[ι κ r,ι κ p]) (ι κ m)).run e7 w1=.ok () X/\oI X b (E++ [(r,p,m)])/\Dx (E++ [(r,p,m)])/\eE w X/\X.cell? ⟨Y,4,ν⟩=μ (ι κ m)/\b<X.heap.size)):=by
 refine(xt r p many W).mono ?_;rintro e w1 ⟨rfl,b1⟩;have V:=ag _ _ J.1;have M:=ag _ _ S;have y1:=(aj (a:=⟨Y,4,ν⟩) (b1.block Y M)).trans S;have qZ:=u.keep (b1.block b qe);refine⟨rfl,gu y b1,⟨(aj (a:=⟨Z,0,ν⟩) (b1.block Z V)).trans J.1,(aj (a:=⟨Z,1,ν⟩) (b1.block Z V)).trans J.2⟩,y1,λiQ=> ?_⟩;have G:=Sm iQ h6;refine⟨oI.look qZ T G,λh=> ?_⟩;obtain⟨X,g1,g2,g3,g4,g5,D,A⟩:=oI.store (m:=m) qZ T G h;have Q:Y≠b:=λe=>by
  subst e;obtain⟨es,clock,h1,_⟩:=u;simp[World.cell?,h1]at S
 have U:=gu y b1;refine⟨X,g1,g2,T.snoc G h,⟨g3.trans U.os,g4.trans U.tape,g5.trans U.output,by rw[D];exact U.size,λk hk=> ?_⟩,(aj (a:=⟨Y,4,ν⟩) (A Y Q)).trans y1,by rw[D];exact Nat.lt_of_lt_of_le qe b1.size⟩;have H:k≠b:=eh;exact(A k H).trans (U.block k hk)
theorem yi(many:Int)(a:Option Addr)(cap:Nat)(L:List oQ)(w:dY)(hL:zZ w a L)(hl:L.length<=1000):
 eZ e7 95 #[ι κ many,σ a L.length cap] w λe w'=>Bv w many L e w':=by
 by_cases D:many<1 \/6<many
 ·have G:nP many L=1:=by unfold nP;rw[ai D]
  have S:Hid _:=Bv.bad G eA (au _ w);clear hL G;generalize L.length=n at hl⊢;by_cases h2:many<1
  ·clear D
   go_in
   go_wp2
   go_ret2
   exact S.out
  ·have h3:6<many:=eh;clear D
   go_in
   go_wp2
   go_ret2
   exact S.out
 ·have h1a:¬many<1:=eh;have h1b:¬6<many:=eh;by_cases h9:9<L.length
  ·have G:nP many L=2:=by unfold nP;rw[af D,ai h9]
   have S:Hid _:=Bv.bad G eA (au _ w);have h9':(9:Int)<(L.length:Int):=eh;clear hL G D;generalize L.length=n at hl h9 h9'⊢
   go_in
   go_wp2
   go_ret2
   exact S.out
  ·have HE:Hid (nP many L=yN many L []):=by show _=_;unfold nP;rw[af D,af h9]
   have h9':¬(9:Int)<(L.length:Int):=eh;have HL:Hid _:=hL;obtain⟨n,hn⟩:=gq (L.length);have HN:Hid _:=hn;have Lw:oI (w.alloc (.map #[] 0)) w.heap.size [] :=⟨#[],0,aY w _,rfl⟩
   have hmk:=Zh;obtain⟨bM,hbM⟩:=gq (w.heap.size);have H0:Hid (oI (w.alloc (.map #[] 0)) bM (kx (L.take 0))/\Dx (kx (L.take 0))/\eE w (w.alloc (.map #[] 0))/\bM<(w.alloc (.map #[] 0)).heap.size/\yN many L [] =yN many (L.drop 0) (kx (L.take 0))):=by
    rw[hbM]at Lw;exact⟨Lw,λx hx=>by simp[kx]at hx,gY _ _,by rw[<-hbM];simp,rfl⟩
   have HbM:Hid _:=hbM;rw[hn]at hl h9'⊢;clear hL D h9 hn Lw
   go_in
   go_wp2_with(fail)
   try rw[HbM.out]
   go_loopw [27] (λx wr=>∃j:Nat,j<=n/\x=ι κ j/\oI wr bM (kx (L.take j))/\Dx (kx (L.take j))/\eE w wr/\bM<wr.heap.size/\yN many L [] =yN many (L.drop j) (kx (L.take j))) (λx _=>n-(fa x).toNat)
   case atStart=>exact⟨0,Nat.zero_le _,rfl,H0.out⟩
   case round=>
    obtain⟨j,hj,rfl,hm,G,hB,qe,hF⟩:=hrel;obtain⟨V,rfl⟩:∃V,V=wr:=⟨_,rfl⟩
    by_cases kD:j<n
    ·have nS:(j:Int)<(n:Int):=eh;have yM:(0:Int)<=(j:Int):=eh;have hjL:j<L.length:=by rw[HN.out];exact kD
     obtain⟨b,off,rfl,k0,k1,k2,k3,k4⟩:=zZ.below (w:=w) HL.out hB j hjL;have hd:L.drop j=L[j] ::L.drop (j+1):=aS hjL;have ht:kx (L.take (j+1))=kx (L.take j)++ [(L[j].a,L[j].pa,L[j].m),(L[j].b,L[j].pb,L[j].m)] :=by
      rw[aA hjL,Ot]
     rw[hd,Ik]at hF;generalize L[j] =c at k0 k1 k2 k3 k4 hF ht;obtain⟨E,hEe⟩:=gq (kx (L.take j));rw[hEe]at hm G hF ht;have HT:Hid _:=ht;have Wi:Hid (∀f,rE many c E=f->f≠0->nP many L=f):=by
      intro f D h2;rw[HE.out,hF,D,ai h2]
     have agX:Hid (rE many c E=0->yN many L [] =yN many (L.drop (j+1)) (E++ [(c.a,c.pa,c.m),(c.b,c.pb,c.m)])):=by
      intro D;rw[hF,D,af gZ]
     obtain⟨ca,X,U,T,cm⟩:=c;have bl:=ag _ _ k0;have HM:Hid _:=hm;have HEO:Hid _:=G;have HB:Hid _:=hB;have HBL:Hid _:=qe;obtain⟨W1,j8⟩:=gq (V.alloc (γ #[ι κ ca,ι κ X,ι κ U,ι κ T,ι κ cm] 81));obtain⟨Y,hY⟩:=gq (V.heap.size);have kC:=gY V (γ #[ι κ ca,ι κ X,ι κ U,ι κ T,ι κ cm] 81);have Ou:iZ (V.alloc (γ #[ι κ ca,ι κ X,ι κ U,ι κ T,ι κ cm] 81)) V.heap.size #[ι κ ca,ι κ X,ι κ U,ι κ T,ι κ cm] 81:=iZ.new V _ _;rw[j8]at kC Ou;rw[hY]at Ou;have g0:W1.cell? ⟨Y,0,ν⟩=μ (ι κ ca):=Ou.cell 0;have g1:W1.cell? ⟨Y,1,ν⟩=μ (ι κ X):=Ou.cell 1;have g2:W1.cell? ⟨Y,2,ν⟩=μ (ι κ U):=Ou.cell 2;have g3:W1.cell? ⟨Y,3,ν⟩=μ (ι κ T):=Ou.cell 3;have g4:W1.cell? ⟨Y,4,ν⟩=μ (ι κ cm):=Ou.cell 4;have gl:=Ou.lt;have rN:eE w W1:=gu hB kC;have qZ:oI W1 bM E:=hm.keep (kC.block bM qe);have agY:bM<W1.heap.size:=Nat.lt_of_lt_of_le qe kC.size;have Kg:Hid _:=j8;have HY:Hid _:=hY;have Ds:Hid _:=rN;have Y4:Hid _:=qZ;have agZ:Hid _:=agY;have HBY:Hid _:=Ou;have z8:=E9 ca X U T cm W1;clear hm G hB qe hF hd ht hEe kC Ou rN qZ agY j8 hY;by_cases vX:cm<1 \/20<cm
     ·have wi:nP many L=1:=Wi.out 1 (by unfold rE;rw[ai vX]) eA;have S:Hid _:=Bv.bad (w':=W1) wi eA Ds.out;clear z8;by_cases C2:cm<1
      ·clear vX;go_wp2_with(fail);rw[Kg.out]
       try rw[HY.out]
       go_wp2
       go_ret2
       exact S.out
      ·have hm3:20<cm:=eh;clear vX;go_wp2_with(fail);rw[Kg.out]
       try rw[HY.out]
       go_wp2
       go_ret2
       exact S.out
     ·have C2:¬cm<1:=eh;have hm3:¬20<cm:=eh;have Hq:Hid _:=vX;clear vX;go_wp2_with(fail);rw[Kg.out]
      try rw[HY.out]
      go_wp2_with(fail);refine z8.mono ?_;rintro e w2 ⟨rfl,be⟩;have HI0:Hid (oI w2 bM (E)/\Dx (E)/\eE w w2/\bM<w2.heap.size/\w2.cell? ⟨Y,4,ν⟩=μ (ι κ cm)):=⟨oI.keep Y4.out (be.block bM agZ.out),HEO.out,gu Ds.out be,Nat.lt_of_lt_of_le agZ.out be.size,(aj (a:=⟨Y,4,ν⟩) (be.block Y gl)).trans g4⟩
      clear z8 be k0 k1 k2 k3 k4 g0 g1 g2 g3 g4 gl bl
      go_wp2
      go_loopw [42] (λx wr=>(x=ι κ 0/\(oI wr bM (E)/\Dx (E)/\eE w wr/\bM<wr.heap.size/\wr.cell? ⟨Y,4,ν⟩=μ (ι κ cm))) \/(x=ι κ 1/\(oI wr bM (E++ [(ca,X,cm)])/\Dx (E++ [(ca,X,cm)])/\eE w wr/\bM<wr.heap.size/\wr.cell? ⟨Y,4,ν⟩=μ (ι κ cm))/\(oY many ca X=true/\kS E ca X=ν)) \/(x=ι κ 2/\(oI wr bM (E++ [(ca,X,cm)] ++ [(U,T,cm)])/\Dx (E++ [(ca,X,cm)] ++ [(U,T,cm)])/\eE w wr/\bM<wr.heap.size/\wr.cell? ⟨Y,4,ν⟩=μ (ι κ cm))/\rE many ⟨ca,X,U,T,cm⟩ E=0)) (λx _=>2-(fa x).toNat)
      case atStart=>exact .inl ⟨rfl,HI0.out⟩
      case round=>
       obtain⟨Q,rfl⟩:∃Q,Q=wr:=⟨_,rfl⟩
       rcases hrel with⟨rfl,A⟩|⟨rfl,A,zn⟩|⟨rfl,A,zn⟩
       ·skip
        obtain⟨i1,i2,i3,i4,i5⟩:=A;have hix:=ac4 ca X U T;obtain⟨W4,uW⟩:=gq (Q.alloc (γ #[ι κ ca,ι κ X] 192));obtain⟨Z,hZ⟩:=gq (Q.heap.size);have ba:=gY Q (γ #[ι κ ca,ι κ X] 192);have H:iZ (Q.alloc (γ #[ι κ ca,ι κ X] 192)) Q.heap.size #[ι κ ca,ι κ X] 192:=iZ.new Q _ _;rw[uW]at ba H;rw[hZ]at H;have z0:W4.cell? ⟨Z,0,ν⟩=μ (ι κ ca):=H.cell 0;have z1:W4.cell? ⟨Z,1,ν⟩=μ (ι κ X):=H.cell 1;have zl:=H.lt;have y4:W4.cell? ⟨Y,4,ν⟩=μ (ι κ cm):=(aj (a:=⟨Y,4,ν⟩) (ba.block Y (ag _ _ i5))).trans i5;have LV:=Cw w bM (E) i2 many ca X eh W4 (i1.keep (ba.block bM i4)) (by rw[HbM.out];exact Nat.le_refl _) (gu i3 ba) (Nat.lt_of_lt_of_le i4 ba.size) Z Y cm ⟨z0,z1⟩ y4;have Lx:Hid _:=uW;have HZ:Hid _:=hZ;clear i1 i2 i3 i4 i5 uW hZ ba H;go_wp2_with(fail)
        try rw[Lx.out]
        try rw[HZ.out]
        go_wp2_with(fail);refine LV.mono ?_;rintro e w5 ⟨rfl,b5,⟨x0,x1⟩,x4,Fa⟩;have xl:=ag _ _ x0;have yl:=ag _ _ x4;clear LV z0 z1 zl y4;cases J:oY many ca X with
        |false=>
         have wi:nP many L=1:=Wi.out 1 (by unfold rE;rw[af Hq.out,ai J]) eA;have S:Hid _:=Bv.bad (w':=w5) wi eA b5;clear Fa b5
         go_wp2
         go_ret2
         exact S.out
        |true=>
         obtain⟨pI,kj⟩:=Fa J;clear Fa;cases M:kS (E) ca X with
         |some m0=>
          have wi:nP many L=8:=Wi.out 8 (by unfold rE;rw[af Hq.out,af (by rw[J];simp),ai (by rw[M];rfl)]) eA;have S:Hid _:=Bv.bad (w':=w5) wi eA b5;rw[M]at pI;have q1:(Option.getD (μ m0) 0)=m0:=rfl;have q2:(Option.isSome (μ m0))=true:=rfl;rw[q1,q2]at pI;clear kj b5 J M wi
          go_wp2
          go_ret2
          exact S.out
         |none=>
          obtain⟨w6,u1,u2,u3,y,u,h⟩:=kj M;have adn:Hid (oI w6 bM (E++ [(ca,X,cm)])/\Dx (E++ [(ca,X,cm)])/\eE w w6/\bM<w6.heap.size/\w6.cell? ⟨Y,4,ν⟩=μ (ι κ cm)):=⟨u2,u3,y,h,u⟩
          have HKK:Hid (oY many ca X=true/\kS E ca X=ν):=⟨J,M⟩
          rw[M]at pI;have q1:(Option.getD (ν:Option Int) 0)=0:=rfl;have q2:(Option.isSome (ν:Option Int))=false:=rfl;rw[q1,q2]at pI;clear kj b5 u2 u3 y u h J M
          go_wp2
          go_roundw
          case rel=>exact .inr (.inl ⟨by go_num,adn.out,HKK.out⟩)
          case measure=>simp[fa]
       ·obtain⟨XA,rO⟩:=zn;obtain⟨i1,i2,i3,i4,i5⟩:=A;have hix:=ac5 ca X U T;obtain⟨W4,uW⟩:=gq (Q.alloc (γ #[ι κ U,ι κ T] 192));obtain⟨Z,hZ⟩:=gq (Q.heap.size);have ba:=gY Q (γ #[ι κ U,ι κ T] 192);have H:iZ (Q.alloc (γ #[ι κ U,ι κ T] 192)) Q.heap.size #[ι κ U,ι κ T] 192:=iZ.new Q _ _;rw[uW]at ba H;rw[hZ]at H;have z0:W4.cell? ⟨Z,0,ν⟩=μ (ι κ U):=H.cell 0;have z1:W4.cell? ⟨Z,1,ν⟩=μ (ι κ T):=H.cell 1;have zl:=H.lt;have y4:W4.cell? ⟨Y,4,ν⟩=μ (ι κ cm):=(aj (a:=⟨Y,4,ν⟩) (ba.block Y (ag _ _ i5))).trans i5;have LV:=Cw w bM (E++ [(ca,X,cm)]) i2 many U T eh W4 (i1.keep (ba.block bM i4)) (by rw[HbM.out];exact Nat.le_refl _) (gu i3 ba) (Nat.lt_of_lt_of_le i4 ba.size) Z Y cm ⟨z0,z1⟩ y4;have Lx:Hid _:=uW;have HZ:Hid _:=hZ;clear i1 i2 i3 i4 i5 uW hZ ba H;go_wp2_with(fail)
        try rw[Lx.out]
        try rw[HZ.out]
        go_wp2_with(fail);refine LV.mono ?_;rintro e w5 ⟨rfl,b5,⟨x0,x1⟩,x4,Fa⟩;have xl:=ag _ _ x0;have yl:=ag _ _ x4;clear LV z0 z1 zl y4;cases J:oY many U T with
        |false=>
         have wi:nP many L=1:=Wi.out 1 (by unfold rE;rw[af Hq.out,af (by rw[XA];simp),af (by rw[rO];simp),ai J]) eA;have S:Hid _:=Bv.bad (w':=w5) wi eA b5;clear Fa b5
         go_wp2
         go_ret2
         exact S.out
        |true=>
         obtain⟨pI,kj⟩:=Fa J;clear Fa;cases M:kS (E++ [(ca,X,cm)]) U T with
         |some m0=>
          have wi:nP many L=8:=Wi.out 8 (by unfold rE;rw[af Hq.out,af (by rw[XA];simp),af (by rw[rO];simp),af (by rw[J];simp),ai (by rw[M];rfl)]) eA;have S:Hid _:=Bv.bad (w':=w5) wi eA b5;rw[M]at pI;have q1:(Option.getD (μ m0) 0)=m0:=rfl;have q2:(Option.isSome (μ m0))=true:=rfl;rw[q1,q2]at pI;clear kj b5 J M wi
          go_wp2
          go_ret2
          exact S.out
         |none=>
          obtain⟨w6,u1,u2,u3,y,u,h⟩:=kj M;have adn:Hid (oI w6 bM (E++ [(ca,X,cm)] ++ [(U,T,cm)])/\Dx (E++ [(ca,X,cm)] ++ [(U,T,cm)])/\eE w w6/\bM<w6.heap.size/\w6.cell? ⟨Y,4,ν⟩=μ (ι κ cm)):=⟨u2,u3,y,h,u⟩
          have HKK:Hid (rE many ⟨ca,X,U,T,cm⟩ E=0):=by show _=_;unfold rE;rw[af Hq.out,af (by rw[XA];simp),af (by rw[rO];simp),af (by rw[J];simp),af (by rw[M];simp)]
          rw[M]at pI;have q1:(Option.getD (ν:Option Int) 0)=0:=rfl;have q2:(Option.isSome (ν:Option Int))=false:=rfl;rw[q1,q2]at pI;clear kj b5 u2 u3 y u h J M
          go_wp2
          go_roundw
          case rel=>exact .inr (.inr ⟨by go_num,adn.out,HKK.out⟩)
          case measure=>simp[fa]
       ·obtain⟨i1,i2,i3,i4,i5⟩:=A;have Zb:Hid (oI Q bM (kx (L.take (j+1)))/\Dx (kx (L.take (j+1)))/\eE w Q/\bM<Q.heap.size/\yN many L [] =yN many (L.drop (j+1)) (kx (L.take (j+1)))):=by
         show _/\_/\_/\_/\_;rw[HT.out];have e5:E++ [(ca,X,cm)] ++ [(U,T,cm)] =E++ [(ca,X,cm),(U,T,cm)] :=gZ;rw[e5]at i1 i2;exact⟨i1,i2,i3,i4,agX.out zn⟩
        clear i1 i2 i3 i4 i5 zn
        go_wp2
        go_roundw
        case rel=>exact⟨j+1,eh,by go_num,Zb.out⟩
        case measure=>simp[fa];omega
    ·have xZ:¬(j:Int)<(n:Int):=eh;obtain rfl:j=n:=eh;have e9:L.take j=L:=by rw[<-HN.out];exact cg
     have e8:L.drop j=[] :=by rw[<-HN.out];exact List.drop_length
     rw[e9]at hm G hF;rw[e8]at hF;have O7:nP many L=0:=by rw[HE.out,hF];rfl
     have S:Hid _:=Bv.good O7 hm G (by rw[HbM.out];exact Nat.le_refl _) hB;clear hm G hB qe hF O7 e9 e8
     go_wp2
     go_ret2
     exact S.out
theorem uo(many:Int)(a:Option Addr)(cap:Nat)(L:List oQ)(w:dY)(V:zZ w a L)(hl:L.length<=1000):
 eZ e7 38 #[ι κ many,σ a L.length cap] w λe w'=>e=ρ (jk (nP many L))/\eE w w':=by
 have X:=yi many a cap L w V hl;generalize L.length=n at X⊢;have Z:eZ e7 95 #[ι κ many,σ a n cap] w λe w'=>∃v,e=ρ (τ #[.map v,jk (nP many L)])/\eE w w':=by
  refine X.mono ?_;rintro e w1 ⟨T,Z,hb⟩;by_cases Y:nP many L=0
  ·obtain⟨b,rfl,_⟩:=Z Y;exact⟨μ b,by rw[Y];rfl,hb⟩
  ·exact⟨ν,T Y,hb⟩
 clear X V;generalize jk (nP many L)=ev at Z⊢
 go_in
 go_wp2_with(fail);refine Z.mono ?_;rintro e w1 ⟨v,rfl,hb⟩;have U:Hid _:=hb;clear Z hb
 go_wp2
 go_ret;exact⟨rfl,U.out⟩
def Zi(W:dY)(i:Nat)(ms:Nat->Int)(P lo hi:Nat):Prop:=∃z:Zt,z.R=P/\mC W z (jO ((i:Int)+1) 3 ms)/\(∀b,z.pA b->lo<=b/\b<hi)/\lo<=hi/\hi<=W.heap.size/\∀b,(b<lo \/(hi<=b/\b<W.heap.size))->z.fm.no b
theorem Zi.step {W':dY} {ms:Nat->Int} {P lo hi:Nat} (h:Zi W i ms P lo hi)(hs:W.heap.size<=W'.heap.size)(X:∀b,lo<=b->b<hi->W'.heap[b]? =W.heap[b]?):Zi W' i ms P lo hi:=by
 obtain⟨z,V,U,Z,T,S,Y⟩:=h;refine⟨z.plus λb=>W.heap.size<=b/\b<W'.heap.size,V,U.besides hs (λb hb hc=> ?_) _ (λb e=>e),Z,T,Nat.le_trans S hs,λb hb=> ?_⟩
 ·rcases hc with hc|hc
  ·have:¬(b<lo \/(hi<=b/\b<W.heap.size)):=λe=>hc (Y b e);exact X b eh eh
  ·have:=Z b (.inl hc);exact X b this.1 this.2
 ·show z.fm.no b \/_;by_cases e:b<W.heap.size
  ·exact .inl (Y b eh)
  ·exact .inr eh
def vf:List oQ->List dZ
 |[] =>[]
 |c::l=>[.int .i64 c.a,.int .i64 c.pa,.int .i64 c.b,.int .i64 c.pb,.bool false,.slice none 0 0,.slice none 0 0] ++vf l
theorem LW:∀(l m:List oQ),vf (l++m)=vf l++vf m
 |[],_=>rfl
 |c::l,m=>by
  show _++vf (l++m)=_;rw[LW l m,<-aD];rfl
theorem P4:∀(l:List oQ) (j i:Nat) (Z:j<l.length),i<7->(vf l)[j*7+i]? =[ι κ l[j].a,ι κ l[j].pa,ι κ l[j].b,ι κ l[j].pb,(.bool false:dZ),σ ν 0 0,σ ν 0 0][i]?
 |c::l,0,i,_,hi=>by
  show([_,_,_,_,_,_,_] ++vf l)[0*7+i]? =_;rw[Nat.zero_mul,Nat.zero_add,bE (by simpa using hi)];rfl
 |c::l,j+1,i,Z,hi=>by
  show([_,_,_,_,_,_,_] ++vf l)[(j+1)*7+i]? =_;rw[bu (by simp;omega)];have e:(j+1)*7+i-List.length [eB .i64 c.a,ι κ c.pa,ι κ c.b,ι κ c.pb,.bool false,σ ν 0 0,σ ν 0 0] =j*7+i:=by simp;omega
  rw[e];exact P4 l j i (by simpa using Z) hi
theorem Wj(l:List oQ):∀u∈vf l,u.oneCell'=true:=by
 induction l with
 |nil=>intro u Z;simp[vf]at Z
 |cons c l ih=>
  intro u Z;have Y:u∈ [eB .i64 c.a,ι κ c.pa,ι κ c.b,ι κ c.pb,.bool false,σ ν 0 0,σ ν 0 0] ++vf l:=Z;rcases av.1 Y with h|h
  ·simp at h;rcases h with rfl|rfl|rfl|rfl|rfl|rfl<;>rfl
  ·exact ih u h
def wR(P:Nat->Nat)(q:Nat):List dZ:=(gg q).map λi=>π (μ ⟨P i,0,ν⟩)
theorem Ov(P:Nat->Nat)(q:Nat):wR P (q+1)=wR P q++ [π (μ ⟨P q,0,ν⟩)] :=by simp[wR,List.range_succ]
theorem LX {P':Nat->Nat} (h:∀i,i<q->P i=P' i):wR P q=wR P' q:=by
 unfold wR;refine List.map_congr_left λi hi=> ?_;rw[h i (aP.1 hi)]
theorem Wk(P:Nat->Nat)(h:i<q):(wR P q)[i]? =μ (π (μ ⟨P i,0,ν⟩)):=by simp[wR,h]
def pL(m:Nat):Array dZ:=Array.replicate m (σ ν 0 0)
structure Fb(w W:dY)(N gI bM m:Nat)(E:List (Int×Int×Int))(ms:Nat->Nat->Int)(q j:Nat)(L:List oQ)(v v2:dZ)(P lo hi:Nat->Nat):Prop where
 nU:eE w W
 nb:iZ W N #[v,σ (μ ⟨gI,0,ν⟩) m m,.map (μ bM),v2] 190
 gi:iZ W gI (pL m) 53
 mp:oI W bM E
 row:Row W 1 v q (wR P q)
 GQ:Row W 7 v2 j (vf (L.take j))
 ne:N≠gI/\N≠bM/\gI≠bM/\w.heap.size<=N/\w.heap.size<=gI/\w.heap.size<=bM
 fv:∀k,v.ownBlock=μ k->w.heap.size<=k/\k≠N/\k≠gI/\k≠bM
 LY:∀k,v2.ownBlock=μ k->w.heap.size<=k/\k≠N/\k≠gI/\k≠bM/\v.ownBlock≠μ k
 XV:∀i,i<q->Zi W i (ms i) (P i) (lo i) (hi i)
 lw:∀i,i<q->w.heap.size<=lo i
 sep:∀i k,i<k->k<q->hi i<=lo k
 out:∀i,i<q->∀k,(k=N \/k=gI \/k=bM \/v.ownBlock=μ k \/v2.ownBlock=μ k)->k<lo i \/hi i<=k
section
variable {w W W':World} {N gI bM m:Nat} {E:List (Int×Int×Int)} {ms:Nat->Nat->Int} {q j:Nat} {L:List oQ} {v v2:Value} {P lo hi:Nat->Nat}
theorem Fb.yg(h:Fb w W N gI bM m E ms q j L v v2 P lo hi):N<W.heap.size:=h.nb.lt
theorem Fb.Sn(h:Fb w W N gI bM m E ms q j L v v2 P lo hi):bM<W.heap.size:=by
 obtain⟨es,clock,Z,_⟩:=h.mp;exact(ax.1 Z).1
theorem Fb.below(h:Fb w W N gI bM m E ms q j L v v2 P lo hi)(hb:eE W W'):Fb w W' N gI bM m E ms q j L v v2 P lo hi:=
 ⟨gu h.nU hb,h.nb.below hb,h.gi.below hb,h.mp.keep (hb.block bM h.Sn),h.row.below hb,h.GQ.below hb,h.ne,h.fv,h.LY,λi Z=>(h.XV i Z).step hb.size (λb _ h2=>hb.block b (by
  obtain⟨_,_,_,_,_,h5,_⟩:=h.XV i Z;omega)),h.lw,h.sep,h.out⟩
theorem Fb.EO(h:Fb w W N gI bM m E ms q j L v v2 P lo hi) {W1:dY} (hz:mC W1 z (jO ((q:Int)+1) 3 (ms q)))(hb:eE W W1)(S:∀b,z.pA b->W.heap.size<=b)(T:∀b,b<W.heap.size->z.fm.no b)
 {o:Obj} {v':dZ} (hr:Row W2 1 v' (q+1) (wR P q++ [π (μ ⟨z.R,0,ν⟩)])) (y:(W1.alloc o).grownBy W2 v.ownBlock) (hv:∀k,v'.ownBlock=μ k->v.ownBlock=μ k \/W1.heap.size<=k):
 Fb w (W2.setCell ⟨N,0,ν⟩ v') N gI bM m E ms (q+1) j L v' v2 (jW P q z.R) (jW lo q W.heap.size) (jW hi q W1.heap.size):=by
 have H:W1.heap.size<=W2.heap.size:=Nat.le_trans gZ y.size;have Wl:∀b,b<W1.heap.size->v.ownBlock≠μ b->W2.heap[b]? =W1.heap[b]? :=λb V u=>(y.block b (by simp;omega) (λe=>u e.symm)).trans (aU W1 o b V);have M:∀b,b<W1.heap.size->v.ownBlock≠μ b->b≠N->(W2.setCell ⟨N,0,ν⟩ v').heap[b]? =W1.heap[b]? :=λb V u hN=>(ak _ _ _ b hN).trans (Wl b V u);have Z:=h.below hb;have A:v.ownBlock≠μ N:=λe=>(h.fv N e).2.1 rfl;have G:∀k,v'.ownBlock=μ k->k≠N:=λk e D=>by
  rcases hv k e with Y|Y
  ·exact(h.fv k Y).2.1 D
  ·have:=Z.yg;omega
 have EI:eE w W2:=by
  have Y:=(Z.nU.alloc Z.nU.size o).grown y (by simp;have:=Z.nU.size;omega) (λk e=>(h.fv k e).1);exact Y
 have aq1:=h.nU.size;have qK:∀i,i<q->lo i<=hi i/\hi i<=W.heap.size:=λi Q=>by
  obtain⟨_,_,_,_,h4,h5,_⟩:=h.XV i Q;exact⟨h4,h5⟩
 have np:mC (W2.setCell ⟨N,0,ν⟩ v') (z.plus λb=>W1.heap.size<=b/\b<(W2.setCell ⟨N,0,ν⟩ v').heap.size) (jO ((q:Int)+1) 3 (ms q)):=by
  refine hz.besides (by simpa using H) (λb V hc=> ?_) _ (λb e=>e);have hbW:W.heap.size<=b:=by
   rcases hc with hc|hc
   ·exact Nat.le_of_not_lt (λe=>hc (T b e))
   ·exact S b (.inl hc)
  exact M b V (λe=>by have:=h.row.lt b e;omega) (λe=>by have:=h.yg;omega)
 refine⟨EI.setCell (by show w.heap.size<=N;exact h.ne.2.2.2.1) _,?_,Z.gi.keep (M gI Z.gi.lt (λe=>(h.fv gI e).2.2.1 rfl) (λe=>h.ne.1 e.symm)),Z.mp.keep (M bM Z.Sn (λe=>(h.fv bM e).2.2.2 rfl) (λe=>h.ne.2.1 e.symm)),?_,Z.GQ.keep (by simpa using H) (λk e=>M k (Z.GQ.lt k e) (h.LY k e).2.2.2.2 (h.LY k e).2.1),h.ne,λk e=> ?_,λk e=> ?_,λi Q=> ?_,λi Q=> ?_,λi k U hk=> ?_,λi Q k hk=> ?_⟩
 ·have Y:iZ W2 N #[v,σ (μ ⟨gI,0,ν⟩) m m,.map (μ bM),v2] 190:=Z.nb.keep (Wl N Z.yg A);exact Y.set 0 v'
 ·rw[Ov,iF,LX (P':=P) (λi Q=>iE _ _ eh)];exact hr.keep gZ (λk e=>ak _ _ _ k (G k e))
 ·rcases hv k e with Y|Y
  ·exact h.fv k Y
  ·have a1:=Z.yg;have a2:=Z.gi.lt;have a3:=Z.Sn;have a4:=Z.nU.size;omega
 ·refine⟨(h.LY k e).1,(h.LY k e).2.1,(h.LY k e).2.2.1,(h.LY k e).2.2.2.1,λD=> ?_⟩;rcases hv k D with Y|Y
  ·exact(h.LY k e).2.2.2.2 Y
  ·have:=Z.GQ.lt k e;omega
 ·by_cases X:i=q
  ·subst X;rw[iF,iF,iF];refine⟨z.plus λb=>W1.heap.size<=b/\b<(W2.setCell ⟨N,0,ν⟩ v').heap.size,rfl,np,λb V=>⟨S b V,hz.yQ rfl V⟩,hb.size,by simpa using H,λb V=> ?_⟩;show z.fm.no b \/_;rcases V with e|e
   ·exact .inl (T b e)
   ·exact .inr e
  ·rw[iE _ _ X,iE _ _ X,iE _ _ X];have J:i<q:=eh;refine(Z.XV i J).step (by simpa using H) (λb b1 b2=> ?_);have b3:=(qK i J).2;have hs:=hb.size;refine M b eh (λe=> ?_) (λe=> ?_)
   ·have:=h.out i J b (.inr (.inr (.inr (.inl e))));omega
   ·have:=h.out i J b (.inl e);omega
 ·by_cases X:i=q
  ·subst X;rw[iF];exact h.nU.size
  ·rw[iE _ _ X];exact h.lw i eh
 ·by_cases ek:k=q
  ·subst ek;rw[iE _ _ eh,iF];exact(qK i U).2
  ·rw[iE _ _ eh,iE _ _ ek];exact h.sep i k U eh
 ·have hold:(k=N \/k=gI \/k=bM \/v.ownBlock=μ k \/v2.ownBlock=μ k) \/W1.heap.size<=k:=by
   rcases hk with e|e|e|e|e
   ·exact .inl (.inl e)
   ·exact .inl (.inr (.inl e))
   ·exact .inl (.inr (.inr (.inl e)))
   ·exact(hv k e).imp_left (λe=>.inr (.inr (.inr (.inl e))))
   ·exact .inl (.inr (.inr (.inr (.inr e))))
  by_cases X:i=q
  ·subst X;rw[iF,iF];rcases hold with e|e
   ·left;rcases e with e|e|e|e|e
    ·have:=h.yg;omega
    ·have:=h.gi.lt;omega
    ·have:=h.Sn;omega
    ·exact h.row.lt k e
    ·exact h.GQ.lt k e
   ·exact .inr e
  ·rw[iE _ _ X,iE _ _ X];rcases hold with e|e
   ·exact h.out i eh k e
   ·have:=(qK i eh).2;have hs:=hb.size;exact .inr eh
theorem Fb.PR(h:Fb w W N gI bM m E ms q j L v v2 P lo hi) {v':dZ} (ht:L.take (j+1)=L.take j++ [c])(u:Row W2 7 v' (j+1) (vf (L.take j)++vf [c]))(V:W.grownBy W2 v2.ownBlock)(hv:∀k,v'.ownBlock=μ k->v2.ownBlock=μ k \/W.heap.size<=k):
 Fb w (W2.setCell ⟨N,3,ν⟩ v') N gI bM m E ms q (j+1) L v v' P lo hi:=by
 have J:∀b,b<W.heap.size->v2.ownBlock≠μ b->W2.heap[b]? =W.heap[b]? :=λb M Q=>V.block b M (λe=>Q e.symm);have U:∀b,b<W.heap.size->v2.ownBlock≠μ b->b≠N->(W2.setCell ⟨N,3,ν⟩ v').heap[b]? =W.heap[b]? :=λb M Q A=>(ak _ _ _ b A).trans (J b M Q);have S:v2.ownBlock≠μ N:=λe=>(h.LY N e).2.1 rfl;have T:∀k,v'.ownBlock=μ k->k≠N:=λk e X=>by
  rcases hv k e with Y|Y
  ·exact(h.LY k Y).2.1 X
  ·have:=h.yg;omega
 have H:eE w W2:=h.nU.grown V h.nU.size (λk e=>(h.LY k e).1);refine⟨H.setCell (by show w.heap.size<=N;exact h.ne.2.2.2.1) _,?_,h.gi.keep (U gI h.gi.lt (λe=>(h.LY gI e).2.2.1 rfl) (λe=>h.ne.1 e.symm)),h.mp.keep (U bM h.Sn (λe=>(h.LY bM e).2.2.2.1 rfl) (λe=>h.ne.2.1 e.symm)),h.row.keep (by simpa using V.size) (λk e=>U k (h.row.lt k e) (λX=>(h.LY k X).2.2.2.2 e) (h.fv k e).2.1),?_,h.ne,h.fv,λk e=> ?_,λi Z=> ?_,h.lw,h.sep,λi Z k y=> ?_⟩
 ·have Y:iZ W2 N #[v,σ (μ ⟨gI,0,ν⟩) m m,.map (μ bM),v2] 190:=h.nb.keep (J N h.yg S);exact Y.set 3 v'
 ·rw[ht,LW];exact u.keep gZ (λk e=>ak _ _ _ k (T k e))
 ·rcases hv k e with Y|Y
  ·exact h.LY k Y
  ·have a1:=h.yg;have a2:=h.gi.lt;have a3:=h.Sn;have a4:=h.nU.size;refine⟨eh,eh,eh,eh,λX=> ?_⟩;have:=h.row.lt k X;omega
 ·obtain⟨_,_,_,_,G,D,_⟩:=h.XV i Z;refine(h.XV i Z).step (by simpa using V.size) (λb b1 b2=>U b eh (λe=> ?_) (λe=> ?_))
  ·have:=h.out i Z b (.inr (.inr (.inr (.inr e))));omega
  ·have:=h.out i Z b (.inl e);omega
 ·obtain⟨_,_,_,_,G,D,_⟩:=h.XV i Z;rcases y with e|e|e|e|e
  ·exact h.out i Z k (.inl e)
  ·exact h.out i Z k (.inr (.inl e))
  ·exact h.out i Z k (.inr (.inr (.inl e)))
  ·exact h.out i Z k (.inr (.inr (.inr (.inl e))))
  ·rcases hv k e with Y|Y
   ·exact h.out i Z k (.inr (.inr (.inr (.inr Y))))
   ·exact .inr eh
end
def nJ(E:List (Int×Int×Int)):List (Int×Int):=E.map λx=>(x.1,x.2.1)
theorem Bw:∀ {E:List (Int×Int×Int)} {r p:Int},(kS E r p).isSome=true↔(r,p)∈nJ E
 |[],r,p=>by simp[kS,nJ]
 |x::E,r,p=>by
  unfold kS;have ih:=Bw (E:=E) (r:=r) (p:=p);split
  ·rename_i h
   simp[nJ,h.1,h.2]
  ·rename_i h
   rw[ih];constructor
   ·intro Y;exact cM _ Y
   ·intro Y;have Z:(r,p)=(x.1,x.2.1) \/(r,p)∈nJ E:=by
     have:(r,p)∈(x.1,x.2.1)::nJ E:=Y;simpa using this
    rcases Z with Z|Z
    ·injection Z with X V
     exact absurd ⟨X.symm,V.symm⟩ h
    ·exact Z
theorem Wm {E:List (Int×Int×Int)} (h:rE many c E=0):(1<=c.m/\c.m<=20)/\oY many c.a c.pa=true/\oY many c.b c.pb=true/\(c.a,c.pa)∉nJ E/\(c.b,c.pb)∉nJ (E++ [(c.a,c.pa,c.m)]):=by
 unfold rE at h;split at h
 ·simp at h
 ·split at h
  ·simp at h
  ·split at h
   ·simp at h
   ·split at h
    ·simp at h
    ·split at h
     ·simp at h
     ·rename_i h1 Z Y X V
      refine⟨eh,by simpa using Z,by simpa using X,λe=>Y (Bw.2 e),λe=>V (Bw.2 e)⟩
theorem P5 {many:Int}:∀(L:List oQ) (E:List (Int×Int×Int)),yN many L E=0->(nJ E).Nodup->(∀c∈L,(1<=c.m/\c.m<=20)/\oY many c.a c.pa=true/\oY many c.b c.pb=true)/\(nJ (E++kx L)).Nodup
 |[],E,_,hn=>⟨λc hc=>by simp at hc,by simpa[kx]using hn⟩
 |c::L,E,h,hn=>by
  rw[Ik]at h;have Y:rE many c E=0:=by
   rcases Nat.eq_zero_or_pos (rE many c E)with e|e
   ·exact e
   ·rw[ai eh]at h;omega
  rw[Y,af gZ]at h;obtain⟨g1,U,T,S,Z⟩:=Wm Y;have J:(nJ (E++ [(c.a,c.pa,c.m),(c.b,c.pb,c.m)])).Nodup:=by
   have X:nJ (E++ [(c.a,c.pa,c.m),(c.b,c.pb,c.m)])=(nJ E++ [(c.a,c.pa)])++ [(c.b,c.pb)] :=by simp[nJ]
   have V:nJ (E++ [(c.a,c.pa,c.m)])=nJ E++ [(c.a,c.pa)] :=by simp[nJ]
   rw[X];rw[V]at Z;refine bD.2 ⟨bD.2 ⟨hn,gZ,?_⟩,gZ,?_⟩
   ·intro x hx y hy e;have:y=(c.a,c.pa):=by simpa using hy
    exact S (by rw[<-this,<-e];exact hx)
   ·intro x hx y hy e;have:y=(c.b,c.pb):=by simpa using hy
    exact Z (by rw[<-this,<-e];exact hx)
  obtain⟨Q,M⟩:=P5 L _ h J;refine⟨λx hx=> ?_,?_⟩
  ·rcases aO.1 hx with rfl|hx
   ·exact⟨g1,U,T⟩
   ·exact Q x hx
  ·have e:E++kx (c::L)=E++ [(c.a,c.pa,c.m),(c.b,c.pb,c.m)] ++kx L:=by simp[kx]
   rw[e];exact M
structure mD(many:Int)(L:List oQ):Prop where
 m:1<=many/\many<=6
 l:L.length<=9
 c:∀c∈L,(1<=c.m/\c.m<=20)/\oY many c.a c.pa=true/\oY many c.b c.pb=true
 nd:(nJ (kx L)).Nodup
theorem vh(h:nP many L=0):mD many L:=by
 unfold nP at h;split at h
 ·simp at h
 ·split at h
  ·simp at h
  ·obtain⟨Z,Y⟩:=P5 L [] h (by simp[nJ]);exact⟨eh,eh,Z,by simpa using Y⟩
theorem m8 {r:Int} (h:oY many r p=true):1<=r/\r<=many/\0<=p/\p<3:=by
 unfold oY at h;simp only[Bool.and_eq_true,decide_eq_true_eq]at h;omega
theorem Sr {x:Int×Int×Int} (h:x∈kx L):∃c∈L,x=(c.a,c.pa,c.m) \/x=(c.b,c.pb,c.m):=by
 unfold kx at h;obtain⟨c,hc,Z⟩:=aT.1 h;exact⟨c,hc,by simpa using Z⟩
theorem mD.ms(h:mD many L)(i p:Nat):1<=pz L i p/\pz L i p<=20:=by
 unfold pz;cases hl:kS (kx L) ((i:Int)+1) (p:Int)with
 |none=>exact⟨eA,eA⟩
 |some m=>
  obtain⟨c,hc,Z⟩:=Sr (H8 hl);have V:=(h.c c hc).1;show 1<=m/\m<=20;rcases Z with Z|Z
  ·injection Z with _ Y
   injection Y with _ X
   rw[X];exact V
  ·injection Z with _ Y
   injection Y with _ X
   rw[X];exact V
theorem mD.tells(h:mD many L)(m:Nat)(Z:Dx (kx L)):Vu (kx L) m (pz L):=⟨λi p _ _=>⟨rfl,h.ms i p⟩,Z⟩
theorem tN(L:List oQ)(c d:Nat)(hc:c<L.length):(mO L c).e d=if d=0 then((L[c].a-1).toNat,L[c].pa.toNat)else((L[c].b-1).toNat,L[c].pb.toNat):=by
 unfold mO oQ.at;simp only[List.getD_eq_getElem?_getD,List.getElem?_eq_getElem hc,Option.getD_some]
theorem mD.en(h:mD many L)(c d:Nat)(hc:c<L.length):((mO L c).e d).1<many.toNat/\((mO L c).e d).2<3:=by
 rw[tN L c d hc];obtain⟨_,Z,Y⟩:=h.c L[c] (aF hc);have e1:=m8 Z;have e2:=m8 Y;split
 ·simp only;omega
 ·simp only;omega
theorem Fc:∀(L:List oQ) (c d:Nat) (hc:c<L.length),d<2->(nJ (kx L))[2*c+d]? =μ (if d=0 then(L[c].a,L[c].pa)else(L[c].b,L[c].pb))
 |x::L,0,d,_,hd=>by
  have:d=0 \/d=1:=eh;rcases this with rfl|rfl<;>rfl
 |x::L,c+1,d,hc,hd=>by
  have e:nJ (kx (x::L))=[(x.a,x.pa),(x.b,x.pb)] ++nJ (kx L):=by simp[nJ,kx]
  rw[e,bu (by simp;omega)];have Z:2*(c+1)+d-List.length [(x.a,x.pa),(x.b,x.pb)] =2*c+d:=by simp;omega
  rw[Z];exact Fc L c d (by simpa using hc) hd
theorem Ss {α:Type} {l:List α} (h:l.Nodup) {j:Nat} (hi:i<l.length)(Y:j<l.length)(e:l[i] =l[j]):i=j:=by
 have X:=dC.1 h;rcases Nat.lt_trichotomy i j with Z|Z|Z
 ·exact absurd e (X i j hi Y Z)
 ·exact Z
 ·exact absurd e.symm (X j i Y hi Z)
theorem mD.ds(h:mD many L)(c d c' d':Nat)(hc:c<L.length)(hd:d<2)(V:c'<L.length)(M:d'<2)(Z:(mO L c).e d=(mO L c').e d'):c=c'/\d=d':=by
 have k1:=Fc L c d hc hd;have k2:=Fc L c' d' V M;rw[tN L c d hc,tN L c' d' V]at Z;obtain⟨_,S,Q⟩:=h.c L[c] (aF hc);obtain⟨_,b1,b2⟩:=h.c L[c'] (aF V);have e1:=m8 S;have e2:=m8 Q;have e3:=m8 b1;have e4:=m8 b2;have J:(if d=0 then(L[c].a,L[c].pa)else(L[c].b,L[c].pb))=(if d'=0 then(L[c'].a,L[c'].pa)else(L[c'].b,L[c'].pb)):=by
  by_cases X:d=0
  ·by_cases Y:d'=0
   ·rw[ai X,ai Y]at Z⊢;injection Z with U T
    rw[show L[c].a=L[c'].a by omega,show L[c].pa=L[c'].pa by omega]
   ·rw[ai X,af Y]at Z⊢;injection Z with U T
    rw[show L[c].a=L[c'].b by omega,show L[c].pa=L[c'].pb by omega]
  ·by_cases Y:d'=0
   ·rw[af X,ai Y]at Z⊢;injection Z with U T
    rw[show L[c].b=L[c'].a by omega,show L[c].pb=L[c'].pa by omega]
   ·rw[af X,af Y]at Z⊢;injection Z with U T
    rw[show L[c].b=L[c'].b by omega,show L[c].pb=L[c'].pb by omega]
 rw[J]at k1;obtain⟨l1,v1⟩:=aK.1 k1;obtain⟨l2,v2⟩:=aK.1 k2;have:=Ss h.nd l1 l2 (v1.trans v2.symm);omega
theorem z9(h:mD many L):j5 (jS many.toNat L) 0 0:=by
 have hm:=h.m;refine⟨by show 1<=many.toNat;omega,by show many.toNat<=6;omega,h.l,λc d hc _=>h.en c d hc,λc d c' d' hc hd Z Y e=>h.ds c d c' d' hc hd Z Y e,λi p _ _=>h.ms i p,λi _=>⟨rfl,rfl⟩,λi hi=> ?_,λ_ _=>⟨Int.le_refl _,Int.le_refl _⟩,λ_ _ _ _=>Nat.zero_le _,λ_ _=>Nat.le_refl _,λi p _ _ _=>qQ _ _ p,λ_ _=>⟨Nat.le_refl _,λ_ _=>Nat.zero_le _⟩⟩;have kX:i<many.toNat:=hi;exact zW eh (λp _=>h.ms i p)
theorem Row.spare {sz n':Nat} {xs:List dZ} (h:Row w sz (σ (μ ⟨g,0,ν⟩) n' cap) n xs)(j:Nat)(X:j<n*sz):w.frozen? ⟨g,j,ν⟩=false:=by
 rcases h.2 with⟨e,_⟩|⟨g',jv,e,_,Z,_,_,Y⟩
 ·simp at e
 ·simp at e;obtain⟨rfl,rfl,rfl⟩:=e;exact(Y j (Nat.lt_of_lt_of_le X (Nat.mul_le_mul_right sz Z))).2
def adp(g:Option Nat)(n c:Nat):dZ:=match g with|none=>.slice none 0 0|some g=>.slice (some ⟨g,0,none⟩) n c
theorem Fb.done {N gI bM:Nat} {v v2:dZ} {lo hi:Nat->Nat} (iQ:mD many L)(hE:Dx (kx L))(h:Fb w W N gI bM many.toNat (kx L) (pz L) many.toNat L.length L v v2 P lo hi)(hw:0<w.heap.size)(X:Nat->Prop)(hX:∀b,X b->b<w.heap.size):
 ∃y,jJ W y (jS many.toNat L)/\y.N=N/\(∀b,y.all many.toNat b->w.heap.size<=b)/\∀b,y.ext b↔X b:=by
 have hm:=iQ.m;obtain⟨m,Ru⟩:=gq (many.toNat);have vX:1<=m/\m<=6:=eh;have Az:=λc d (hc:c<L.length) (_:d<2)=>iQ.en c d hc;rw[Ru]at h Az⊢;have Y3:∃gR tY,v=σ (μ ⟨gR,0,ν⟩) m tY:=by
  rcases h.row.2 with⟨_,e2⟩|⟨g,c,e,_⟩
  ·omega
  ·exact⟨g,c,e⟩
 obtain⟨gR,tY,rfl⟩:=Y3;have hgC:∃gC wH,v2=adp gC L.length wH/\(gC=ν->L.length=0):=by
  rcases h.GQ.2 with⟨e,e2⟩|⟨g,c,e,_⟩
  ·exact⟨ν,0,e,λ_=>e2⟩
  ·exact⟨μ g,c,e,λe=>by simp at e⟩
 obtain⟨gC,wH,rfl,Gd⟩:=hgC;have hex:∀i,∃z:Zt,i<m->z.R=P i/\mC W z (jO ((i:Int)+1) 3 (pz L i))/\(∀b,z.pA b->lo i<=b/\b<hi i)/\∀b,(b<lo i \/(hi i<=b/\b<W.heap.size))->z.fm.no b:=λi=>by
  by_cases V:i<m
  ·obtain⟨z,Y,Z,S,_,_,h6⟩:=h.XV i V;exact⟨z,λ_=>⟨Y,Z,S,h6⟩⟩
  ·obtain⟨z,_⟩:=h.XV 0 eh;exact⟨z,λe=>absurd e V⟩
 obtain⟨z,A⟩:=Classical.skolem.1 hex;have hhi:∀i,i<m->lo i<=hi i/\hi i<=W.heap.size:=λi V=>by
  obtain⟨_,_,_,_,U,h5,_⟩:=h.XV i V;exact⟨U,h5⟩
 obtain⟨y,hy⟩:∃y:Yt,y={N:=N,gR:=gR,tY:=tY,gI:=gI,yO:=m,gC:=gC,wH:=wH,bM:=bM,z:=z,iv:=λ_=>σ ν 0 0,ov:=λ_ _=>σ ν 0 0,ext:=X}:=⟨_,rfl⟩
 have u:eu (σ (μ ⟨gR,0,ν⟩) m tY)=μ gR:=rfl;have G:∀g,gC=μ g->eu (adp gC L.length wH)=μ g:=λg e=>by subst e;rfl
 have hat:∀l k,y.at l=μ k->(l=.N/\k=N) \/(l=.R/\k=gR) \/(l=.I/\k=gI) \/(l=.C/\gC=μ k):=λl k e=>by
  rw[hy]at e;cases l with
  |N=>exact .inl ⟨rfl,(Option.some.inj e).symm⟩
  |R=>exact .inr (.inl ⟨rfl,(Option.some.inj e).symm⟩)
  |I=>exact .inr (.inr (.inl ⟨rfl,(Option.some.inj e).symm⟩))
  |C=>exact .inr (.inr (.inr ⟨rfl,e⟩))
  |ib i=>simp[Yt.at,eu]at e
  |on c d=>simp[Yt.at,eu]at e
 have jq:∀k,y.own k->(k=N \/k=gR \/k=gI \/gC=μ k):=λk ⟨l,e⟩=>by
  rcases hat l k e with⟨_,e⟩|⟨_,e⟩|⟨_,e⟩|⟨_,e⟩
  ·exact .inl e
  ·exact .inr (.inl e)
  ·exact .inr (.inr (.inl e))
  ·exact .inr (.inr (.inr e))
 have D:=h.fv gR u;have T:∀k,gC=μ k->w.heap.size<=k/\k≠N/\k≠gI/\k≠bM/\gR≠k:=λk e=>by
  obtain⟨a1,a2,a3,a4,a5⟩:=h.LY k (G k e);exact⟨a1,a2,a3,a4,λe1=>a5 (by rw[<-e1];rfl)⟩
 have Ow:∀k,y.own k->w.heap.size<=k:=λk e=>by
  rcases jq k e with e|e|e|e
  ·rw[e];exact h.ne.2.2.2.1
  ·rw[e];exact D.1
  ·rw[e];exact h.ne.2.2.2.2.1
  ·exact(T k e).1
 have adr:∀k,y.own k->k<W.heap.size:=λk e=>by
  rcases jq k e with e|e|e|e
  ·rw[e];exact h.yg
  ·rw[e];exact h.row.lt gR u
  ·rw[e];exact h.gi.lt
  ·exact h.GQ.lt k (G k e)
 have Zk:∀k,y.own k->∀i,i<m->k<lo i \/hi i<=k:=λk e i V=>by
  rcases jq k e with e|e|e|e
  ·exact h.out i V k (.inl e)
  ·exact h.out i V k (.inr (.inr (.inr (.inl (by rw[e];rfl)))))
  ·exact h.out i V k (.inr (.inl e))
  ·exact h.out i V k (.inr (.inr (.inr (.inr (G k e)))))
 have Q:y.z=z:=by rw[hy]
 have M:y.ext=X:=by rw[hy]
 have hwW:=h.nU.size;refine⟨y,⟨vX.1,vX.2,iQ.l,?_,?_,?_,?_,?_,?_,?_,?_,?_,?_,λ_ _ _ _=>Nat.zero_le _,Az,?_,?_,?_,?_,?_⟩,by rw[hy],?_,λb=>by rw[M]⟩
 ·rw[hy];have e:(Yt.cv {N:=N,gR:=gR,tY:=tY,gI:=gI,yO:=m,gC:=gC,wH:=wH,bM:=bM,z:=z,iv:=λ_=>σ ν 0 0,ov:=λ_ _=>σ ν 0 0,ext:=X} L.length)=adp gC L.length wH:=by
   rfl
  show iZ W N #[σ (μ ⟨gR,0,ν⟩) m tY,σ (μ ⟨gI,0,ν⟩) m m,.map (μ bM),Yt.cv _ L.length] 190;rw[e];exact h.nb
 ·intro j H;have J:j<m:=H;rw[hy];show W.cell? ⟨gR,0+j,ν⟩=μ (π (μ ⟨(z j).R,0,ν⟩))/\W.frozen? ⟨gR,0+j,ν⟩=false;rw[Nat.zero_add,(A j J).1];exact⟨Row.cell h.row j _ (Wk P J),Row.spare h.row j eh⟩
 ·intro j H;have J:j<m:=H;rw[hy];show W.cell? ⟨gI,0+j,ν⟩=μ (σ ν 0 0)/\W.frozen? ⟨gI,0+j,ν⟩=false;rw[Nat.zero_add];have Y:=h.gi.cell j;have e:(pL m)[j]? =μ (σ ν 0 0):=by
   unfold pL;rw[Array.getElem?_replicate,ai J]
  exact⟨Y.trans e,h.gi.frozen j⟩
 ·intro g hg c hc;have DS:gC=μ g:=by rw[hy]at hg;exact hg
  subst DS;have j0:c<L.length:=hc;intro i V;have iX:Row W 7 (σ (μ ⟨g,0,ν⟩) L.length wH) L.length (vf (L.take L.length)):=h.GQ;rw[cg]at iX;refine⟨?_,Row.spare iX (c*7+i) eh⟩;have Y:=P4 L c i j0 V;have Z:[eB .i64 L[c].a,ι κ L[c].pa,ι κ L[c].b,ι κ L[c].pb,.bool false,σ ν 0 0,σ ν 0 0][i]? =μ (C8 (mO L c) (y.ov c) i):=by
   obtain⟨_,a1,a2⟩:=iQ.c L[c] (aF j0);have e1:=m8 a1;have e2:=m8 a2;have f0:=tN L c 0 j0;have f1:=tN L c 1 j0;rw[ai rfl]at f0;rw[af eA]at f1;have q1:(((L[c].a-1).toNat:Nat):Int)+1=L[c].a:=eh;have q2:((L[c].pa.toNat:Nat):Int)=L[c].pa:=eh;have q3:(((L[c].b-1).toNat:Nat):Int)+1=L[c].b:=eh;have q4:((L[c].pb.toNat:Nat):Int)=L[c].pb:=eh;have:i=0 \/i=1 \/i=2 \/i=3 \/i=4 \/i=5 \/i=6:=eh;rcases this with rfl|rfl|rfl|rfl|rfl|rfl|rfl
   ·show μ _=μ (eB .i64 ((((mO L c).e 0).1:Int)+1));rw[f0,q1]
   ·show μ _=μ (eB .i64 (((mO L c).e 0).2:Int));rw[f0,q2]
   ·show μ _=μ (eB .i64 ((((mO L c).e 1).1:Int)+1));rw[f1,q3]
   ·show μ _=μ (eB .i64 (((mO L c).e 1).2:Int));rw[f1,q4]
   ·rfl
   ·rw[hy];rfl
   ·rw[hy];rfl
  rw[Z]at Y;exact Row.cell iX _ _ Y
 ·intro c hc;have j0:c<L.length:=hc;rw[hy];show∃g,gC=μ g;cases hg:gC with
  |none=>have:=Gd hg;omega
  |some g=>exact⟨g,rfl⟩
 ·exact⟨kx L,by rw[hy];exact h.mp,iQ.tells m hE⟩
 ·intro i V;rw[Q];exact(A i V).2.1
 ·exact λi _=>⟨rfl,rfl⟩
 ·intro i _;rw[hy];exact Row.nil _ 3
 ·intro c d _ _;rw[hy];exact Row.nil _ 1
 ·intro l l' k e e';rcases hat l k e with⟨Y,Z⟩|⟨Y,Z⟩|⟨Y,Z⟩|⟨Y,Z⟩<;>rcases hat l' k e' with⟨S,U⟩|⟨S,U⟩|⟨S,U⟩|⟨S,U⟩
  ·rw[Y,S]
  ·exact absurd (U.symm.trans Z) D.2.1
  ·exact absurd (Z.symm.trans U) h.ne.1
  ·exact absurd Z (T k U).2.1
  ·exact absurd (Z.symm.trans U) D.2.1
  ·rw[Y,S]
  ·exact absurd (Z.symm.trans U) D.2.2.1
  ·exact absurd Z.symm (T k U).2.2.2.2
  ·exact absurd (U.symm.trans Z) h.ne.1
  ·exact absurd (U.symm.trans Z) D.2.2.1
  ·rw[Y,S]
  ·exact absurd Z (T k U).2.2.1
  ·exact absurd U (T k Z).2.1
  ·exact absurd U.symm (T k Z).2.2.2.2
  ·exact absurd U (T k Z).2.2.1
  ·rw[Y,S]
 ·intro i V b hb;have Zl:i<m:=V;obtain⟨_,_,z3,z4⟩:=A i Zl;rw[Q];have Y1:b<lo i \/(hi i<=b/\b<W.heap.size):=by
   rcases hb with e|e|⟨j,H,jx,e⟩
   ·have Y:=Zk b e i Zl;have Z:=adr b e;omega
   ·rw[M]at e;have Y:=hX b e;have Z:=h.lw i Zl;omega
   ·have J:j<m:=H;rw[Q]at e;have Y:=(A j J).2.2.1 b e;have Z:=hhi j J;rcases Nat.lt_or_gt_of_ne jx with S|S
    ·have:=h.sep j i S Zl;omega
    ·have:=h.sep i j S J;omega
  exact⟨z4 b Y1,λe=>by have:=z3 b (.inl e);omega⟩
 ·intro b hb e;rw[M]at hb;have Y:=hX b hb;have Z:=Ow b e;omega
 ·have QP:y.bM=bM:=by rw[hy]
  rw[QP,M,Q];refine⟨λe=> ?_,λe=> ?_,λi V e=> ?_⟩
  ·rcases jq bM e with e|e|e|e
   ·exact h.ne.2.1 e.symm
   ·exact D.2.2.2 e.symm
   ·exact h.ne.2.2.1 e.symm
   ·exact(T bM e).2.2.2.1 rfl
  ·have Y:=hX bM e;have Z:=h.ne.2.2.2.2.2;omega
  ·have Y:=(A i V).2.2.1 bM e;have Z:=h.out i V bM (.inr (.inr (.inl rfl)));omega
 ·intro e;have:=Ow 0 e;omega
 ·intro b e;rcases e with e|⟨j,H,e⟩
  ·exact Ow b e
  ·rw[Q]at e;have Y:=(A j H).2.2.1 b e;have Z:=h.lw j H;omega
open Go.ChangeShapes Go.WideShapes Go.ChangeAt
theorem LZ {H:Type} {enc:TypeId×dZ->H} {d:DataW H} {ps:List MemPlace}
 (h:DataW.Trod enc e7 W 0 (λ_=>true) true 61 (σ a n cap) d ps):
 ∃L:List oQ,zZ W a L/\L.length=n/\n<=maxLen:=by
 obtain⟨fuel,hf⟩:=h;rcases dt underlying61 hf with⟨hcs,_⟩|⟨x,len,cp,m',n',D,Pl,hcs,_,hl,hm,u,_,hx⟩
 ·simp[fL]at hcs;obtain⟨rfl,rfl,rfl⟩:=hcs;exact⟨[],λj X=>by simp at X,rfl,eA⟩
 ·simp[fL]at hcs;obtain⟨rfl,rfl,rfl⟩:=hcs;simp at u;have ce:(e7).cellsOf 81=5:=gX;rw[ce]at hx;have each:∀i,i<n->∃q:oQ,W.cell? (x.add (i*5))=μ (ι κ q.a)/\W.cell? (x.add (i*5+1))=μ (ι κ q.pa)/\W.cell? (x.add (i*5+2))=μ (ι κ q.b)/\W.cell? (x.add (i*5+3))=μ (ι κ q.pb)/\W.cell? (x.add (i*5+4))=μ (ι κ q.m):=by
   intro i hi;obtain⟨cs',h1,h2⟩:=hx i eh;obtain⟨_,hlen,hcell⟩:=World.cells?_some h1;obtain⟨xs,k,hk,hxy,_,Qw,Z⟩:=cY underlying81 h2
   match xs,Qw,cs',hlen with
   |[y0,y1,y2,y3,y4],_,[v0,v1,v2,v3,v4],_=>
    have g0:=Z 0 _ rfl;have g1:=Z 1 _ rfl;have T:=Z 2 _ rfl;have S:=Z 3 _ rfl;have M:=Z 4 _ rfl;have ci:(e7).cellsOf 3=1:=gX;simp[ci]at g0 g1 T S M;obtain⟨i0,f0,_,_⟩:=bg underlying3 g0;obtain⟨i1,f1,_,_⟩:=bg underlying3 g1;obtain⟨i2,f2,_,_⟩:=bg underlying3 T;obtain⟨i3,V,_,_⟩:=bg underlying3 S;obtain⟨i4,U,_,_⟩:=bg underlying3 M;simp at f0 f1 f2 V U;subst f0 f1 f2 V U;have c0:=hcell 0 eh;have c1:=hcell 1 eh;have c2:=hcell 2 eh;have c3:=hcell 3 eh;have c4:=hcell 4 eh;rw[Go.Deep.add_add]at c0 c1 c2 c3 c4;exact⟨⟨i0,i1,i2,i3,i4⟩,c0,c1,c2,c3,c4⟩
  obtain⟨Q,J⟩:∃Q:Nat->oQ,∀i,i<n->W.cell? (x.add (i*5))=μ (ι κ (Q i).a)/\W.cell? (x.add (i*5+1))=μ (ι κ (Q i).pa)/\W.cell? (x.add (i*5+2))=μ (ι κ (Q i).b)/\W.cell? (x.add (i*5+3))=μ (ι κ (Q i).pb)/\W.cell? (x.add (i*5+4))=μ (ι κ (Q i).m):=by
   refine⟨λi=>if hi:i<n then ia (each i hi)else⟨0,0,0,0,0⟩,λi hi=> ?_⟩;show W.cell? _=μ (ι κ (if hi:i<n then ia (each i hi)else⟨0,0,0,0,0⟩:oQ).a)/\W.cell? _=μ (ι κ (if hi:i<n then ia (each i hi)else⟨0,0,0,0,0⟩:oQ).pa)/\W.cell? _=μ (ι κ (if hi:i<n then ia (each i hi)else⟨0,0,0,0,0⟩:oQ).b)/\W.cell? _=μ (ι κ (if hi:i<n then ia (each i hi)else⟨0,0,0,0,0⟩:oQ).pb)/\W.cell? _=μ (ι κ (if hi:i<n then ia (each i hi)else⟨0,0,0,0,0⟩:oQ).m);rw[dif_pos hi];exact Classical.choose_spec (each i hi)
  refine⟨(gg n).map Q,λj X=> ?_,gZ,eh⟩;have Kl:j<n:=by simpa using X
  obtain⟨b,off,Y⟩:=x;obtain⟨q0,q1,q2,G,A⟩:=J j Kl;have y:Y=ν:=by simpa[Addr.add]using cZ (J 0 eh).1
  subst y;have hg:((gg n).map Q)[j] =Q j:=gZ;rw[hg];rw[ni]at q0 q1 q2 G A;exact⟨b,off,rfl,q0,by simpa[Nat.add_assoc]using q1,by simpa[Nat.add_assoc]using q2,by simpa[Nat.add_assoc]using G,by simpa[Nat.add_assoc]using A⟩
