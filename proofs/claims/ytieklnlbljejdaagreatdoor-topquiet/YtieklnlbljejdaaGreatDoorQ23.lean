import Derived.Test.YtieklnlbljejdaaGreatDoorQ22
open Go.Value renaming int → ι, slice → σ, pointer → π, tuple → τ, nilIface → η
open Go.IntKind renaming i64 → κ
open Go.Ending renaming returned → ρ
open Option renaming none → ν, some → μ
open List renaming range → fR
open Go renaming World → dR, Calls → eT
open Go.Proofs.Tryz renaming prog → eU
open Go.RowKit renaming intOf → eV
open Go.Value renaming slice → fX, ownBlock → dV
open Go.IntKind renaming i64 → fh
set_option maxRecDepth 100000
set_option maxHeartbeats 16000000
namespace Go.Proofs.YtieklnlbljejdaaGreatDoor
open Go.RowKit St
namespace Rt
variable {D N c i k m n nc x:Nat} {E:Nat->List jG} {F:Int->Option PS} {K:Nat->Int->Option PS} {L:List oR} {S:List (Int×List UInt8)} {T:List (Nat×Nat)} {W W' w w' w0:World} {X:Nat->Prop} {a b:AN} {v:Value} {y:iI}
structure Fl(D N k:Nat)(y:iI):Prop where
 ok:jT y D 0
 g:GN y
 f:jo y
 e:Env N k (iz y)
 s:Still y
theorem Fl.st(h:Fl D N k y):St D N k y:=⟨h.ok,h.g,h.f,h.e.i⟩
theorem Fl.nil(h:Fl D N k y)(c d:Nat)(hc:c<(iz y).nc)(hd:d<2):(iz y).F c d=[] :=h.s.f c d hc hd
theorem Fl.round {D N k:Nat} {y:iI} (h:Fl D N k y)(Z:D<=800000000)(G:N+144<1000000)(H:k+1<=126):∃m,wW (l8 (iz y).n) (iz y) m/\uW m (iz y.round)/\Fl (D+1300000) (N+144) k y.round/\∀c d,c<y.nc->d<2->(y.C c).iR=true->mr (iz y.round) c d=iY ((rX (iz y) c d:Int)+1) ((rX (iz y) c (1-d):Int)+1) (iA (mr (iz y) c (1-d))).who:=by
 obtain⟨m,U,V,Q⟩:=h.st.light h.s Z G H;obtain⟨_,len,_⟩:=oh y.n;have n6:=h.ok.n6;have hl:N+8*(l8 (iz y).n).length<1000000:=by show N+8*(l8 y.n).length<_;rw[len];omega
 have M:∀c d,c<(iz y).nc->d<2->(iz y.round).F c d=[] :=λc d hc hd=>Q.f c d (by rw[(kr y).2.1];exact hc) hd;obtain⟨Y,J⟩:=Bx (a:=iz y) U V h.e hl dU h.nil M;refine⟨m,U,V,⟨h.ok.round Z,h.g.round h.ok Z,h.f.round h.ok Z,⟨Y.i.mono (by show N+8*(l8 y.n).length<=_;rw[len];omega) λ_=>Nat.le_refl _,Y.o,Y.nl⟩,Q⟩,λc d hc hd hi=>J c d hc hd hi⟩
theorem St.fl(h:St D N k y)(hD:D<=780000000)(hN:N+20*144<1000000)(G:k+8<=126):Fl (D+1300000*7) (N+144*7) (k+7) (kA y 7):=by
 have Q:=h.opens dU dU G 6 (Nat.le_refl _);simp only[Nat.reduceAdd,Nat.reduceSub]at Q;obtain⟨Z,Y,U⟩:=Q;obtain⟨J,M,_,V⟩:=rE y 7;obtain⟨z,H⟩:=fW (kA y 7);rw[H]at Z Y U J M V⊢;exact⟨Z.ok,Z.g,Z.f,⟨Z.i,λc d hc hd hi=>(U c (by rw[<-M];exact hc) (by rw[<-(V c).2];exact hi)).open hd,λc d hc hd x hx=>by rw[Y.f c d hc hd]at hx;simp at hx⟩,Y⟩
structure Fs(D N k:Nat)(y:iI):Prop where
 ok:jT y D 0
 g:GN y
 f:jo y
 s:B5 N k [] (iz y)
 z:Still y
theorem Fs.fl(h:Fs D N k y):Fl D N k y:=⟨h.ok,h.g,h.f,h.s.env,h.z⟩
theorem Fl.two(h:Fl D N k y)(hD:D<=790000000)(hN:N+3*144<1000000)(hk:k+1<=126):Fs (D+1300000*2) (N+144*2) k (kA y 2):=by
 obtain⟨_,_,_,h1,p1⟩:=h.round dU dU hk;obtain⟨_,_,_,Z,p2⟩:=h1.round dU dU hk;obtain⟨s1,s2,_,Q⟩:=kr y;obtain⟨t1,t2,_,u⟩:=kr y.round;have j:∀c d,rX (iz y.round) c d=rX (iz y) c d:=λc d=>by show((y.round.C c).e d).1=_;rw[(Q c).1];rfl
 have Y:∀c d,rX (iz y.round.round) c d=rX (iz y) c d:=λc d=>by show((y.round.round.C c).e d).1=_;rw[(u c).1,(Q c).1];rfl
 have G:(iz y.round.round).nc=y.nc:=t2.trans s2;have Vh:∀c,(iz y.round.round).iR c=(y.C c).iR:=λc=>((u c).2).trans (Q c).2;obtain⟨X,hX⟩:=Z.e.i.lk;obtain⟨B,hB⟩:=Z.e.i.own;have J:∀c d,c<(iz y.round.round).nc->d<2->(mr (iz y.round.round) c d).who=0->(mr (iz y.round.round) c d).both=false:=λc d hc hd U=>by
  have A:=Z.e.i.qw.en c d hc hd;have hr:=hB.r _ A.1;have H:=hr.2.1.pe ((iz y.round.round).e c d).2 (by rw[hr.2.2.2.2];exact A.2);cases hb:(mr (iz y.round.round) c d).both
  ·rfl
  ·have:=H.both hb;unfold mr at U;omega
 have V:∀c d,c<y.nc->d<2->(y.C c).iR=true->mr (iz y.round.round) c d=iY ((rX (iz y) c d:Int)+1) ((rX (iz y) c (1-d):Int)+1) (iA (iY ((rX (iz y) c (1-d):Int)+1) ((rX (iz y) c d:Int)+1) (iA (mr (iz y) c d)).who)).who:=λc d hc hd hi=>by
  rw[p2 c d (by rw[s2];exact hc) hd (by rw[(Q c).2];exact hi),p1 c (1-d) hc dU hi,j,j,show 1-(1-d)=d by omega]
 refine⟨Z.ok.mono dU (Nat.le_refl _),Z.g,Z.f,⟨⟨Z.e.i.mono dU λ_=>Nat.le_refl _,Z.e.o,Z.e.nl⟩,λc d hc hd hi hl=> ?_,λc d hc hd zB=> ?_,λc d hc hd _ _ x hx=> ?_,λi p hi H kT=> ?_⟩,Z.s⟩
 ·rw[show(iz (kA y 2))=iz y.round.round from rfl]at*;rw[Y,Y]at hl;rw[V c d (by rw[<-G];exact hc) hd (by rw[<-Vh];exact hi),Y];have jm:¬((rX (iz y) c (1-d):Int)+1=(rX (iz y) c d:Int)+1):=dU;have M:¬((rX (iz y) c d:Int)+1=(rX (iz y) c (1-d):Int)+1):=dU;unfold iY;rw[ae jm,ae M];unfold iA;rw[ae (by show¬(4:Int)<=1;decide)];refine⟨rfl,gO,?_⟩;rw[ae gO];exact Int.le_refl _
 ·rw[show(iz (kA y 2))=iz y.round.round from rfl]at*;have U:(mr (iz y.round.round) c d).who=0:=by
   cases hi:(iz y.round.round).iR c
   ·by_cases g:(mr (iz y.round.round) c d).who=0
    ·exact g
    ·have:=Z.e.i.fl.gate c d hc hd g;have:=(hX.dn c hc hi d hd).2.1;omega
   ·have hl:rX (iz y) c d=rX (iz y) c (1-d):=by
     rcases zB with g|g
     ·rw[hi]at g;exact absurd g gO
     ·rw[Y,Y]at g;exact g
    rw[V c d (by rw[<-G];exact hc) hd (by rw[<-Vh];exact hi)];unfold iY;rw[ag (by rw[hl])];rfl
  exact⟨U,J c d hc hd U⟩
 ·rw[show(iz (kA y 2))=iz y.round.round from rfl]at*;rw[Z.s.f c d hc hd]at hx;simp at hx
 ·have:=Z.ok.idle i p hi H λc d hc hd=>kT c d hc hd;have V:((y.round.round.R i).P p).pe=nobody:=this.pe;exact⟨this.st,by show((y.round.round.R i).P p).pe.who=0;rw[V];rfl,by show((y.round.round.R i).P p).pe.both=false;rw[V];rfl⟩
theorem Fs.round {D N k:Nat} {y:iI} (h:Fs D N k y)(M:D<=800000000)(Q:N+144<1000000)(J:k+1<=126):∃m,ED N k (iz y) m (iz y.round)/\Fs (D+1300000) (N+144) k y.round:=by
 obtain⟨m,U,V,Z,_⟩:=h.fl.round M Q J;obtain⟨_,len,_⟩:=oh y.n;have n6:=h.ok.n6;have hl:N+8*(l8 (iz y).n).length<1000000:=by show N+8*(l8 y.n).length<_;rw[len];omega
 have Y:=ED.of h.s U V hl dU;have hs:=Y.sta h.fl.nil λc d hc hd=>Z.nil c d (by show c<y.round.nc;rw[(kr y).2.1];exact hc) hd;refine⟨m,Y,Z.ok,Z.g,Z.f,?_,Z.s⟩;have H:N+8*(l8 (iz y).n).length<=N+144:=by show N+8*(l8 y.n).length<=_;rw[len];omega
 exact⟨⟨hs.env.i.mono H λ_=>Nat.le_refl _,hs.env.o,hs.env.nl⟩,hs.pb,hs.pn,hs.hh,hs.id⟩
theorem zy(y:iI)(i:Nat):∀j,kA y (i+j)=kA (kA y i) j
 |0=>rfl
 |j+1=>by show(kA y (i+j)).round=(kA (kA y i) j).round;rw[zy y i j]
theorem Fs.many {D N k:Nat} {y:iI} (h:Fs D N k y)(Y:k+1<=126):∀j,D+1300000*j<=800000000->N+144*(j+1)<1000000->Fs (D+1300000*j) (N+144*j) k (kA y j)
 |0,_,_=>h
 |j+1,hD,hN=>by
  have U:=h.many Y j dU dU;obtain⟨m,_,Z⟩:=U.round dU dU Y;have V:D+1300000*j+1300000=D+1300000*(j+1):=dU;have Q:N+144*j+144=N+144*(j+1):=dU;rw[V,Q]at Z;exact Z
structure Fin(D N k:Nat)(y:iI):Prop where
 s:Fs D N k y
 e:EqA (iz y)
 o:OwN (iz y)
theorem Fin.round {D N k:Nat} {y:iI} (h:Fin D N k y)(Q:D<=800000000)(U:N+144<1000000)(M:k+1<=126):Fin (D+1300000) (N+144) k y.round/\∀j,((iz y.round).R j).K=((iz y).R j).K:=by
 obtain⟨m,Y,Z⟩:=h.s.round Q U M;obtain⟨V,J,p3⟩:=Y.paid h.s.fl.nil (λc d hc hd=>Z.fl.nil c d (by show c<y.round.nc;rw[(kr y).2.1];exact hc) hd) h.e;exact⟨⟨Z,J,p3⟩,V⟩
theorem Fs.fin(h:Fs D N k y)(U:k+1<=126)(hD:D+1300000*14<=800000000)(hN:N+144*15<1000000):Fin (D+1300000*13) (N+144*13) k (kA y 13):=by
 have run:Run k 12 λj=>iz (kA y j):=by
  refine⟨λj H=> ?_,λj H c d hc hd=> ?_⟩
  ·obtain⟨m,Q,_⟩:=(h.many U j dU dU).round dU dU U;exact⟨_,m,Q⟩
  ·exact(h.many U j dU dU).fl.nil c d hc hd
 have Y:=h.many U 12 dU dU;have heq:=run.eqA (Nat.le_refl _);have J:kA y 13=(kA y 12).round:=rfl;have V:EqA (iz (kA y 12)):=heq;rw[J];obtain⟨z,G⟩:=fW (kA y 12);rw[G]at Y V⊢;obtain⟨m,Q,Z⟩:=Y.round dU dU U;obtain⟨_,A,p3⟩:=Q.paid Y.fl.nil (λc d hc hd=>Z.fl.nil c d (by show c<z.round.nc;rw[(kr z).2.1];exact hc) hd) V;have M:D+1300000*12+1300000=D+1300000*13:=dU;have u:N+144*12+144=N+144*13:=dU;rw[M,u]at Z;exact⟨Z,A,p3⟩
theorem Fin.many {D N k:Nat} {y:iI} (h:Fin D N k y)(Y:k+1<=126):∀j,D+1300000*j<=800000000->N+144*(j+1)<1000000->Fin (D+1300000*j) (N+144*j) k (kA y j)/\∀i,((iz (kA y j)).R i).K=((iz y).R i).K
 |0,_,_=>⟨h,λ_=>rfl⟩
 |j+1,hD,hN=>by
  obtain⟨U,k1⟩:=h.many Y j dU dU;obtain⟨Z,k2⟩:=U.round dU dU Y;have V:D+1300000*j+1300000=D+1300000*(j+1):=dU;have Q:N+144*j+144=N+144*(j+1):=dU;rw[V,Q]at Z;exact⟨Z,λi=>(k2 i).trans (k1 i)⟩
theorem St.settled(h:St D N k y)(hD:D<=600000000)(hN:N+50*144<1000000)(M:k+8<=126):Fin (D+1300000*45) (N+144*45) (k+7) (kA y 45):=by
 have U:=h.fl dU dU M;have Q:=U.two dU dU dU;have Y:=Q.fin dU dU dU;have Z:=(Y.many dU 23 dU dU).1;rw[show kA (kA (kA (kA y 7) 2) 13) 23=kA y 45 by rw[<-zy,<-zy,<-zy]]at Z;have V:D+1300000*7+1300000*2+1300000*13+1300000*23=D+1300000*45:=dU;have J:N+144*7+144*2+144*13+144*23=N+144*45:=dU;rw[V,J]at Z;exact Z
theorem QT {many:Nat} (Z:jT (jH many L) D 0):St D 2 0 (jH many L):=by
 have J:∀i,i<many->(1:Int)<=(i:Int)+1/\(i:Int)+1<=6:=λi hi=>by have:=Z.n6;have:(jH many L).n=many:=rfl;omega
 have G:∀i p,i<many->p<3->1<=pH L i p/\pH L i p<=20:=λi p hi hp=>Z.ms i p hi hp;have hF:∀c d,(iz (jH many L)).F c d=[] :=λc d=>by
  show(if c<L.length/\d<2 then si (jH many L) c d else [])=[]
  split
  ·rfl
  ·rfl
 have hRr:∀i,(iz (jH many L)).R i=jE ((i:Int)+1) 3 (pH L i):=λi=>rfl;have U:∀c d,mr (iz (jH many L)) c d=nobody:=λc d=>rfl;have M:∀(i:Nat) (x:Int) (q:PS),(jE ((i:Int)+1) 3 (pH L i)).K x=μ q->x=(i:Int)+1/\q=(1,[]):=λi x q h=>by
  have Y:(if x=(i:Int)+1 then μ ((1:Int),([] :List jG))else ν)=μ q:=h;split at Y
  ·rename_i e;injection Y with Y;exact⟨e,Y.symm⟩
  ·exact absurd Y gO
 have u:∀i,i<many->Own (jE ((i:Int)+1) 3 (pH L i)):=λi hi=>by
  refine⟨λp x q h=>h,λx q h=> ?_,?_⟩
  ·obtain⟨Q,V⟩:=M i x q h;rw[Q,V];have:=J i hi;unfold oD;rw[ae dU,ae gO];rfl
  ·have Q:Dp (jE ((i:Int)+1) 3 (pH L i)).K (jE ((i:Int)+1) 3 (pH L i)).id=[] :=by
    show(match (if(i:Int)+1=(i:Int)+1 then some ((1:Int),([] :List jG))else none)with|none=>[] |some q=>q.2)=_;rw[ag rfl]
   rw[Q];have V:∀n k,jX (jE ((i:Int)+1) 3 (pH L i)).P n k=ν:=λn k=>by
    induction k with
    |zero=>rfl
    |succ k ih=>unfold jX;rw[ae (λh=>absurd h.1 (show¬false=true by simp)),ih]
   unfold jC;simp only[V,Option.map_none];rfl
 refine⟨Z,Ea many L,MN many L,Z.qw,vZ _,⟨1,λi hi=>⟨u i hi,y8 (J i hi) (G i · hi),λx q h=> ?_,rfl,rfl⟩,λc d _ _ x hx=> ?_,?_,Nat.le_refl _,G⟩,⟨λ_ _ _=>false,λc hc hi=> ?_,λc hc hi d hd=> ?_⟩,?_⟩
 ·obtain⟨_,V⟩:=M i x q h;rw[V];exact Int.le_refl _
 ·rw[hF]at hx;simp at hx
 ·have w0:(iz (jH many L)).W sw=0:=by
   unfold AN.W;rw[rW (g:=λ_=>0) λx _=>by show sm sw ((iz (jH many L)).F x.1 x.2)=0;rw[hF];rfl];generalize QD (iz (jH many L)).nc=m
   induction m with
   |nil=>rfl
   |cons x l ih=>simpa[sm]using ih
  have c0:sm (λi=>qx ((iz (jH many L)).R i)) (fR (iz (jH many L)).n)=0:=by
   rw[rW (g:=λ_=>0) λi _=>by rfl];generalize fR (iz (jH many L)).n=m
   induction m with
   |nil=>rfl
   |cons x l ih=>simpa[sm]using ih
  omega
 ·exact absurd (show false=true from hi) gO
 ·have H:=Z.en c d hc hd;have j:=Z.n6;obtain⟨z1,A,z3⟩:=KI (i:=((iz (jH many L)).e c d).1) (p:=((iz (jH many L)).e c d).2) (Nat.lt_of_lt_of_le H.1 j) H.2 (pH L ((iz (jH many L)).e c d).1);have hl:jR (iz (jH many L)) c d=(FO ((((iz (jH many L)).e c d).1:Int)+1) (pH L ((iz (jH many L)).e c d).1) ((iz (jH many L)).e c d).2).L:=rfl;rw[hl];exact⟨z1,A,by rw[z3];exact Int.natCast_nonneg _,hF c d⟩
 ·refine⟨λc d _ _ h=>absurd (by rw[U];rfl) h,λc d _ _ h=>absurd (by rw[U];rfl) h,λc d _ _ x hx=> ?_,λc d _ _ h=> ?_⟩
  ·rw[hF]at hx;simp at hx
  ·rw[U]at h;exact absurd h (by simp[nobody])
def kE(r s:iE):Prop:=∀p,(s.P p).m=(r.P p).m
theorem kE.trans {r s t:iE} (h:kE r s)(g:kE s t):kE r t:=λp=>(g p).trans (h p)
theorem kE.meet(r:iE)(i:Nat)(q:kN):kE r (r.meet i q):=λp=>(j1 r i q p).2.2.1
theorem kE.iK(r:iE)(i:Nat)(q:jl)(h:q.m=(r.P i).m):kE r (r.iK i q):=λp=>by
 rw[kx];split
 ·rename_i e;rw[e,h]
 ·rfl
theorem kE.state(r:iE)(i:Nat)(s:List UInt8):kE r (jd r i s):=by
 unfold jd;simp only;split
 ·exact λ_=>rfl
 ·split
  ·unfold iE.behind;split<;>exact λ_=>rfl
  ·split
   ·exact λp=>(kE.iK _ i _ (rz _ _ _).1) p
   ·exact λ_=>rfl
theorem kE.heard(r:iE)(i:Nat)(s:List UInt8):kE r (kd r i s):=by
 unfold kd;simp only;split<;>exact λ_=>rfl
theorem kE.send(r:iE)(t:yn):kE r (r.send t):=λp=>((mJ r t).2.2.2.2 p).1
theorem kE.link {r:iE} (h:IE r)(i:Nat)(c:UInt8)(s:List UInt8):kE r (jS r i c s):=λp=>((zk h i c s).2.2.1 p).2.1
theorem kE.jD {r:iE} (h:IE r)(i:Nat)(x:kM):kE r (jD r i x):=by
 cases x with
 |nil=>exact λ_=>rfl
 |cons c s=>
  show kE r (r.take i c s);rw[lg];refine(kE.link h i c s).trans ?_;split
  ·exact kE.meet _ _ _
  ·unfold lO;split
   ·split
    ·exact kE.meet _ _ _
    ·exact λ_=>rfl
   ·split
    ·exact kE.state _ _ _
    ·split
     ·exact kE.heard _ _ _
     ·split
      ·unfold qH
       first
        |(split
          ·exact kE.send _ _
          ·exact λ_=>rfl)
        |exact kE.send _ _
      ·exact λ_=>rfl
theorem kE.iL(r:iE)(i:Nat):kE r (r.iL i):=by
 rw[kP];have Z:kE r (iT r i):=λp=>(lq r i p).1;split
 ·exact Z.trans (kE.meet _ _ _)
 ·exact(Z.trans (kE.meet _ _ _)).trans λp=>((oV _ i).2.2.2.2 p).1
theorem kE.iD(r:iE)(i:Nat)(up:Bool):kE r (r.iD i up).1:=by
 unfold iE.iD;simp only;split
 ·exact λ_=>rfl
 ·refine(kE.iK r i _ ?_).trans (kE.meet _ _ _);unfold jl.iD;simp only;by_cases e:(kL (r.P i).L (if up=true then 0 else 1)).2.2≠0
  ·rw[ag e]
  ·rw[ae e,(vN _ _).1]
def Fc(a:AN):Prop:=∀i p,i<a.n->((a.R i).P p).m=a.ms i p
theorem Fc.op {a:AN} (h:Fc a)(i:Nat) {s:iE} (hs:kE (a.R i) s):Fc (a.op i s):=λj p Z=>by
 show(((a.op i s).R j).P p).m=a.ms j p;rw[Il];split
 ·rename_i e
  subst e;exact(hs p).trans (h j p Z)
 ·exact h j p Z
theorem Fc.mY {a:AN} (h:Fc a)(c d:Nat)(up:Bool):Fc (a.mY c d up):=h.op _ (kE.iD _ _ _)
theorem Fc.step(s:mc a T S b)(V:Norm a)(h:Fc a):Fc b:=by
 cases s with
 |lost hl=>
  obtain⟨e,_⟩:=hl;rw[e];exact h
 |tick i p hi hp=>exact h.op i (kE.iL _ _)
 |pop c d x l hc hd hF=>exact Fc.op (a:=a.kZ c d l) h _ (kE.jD (V.emp _) _ _)
 |send i t tx hi Z h6 hl=>exact h.op i (kE.send _ _)
 |iD c hc hi h0 Z=>exact Fc.mY (Fc.mY h c 0 true) c 1 true
 |draw c hc hi=>exact Fc.mY (Fc.mY h c 0 false) c 1 false
 |anew i m hi hx=>
  intro j p Y;show((jK a.R i (jE ((i:Int)+1) 3 (a.ms i)) j).P p).m=a.ms j p;by_cases e:j=i
  ·subst e;rw[iu];rfl
  ·rw[iq _ _ e];exact h j p Y
theorem Fc.path(s:jL a T S b)(Z:Norm a)(h:Fc a):Fc b:=by
 induction s with
 |nil=>exact h
 |snoc p q ih=>exact Fc.step q (p.norm Z) ih
theorem UZ(many:Nat)(L:List oR):Fc (iz (jH many L)):=λ_ _ _=>rfl
structure Wh(m:Nat)(L:List oR)(D N k:Nat)(y:iI):Prop where
 s:St D N k y
 ma:Fc (iz y)
 n:y.n=m
 nc:y.nc=L.length
 e:∀x,(y.C x).e=(rP L x).e
 ms:y.ms=pH L
theorem Wh.new {many:Int} (h:qk many L):Wh many.toNat L D 2 0 (jH many.toNat L):=
 ⟨QT ((ze h).mono (Nat.zero_le _) (Nat.le_refl _)),UZ _ _,rfl,rfl,λ_=>rfl,rfl⟩
theorem Wh.Om {D' N' k':Nat} {y':iI} (h:Wh m L D N k y)(hs:St D' N' k' y')(p:jL (iz y) T S (iz y')):Wh m L D' N' k' y':=by
 obtain⟨Y,Z,U,V⟩:=p.same;exact⟨hs,h.ma.path p (vZ y),Y.trans h.n,Z.trans h.nc,λx=>(bY U x).trans (h.e x),V.trans h.ms⟩
theorem Wh.act {m:Nat} {L:List oR} {D N k:Nat} {y:iI} (h:Wh m L D N k y)(Z:D<=800000000)(Y:N+144<1000000)(V:k+1<=126)(v:AV):Wh m L (D+1300000) (N+144) (k+1) (sg y v):=by
 obtain⟨T,_,p⟩:=Kw h.s.f h.s.g h.s.ok Z v;exact h.Om (h.s.act Z Y V v) p
theorem Wh.U0 {m:Nat} {L:List oR} {D N k:Nat} {y:iI} (V:Nat->AV)(h:Wh m L D N k y):∀i,D+1300000*i<=800000000->N+144*(i+1)<1000000->k+i+1<=126->Wh m L (D+1300000*i) (N+144*i) (k+i) (pW y V i)
 |0,_,_,_=>h
 |i+1,hD,hN,hk=>by
  have ih:=Wh.U0 V h i dU dU dU;have:=ih.act dU dU dU (V i);have Z:D+1300000*(i+1)=D+1300000*i+1300000:=dU;have Y:N+144*(i+1)=N+144*i+144:=dU;rw[Z,Y];exact this
theorem GG {D:Nat} (y:iI):∀j,(∀i,i<j->∃Z,Z<=D/\jT (kA y i) Z 0/\jo (kA y i))->D<=800000000->∃T,jL (iz y) T [] (iz (kA y j))
 |0,_,_=>⟨[],.nil _⟩
 |j+1,h,hD=>by
  obtain⟨T,p⟩:=GG y j (λi hi=>h i dU) hD;obtain⟨Z,h1,Y,V⟩:=h j dU;have q:=yf V Y dU;exact⟨_,p.trans q⟩
theorem St.U1 {D N k:Nat} {y:iI} (h:St D N k y):∀i,D+1300000*i<=800000000->jT (kA y i) (D+1300000*i) 0/\jo (kA y i)
 |0,_=>⟨h.ok,h.f⟩
 |i+1,hD=>by
  obtain⟨Z,Y⟩:=St.U1 h i dU;have n6:=Z.n6;have V:D+1300000*(i+1)=D+1300000*i+1300000:=dU;rw[V];exact⟨Z.round dU,Y.round Z dU⟩
structure afk(m:Nat)(L:List oR)(iR:Nat->Bool)(D N k:Nat)(z:iI):Prop where
 f:Fin D N k z
 ma:Fc (iz z)
 n:z.n=m
 nc:z.nc=L.length
 e:∀x,(z.C x).e=(rP L x).e
 ms:z.ms=pH L
 iR:∀x,(z.C x).iR=iR x
theorem Fin.st {D N k:Nat} {y:iI} (h:Fin D N k y):St D N k y:=h.s.fl.st
theorem Wh.settled {m:Nat} {L:List oR} {D N k:Nat} {y:iI} (h:Wh m L D N k y)(Q:D<=600000000)(U:N+50*144<1000000)(M:k+8<=126):afk m L (λx=>(y.C x).iR) (D+1300000*45) (N+144*45) (k+7) (kA y 45):=by
 have hf:=h.s.settled Q U M;have V:=h.s.U1;obtain⟨T,p⟩:=GG (D:=D+1300000*45) y 45 (λi hi=>⟨D+1300000*i,dU,V i dU⟩) dU;have Z:=h.Om hf.st p;obtain⟨_,_,_,Y⟩:=rE y 45;exact⟨hf,Z.ma,Z.n,Z.nc,Z.e,Z.ms,λx=>(Y x).2⟩
theorem uM.round {w0:dR} {N:Nat} {X:Nat->Prop} {m nc i:Nat} {n:iI} {W:dR} (h:uM w0 N X m nc i n W)(M:iV w0)(hi:i<=300):
 eT eU 54 #[π (μ ⟨N,0,ν⟩)] W λe w'=>e=ρ (τ #[])/\uM w0 N X m nc (i+1) n.round w'/\∀b,X b->w'.heap[b]? =W.heap[b]? :=by
 obtain⟨hA,U,Z,A,hc⟩:=h;obtain⟨s1,H,_,_⟩:=kr n;refine(hA.call (E:=λe=>e=ρ (τ #[])) (n':=n.round) s1 λy G J=> ?_).mono ?_
 ·rw[<-J];exact Am y n (1300000*i) W G (hA.tab M) Z dU
 ·rintro e w' ⟨V,Y,Q⟩;exact⟨V,⟨Y,U.round Z dU,(Z.round dU).mono dU (Nat.le_refl _),s1.trans A,H.trans hc⟩,Q⟩
theorem MZ(h:uM w0 N X m nc i y W)(G:iV w0)(hi:i<=200):
 eT eU 44 #[π (μ ⟨N,0,ν⟩)] W λe w'=>e=ρ (τ #[])/\uM w0 N X m nc (i+45) (kA y 45) w'/\∀b,X b->w'.heap[b]? =W.heap[b]? :=by
 have A:∀k V,k<45->(uM w0 N X m nc (i+k) (kA y k) V/\∀b,X b->V.heap[b]? =W.heap[b]?)->eT eU 54 #[π (μ ⟨N,0,ν⟩)] V λe w'=>e=ρ (τ #[])/\(uM w0 N X m nc (i+(k+1)) (kA y (k+1)) w'/\∀b,X b->w'.heap[b]? =W.heap[b]?):=by
  rintro k V hk ⟨hA,hX⟩;refine(hA.round G dU).mono ?_;rintro e w' ⟨u,h1,j⟩;exact⟨u,h1,λb hb=>(j b hb).trans (hX b hb)⟩
 obtain⟨Q,Y⟩:∃Q:Nat->dR->Prop,Q=λk V=>uM w0 N X m nc (i+k) (kA y k) V/\∀b,X b->V.heap[b]? =W.heap[b]? :=⟨_,rfl⟩
 have Z:∀k V,k<45->Q k V->eT eU 54 #[π (μ ⟨N,0,ν⟩)] V λe w'=>e=ρ (τ #[])/\Q (k+1) w':=by
  rw[Y];exact A
 have H:Q 0 W:=by rw[Y];exact⟨h,λ_ _=>rfl⟩
 have J:∀V,Q 45 V->uM w0 N X m nc (i+45) (kA y 45) V/\∀b,X b->V.heap[b]? =W.heap[b]? :=λV hv=>by rw[Y]at hv;exact hv
 have HR:Hid _:=Z;have HE:Hid _:=J;have H0:Hid (Q 0 W):=H;clear A Z H J h G Y
 go_in
 go_wp2
 go_loopw [2] (λx wr=>∃k:Nat,k<=45/\x=ι κ k/\Q k wr) (λx _=>45-(eV x).toNat)
 case atStart=>exact⟨0,Nat.zero_le _,rfl,H0.out⟩
 case round=>
  obtain⟨k,hk,rfl,U⟩:=hrel;obtain⟨V,rfl⟩:∃V,V=wr:=⟨_,rfl⟩
  by_cases ka:k<45
  ·have m8:(k:Int)<45:=dU;have Z:=HR.out k V ka U;clear U;go_wp2_with(fail);refine Z.mono ?_;rintro e w3 ⟨rfl,hA3⟩;have M:Hid (Q (k+1) w3):=hA3;clear Z hA3
   go_wp2
   go_roundw
   case rel=>exact⟨k+1,dU,by go_num,M.out⟩
   case measure=>simp[eV];omega
  ·have yt:¬(k:Int)<45:=dU;obtain rfl:k=45:=dU;have HQ:Hid (Q 45 V):=U;clear U
   go_wp2
   first|go_end0|refine iC rfl rfl ?_
   exact⟨rfl,HE.out V HQ.out⟩
theorem uM.still {w0:dR} {N:Nat} {X:Nat->Prop} {m nc i:Nat} {y:iI} {W W':dR} (h:uM w0 N X m nc i y W)(hb:eh W W'):uM w0 N X m nc i y W':=⟨h.1.still hb,h.2⟩
theorem uM.beside(h:uM w0 N X m nc i y W)(Y:∀k,X k->w0.heap.size<=k)(hb:eh W W')(Z:Nat->Prop)(U:∀k,Z k->W.heap.size<=k/\k<W'.heap.size):uM w0 N (λb=>X b \/Z b) m nc i y W':=
 ⟨h.1.write hb.size (λk V _=>hb.block k V) Y hb.os hb.tape hb.output Z U,h.2⟩
theorem uM.restart {w0:dR} {N:Nat} {X:Nat->Prop} {m nc i:Nat} {n:iI} {W:dR} (h:uM w0 N X m nc i n W)(M:iV w0)(hi:i<=300)(c:Int):
 eT eU 62 #[π (μ ⟨N,0,ν⟩),ι κ c] W λe w'=>e=ρ (jb (n.restart c).2)/\uM w0 N X m nc (i+1) (n.restart c).1 w'/\∀b,X b->w'.heap[b]? =W.heap[b]? :=by
 obtain⟨hA,U,Z,A,hc⟩:=h;obtain⟨s1,H,_,_⟩:=zf n c;refine(hA.call (E:=λe=>e=ρ (jb (n.restart c).2)) (n':=(n.restart c).1) s1 λy G J=> ?_).mono ?_
 ·rw[<-J];exact Bk y n (1300000*i) c W G (hA.tab M) Z dU
 ·rintro e w' ⟨V,Y,Q⟩;exact⟨V,⟨Y,(U.restart Z c).1,(Z.restart dU c).mono dU (Nat.le_refl _),s1.trans A,H.trans hc⟩,Q⟩
theorem uM.KN(h:uM w0 N X m nc i y W)(hx:x<m):
 ∃R,(∀V,eh W V->eT eU 40 #[π (μ ⟨N,0,ν⟩),ι κ ((x:Int)+1)] V λe w'=>e=ρ (τ #[π (μ ⟨R,0,ν⟩),η])/\V=w')/\∀V,eh W V->eT eU 50 #[π (μ ⟨R,0,ν⟩)] V λe w'=>∃a n cap S E,e=ρ (σ a n cap)/\qQ w' a n S E/\oH (y.R x).K n S E/\n<=6/\Pk V a n cap S/\eh V w':=by
 obtain⟨⟨⟨z,U,Q,ha,ZN⟩,iG⟩,hG,iF,Y,hc⟩:=h;refine⟨(z.z x).R,λV Z=> ?_,λV Z=> ?_⟩
 ·rw[<-Q];exact xY z y x V (U.below Z) (by rw[Y];exact hx)
 ·exact JK (z.z x) (y.R x) V ((U.below Z).rt x (by rw[Y];exact hx))
theorem uM.tick {w0:dR} {N:Nat} {X:Nat->Prop} {m nc i:Nat} {n:iI} {W:dR} (h:uM w0 N X m nc i n W)(M:iV w0)(hi:i<=300)(c:Int):
 eT eU 56 #[π (μ ⟨N,0,ν⟩),ι κ c] W λe w'=>e=ρ (jb (n.tick c).2)/\uM w0 N X m nc (i+1) (n.tick c).1 w'/\∀b,X b->w'.heap[b]? =W.heap[b]? :=by
 obtain⟨hA,U,Z,A,hc⟩:=h;obtain⟨s1,H,_,_⟩:=Al n c;refine(hA.call (E:=λe=>e=ρ (jb (n.tick c).2)) (n':=(n.tick c).1) s1 λy G J=> ?_).mono ?_
 ·rw[<-J];exact DV y n (1300000*i) c W G (hA.tab M) Z dU
 ·rintro e w' ⟨V,Y,Q⟩;exact⟨V,⟨Y,(U.tick Z c).1,(Z.tick dU c).mono dU (Nat.le_refl _),s1.trans A,H.trans hc⟩,Q⟩
theorem U2(h:∀y,F y=ν):kO F=[] :=by
 unfold kO;rw[cM];intro j _;rw[h];rfl
theorem GH(i w:Int):(Plain.kF (FN i w)).length<=14:=by
 have h1:=Plain.yy (Plain.ld (FN i w));have h2:=Plain.mR (FN i w);have h3:=sS (FN i w);have h4:(FN i w).length=3:=rfl;omega
theorem U3 {d:Nat} (hc:c<y.nc)(hd:d<2)(Y:((y.R ((y.C c).e d).1).P ((y.C c).e d).2).out=[])(V:sY y c d):(y.C c).on d=((iz y).F c d).flatMap Plain.kF:=by
 obtain⟨r1,ps,Z,U⟩:=V;have hf:(iz y).F c d=ps:=by
  show(if c<y.nc/\d<2 then si y c d else [])=_;rw[ag ⟨hc,hd⟩];unfold si;rw[r1,Z,py ps U,jj Y];simp
 rw[hf];exact Z
theorem Fin.quiet(h:Fin D N k y)(M:D<=800000000)(A:N+144<1000000)(hk:k+1<=126):∀c d,c<y.nc->d<2->(((y.iN y.n).C c).on d).length<=14:=by
 intro c d hc hd;have Z:=h.st;have n6:=Z.ok.n6;have Q:=h.s.z;obtain⟨X,hX⟩:=Z.i.lk;obtain⟨G,J⟩:=Q.zero X;obtain⟨U,hr⟩:=wq Z.f Z.ok M Z.i A hk Q.UR hX G J y.n (Nat.le_refl _);obtain⟨nd,len,_⟩:=oh y.n;obtain⟨s1,s2,u⟩:=h.s.s.tks U nd (by rw[len];omega);have V:=U.path.same;have Y:(y.iN y.n).nc=y.nc:=V.2.1;have H:=Z.ok.iN M y.n n6;have ho:=H.Ux c d (by rw[Y];exact hc) hd;rw[U3 (by rw[Y];exact hc) hd ho (hr c d (by rw[Y];exact hc) hd)];obtain⟨l,j,e2,e3⟩:=u c d hc hd;rw[j,h.s.fl.nil c d hc hd,bF];obtain⟨f1,f2,f3⟩:=e3 (GF Z.i.qw c d hc hd);have one:∀x:kM,(Plain.kF x).length<=14->([x].flatMap Plain.kF).length<=14:=λx hx=>by simpa using hx
 cases hi:(iz y).iR c with
 |false=>rw[f2 hi];exact Nat.zero_le _
 |true=>
  by_cases hx:rX (iz y) c d=rX (iz y) c (1-d)
  ·rw[f3 hi hx];exact one _ (GH _ _)
  ·rw[f1 hi hx];have:kO (((iz y).R ((iz y).e c d).1).O ((iz y).e c d).2)=[] :=U2 (h.o c d hc hd hi hx);rw[this];exact one _ (GH _ _)
theorem Fin.five(h:Fin D N k y)(hD:D<=700000000)(hN:N+144*6<1000000)(V:k+1<=126):Fin (D+1300000*5) (N+144*5) k (kA y 5)/\∀i,((kA y 5).R i).K=(y.R i).K:=by
 have Z:=h.many V 5 dU dU;obtain⟨z,Y⟩:=fW (kA y 5);rw[Y]at Z⊢;exact⟨Z.1,λi=>Z.2 i⟩
theorem U4(y:iI)(c d i:Nat):((y.kD c d).R i).K=(y.R i).K:=by
 show(jK y.R ((y.C c).e d).1 ((y.R ((y.C c).e d).1).out ((y.C c).e d).2) i).K=_;by_cases e:i=((y.C c).e d).1
 ·subst e;rw[iu];rfl
 ·rw[iq _ _ e]
theorem U5(y:iI)(i:Nat):∀k,((y.jQ k).R i).K=(y.R i).K
 |0=>rfl
 |k+1=>by
  show((((y.jQ k).kD k 0).kD k 1).R i).K=_;rw[U4,U4,U5 y i k]
theorem M3(y:iI)(i:Nat):∀k,((y.lW k).R i).K=(y.R i).K
 |0=>rfl
 |k+1=>by
  show(jK (y.lW k).R k {(y.lW k).R k with jZ:=[] } i).K=_;by_cases e:i=k
  ·subst e;rw[iu];exact M3 y i i
  ·rw[iq _ _ e];exact M3 y i k
theorem U6(y:iI)(i:Nat):(y.gather.R i).K=(y.R i).K:=(M3 _ i _).trans (U5 y i _)
theorem Oo(y:iI):∀q i,q<=i->((y.iN q).R i).K=(y.R i).K
 |0,_,_=>rfl
 |q+1,i,h=>by
  show((((y.iN q).tick ((q:Int)+1)).1).R i).K=_;have Z:=Oo y q i dU;unfold iI.tick;split
  ·exact Z
  ·rw[U6];show(jK (y.iN q).R ((q:Int)+1-1).toNat _ i).K=_;rw[iq _ _ dU];exact Z
structure EE where
 a:Option Addr
 n:Nat
 c:Nat
 S:Nat->SV
 E:Nat->List jG
def EE.in_(d:EE)(b:Nat):Prop:=(∃x,d.a=μ x/\x.block=b/\0<d.n) \/ ∃i,i<d.n/\∃x,(d.S i).a=μ x/\x.block=b/\0<(d.S i).n
theorem EE.keep {d:EE} (h:qQ w d.a d.n d.S d.E)(hb:∀b,d.in_ b->w'.heap[b]? =w.heap[b]?):qQ w' d.a d.n d.S d.E:=by
 refine⟨?_,λj Y=>⟨⟨(h.opt j Y).1.1,?_⟩,(h.opt j Y).2⟩⟩
 ·rcases h.row with Z|⟨b,off,e,Z⟩
  ·exact .inl Z
  ·by_cases V:d.n=0
   ·exact .inl V
   refine .inr ⟨b,off,e,λj Y=> ?_⟩;have hh:=hb b (.inl ⟨_,e,rfl,dU⟩);obtain⟨c1,c2,c3⟩:=Z j Y;exact⟨(ai (a:=⟨b,_,ν⟩) hh).trans c1,(ai (a:=⟨b,_,ν⟩) hh).trans c2,(ai (a:=⟨b,_,ν⟩) hh).trans c3⟩
 ·rcases(h.opt j Y).1.2 with Z|⟨b,off,e,Z⟩
  ·exact .inl Z
  ·by_cases V:(d.S j).n=0
   ·exact .inl V
   refine .inr ⟨b,off,e,λk U=> ?_⟩;have hh:=hb b (.inr ⟨j,Y,_,e,rfl,dU⟩);obtain⟨c1,c2⟩:=Z k U;exact⟨(ai (a:=⟨b,_,ν⟩) hh).trans c1,(ai (a:=⟨b,_,ν⟩) hh).trans c2⟩
theorem EE.lt {d:EE} (h:qQ w d.a d.n d.S d.E) {b:Nat} (hb:d.in_ b):b<w.heap.size:=by
 rcases hb with⟨x,e,rfl,V⟩|⟨i,hi,x,e,rfl,V⟩
 ·rcases h.row with Z|⟨b,off,Y,Z⟩
  ·omega
  ·rw[e]at Y;obtain rfl:=Option.some.inj Y;exact af w _ (Z 0 V).1
 ·obtain⟨hl,U⟩:=(h.opt i hi).1;rcases U with Z|⟨b,off,Y,Z⟩
  ·omega
  ·rw[e]at Y;obtain rfl:=Option.some.inj Y;exact af w _ (Z 0 dU).1
theorem EE.new {d:EE} (h:Pk w d.a d.n d.c d.S) {b:Nat} (hb:d.in_ b):w.heap.size<b:=by
 rcases hb with⟨x,e,rfl,Z⟩|⟨i,hi,x,e,rfl,Z⟩
 ·exact h.1 _ (by rw[e];rfl)
 ·exact h.2 i hi _ (by rw[e];rfl)
structure M4(w wr:dR)(v:Value)(x:Nat)(D:Nat->EE)(K:Nat->Int->Option PS):Prop where
 row:Row wr 1 v x ((fR x).map λj=>σ (D j).a (D j).n (D j).c)
 own:∀b,v.ownBlock=μ b->w.heap.size<=b
 el:∀j,j<x->qQ wr (D j).a (D j).n (D j).S (D j).E/\oH (K j) (D j).n (D j).S (D j).E/\(D j).n<=6/\∀b,(D j).in_ b->w.heap.size<=b/\v.ownBlock≠μ b
 ny:eh w wr
theorem M4.step {wr W0:dR} {v':Value} {D:Nat->EE} {d:EE} (h:M4 w wr v x D K)(A:eh wr W0)(hW:eh W0 W)(hd:qQ W d.a d.n d.S d.E)(hl:oH (K x) d.n d.S d.E)(h6:d.n<=6)(hn:Pk W0 d.a d.n d.c d.S)
 (G:W.grownBy W' v.ownBlock) (hr:Row W' 1 v' (x+1) (((fR x).map λj=>σ (D j).a (D j).n (D j).c)++ [σ d.a d.n d.c])) (hv:∀g,v'.ownBlock=μ g->v.ownBlock=μ g \/W.heap.size<=g):M4 w W' v' (x+1) (λj=>if j=x then d else D j) K:=by
 have Y:=fY A hW;have SL:∀b,v.ownBlock=μ b->b<wr.heap.size:=λb e=>h.row.lt b e;have U:∀b,d.in_ b->w.heap.size<=b/\v.ownBlock≠μ b/\b<W.heap.size:=λb e=>by
  have M:=EE.new hn e;have V:=EE.lt hd e;have H:=h.ny.size;have Q:=A.size;exact⟨dU,λZ=>by have:=SL b Z;omega,V⟩
 have u:∀b,b<W.heap.size->v.ownBlock≠μ b->v'.ownBlock≠μ b:=λb hb M V=>by
  rcases hv b V with e|e
  ·exact M e
  ·omega
 refine⟨?_,λb e=> ?_,λj hj=> ?_,?_⟩
 ·have e:((fR (x+1)).map λj=>fX (if j=x then d else D j).a (if j=x then d else D j).n (if j=x then d else D j).c)=((fR x).map λj=>σ (D j).a (D j).n (D j).c)++ [σ d.a d.n d.c] :=by
   rw[cy,cu];congr 1
   ·refine List.map_congr_left λj hj=> ?_;have:=aS.1 hj;rw[ae dU]
   ·simp
  rw[e];exact hr
 ·rcases hv b e with Z|Z
  ·exact h.own b Z
  ·have H:=h.ny.size;have Q:=Y.size;omega
 ·by_cases e:j=x
  ·subst e;rw[ag rfl];refine⟨EE.keep hd λb hb=>G.block b (U b hb).2.2 (λZ=>(U b hb).2.1 Z.symm),hl,h6,λb hb=>⟨(U b hb).1,u b (U b hb).2.2 (U b hb).2.1⟩⟩
  ·rw[ae e];obtain⟨M,V,H,Q⟩:=h.el j dU;have J:=M.below Y;refine⟨EE.keep J λb hb=>G.block b (EE.lt J hb) (λZ=>(Q b hb).2 Z.symm),V,H,λb hb=>⟨(Q b hb).1,u b (EE.lt J hb) (Q b hb).2⟩⟩
 ·have b1:=fY h.ny Y;refine⟨G.os.trans b1.os,G.tape.trans b1.tape,G.output.trans b1.output,Nat.le_trans b1.size G.size,λb hb=>(G.block b (Nat.lt_of_lt_of_le hb b1.size) (λe=> ?_)).trans (b1.block b hb)⟩;have:=h.own b e.symm;omega
theorem U7 {sz:Nat} {xs:List Value} (h:Row w sz v n xs)(hb:∀k,v.ownBlock=μ k->w'.heap[k]? =w.heap[k]?):Row w' sz v n xs:=by
 refine⟨h.1,?_⟩;rcases h.2 with Z|⟨g,cap,rfl,M,Q,Z,J,V⟩
 ·exact .inl Z
 ·have hh:=hb g rfl;refine .inr ⟨g,cap,rfl,?_,Q,Z,λj u e=>(ai (a:=⟨g,j,ν⟩) hh).trans (J j u e),λj U=>⟨?_,(aJ (a:=⟨g,j,ν⟩) hh).trans (V j U).2⟩⟩
  ·have Y:w.heap[g]? =μ w.heap[g] :=dq M;rw[<-hh]at Y;exact(aw.1 Y).1
  ·rw[ai (a:=⟨g,j,ν⟩) hh];exact(V j U).1
structure ajv(W:dR)(v:Value)(x:Nat)(D:Nat->EE)(K:Nat->Int->Option PS):Prop where
 row:Row W 1 v x ((fR x).map λj=>σ (D j).a (D j).n (D j).c)
 el:∀j,j<x->qQ W (D j).a (D j).n (D j).S (D j).E/\oH (K j) (D j).n (D j).S (D j).E/\(D j).n<=6
theorem M4.later {V0:dR} {D:Nat->EE} (h:M4 w V0 v x D K)(Y:∀b,w.heap.size<=b->b<V0.heap.size->W.heap[b]? =V0.heap[b]?):ajv W v x D K:=
 ⟨U7 h.row λb e=>Y b (h.own b e) (h.row.lt b e),λj Z=>⟨EE.keep (h.el j Z).1 λb e=>Y b ((h.el j Z).2.2.2 b e).1 (EE.lt (h.el j Z).1 e),(h.el j Z).2.1,(h.el j Z).2.2.1⟩⟩
theorem XG:(eU.info? 91).map (λi=>(i.zero,i.size,i.bytes))=μ (μ (σ ν 0 0),1,24):=gL
theorem QU(a:Option Addr)(n c:Nat):∀u∈ [fX a n c],u.oneCell'=true:=by simp[Value.oneCell']
theorem M6 {n':Nat} {S V:Nat->SV} {M:Nat->List jG} (h:oH F n S E)(Z:oH F n' V M):n=n'/\∀j,j<n->(S j).own=(V j).own/\(S j).seq=(V j).seq/\E j=M j:=by
 have key:∀ {n n':Nat} {S V:Nat->SV} {E M:Nat->List jG},oH F n S E->oH F n' V M->∀j,j<n->j<n'/\(S j).own=(V j).own:=by
  intro n n' S V E M h Z j
  induction j using Nat.strongRecOn with
  |_ j ih=>
   intro Q;obtain⟨hr,hF⟩:=h.at_ j Q;obtain⟨i,hi,H⟩:=Z.all _ hr (by rw[hF];rfl);rcases Nat.lt_trichotomy i j with ka|heq|A
   ·have Y:=ih i ka dU;have h2:=h.KT i j ka Q;omega
   ·subst heq;exact⟨hi,H.symm⟩
   ·have G:j<n':=dU;obtain⟨rB,u⟩:=Z.at_ j G;obtain⟨J,Vh,Tg⟩:=h.all _ rB (by rw[u];rfl);have h3:=Z.KT j i A hi;rcases Nat.lt_trichotomy J j with U|U|U
    ·have h5:=(ih J U Vh).2;have h6:=Z.KT J j U G;omega
    ·subst U;exact⟨G,Tg⟩
    ·have h5:=h.KT j J U Vh;omega
 have hn:n=n':=by
  rcases Nat.lt_trichotomy n n' with Y|Y|Y
  ·have:=(key Z h n Y).1;omega
  ·exact Y
  ·have:=(key h Z n' Y).1;omega
 refine⟨hn,λj Q=> ?_⟩;have H:=(key h Z j Q).2;have Y:=(h.at_ j Q).2;have h2:=(Z.at_ j dU).2;rw[H,h2]at Y;have:=Option.some.inj Y;simp only[Prod.mk.injEq]at this;exact⟨H,this.1.symm,this.2.symm⟩
theorem B6(a b:Option Addr)(n ca cb:Nat)(S T:Nat->SV)(E G:Nat->List jG)(w:dR)(hS:qQ w a n S E)(u:qQ w b n T G)(hn:n<=1000)(h6:∀j,j<n->(E j).length<=6)
 (heq:∀j,j<n->(S j).own=(T j).own/\(S j).seq=(T j).seq/\E j=G j):
 eT eU 55 #[σ a n ca,σ b n cb] w λe w'=>e=ρ (.bool true)/\eh w w':=by
 go_in
 go_wp2
 go_loopw [5] (λi wr=>∃k:Nat,k<=n/\i=ι κ k/\eh w wr) (λi _=>n-(eV i).toNat)
 case atStart=>exact⟨0,Nat.zero_le _,rfl,au _ _⟩
 case round=>
  obtain⟨k,hk,rfl,Q⟩:=hrel;by_cases U:k<n
  ·have m8:(k:Int)<(n:Int):=dU;have r1:=hS.row;have r2:=u.row;rcases r1 with h1|⟨b1,o1,rfl,A⟩
   ·omega
   rcases r2 with h1|⟨b2,o2,rfl,FD⟩
   ·omega
   have Z:Hid (∀W,eh w W->(W.cell? ⟨b1,o1+k*3,ν⟩=μ (ι κ (S k).own)/\W.cell? ⟨b1,o1+k*3+1,ν⟩=μ (ι κ (S k).seq)/\W.cell? ⟨b1,o1+k*3+2,ν⟩=μ (σ (S k).a (S k).n (S k).cap))/\W.cell? ⟨b2,o2+k*3,ν⟩=μ (ι κ (T k).own)/\W.cell? ⟨b2,o2+k*3+1,ν⟩=μ (ι κ (T k).seq)/\W.cell? ⟨b2,o2+k*3+2,ν⟩=μ (σ (T k).a (T k).n (T k).cap)):=by
    intro W V;obtain⟨c0,c1,c2⟩:=A k U;obtain⟨d0,d1,d2⟩:=FD k U;have l1:=af w _ c0;have l2:=af w _ d0;exact⟨⟨(V.cell (p:=⟨b1,o1+k*3,ν⟩) l1).trans c0,(V.cell (p:=⟨b1,o1+k*3+1,ν⟩) l1).trans c1,(V.cell (p:=⟨b1,o1+k*3+2,ν⟩) l1).trans c2⟩,(V.cell (p:=⟨b2,o2+k*3,ν⟩) l2).trans d0,(V.cell (p:=⟨b2,o2+k*3+1,ν⟩) l2).trans d1,(V.cell (p:=⟨b2,o2+k*3+2,ν⟩) l2).trans d2⟩
   have Y:Hid (∀W,eh w W->eT eU 51 #[.agg #[ι κ (S k).own,ι κ (S k).seq,σ (S k).a (S k).n (S k).cap],.agg #[ι κ (T k).own,ι κ (T k).seq,σ (T k).a (T k).n (T k).cap]] W λe w'=>e=ρ (.bool true)/\eh W w'):=by
    intro W V;obtain⟨e1,e2,e3⟩:=heq k U;have q1:=(hS.opt k U).1;have q2:=(u.opt k U).1;have l1:=q1.1;have l2:=q2.1;have l3:=h6 k U;have:=EK (S k).own (S k).seq (T k).own (T k).seq (S k).a (T k).a (S k).n (T k).n (S k).cap (T k).cap (E k) (G k) W (q1.below V) (q2.below V) dU (by rw[<-e3]at l2;omega);rw[dL (show(S k).own=(T k).own/\(S k).seq=(T k).seq/\E k=G k from⟨e1,e2,e3⟩)]at this;exact this
   clear A FD;generalize (S k).own=so at Z Y;generalize (S k).seq=sq at Z Y;generalize (S k).a=sa at Z Y;generalize (S k).n=sn at Z Y;generalize (S k).cap=sc at Z Y;generalize (T k).own=uo at Z Y;generalize (T k).seq=uq at Z Y;generalize (T k).a=ua at Z Y;generalize (T k).n=un at Z Y;generalize (T k).cap=uc at Z Y;have M:eh w wr.drew:=below_drewN Q 1;have h:=Z.out _ M;have HB:Hid _:=Q;clear Q
   go_upto_region 6 with fail
   go_region_held3(λx=>(x.cell? ⟨b1,o1+k*3,ν⟩=μ (ι κ so)/\x.cell? ⟨b1,o1+k*3+1,ν⟩=μ (ι κ sq)/\x.cell? ⟨b1,o1+k*3+2,ν⟩=μ (σ sa sn sc))/\x.cell? ⟨b2,o2+k*3,ν⟩=μ (ι κ uo)/\x.cell? ⟨b2,o2+k*3+1,ν⟩=μ (ι κ uq)/\x.cell? ⟨b2,o2+k*3+2,ν⟩=μ (σ ua un uc))
    (first|assumption|exact h|exact F1)
    ((go_at_call 51;refine(Y.out _ M).mono ?_;rintro e w5 ⟨rfl,J⟩;have F1:=Z.out _ (fY M J)))
   all_goals
    have H:Hid _:=fY M J;clear h F1 J
    go_wp2
    go_roundw
    case rel=>exact⟨k+1,dU,by go_num,H.out⟩
    case measure=>simp[eV];omega
  ·have yt:¬(k:Int)<(n:Int):=dU
   go_wp2
   go_ret;exact⟨rfl,Q⟩
structure abA(m:Nat)(L:List oR)(z:iI):Prop where
 same:∀q i,q<=i->i<m->(((kA z 5).iN q).R i).K=(z.R i).K
 few:∀c d,c<L.length->d<2->((((kA z 5).iN m).C c).on d).length<=14
theorem QV(hc:qk (m:Int) L)(V:Nat->AV) {n2:Nat} (h40:n2<=40):abA m L (kA (pW (jH m L) V n2) 45):=by
 have M:Wh m L 0 2 0 (jH m L):=by
  have:=Wh.new hc (D:=0);rw[Int.toNat_natCast]at this;exact this
 have Q:=M.U0 V n2 dU dU dU;have hs:=Q.settled dU dU dU;generalize kA (pW (jH m L) V n2) 45=z at hs⊢;obtain⟨hF,U⟩:=hs.f.five dU dU dU;have H:(kA z 5).n=m:=((rE z 5).1).trans hs.n;have Y:(kA z 5).nc=L.length:=((rE z 5).2.1).trans hs.nc;refine⟨λq i Z _=>(Oo _ q i Z).trans (U i),λc d J hd=> ?_⟩;have:=hF.quiet dU dU dU c d (by rw[Y];exact J) hd;rw[H]at this;exact this
theorem U8 {d:EE} {a:Option Addr} {S:Nat->SV} (h:qQ W d.a d.n d.S d.E)(hl:oH F d.n d.S d.E)(h6:d.n<=6)(Q:qQ W a n S E)(Z:oH F n S E)(hb:eh w W):
 eT eU 55 #[σ a n c,σ d.a d.n d.c] W λe w'=>e=ρ (.bool true)/\eh w w':=by
 obtain⟨e,Y⟩:=M6 Z hl;obtain rfl:=e;have U:∀j,j<d.n->(E j).length<=6:=λj V=>(jw (Z.ok j V)).2.2.1;refine(B6 a d.a d.n c d.c S d.S E d.E W Q h dU U Y).mono ?_;rintro e w' ⟨rfl,M⟩;exact⟨rfl,fY hb M⟩
theorem QW(many:Int)(a:Option Addr)(n cap:Nat)(L:List oR)(a2:Option Addr)(M cap2:Nat)(V:Nat->AV)(E:Nat->List jG)(w:dR)(hL:B1 w a L)(hl:L.length=n)(hn:n<=maxLen)(hA:C2 w a2 M V E)(hT:iV w):
 eT eU 8 #[ι κ many,σ a n cap,σ a2 M cap2] w λe w'=>e=ρ (.bool true)/\eh w w':=by
 obtain⟨i0,KU,od,mK,mL⟩:=aY XG;have hw:=QI w hT;have Cn:∀W,eh w W->eT eU 43 #[ι κ many,σ a n cap,σ a2 M cap2] W λe w'=>YJ W many L M V e w':=λW hb=>
  MS many a n cap L a2 M cap2 V E W (hL.below hb) hl hn (hA.below hb) (iV.below (w:=w) hT hb)
 have HT:Hid (iV w):=hT;have HL:Hid _:=hl;clear hL hA hT hl
 go_in
 go_wp2_with(fail);refine hw.mono ?_;rintro e w1 ⟨rfl,j7⟩;have hp:=Cn w1 j7;have C5:Hid _:=j7;clear hw Cn j7;go_wp2_with(fail);refine hp.mono ?_;rintro e w2 hP;clear hp;rcases hP with⟨rfl,lN⟩|⟨h0,h40,N,g,rfl,J⟩
 ·have FA:Hid (eh w w2):=fY C5.out lN;clear lN
  go_wp2
  go_ret;exact⟨rfl,FA.out⟩
 ·have XH:=uy h0;have xA:=XH.m;have hl9:=XH.l;obtain⟨m,rfl⟩:∃m:Nat,many=(m:Int):=⟨many.toNat,dU⟩
  rw[Int.toNat_natCast]at J;have hq:=QV XH V h40;have hAt:=J.at_;have Nk:=J.g0;obtain⟨Y,hY⟩:=fW (pW (jH m L) V M);rw[hY]at hq hAt;have Vp:iV w1:=iV.below (w:=w) HT.out C5.out;have jY:=MZ hAt Vp dU;obtain⟨z,hz⟩:=fW (kA Y 45);rw[hz]at jY hq;rw[HL.out]at jY hl9;have HQ:Hid _:=hq;have HT1:Hid (iV w1):=Vp;have HN:Hid (M<=40/\w1.heap.size<=g/\1<=m):=⟨h40,Nk,dU⟩
  rw[HL.out];clear J h0 XH hAt hY Vp hz Nk hq;go_wp2_with(fail);refine jY.mono ?_;rintro e U ⟨rfl,hA3,yj⟩;have HA3:Hid (uM w1 N (λb=>b=g) m n (M+45) z U):=hA3;have Cq:Hid (M4 U U (σ ν 0 0) 0 (λ_=>⟨ν,0,0,λ_=>SV.zero,λ_=>[]⟩) (λi=>(z.R i).K)):=⟨Row.nil _ _,λb e=>by simp[dV]at e,λj hj=>absurd hj (Nat.not_lt_zero j),au _ _⟩
  clear jY hA3 yj
  go_wp2
  go_loopw [10,11] (λv iv wr=>∃(x:Nat) (ao:Option Addr) (cp:Nat) (D:Nat->EE),x<=m/\v=σ ao x cp/\iv=ι κ ((x:Int)+1)/\M4 U wr (σ ao x cp) x D (λi=>(z.R i).K)) (λ_ iv _=>m+1-(eV iv).toNat)
  case atStart=>exact⟨0,ν,0,_,Nat.zero_le _,rfl,rfl,Cq.out⟩
  case round=>
   obtain⟨x,ao,cp,D,hx,rfl,rfl,J⟩:=hrel;obtain⟨Z,rfl⟩:∃Z,Z=wr:=⟨_,rfl⟩
   clear Cq;by_cases ka:x<m
   case pos=>
    have m8:(x:Int)+1<=(m:Int):=dU;obtain⟨R,A,QX⟩:=HA3.out.KN ka;have Lh:=A Z J.ny;have RS:=QX Z J.ny;have HI:Hid _:=J;clear J A QX;go_wp2_with(fail);refine Lh.mono ?_;rintro e w4 ⟨rfl,rfl⟩;clear Lh;go_wp2_with(fail);refine RS.mono ?_;rintro e w5 ⟨a5,n5,c5,S5,E5,rfl,hS5,hL5,h65,hN5,Ww⟩;have iQ:=(HI.out.row).below Ww;have HS5:Hid _:=hS5;have HL5:Hid _:=hL5;have H65:Hid _:=h65;have HN5:Hid (Pk Z a5 n5 c5 S5):=hN5;have Zq:Hid _:=Ww;clear RS hS5 hL5 h65 hN5 Ww;go_wp2_with(at_builtin;go_must(refine iB _ rfl (.tmp 50) (.tmp 53) 108 rfl 91 i0 (σ ν 0 0) 1 24 Tryz.underlying108 KU od mK mL rfl dX (σ ao x cp) x _ rfl (iQ.alloc _) _ 1 1 [σ a5 n5 c5] rfl rfl dX (oX _ _ _) (QU _ _ _) (by unfold maxLen;omega) dU ?_));intro g' jn w6 hr6 hg6 YX;have tu:=HI.out.step (d:=⟨a5,n5,c5,S5,E5⟩) (W0:=Z) (au _ _) (fY Zq.out (gN _ _)) (HS5.out.below (gN _ _)) HL5.out H65.out HN5.out hg6 hr6 (λb hb=>by
     have:g'=b:=by simpa[dV]using hb
     subst this;rcases YX with e|e
     ·exact .inl e
     ·exact .inr (Nat.le_trans (Nat.le_of_eq gO) e))
    have afn:Hid _:=tu;clear tu hr6 hg6 YX iQ
    go_wp2
    go_roundw
    case rel=>exact⟨x+1,_,jn,_,dU,rfl,by go_num,afn.out⟩
    case measure=>simp[eV];omega
   case neg=>
    have yt:¬(x:Int)+1<=(m:Int):=dU;obtain rfl:x=m:=dU;have hX:=HA3.out.beside (λb e=>by subst e;exact HN.out.2.1) J.ny (λb=>U.heap.size<=b/\b<Z.heap.size) (λb e=>e);have HX:Hid (uM w1 N (λb=>b=g \/(U.heap.size<=b/\b<Z.heap.size)) x n (M+45) z Z):=hX;have HI:Hid _:=J;obtain⟨G,rfl⟩:∃G,ao=μ ⟨G,0,ν⟩:=by
     rcases J.row.2 with⟨_,u⟩|⟨G,_,u,_⟩
     ·have:=HN.out.2.2;omega
     ·injection u with h;exact⟨G,h⟩
    clear hX J
    go_wp2
    go_loopw [14] (λkv wr=>∃k:Nat,k<=5/\kv=ι κ k/\uM w1 N (λb=>b=g \/(U.heap.size<=b/\b<Z.heap.size)) x n (M+45+k) (kA z k) wr/\∀b,U.heap.size<=b->b<Z.heap.size->wr.heap[b]? =Z.heap[b]?) (λkv _=>5-(eV kv).toNat)
    case atStart=>exact⟨0,Nat.zero_le _,rfl,HX.out,λ_ _ _=>rfl⟩
    case round=>
     obtain⟨k,hk,rfl,Xl,Vn⟩:=hrel;obtain⟨V1,rfl⟩:∃V1,V1=wr:=⟨_,rfl⟩
     clear HX;by_cases hk5:k<5
     case pos=>
      have aoK:(k:Int)<5:=dU;have hr:=Xl.round HT1.out (by have:=HN.out.1;omega);have ZU:Hid _:=Vn;clear Xl Vn;go_wp2_with(fail);refine hr.mono ?_;rintro e w7 ⟨rfl,hA7,hX7⟩;have HA7:Hid (uM w1 N (λb=>b=g \/(U.heap.size<=b/\b<Z.heap.size)) x n (M+45+k+1) (kA z k).round w7):=hA7;have HK7:Hid (∀b,U.heap.size<=b->b<Z.heap.size->w7.heap[b]? =Z.heap[b]?):=λb u h=>(hX7 b (.inr ⟨u,h⟩)).trans (ZU.out b u h);clear hr hA7 hX7
      go_wp2
      go_roundw
      case rel=>exact⟨k+1,dU,by go_num,HA7.out,HK7.out⟩
      case measure=>simp[eV];omega
     case neg=>
      have aoN:¬(k:Int)<5:=dU;obtain rfl:k=5:=dU;have HAk:Hid (uM w1 N (λb=>b=g \/(U.heap.size<=b/\b<Z.heap.size)) x n (M+45+5+0) ((kA z 5).iN 0) V1):=Xl;have ZU:Hid _:=Vn;clear Xl Vn
      go_wp2
      go_loopw [15] (λkv wr=>∃q:Nat,q<=x/\kv=ι κ ((q:Int)+1)/\uM w1 N (λb=>b=g \/(U.heap.size<=b/\b<Z.heap.size)) x n (M+45+5+q) ((kA z 5).iN q) wr/\∀b,U.heap.size<=b->b<Z.heap.size->wr.heap[b]? =Z.heap[b]?) (λkv _=>x+1-(eV kv).toNat)
      case atStart=>exact⟨0,Nat.zero_le _,rfl,HAk.out,ZU.out⟩
      case round=>
       obtain⟨q,hq,rfl,H,hKq⟩:=hrel;obtain⟨Q,rfl⟩:∃Q,Q=wr:=⟨_,rfl⟩
       clear HAk ZU;by_cases hqm:q<x
       case pos=>
        have aoO:(q:Int)+1<=(x:Int):=dU;have hqx:(q:Int)<(x:Int):=dU;have hq0:(0:Int)<=(q:Int):=dU;have Sv:fh.wrap (q:Int)=(q:Int):=aP _ ⟨dU,dU⟩;have rb:fh.wrap ((q:Int)+1-1)=(q:Int):=by rw[show(q:Int)+1-1=(q:Int) by omega];exact aP _ ⟨dU,dU⟩
        have hWK:=HI.out.later hKq;obtain⟨R,A,QX⟩:=H.KN hqm;rw[HQ.out.same q q (Nat.le_refl _) hqm]at QX;have Lh:=A Q (au _ _);have hcell:=Row.cell hWK.row q (σ (D q).a (D q).n (D q).c) (by rw[bU,List.getElem?_range hqm];rfl);obtain⟨d1,d2,d3⟩:=hWK.el q hqm;obtain⟨d,hd⟩:=fW (D q);rw[hd]at hcell d1 d2 d3;have jY:eT eU 50 #[π (μ ⟨R,0,ν⟩)] Q.drew λe w'=>∃a n c,e=ρ (σ a n c)/\(∀W,eh w' W->eT eU 55 #[σ a n c,σ d.a d.n d.c] W λe w2=>e=ρ (.bool true)/\eh Q w2/\w2.cell? ⟨G,q,ν⟩=μ (σ d.a d.n d.c))/\w'.cell? ⟨G,q,ν⟩=μ (σ d.a d.n d.c):=by
         have Jk:=af _ _ hcell;refine(QX Q.drew (iP Q)).mono ?_;rintro e w' ⟨a,n,c,S,E,rfl,hS,hL,_,_,hb⟩;have j7:=fY (iP Q) hb;refine⟨a,n,c,rfl,λW hW=> ?_,(j7.cell (p:=⟨G,q,ν⟩) Jk).trans hcell⟩;have lN:=fY j7 hW;refine(U8 (c:=c) (d1.below lN) d2 d3 (hS.below hW) hL lN).mono ?_;rintro e w2 ⟨rfl,qO⟩;exact⟨rfl,qO,(qO.cell (p:=⟨G,q,ν⟩) Jk).trans hcell⟩
        have hti:=λW hW=>(H.still (W':=W) hW).tick HT1.out (by have:=HN.out.1;omega) ((q:Int)+1);have HKq:Hid _:=hKq;have HLt:Hid (Z.heap.size<=Q.heap.size \/True):=.inr trivial;have HTi:Hid _:=hti;have HXl:Hid (∀b,U.heap.size<=b->b<Z.heap.size->b<Q.heap.size):=λb u h=>by
         obtain⟨⟨⟨y,hR,_,_,hx⟩,_⟩,_⟩:=H;exact hR.lt (.inr ((hx b).2 (.inr ⟨u,h⟩)))
        have F0:Q.drew.cell? ⟨G,q,ν⟩=μ (σ d.a d.n d.c):=hcell;have aoS:G<Q.heap.size:=af _ _ hcell;obtain⟨da,dn,dc,dS,dE⟩:=d;simp only at hcell jY F0;clear H hKq hWK A QX d1 d2 d3 hd hti;go_wp2_with(fail);refine Lh.mono ?_;rintro e w8 ⟨rfl,rfl⟩;clear Lh
        go_wp2
        go_region_held3(λx=>x.cell? ⟨G,q,ν⟩=μ (σ da dn dc))
         (first|assumption|exact F0|exact F1|exact F2)
         (first
          |(go_at_call 50;refine jY.mono ?_;rintro e w9 ⟨a9,n9,c9,rfl,hh,F1⟩)
          |(go_at_call 55;refine(hh _ (au _ _)).mono ?_;rintro e w10 ⟨rfl,b10,F2⟩))
        all_goals
         have afp:=HTi.out _ b10;have ajy:Hid _:=b10;clear jY hh F0 F1 F2 b10;go_wp2_with(fail);refine afp.mono ?_;rintro e w11 ⟨rfl,hA11,afq⟩;have ajz:Hid (uM w1 N (λb=>b=g \/(U.heap.size<=b/\b<Z.heap.size)) x n (M+45+5+(q+1)) ((kA z 5).iN (q+1)) w11):=hA11;have ajA:Hid (∀b,U.heap.size<=b->b<Z.heap.size->w11.heap[b]? =Z.heap[b]?):=λb u h=>(afq b (.inr ⟨u,h⟩)).trans ((ajy.out.block b (HXl.out b u h)).trans (HKq.out b u h));clear afp hA11 afq
         go_wp2
         go_roundw
         case rel=>exact⟨q+1,dU,by go_num,ajz.out,ajA.out⟩
         case measure=>simp[eV];omega
       case neg=>
        have aoT:¬(q:Int)+1<=(x:Int):=dU;obtain rfl:q=x:=dU;obtain⟨hA2,Zk,TC,uU,FD⟩:=H;obtain⟨Rp,U9⟩:=hA2.look;have ug:=HQ.out.few;rw[HL.out]at ug;obtain⟨on,yY⟩:∃on:Nat->Nat->Nat,on=λc d=>((((kA z 5).iN q).C c).on d).length:=⟨_,rfl⟩
        rw[uU,FD]at U9;have HOn:Hid (∀c d:Nat,c<n->d<2->∀w,eh Q w->eT eU 41 #[π (μ ⟨N,0,ν⟩),ι κ (c:Int),ι κ (d:Int)] w λe w'=>e=ρ (τ #[ι κ (on c d:Nat),η])/\w=w'):=by rw[yY];exact U9.on
        have ajB:Hid (∀c d:Nat,c<n->d<2->on c d<=14):=by rw[yY];exact ug
        have FA:Hid (eh w Q):=fY C5.out hA2.ny;clear hKq hA2 Zk TC uU FD U9 ug yY
        go_wp2
        go_loopw [18] (λkv wr=>∃c:Nat,c<=n/\kv=ι κ c/\eh Q wr) (λkv _=>n-(eV kv).toNat)
        case atStart=>exact⟨0,Nat.zero_le _,rfl,au _ _⟩
        case round=>
         obtain⟨c,hc,rfl,hbc⟩:=hrel;obtain⟨V3,rfl⟩:∃V3,V3=wr:=⟨_,rfl⟩
         have HBc:Hid _:=hbc;clear hbc;by_cases S8:c<n
         case neg=>
          have aoV:¬(c:Int)<(n:Int):=dU
          go_wp2
          go_ret;exact⟨rfl,fY FA.out HBc.out⟩
         case pos=>
          have aoW:(c:Int)<(n:Int):=dU
          go_wp2
          go_loopw [19] (λkv wr=>∃d:Nat,d<=2/\kv=ι κ d/\eh Q wr) (λkv _=>2-(eV kv).toNat)
          case atStart=>exact⟨0,Nat.zero_le _,rfl,HBc.out⟩
          case round=>
           obtain⟨d,hd,rfl,PF⟩:=hrel;obtain⟨V4,rfl⟩:∃V4,V4=wr:=⟨_,rfl⟩
           have HBd:Hid _:=PF;clear PF;by_cases Lw:d<2
           case neg=>
            have aoX:¬(d:Int)<2:=dU
            go_wp2
            go_roundw
            case rel=>exact⟨c+1,dU,by go_num,HBd.out⟩
            case measure=>simp[eV];omega
           case pos=>
            have aoY:(d:Int)<2:=dU;have ho:=HOn.out c d S8 Lw V4 HBd.out;have hf:=ajB.out c d S8 Lw;generalize on c d=o at ho hf;have Xd:¬(14:Int)<(o:Int):=dU;go_wp2_with(fail);refine ho.mono ?_;rintro e w12 ⟨rfl,rfl⟩;clear ho
            go_wp2
            go_roundw
            case rel=>exact⟨d+1,dU,by go_num,HBd.out⟩
            case measure=>simp[eV];omega
