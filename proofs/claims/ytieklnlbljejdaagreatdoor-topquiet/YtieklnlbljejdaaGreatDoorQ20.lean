import Derived.Test.YtieklnlbljejdaaGreatDoorQ19
open Option renaming none → ν, some → μ
open List renaming take_sublist → ij, length_cons → eM
namespace Go.Proofs.YtieklnlbljejdaaGreatDoor
open Go.RowKit St
namespace Rt
variable {B D N c d i k p:Nat} {K:Int->Option PS} {S:List (Int×List UInt8)} {T:List (Nat×Nat)} {X:Marks} {a b:AN} {es:List jG} {l:List kM} {own seq:Int} {q:PS} {r:iE} {t:Nat×Nat->Nat} {x:kM} {y:iI}
theorem wk(u:sX a)(hN:Norm a)(hc:c<a.nc)(hd:d<2)(up:Bool)(h:(kL (jR a c d) (if up=true then 0 else 1)).2.2=0):∀c' d',c'<a.nc->d'<2->(¬(c'=c/\d'=d)->jR (a.mY c d up) c' d'=jR a c' d'/\(a.mY c d up).F c' d'=a.F c' d')/\(c'=c/\d'=d->jR (a.mY c d up) c' d'=(kL (jR a c d) (if up=true then 0 else 1)).1/\(a.mY c d up).F c' d'=a.F c d++(kL (jR a c d) (if up=true then 0 else 1)).2.1.flatMap nR):=λc' d' V Q=>by
 obtain⟨G,e2,A⟩:=Ia (hN.emp (a.e c d).1) (a.e c d).2 up h;have U:∀q,(((a.R (a.e c d).1).iD (a.e c d).2 up).1.P q).L=if q=(a.e c d).2 then(kL (jR a c d) (if up=true then 0 else 1)).1 else((a.R (a.e c d).1).P q).L:=λq=>by
  rw[A,(j1 _ _ _ _).2.1,kx];split
  ·rw[D6];rfl
  ·rfl
 have Y:=wi (a:=a) (a.e c d).1 (a.e c d).2 _ (λq Z=>⟨by rw[U,ae Z],G q Z⟩) c' d';refine⟨λH=>Y.1 λe=>H (u.ds _ _ _ _ V Q hc hd e),λM=> ?_⟩;obtain⟨j,J⟩:=M;subst j J;have:=Y.2 rfl V Q;rw[U,ag rfl,e2]at this;exact this
theorem Eu(hB:sX a)(hN:Norm a)(hc:c<a.nc)(up:Bool)(h:∀d,d<2->(kL (jR a c d) (if up=true then 0 else 1)).2.2=0):(∀c' d',c'<a.nc->d'<2->c'≠c->jR (a.iD c up) c' d'=jR a c' d'/\(a.iD c up).F c' d'=a.F c' d')/\∀d,d<2->jR (a.iD c up) c d=(kL (jR a c d) (if up=true then 0 else 1)).1/\(a.iD c up).F c d=(kL (jR a c d) (if up=true then 0 else 1)).2.1.flatMap nR:=by
 obtain⟨b,hb⟩:=fW ((({a with iR:=jK a.iR c up}:AN).kZ c 0 []).kZ c 1 []);have H:sX b:=hB.same (by rw[<-hb];rfl) (by rw[<-hb];rfl) (by rw[<-hb];rfl);have G:Norm b:=by rw[<-hb];exact hN
 have V:c<b.nc:=by rw[<-hb];exact hc
 have Q:∀c' d',jR b c' d'=jR a c' d':=λc' d'=>by rw[<-hb];rfl
 have Y:∀c' d',b.F c' d'=if c'=c/\d'=1 then []else if c'=c/\d'=0 then []else a.F c' d':=λc' d'=>by rw[<-hb];rfl
 have j:a.iD c up=(b.mY c 0 up).mY c 1 up:=by unfold AN.iD;rw[hb]
 have f0:=wk H G V (by decide:0<2) up (by rw[Q];exact h 0 dX);have wQ:sX (b.mY c 0 up):=H.same rfl rfl rfl;have Z:=(f0 c 1 V dX).1 dU;have f1:=wk (a:=b.mY c 0 up) wQ (qv G _ _) V (by decide:1<2) up (by rw[Z.1,Q];exact h 1 dX);have U:b.nc=a.nc:=by rw[<-hb];rfl
 rw[j];refine⟨λc' d' A u M=> ?_,λd hd=> ?_⟩
 ·have g0:=(f0 c' d' (by rw[U];exact A) u).1 (λz=>M z.1);have g1:=(f1 c' d' (by show c'<b.nc;rw[U];exact A) u).1 (λz=>M z.1);rw[g1.1,g1.2,g0.1,g0.2,Q,Y,ae (λz=>M z.1),ae (λz=>M z.1)];exact⟨rfl,rfl⟩
 ·have:d=0 \/d=1:=dU;rcases this with rfl|rfl
  ·have g1:=(f1 c 0 V dX).1 dU;have g0:=(f0 c 0 V dX).2 ⟨rfl,rfl⟩;have J:b.F c 0=[] :=by rw[Y];simp
   rw[g1.1,g1.2,g0.1,g0.2,Q,J];exact⟨rfl,rfl⟩
  ·have g1:=(f1 c 1 V dX).2 ⟨rfl,rfl⟩;have J:b.F c 1=[] :=by rw[Y];simp
   rw[g1.1,g1.2,Z.1,Z.2,Q,J];exact⟨rfl,rfl⟩
theorem tS(a:AN)(c:Nat)(up:Bool)(c':Nat):(a.iD c up).iR c'=if c'=c then up else a.iR c':=rfl
theorem qy.iD {X:Marks} {t:Nat×Nat->Nat} {a:AN} (V:sX a)(hN:Norm a)(h:qy X t a)(J:∀x,t x<=126) {c:Nat} (hc:c<a.nc)(hi:a.iR c=false):qy (EH (EH X c 0 λ_=>false) c 1 λ_=>false) (pN t [a.e c 0,a.e c 1]) (a.iD c true):=by
 have Z:=h.dn c hc hi;have u:=λd hd=>YL (qL V hc hd) (Z d hd).1 (Z d hd).2.1;obtain⟨f1,f2⟩:=Eu V hN hc true λd hd=>(Dj (Z d hd).2.1).1;have H:∀x,t x<=pN t [a.e c 0,a.e c 1] x:=λx=>Nat.le_add_right _ _;have M:a.e c 0≠a.e c 1:=λe=>by have:=(V.ds _ _ _ _ hc dX hc dX e).2;omega
 refine⟨λc' Y U=> ?_,λc' Y U=> ?_⟩
 ·by_cases e:c'=c
  ·subst e;have G:∀d,d<2->EH (EH X c' 0 λ_=>false) c' 1 (λ_=>false) c' d=λ_=>false:=λd hd=>by
    have:d=0 \/d=1:=dU;rcases this with rfl|rfl
    ·rw[lQ _ _ dU,qM]
    ·rw[qM]
   have hF:∀d,d<2->(a.iD c' true).F c' d=[l5 (gP (a.e c' d)) (jR (a.iD c' true) c' d).ow] /\LI (gP (a.e c' d)) (jR (a.iD c' true) c' d)/\(jR (a.iD c' true) c' d).st=6/\(jR (a.iD c' true) c' d).ow=(jR a c' d).ow+1:=λd hd=>by
    obtain⟨u1,u2,u3,u4,u5⟩:=u d hd;obtain⟨g1,g2⟩:=f2 d hd;have hw:=(Z d hd).2.2.1;have ho:=(Z d hd).1.k.o1;have hb:(jR a c' d).ow+1<=255:=by have:=J (a.e c' 0);have:=J (a.e c' 1);omega
    have j:((jR a c' d).ow+1) %256=(jR a c' d).ow+1:=dU;rw[j]at u2 u3;rw[g1,g2];simp only[if_true];refine⟨?_,u1,u4,u3⟩;rw[u2,u3];show nR _++ [] =_;rw[Et (.inl rfl) ⟨dU,hb⟩ (qL V hc hd)];rfl
   obtain⟨a1,a2,A,a4⟩:=hF 0 dX;obtain⟨b1,b2,b3,b4⟩:=hF 1 dX;show Pair _ _ (pN t [a.e c' 0,a.e c' 1] (a.e c' 0)+pN t [a.e c' 0,a.e c' 1] (a.e c' 1)) (gP (a.e c' 0)) (gP (a.e c' 1)) _ _ _ _;rw[G 0 dX,G 1 dX,a1,b1];have c0:pN t [a.e c' 0,a.e c' 1] (a.e c' 0)=t (a.e c' 0)+1:=by unfold pN;simp[Ne.symm M]
   have c1:pN t [a.e c' 0,a.e c' 1] (a.e c' 1)=t (a.e c' 1)+1:=by unfold pN;simp[M]
   have w0:=(Z 0 dX).2.2.1;have w1:=(Z 1 dX).2.2.1;refine Pair.new (qL V hc dX) (qL V hc dX) a2 b2 A b3 ?_ ?_
   ·rw[a4,c0,c1];omega
   ·rw[b4,c0,c1];omega
  ·have Q:(a.iD c true).iR c'=a.iR c':=by rw[tS,ae e]
   exact(h.NR (b:=a.iD c true) H rfl Y Q (λd _=>by rw[lQ _ _ (λz=>e z.1),lQ _ _ (λz=>e z.1)]) (λd hd=>(f1 c' d Y hd e).1) (λd hd=>(f1 c' d Y hd e).2)).1 U
 ·have e:c'≠c:=λz=>by rw[tS,ag z]at U;exact absurd U gO
  have Q:(a.iD c true).iR c'=a.iR c':=by rw[tS,ae e]
  exact(h.NR (X':=EH (EH X c 0 λ_=>false) c 1 λ_=>false) (b:=a.iD c true) H rfl Y Q (λd _=>by rw[lQ _ _ (λz=>e z.1),lQ _ _ (λz=>e z.1)]) (λd hd=>(f1 c' d Y hd e).1) (λd hd=>(f1 c' d Y hd e).2)).2 U
theorem qy.draw(M:sX a)(H:Norm a)(h:qy X t a)(hc:c<a.nc)(hi:a.iR c=true):qy X t (a.iD c false):=by
 have U:∀d,d<2->tO (jR a c d).st=true:=λd hd=>by
  have p:=h.sN hc hd hi;have:=p.lu;have:=p.l.st;unfold tO;simp only[Bool.or_eq_true,beq_iff_eq,Bool.and_eq_true,decide_eq_true_eq];omega
 obtain⟨f1,f2⟩:=Eu M H hc false λd hd=>(sG (U d hd)).1;refine⟨λc' Z Y=> ?_,λc' Z Y=> ?_⟩
 ·have e:c'≠c:=λz=>by rw[tS,ag z]at Y;exact absurd Y gO
  have V:(a.iD c false).iR c'=a.iR c':=by rw[tS,ae e]
  exact(h.NR (X':=X) (b:=a.iD c false) (u:=t) (λ_=>Nat.le_refl _) rfl Z V (λd _=>rfl) (λd hd=>(f1 c' d Z hd e).1) (λd hd=>(f1 c' d Z hd e).2)).1 Y
 ·by_cases e:c'=c
  ·subst e;intro d hd;have p:=h.sN hc hd hi;obtain⟨d1,d2,J⟩:=Xn p.l p.lu;obtain⟨g1,Q⟩:=f2 d hd;simp only[Bool.false_eq_true,if_false]at g1 Q;rw[g1,Q,Kv (U d hd),J];refine⟨d1,d2,?_,rfl⟩;have:=p.d.Ik;show _<=((t (a.e c' 0)+t (a.e c' 1):Nat):Int)
   omega
  ·have V:(a.iD c false).iR c'=a.iR c':=by rw[tS,ae e]
   exact(h.NR (X':=X) (b:=a.iD c false) (u:=t) (λ_=>Nat.le_refl _) rfl Z V (λd _=>rfl) (λd hd=>(f1 c' d Z hd e).1) (λd hd=>(f1 c' d Z hd e).2)).2 Y
theorem KI(hi:i<6)(hp:p<3)(m:Nat->Int):LI (gP (i,p)) (FO ((i:Int)+1) m p).L/\(FO ((i:Int)+1) m p).L.st=1/\(FO ((i:Int)+1) m p).L.ow=0:=by
 have e:gP (i,p)=8*((i:Int)+1)+(p:Int)+1:=rfl;have hb:0<=gP (i,p)/\gP (i,p)<=255:=by rw[e];omega
 refine⟨⟨rfl,rfl,rfl,rfl,λh=>absurd h (by show¬(6:Int)<=1;decide),.inl rfl,⟨by show wR 1 0 0=true;decide,by show(0:Int)<=0;decide,by show(0:Int)<=255;decide,hb.1,hb.2,hb.1,hb.2⟩⟩,rfl,rfl⟩
theorem qy.lost(h:qy X t a)(hl:vY a b):qy X t b:=by
 have hs:∀c d,(b.F c d).Sublist (a.F c d):=λc d=>by
  obtain⟨m,G⟩:=hl.2 c d;rw[G];exact ij _ _
 have Y:b.nc=a.nc:=by rw[hl.1]
 have U:b.iR=a.iR:=by rw[hl.1]
 have V:b.e=a.e:=by rw[hl.1]
 have Z:∀c d,jR b c d=jR a c d:=λc d=>by rw[hl.1];rfl
 refine⟨λc hc hi=> ?_,λc hc hi d hd=> ?_⟩
 ·rw[V,Z,Z];exact(h.up c (by rw[<-Y];exact hc) (by rw[<-U];exact hi)).sub (hs c 0) (hs c 1)
 ·obtain⟨Q,H,M,J⟩:=h.dn c (by rw[<-Y];exact hc) (by rw[<-U];exact hi) d hd;rw[V,Z];refine⟨Q,H,M,?_⟩;have:=hs c d;rw[J]at this;exact List.sublist_nil.1 this
theorem qy.send {X:Marks} {t:Nat×Nat->Nat} {a:AN} (Y:Norm a)(h:qy X t a)(i:Nat)(m:yn):qy X t (a.op i ((a.R i).send m)):=by
 obtain⟨_,_,_,_,Z⟩:=mJ (a.R i) m;obtain⟨j,g1,V⟩:=CA (Y.emp i) m;refine h.quiet i _ (λp=>(Z p).2.2) λp=> ?_;by_cases e:p=j
 ·subst e;rcases V with g|⟨g,f⟩
  ·exact .inl g
  ·exact .inr ⟨by rw[(Z p).2.2];exact g.1,λy hy=>by rw[f]at hy;rw[ar.1 hy];exact zu 77 _ dX⟩
 ·exact .inl (g1 p e)
theorem qy.anew(M:sX a)(h:qy X t a)(i m:Nat)(hd:∀c d,c<a.nc->d<2->(a.e c d).1=i->a.iR c=false/\a.F c 0=[] /\a.F c 1=[]):qy X t {a with R:=jK a.R i (jE ((i:Int)+1) 3 (a.ms i)),ib:=jK a.ib i ((a.ib i).take m)}:=by
 obtain⟨b,hb⟩:=fW (({a with R:=jK a.R i (jE ((i:Int)+1) 3 (a.ms i)),ib:=jK a.ib i ((a.ib i).take m)}:AN));have Y:∀c d,(a.e c d).1≠i->jR b c d=jR a c d:=λc d e=>by
  rw[<-hb];show((jK a.R i _ (a.e c d).1).P _).L=_;rw[iq _ _ e];rfl
 rw[hb];have U:b.nc=a.nc:=by rw[<-hb]
 have G:b.iR=a.iR:=by rw[<-hb]
 have J:b.e=a.e:=by rw[<-hb]
 have Q:b.F=a.F:=by rw[<-hb]
 refine⟨λc hc hi=> ?_,λc hc hi d Z=> ?_⟩
 ·rw[U]at hc;rw[G]at hi;have H:∀d,d<2->(a.e c d).1≠i:=λd Z e=>by rw[(hd c d hc Z e).1]at hi;exact absurd hi gO
  rw[J,Q,Y c 0 (H 0 dX),Y c 1 (H 1 dX)];exact h.up c hc hi
 ·rw[U]at hc;rw[G]at hi;obtain⟨a1,a2,a3,V⟩:=h.dn c hc hi d Z;rw[J,Q];by_cases e:(a.e c d).1=i
  ·have j:=M.en c d hc Z;have hl:jR b c d=(FO ((i:Int)+1) (a.ms i) (a.e c d).2).L:=by
    rw[<-hb];show((jK a.R i _ (a.e c d).1).P _).L=_;rw[e,iu];rfl
   obtain⟨z1,u,z3⟩:=KI (i:=i) (p:=(a.e c d).2) (by have:=M.n6;omega) j.2 (a.ms i);rw[hl];have A:a.e c d=(i,(a.e c d).2):=aR e rfl;rw[A];exact⟨z1,u,by rw[z3];omega,V⟩
  ·rw[Y c d e];exact⟨a1,a2,a3,V⟩
theorem oL(t:Nat×Nat->Nat):pN t [] =t:=by funext x;simp[pN]
theorem Bt(t:Nat×Nat->Nat)(T U:List (Nat×Nat)):pN t (T++U)=pN (pN t T) U:=by
 funext x;unfold pN;rw[List.count_append];omega
theorem mc.links(s:mc a T S b)(Z:sX a)(V:Norm a)(h:qy X t a)(Q:∀x,t x<=126):∃Y,qy Y (pN t T) b:=by
 cases s with
 |lost hl=>exact⟨X,by rw[oL];exact h.lost hl⟩
 |tick i p _ _=>obtain⟨Y,U,_⟩:=h.tick Z V (i:=i) (p:=p) Q;exact⟨Y,U⟩
 |pop c d x l hc hd hF=>obtain⟨Y,U,_⟩:=h.pop Z V (λx=>by have:=Q x;omega) hc hd hF;exact⟨Y,by rw[oL];exact U⟩
 |send i m tx _ _ _ _=>exact⟨X,by rw[oL];exact h.send V i _⟩
 |iD c hc hi _ _=>exact⟨_,h.iD Z V Q hc hi⟩
 |draw c hc hi=>exact⟨X,by rw[oL];exact h.draw Z V hc hi⟩
 |anew i m hi hd=>exact⟨X,by rw[oL];exact h.anew Z i m hd⟩
theorem qy.mono {X:Marks} {t u:Nat×Nat->Nat} {a:AN} (h:qy X t a)(Z:∀x,t x<=u x):qy X u a:=
 ⟨λc hc hi=>(h.up c hc hi).mono (by have:=Z (a.e c 0);have:=Z (a.e c 1);omega),λc hc hi d hd=>by
  obtain⟨U,V,a3,Y⟩:=h.dn c hc hi d hd;exact⟨U,V,by have:=Z (a.e c 0);have:=Z (a.e c 1);omega,Y⟩⟩
theorem m7(h:T.Nodup)(k:Nat)(x:Nat×Nat):pN (λ_=>k) T x<=k+1:=by
 have:=List.nodup_iff_count.1 h x;show k+T.count x<=k+1;omega
def xu(K:Int->Option PS)(y seq:Int)(es:List jG):Prop:=∃q,K y=μ q/\0<=lr q.1 q.2 seq es
theorem nG(s:Int)(e:List jG):lr s e s e=0:=zG.2 ⟨rfl,rfl⟩
theorem tT {y:Int} (h:K y=μ q):xu K y q.1 q.2:=⟨q,h,by rw[nG];exact Int.le_refl _⟩
def oM(K K':Int->Option PS):Prop:=∀y q,K y=μ q->xu K' y q.1 q.2
theorem oM.refl(K:Int->Option PS):oM K K:=λ_ _ h=>tT h
theorem xu.mono {K':Int->Option PS} (h:oM K K') {y:Int} (g:xu K y seq es):xu K' y seq es:=by
 obtain⟨q,Y,Z⟩:=g;obtain⟨u,U,V⟩:=h y q Y;exact⟨u,U,(xD V Z).1⟩
theorem xu.trans {y s1 s2:Int} {e1 e2:List jG} (g:xu K y s1 e1)(h:0<=lr s1 e1 s2 e2):xu K y s2 e2:=by
 obtain⟨q,Y,Z⟩:=g;exact⟨q,Y,(xD Z h).1⟩
theorem oM.trans {L M:Int->Option PS} (h:oM K L)(g:oM L M):oM K M:=λy q Z=>(h y q Z).mono g
def aeX(x:Option kM)(y:Int)(q:PS):Prop:=∃s,(x=μ (83::s) \/x=μ (65::s))/\(il s).2.2.2=0/\(il s).1=y/\0<=lr (il s).2.1 (il s).2.2.1 q.1 q.2
def Hi(x:Option kM)(w:Int):Prop:=∃s,x=μ (72::s)/\(kg s).2.2=0/\(kg s).1=w
structure uT(r r':iE)(p:Nat)(x:Option kM):Prop where
 k:oM r.K r'.K
 o:∀j,(r'.P j).pe.both=true->∀y q,r'.K y=μ q->r'.O j y=ν->((r.P j).pe.both=true/\r.K y=μ q/\r.O j y=ν) \/(j=p/\aeX x y q)
 w:∀j,(r'.P j).pe.who≠0->(r'.P j).pe.who=(r.P j).pe.who \/(j=p/\Hi x (r'.P j).pe.who)
theorem uT.refl(r:iE)(p:Nat)(x:Option kM):uT r r p x:=⟨oM.refl _,λ_ h _ _ Y Z=>.inl ⟨h,Y,Z⟩,λ_ _=>.inl rfl⟩
theorem uT.alike {s:iE} (p:Nat)(x:Option kM)(Z:s.K=r.K)(Q:s.O=r.O)(Y:∀j,(s.P j).pe=(r.P j).pe):uT r s p x:=
 ⟨by rw[Z];exact oM.refl _,λj h y q U V=>.inl ⟨by rw[<-Y];exact h,by rw[<-Z];exact U,by rw[<-Q];exact V⟩,λj _=>.inl (by rw[Y])⟩
theorem uT.trans {a b c:iE} {p:Nat} {x:Option kM} (h:uT a b p x)(g:uT b c p x):uT a c p x:=by
 refine⟨h.k.trans g.k,λj hb y q U Y=> ?_,λj Z=> ?_⟩
 ·rcases g.o j hb y q U Y with⟨Q,V,M⟩|z
  ·exact h.o j Q y q V M
  ·exact .inr z
 ·rcases g.w j Z with z|z
  ·rcases h.w j (by rw[<-z];exact Z)with u|u
   ·exact .inl (z.trans u)
   ·exact .inr (by rw[z];exact u)
  ·exact .inr z
theorem Ev(M:kU r) {q:Int} (V:zX r.K r.id<=q)(p:Nat)(x:Option kM):uT r (r.behind q) p x:=by
 unfold iE.behind;split
 ·obtain⟨u,hu,_⟩:=M.own;have Z:∀y,(r.Dq (q+1) (jC r)).K y=if y=r.id then μ (q+1,jC r)else r.K y:=λy=>rfl
  refine⟨λy v hv=> ?_,λj hb y v U Q=> ?_,λj _=>.inl rfl⟩
  ·by_cases e:y=r.id
   ·refine⟨(q+1,jC r),by rw[Z,ag e],?_⟩;have hsq:v.1<=q:=by
     rw[e]at hv;unfold zX at V;rw[hv]at V;exact V
    unfold lr;have:lD (q+1) v.1=1:=by unfold lD;rw[ae dU,ag dU]
    rw[ag (by rw[this];decide),this];decide
   ·exact⟨v,by rw[Z,ae e];exact hv,by rw[nG];exact Int.le_refl _⟩
  ·have Y:(if y=r.id then μ (q+1,jC r)else r.O j y)=ν:=Q;by_cases e:y=r.id
   ·rw[ag e]at Y;exact absurd Y gO
   ·rw[ae e]at Y;rw[Z,ae e]at U;exact .inl ⟨hb,U,Y⟩
 ·exact uT.refl r p x
theorem MU(Z:kU r)(p:Nat)(x:Option kM):uT r r.change p x:=by
 unfold iE.change;split
 ·exact uT.refl r p x
 ·exact Ev Z (Int.le_refl _) p x
theorem wm(iF:kU r) {q:kN} (hq:nQ r.id q)(x:Option kM)(hw:q.who≠0->q.who=(r.P i).pe.who \/Hi x q.who):uT r (r.meet i q) i x:=by
 have M:=λj=>(j1 r i q j).2.2.2;have hW:∀j,((r.meet i q).P j).pe.who≠0->((r.meet i q).P j).pe.who=(r.P j).pe.who \/(j=i/\Hi x ((r.meet i q).P j).pe.who):=λj h=>by
  rw[M]at h⊢;by_cases e:j=i
  ·subst e;rw[ag rfl]at h⊢;rcases hw h with z|z
   ·exact .inl z
   ·exact .inr ⟨rfl,z⟩
  ·rw[ae e];exact .inl rfl
 by_cases kf:q.who=(r.P i).pe.who/\q.both=(r.P i).pe.both
 ·have e:r.meet i q=r.iK i {r.P i with pe:=q}:=by unfold iE.meet;simp only;rw[ag kf]
  refine⟨by rw[e];exact oM.refl _,λj hb y v V Y=> ?_,hW⟩;rw[M]at hb;rw[e]at V Y;refine .inl ⟨?_,V,Y⟩;by_cases Z:j=i
  ·rw[ag Z]at hb;rw[Z,<-kf.2];exact hb
  ·rw[ae Z]at hb;exact hb
 ·obtain⟨z,Q⟩:∃z:iE,({r.iK i {r.P i with pe:=q}with O:=λx=>if x=i then λ_=>ν else(r.iK i {r.P i with pe:=q}).O x}:iE)=z:=⟨_,rfl⟩
  have okz:kU z:=by rw[<-Q];exact(iF.iK i {r.P i with pe:=q} rfl λ_=>hq).xR _
  have ev:=MU okz i x;have zK:z.K=r.K:=by rw[<-Q];rfl
  have e:r.meet i q=if q.both=true then {z.change with O:=λx=>if x=i then pQ (z.change.O i) z.change.K else z.change.O x}else z.change:=by
   unfold iE.meet;simp only;rw[ae kf,Q]
  have eK:(r.meet i q).K=z.change.K:=by rw[e];split<;>rfl
  have H:∀j,j≠i->z.O j=r.O j:=λj G=>by
   rw[<-Q];show(if j=i then λ_=>ν else r.O j)=_;rw[ae G]
  have J:∀j,j≠i->(z.P j).pe=(r.P j).pe:=λj G=>by
   rw[<-Q];show((r.iK i {r.P i with pe:=q}).P j).pe=_;rw[kx,ae G]
  refine⟨by rw[eK,<-zK];exact ev.k,λj hb y v V Y=> ?_,hW⟩;rw[eK]at V;by_cases Z:j=i
  ·subst Z;rw[M,ag rfl]at hb;rw[e,ag hb]at Y;have U:(if j=j then pQ (z.change.O j) z.change.K else z.change.O j) y=ν:=Y;rw[ag rfl]at U;unfold pQ at U;rw[ag (by rw[V];rfl),V]at U;exact absurd U gO
  ·have U:z.change.O j y=ν:=by
    rw[e]at Y;split at Y
    ·have h3:(if j=i then pQ (z.change.O i) z.change.K else z.change.O j) y=ν:=Y;rw[ae Z]at h3;exact h3
    ·exact Y
   rw[M,ae Z]at hb;have A:(z.change.P j).pe.both=true:=by rw[(vO z).2.2.2,J j Z];exact hb
   rcases ev.o j A y v V U with⟨u1,u2,u3⟩|u
   ·exact .inl ⟨hb,by rw[<-zK];exact u2,by rw[<-H j Z];exact u3⟩
   ·exact absurd u.1 Z
theorem nH(h:K own=μ q):newF K own seq es=lr seq es q.1 q.2:=by unfold newF;rw[h]
theorem wN(iF:kU r)(i:Nat)(s:List UInt8):uT r (jd r i s) i (μ (83::s))/\∀y∈je ((jd r i s).P i),je ((jd r i s).P i)=[65::qC (il s).1 (il s).2.1 (il s).2.2.1]->(il s).2.2.2=0->0<=newF r.K (il s).1 (il s).2.1 (il s).2.2.1->¬((il s).1=r.id/\0<newF r.K (il s).1 (il s).2.1 (il s).2.2.1)->(r.P i).pe.both=true->xu (jd r i s).K (il s).1 (il s).2.1 (il s).2.2.1:=by
 unfold jd;simp only;split
 ·rename_i h
  refine⟨uT.refl _ _ _,λy _ _ hz _ _ hb=> ?_⟩;rcases h with h|h
  ·exact absurd hz h
  ·rw[hb]at h;exact absurd h gO
 ·rename_i h
  have hz:(il s).2.2.2=0:=dU;split
  ·rename_i J
   refine⟨Ev iF ?_ _ _,λy _ _ _ _ kT _=>absurd J kT⟩;obtain⟨u,hu,_⟩:=iF.own;have Q:=J.2;rw[J.1,nH hu]at Q;unfold zX;rw[hu];show u.1<=_;unfold lr at Q;by_cases hc:lD (il s).2.1 u.1=0
   ·rw[mS.1 hc];exact Int.le_refl _
   ·rw[ag hc]at Q;have:=tq.1 Q;omega
  ·rename_i J
   have YR:∀q:PS,0<=lr (il s).2.1 (il s).2.2.1 q.1 q.2->aeX (μ (83::s)) (il s).1 q:=λq U=>⟨s,.inl rfl,hz,rfl,U⟩
   generalize (il s).1=own,(il s).2.1=seq,(il s).2.2.1=es at*;have hm:uT r {r with K:=kY r.K own seq es,O:=oq r.K r.O i own seq es} i (μ (83::s)):=by
    refine⟨λy q U=> ?_,λj hb y q h1 Q=> ?_,λj _=>.inl rfl⟩
    ·show xu (kY r.K own seq es) y q.1 q.2;unfold kY;by_cases g:0<newF r.K own seq es
     ·rw[ag g];by_cases e:y=own
      ·subst e;rw[nH U]at g;exact⟨(seq,es),by show(if y=y then _ else _)=_;rw[ag rfl],by show 0<=lr seq es q.1 q.2;omega⟩
      ·exact⟨q,by show(if y=own then _ else _)=_;rw[ae e];exact U,by rw[nG];exact Int.le_refl _⟩
     ·rw[ae g];exact tT U
    ·have Y:kY r.K own seq es y=μ q:=h1;have Z:oq r.K r.O i own seq es j y=ν:=Q;unfold kY at Y;unfold oq at Z;by_cases g:0<newF r.K own seq es
     ·rw[ag g]at Y Z;have Y:(if y=own then μ (seq,es)else r.K y)=μ q:=Y;by_cases e:y=own
      ·subst e;rw[ag rfl]at Y;injection Y with Y
       by_cases V:j=i
       ·refine .inr ⟨V,YR q ?_⟩;rw[<-Y];show 0<=lr seq es seq es;rw[nG];exact Int.le_refl _
       ·rw[ae V]at Z;have Z:(if y=y then μ (seq,es)else r.O j y)=ν:=Z;rw[ag rfl]at Z;exact absurd Z gO
      ·rw[ae e]at Y;refine .inl ⟨hb,Y,?_⟩;by_cases V:j=i
       ·rw[ag V]at Z;have Z:(if y=own then ν else if y=own then μ (seq,es)else r.O i y)=ν:=Z;rw[ae e,ae e]at Z;rw[V];exact Z
       ·rw[ae V]at Z;have Z:(if y=own then μ (seq,es)else r.O j y)=ν:=Z;rw[ae e]at Z;exact Z
     ·rw[ae g]at Y Z;by_cases A:newF r.K own seq es<0
      ·rw[ag A]at Z;by_cases V:j=i
       ·rw[ag V]at Z;cases H:r.K own with
        |none=>rw[H]at Z;exact .inl ⟨hb,Y,by rw[V];exact Z⟩
        |some u=>
         rw[H]at Z;have Z:(if y=own then μ u else r.O i y)=ν:=Z;by_cases e:y=own
         ·rw[ag e]at Z;exact absurd Z gO
         ·rw[ae e]at Z;exact .inl ⟨hb,Y,by rw[V];exact Z⟩
       ·rw[ae V]at Z;exact .inl ⟨hb,Y,Z⟩
      ·rw[ae A]at Z;by_cases V:j=i
       ·rw[ag V]at Z;have Z:(if y=own then ν else r.O i y)=ν:=Z;by_cases e:y=own
        ·subst e;rw[nH Y]at A;exact .inr ⟨V,YR q dU⟩
        ·rw[ae e]at Z;exact .inl ⟨hb,Y,by rw[V];exact Z⟩
       ·rw[ae V]at Z;exact .inl ⟨hb,Y,Z⟩
   have H:0<=newF r.K own seq es->xu (kY r.K own seq es) own seq es:=λM=>by
    unfold kY;by_cases g:0<newF r.K own seq es
    ·rw[ag g];exact⟨(seq,es),by show(if own=own then _ else _)=_;rw[ag rfl],by show 0<=lr seq es seq es;rw[nG];exact Int.le_refl _⟩
    ·rw[ae g];cases U:r.K own with
     |none=>unfold newF at g;rw[U]at g;exact absurd (by decide:(0:Int)<1) g
     |some q=>
      rw[nH U]at g M;refine⟨q,U,?_⟩;rw[tr];omega
   split
   ·refine⟨hm.trans (uT.alike _ _ rfl rfl λj=> ?_),λy _ _ _ M _ _=>H M⟩;rw[kx];split
    ·rename_i e;rw[e,(rz _ _ _).2]
    ·rfl
   ·rename_i G
    exact⟨hm,λy _ _ _ M _ _=>absurd M G⟩
theorem QJ(r:iE)(i:Nat)(s:List UInt8):uT r (kd r i s) i (μ (65::s)):=by
 unfold kd;simp only;split
 ·rename_i J
  refine⟨oM.refl _,λj hb y q M Q=> ?_,λj _=>.inl rfl⟩;have Z:(if j=i/\0<=newF r.K (il s).1 (il s).2.1 (il s).2.2.1 then xN (r.O i) (il s).1 else r.O j) y=ν:=Q;have Y:r.K y=μ q:=M;by_cases e:j=i/\0<=newF r.K (il s).1 (il s).2.1 (il s).2.2.1
  ·rw[ag e]at Z;have U:(if y=(il s).1 then ν else r.O i y)=ν:=Z;by_cases V:y=(il s).1
   ·refine .inr ⟨e.1,s,.inr rfl,J,V.symm,?_⟩;have:=e.2;rw[<-V,nH Y]at this;exact this
   ·rw[ae V]at U;exact .inl ⟨hb,Y,by rw[e.1];exact U⟩
  ·rw[ae e]at Z;exact .inl ⟨hb,Y,Z⟩
 ·exact uT.refl _ _ _
def xw(r:iE)(x:kM):Prop:=(∀s,(x=83::s \/x=65::s)->(il s).2.2.2=0->xu r.K (il s).1 (il s).2.1 (il s).2.2.1)/\∀s,x=72::s->(kg s).2.2=0->(kg s).1=r.id
theorem qN(r:iE) {c:UInt8} (s:List UInt8)(Y:c≠83)(Z:c≠65)(V:c≠72):xw r (c::s):=
 ⟨λ_ e=>e.elim (λe=>absurd (aB e).1 Y) λe=>absurd (aB e).1 Z,λ_ e=>absurd (aB e).1 V⟩
theorem QK(Q:IE r)(M:kU r)(i:Nat)(x:kM):uT r (jD r i x) i (μ x)/\∀p,∀y∈je ((jD r i x).P p),xw (jD r i x) y:=by
 obtain⟨m1,_⟩:=pK Q i x;have J:uT r (jD r i x) i (μ x):=by
  cases x with
  |nil=>exact uT.refl _ _ _
  |cons c s=>
   show uT r (r.take i c s) i _;obtain⟨_,_,k3,k4,H,_,_,_⟩:=zk Q i c s;have Z:uT r (jS r i c s) i (μ (c::s)):=uT.alike _ _ k4 H λj=>(k3 j).1;have Y:=M.link i c s;rw[lg];obtain⟨r1,G⟩:=fW (jS r i c s);rw[G]at Z Y⊢;split
   ·exact Z.trans (wm Y (nQ.nobody Y.id.1) _ λh=>absurd rfl h)
   ·unfold lO;split
    ·rename_i hc
     split
     ·rename_i V
      refine Z.trans (wm Y (nQ.Wu (s:=(kg s).2.1) Y.id.1 (DM V)) _ λU=>.inr ⟨s,by rw[hc],V,?_⟩);unfold iY at U⊢;split at U
      ·exact absurd rfl U
      ·rename_i g;rw[ae g]
     ·exact Z
    ·split
     ·rename_i hc;rw[hc]at Z⊢;exact Z.trans (wN Y i s).1
     ·split
      ·rename_i hc;rw[hc]at Z⊢;exact Z.trans (QJ r1 i s)
      ·split
       ·unfold qH;split
        ·obtain⟨a,b,_,_,e⟩:=mJ r1 (((s.getD 0 0).toNat:Int),((s.getD 1 0).toNat:Int),s.drop 2);exact Z.trans (uT.alike _ _ a b λj=>(e j).2.1)
        ·exact Z
       ·exact Z
 refine⟨J,λp y hy=> ?_⟩;cases m1 p with
 |none h=>rw[h]at hy;simp at hy
 |link s _ _ _ h=>
  rw[h]at hy;obtain⟨u,rfl⟩:=qV hy;exact qN _ u dX dX dX
 |H9 a b s _ _ _ _ h=>
  rw[h]at hy;rw[ar.1 hy];exact qN _ _ dX dX dX
 |heard s hx hp h9 V hb kT A h=>
  rw[h]at hy;rw[ar.1 hy];have hv:oD (il s).1 (il s).2.1 (il s).2.2.1=0:=pv (by rw[<-V]);refine⟨λu e _=> ?_,λu e=>absurd (aB e).1 dX⟩;have hu:u=qC (il s).1 (il s).2.1 (il s).2.2.1:=by
   rcases e with e|e
   ·exact absurd (aB e).1 dX
   ·exact(aB e).2.symm
  rw[hu,nh _ _ _ hv];have ht:jD r i x=jd r i s:=by
   rw[hx];show r.take i 83 s=_;rw[lg,tR i s dX,ae (by rw[h9];simp)];unfold lO;rw[ae dX,ag rfl]
  rw[ht]at h⊢;rw[hp]at h;exact(wN M i s).2 _ (by rw[h];exact ar.2 rfl) h V A kT hb
theorem QL(hE:IE r)(h:Own r)(Q:kU r)(hs:lK B r)(hB:B<1000000)(hi:i<3)(hn:r.n=3):uT r (r.iL i) i ν/\∀p,∀y∈je ((r.iL i).P p),xw (r.iL i) y:=by
 have J:=lq r i;have G:uT r (iT r i) i ν:=uT.alike _ _ rfl rfl λj=>(J j).2;have Z:=Q.iT i;have A6:(iA ((iT r i).P i).pe).who≠0->(iA ((iT r i).P i).pe).who=((iT r i).P i).pe.who:=λY=>by
  unfold iA at Y⊢;split at Y
  ·exact absurd rfl Y
  ·rename_i g;rw[ae g]
 have vy:uT r (r.iL i) i ν:=by
  rw[kP];split
  ·exact G.trans (wm Z (nQ.nobody Z.id.1) _ λh=>absurd rfl h)
  ·have hp:=nQ.tick Z.id.1 (Z.pe i (by show i<r.n;omega));obtain⟨t1,t2,_,_,t5⟩:=oV ((iT r i).meet i (iA ((iT r i).P i).pe)) i;exact(G.trans (wm Z hp _ λY=>.inl (A6 Y))).trans (uT.alike _ _ t1 t2 λj=>(t5 j).2.1)
 refine⟨vy,λp y hy=> ?_⟩;obtain⟨C,c1,c2,_⟩:=Ay h Q hs hB hi hn;obtain⟨e1,e2⟩:=wJ hE i;by_cases A:p=i
 ·subst A;rw[e2]at hy;rcases av.1 hy with g|g
  ·obtain⟨u,rfl⟩:=qV g;exact qN _ u dX dX dX
  ·split at g
   ·rename_i h9
    rcases aQ.1 g with g|g
    ·rw[g];refine⟨λu e=> ?_,λu e V=> ?_⟩
     ·rcases e with e|e<;>exact absurd (aB e).1 dX
     ·rw[<-(aB e).2]at V⊢;have qd:=Q.id;have M:(r.iL p).id=r.id:=(jx.iL r p).id;rw[M];unfold kg at V⊢;split at V
      ·rename_i hh
       rw[ag hh];show((jO r.id).toNat:Int)=_;exact mV _ dU dU
      ·exact absurd V gO
    ·split at g
     ·obtain⟨q,hq,U⟩:=aV.1 g;unfold Cz at U;split at U
      ·rw[ar.1 U];have hO:(r.iL p).O p q.1=μ q.2:=by
        have jY:((iT r p).P p).L.st=9:=by
         unfold iT;rw[kx,ag rfl,rT];exact h9
        rw[kP,ae (by rw[jY];simp),(J p).2];exact wK hq
       have H:=c1.tie p q.1 q.2 hO;refine⟨λu e _=> ?_,λu e=>absurd (aB e).1 dX⟩;have hu:u=qC q.1 q.2.1 q.2.2:=by
        rcases e with e|e
        ·exact(aB e).2.symm
        ·exact absurd (aB e).1 dX
       rw[hu,nh _ _ _ (c1.val _ _ H)];exact tT H
      ·simp at U
     ·simp at g
   ·simp at g
 ·rw[e1 p A]at hy;simp at hy
theorem UM(Z:kU r)(i:Nat)(up:Bool):uT r (r.iD i up).1 i ν/\(((r.P i).iD up).2=0->((r.iD i up).1.P i).pe=nobody):=by
 unfold iE.iD;simp only;split
 ·rename_i h;exact⟨uT.refl _ _ _,λY=>absurd Y h⟩
 ·have e:((r.P i).iD up).1.m=(r.P i).m/\((r.P i).iD up).1.pe=(r.P i).pe:=by
   unfold jl.iD;generalize kL (r.P i).L (if up=true then 0 else 1)=E;simp only;split
   ·exact⟨rfl,rfl⟩
   ·rw[(vN _ _).1,(vN _ _).2];exact⟨rfl,rfl⟩
  have k1:kU (r.iK i ((r.P i).iD up).1):=Z.iK i _ e.1 λhi=>by rw[e.2];exact Z.pe i hi
  have V:uT r (r.iK i ((r.P i).iD up).1) i ν:=uT.alike _ _ rfl rfl λj=>by
   rw[kx];split
   ·rename_i g;rw[g];exact e.2
   ·rfl
  refine⟨V.trans (wm k1 (nQ.nobody k1.id.1) _ λh=>absurd rfl h),λ_=> ?_⟩;rw[(j1 _ _ _ _).2.2.2,ag rfl]
def mr(a:AN)(c d:Nat):kN:=((a.R (a.e c d).1).P (a.e c d).2).pe
def Bu(x:kM):Prop:=x.length<=23/\∀k b s,x=77::k::b::s->b.toNat<=7
theorem sJ {c:UInt8} {s:List UInt8} (h:s.length<=22)(hc:c≠77):Bu (c::s):=⟨by simp only[eM];omega,λ_ _ _ e=>absurd (aB e).1 hc⟩
structure CB(a:AN):Prop where
 gate:∀c d,c<a.nc->d<2->(mr a c d).who≠0->(jR a c d).st=9
 far:∀c d,c<a.nc->d<2->(mr a c d).who≠0->(mr a c d).who=((a.e c (1-d)).1:Int)+1
 kn:∀c d,c<a.nc->d<2->∀x∈a.F c d,xw (a.R (a.e c d).1) x/\Bu x
 o:∀c d,c<a.nc->d<2->(mr a c d).both=true->∀y q,(a.R (a.e c d).1).K y=μ q->(a.R (a.e c d).1).O (a.e c d).2 y=ν->xu (a.R (a.e c (1-d)).1).K y q.1 q.2
theorem xw.mono {r s:iE} (h:oM r.K s.K)(Y:s.id=r.id) {x:kM} (g:xw r x):xw s x:=⟨λu e Z=>(g.1 u e Z).mono h,λu e Z=>by rw[Y];exact g.2 u e Z⟩
theorem Il(a:AN)(i:Nat)(s:iE)(j:Nat):(a.op i s).R j=if j=i then s.core else a.R j:=rfl
theorem zv(a:AN)(i:Nat)(s:iE)(c d:Nat):mr (a.op i s) c d=if(a.e c d).1=i then(s.P (a.e c d).2).pe else mr a c d:=by
 unfold mr;rw[Qv,Il];by_cases e:(a.e c d).1=i
 ·rw[ag e,ag e];rfl
 ·rw[ae e,ae e]
theorem CB.op {a:AN} (A:sX a)(h:CB a) {i:Nat} {s:iE} (qd:s.id=(a.R i).id)(MT:∀j,j<a.n->(a.R j).id=(j:Int)+1) {p:Nat} {x:Option kM} (ev:uT (a.R i) s p x)(Vw:∀q,∀y∈je (s.P q),xw s y/\Bu y)
 (hx:∀y,x=μ y->∃c d,c<a.nc/\d<2/\a.e c (1-d)=(i,p)/\xw (a.R (a.e c d).1) y)
 (hg:∀c d,c<a.nc->d<2->(a.e c d).1=i->(s.P (a.e c d).2).pe.who≠0->(s.P (a.e c d).2).L.st=9):CB (a.op i s):=by
 have M:∀j,oM (a.R j).K ((a.op i s).R j).K:=λj=>by
  rw[Il];by_cases e:j=i
  ·rw[ag e,e];exact ev.k
  ·rw[ae e];exact oM.refl _
 have u:∀j,((a.op i s).R j).id=(a.R j).id:=λj=>by
  rw[Il];by_cases e:j=i
  ·rw[ag e,e];exact qd
  ·rw[ae e]
 have G:∀c d,c<a.nc->d<2->a.e c d=(i,p)->∀y,x=μ y->xw (a.R (a.e c (1-d)).1) y:=λc d hc hd he y hy=>by
  obtain⟨c',d',jN,j3,Fy,J⟩:=hx y hy;have:=A.ds c' (1-d') c d jN dU hc hd (Fy.trans he.symm);have Fw:d'=1-d:=dU;rw[this.1,Fw]at J;exact J
 refine⟨λc d hc hd Z=> ?_,λc d hc hd Z=> ?_,λc d hc hd y hy=> ?_,λc d hc hd hb y q H Q=> ?_⟩
 ·rw[zv]at Z;rw[Gu];by_cases e:(a.e c d).1=i
  ·rw[ag e]at Z⊢;exact hg c d hc hd e Z
  ·rw[ae e]at Z⊢;exact h.gate c d hc hd Z
 ·rw[zv]at Z⊢;rw[Qv];by_cases e:(a.e c d).1=i
  ·rw[ag e]at Z⊢;rcases ev.w _ Z with z|⟨V,s',Y,U,z4⟩
   ·rw[z]at Z⊢;have:=h.far c d hc hd;unfold mr at this;rw[e]at this;exact this Z
   ·have:=(G c d hc hd (aR e V) _ Y).2 s' rfl U;rw[<-z4,this];exact MT _ (A.en c (1-d) hc dU).1
  ·rw[ae e]at Z⊢;exact h.far c d hc hd Z
 ·rw[Qv];rw[uR]at hy;by_cases e:(a.e c d).1=i
  ·rw[ag ⟨⟨hc,hd⟩,e⟩]at hy;rcases av.1 hy with g|g
   ·exact⟨(h.kn c d hc hd y g).1.mono (M _) (u _),(h.kn c d hc hd y g).2⟩
   ·rw[Il,ag e];exact Vw _ y g
  ·rw[ae (λz=>e z.2)]at hy;exact⟨(h.kn c d hc hd y hy).1.mono (M _) (u _),(h.kn c d hc hd y hy).2⟩
 ·rw[Qv];rw[Qv]at H Q;rw[zv]at hb;by_cases e:(a.e c d).1=i
  ·rw[ag e]at hb;rw[Il,ag e]at H Q;rcases ev.o _ hb y q H Q with⟨V,Y,U⟩|⟨V,s',Y,U,z4,z5⟩
   ·have:=h.o c d hc hd;unfold mr at this;rw[e]at this;exact(this V y q Y U).mono (M _)
   ·have J:xu (a.R (a.e c (1-d)).1).K (il s').1 (il s').2.1 (il s').2.2.1:=by
     rcases Y with Y|Y
     ·exact(G c d hc hd (aR e V) _ Y).1 s' (.inl rfl) U
     ·exact(G c d hc hd (aR e V) _ Y).1 s' (.inr rfl) U
    rw[z4]at J;exact(J.trans z5).mono (M _)
  ·rw[ae e]at hb;rw[Il,ae e]at H Q;exact(h.o c d hc hd hb y q H Q).mono (M _)
theorem CB.lost(h:CB a)(hl:vY a b):CB b:=by
 have hs:∀c d,(b.F c d).Sublist (a.F c d):=λc d=>by
  obtain⟨m,M⟩:=hl.2 c d;rw[M];exact ij _ _
 have Y:b.nc=a.nc:=by rw[hl.1]
 have Z:b.e=a.e:=by rw[hl.1]
 have V:b.R=a.R:=by rw[hl.1]
 have U:∀c d,mr b c d=mr a c d:=λc d=>by unfold mr;rw[Z,V]
 have Q:∀c d,jR b c d=jR a c d:=λc d=>by unfold jR;rw[Z,V]
 refine⟨λc d=> ?_,λc d=> ?_,λc d hc hd x hx=> ?_,λc d=> ?_⟩
 ·rw[Y,U,Q];exact h.gate c d
 ·rw[Y,U,Z];exact h.far c d
 ·rw[Z,V];exact h.kn c d (by rw[<-Y];exact hc) hd x ((hs c d).mem hx)
 ·rw[Y,U,Z,V];exact h.o c d
theorem CB.less(h:CB a)(Y:b.nc=a.nc)(Z:b.e=a.e)(V:b.R=a.R)(hs:∀c d,∀x∈b.F c d,x∈a.F c d):CB b:=by
 have U:∀c d,mr b c d=mr a c d:=λc d=>by unfold mr;rw[Z,V]
 have Q:∀c d,jR b c d=jR a c d:=λc d=>by unfold jR;rw[Z,V]
 refine⟨λc d=> ?_,λc d=> ?_,λc d hc hd x hx=> ?_,λc d=> ?_⟩
 ·rw[Y,U,Q];exact h.gate c d
 ·rw[Y,U,Z];exact h.far c d
 ·rw[Z,V];exact h.kn c d (by rw[<-Y];exact hc) hd x (hs c d x hx)
 ·rw[Y,U,Z,V];exact h.o c d
theorem QM {code id:Int} {os:List jG} (h:jJ code id os=0):os.length<=8:=by
 unfold jJ at h;split at h
 ·simp at h
 ·split at h
  ·simp at h
  ·omega
theorem CC(h:oD own seq es=0):(qC own seq es).length<=16:=by
 have:=(jw h).2.2.1;unfold qC;simp only[eM,xB];omega
theorem Xw(q:kG):∀x∈nR q,Bu x:=λx hx=>by
 unfold nR at hx;split at hx
 ·rename_i g
  rw[ar.1 hx];have:=QM g.1;refine sJ ?_ dX;unfold lR;simp only[eM,rh];omega
 ·simp at hx
theorem Ew {l:List kG} (h:x∈l.flatMap nR):Bu x:=by
 obtain⟨q,_,hx⟩:=aV.1 h;exact Xw q x hx
theorem Xx(h:Ek r i x p l)(hx:Bu x):∀y∈l,Bu y:=λy hy=>by
 cases h with
 |none h=>rw[h]at hy;simp at hy
 |link s _ _ _ h=>rw[h]at hy;exact Ew hy
 |heard s _ _ _ Z _ _ _ h=>
  rw[h]at hy;rw[ar.1 hy];have hv:oD (il s).1 (il s).2.1 (il s).2.2.1=0:=pv (by rw[<-Z]);have:=CC hv;exact sJ dU dX
 |H9 a b s hs h9 h1 hl h=>
  rw[h]at hy;rw[ar.1 hy];refine⟨by simp only[eM];omega,λk c u e=> ?_⟩;have Y:=(aB (aB (aB e).2).2).1;have hb:=hx.2 a b s hs;rw[<-Y];have:=mV ((b.toNat:Int)-1) dU (by have:=b.toNat_lt;omega);omega
theorem Xy(Q:IE r)(U:Own (r.iL i)):∀p,∀y∈je ((r.iL i).P p),Bu y:=λp y hy=>by
 obtain⟨H,A⟩:=wJ Q i;by_cases V:p=i
 ·subst V;rw[A]at hy;rcases av.1 hy with g|g
  ·exact Ew g
  ·split at g
   ·rename_i G
    rcases aQ.1 g with g|g
    ·rw[g];exact sJ gO dX
    ·split at g
     ·obtain⟨q,J,Z⟩:=aV.1 g;unfold Cz at Z;split at Z
      ·rw[ar.1 Z];have M:((iT r p).P p).L.st=9:=by
        unfold iT;rw[kx,ag rfl,rT];exact G
       have Y:(r.iL p).O p q.1=μ q.2:=by
        rw[kP,ae (by rw[M];simp),(lq r p p).2];exact wK J
       have:=CC (U.val _ _ (U.tie p q.1 q.2 Y));exact sJ dU dX
      ·simp at Z
     ·simp at g
   ·simp at g
 ·rw[H p V]at hy;simp at hy
theorem CB.mY {a:AN} (U:sX a)(Q:Norm a)(h:CB a) {B N:Nat} (M:uS B N a) {c d:Nat} (hc:c<a.nc)(hd:d<2)(up:Bool)(G:(kL (jR a c d) (if up=true then 0 else 1)).2.2=0):CB (a.mY c d up):=by
 obtain⟨hi,hp⟩:=U.en c d hc hd;obtain⟨a1,a2,a3,a4,a5⟩:=M.r _ hi;obtain⟨ev,oE⟩:=UM a2 (a.e c d).2 up;obtain⟨e1,e2,J⟩:=Ia (Q.emp (a.e c d).1) (a.e c d).2 up G;have V:=Oa (Q.emp (a.e c d).1) (a.e c d).2 up;have Z:∀q,(((a.R (a.e c d).1).iD (a.e c d).2 up).1.P q).pe=if q=(a.e c d).2 then nobody else((a.R (a.e c d).1).P q).pe:=λq=>by
  rw[J,(j1 _ _ _ _).2.2.2];by_cases g:q=(a.e c d).2
  ·rw[ag g,ag g]
  ·rw[ae g,ae g,kx,ae g]
 have hL:∀q,q≠(a.e c d).2->(((a.R (a.e c d).1).iD (a.e c d).2 up).1.P q).L=((a.R (a.e c d).1).P q).L:=λq V=>by
  rw[J,(j1 _ _ _ _).2.1,kx,ae V]
 refine h.op U (Ib _ _ _).1 (λj A=>(M.r j A).2.2.2.1) ev (λq y hy=> ?_) (λy hy=>absurd hy gO) λc' d' jN j3 H Y=> ?_
 ·obtain⟨u,rfl⟩:=V q y hy;refine⟨qN _ u dX dX dX,?_⟩;by_cases g:q=(a.e c d).2
  ·rw[g,e2]at hy;exact Ew hy
  ·rw[e1 q g]at hy;simp at hy
 ·by_cases g:(a.e c' d').2=(a.e c d).2
  ·rw[g,Z,ag rfl]at Y;exact absurd rfl Y
  ·rw[Z,ae g]at Y;rw[hL _ g];have:=h.gate c' d' jN j3;unfold mr jR at this;rw[H]at this;exact this Y
theorem CB.iD {a:AN} (hB:sX a)(hN:Norm a)(h:CB a) {B N:Nat} (U:uS B N a)(hl:N<1000000) {c:Nat} (hc:c<a.nc)(up:Bool)(H:∀d,d<2->(kL (jR a c d) (if up=true then 0 else 1)).2.2=0):CB (a.iD c up):=by
 obtain⟨b,hb⟩:=fW ((({a with iR:=jK a.iR c up}:AN).kZ c 0 []).kZ c 1 []);have Q:sX b:=hB.same (by rw[<-hb];rfl) (by rw[<-hb];rfl) (by rw[<-hb];rfl);have M:Norm b:=by rw[<-hb];exact hN
 have V:c<b.nc:=by rw[<-hb];exact hc
 have A:∀c' d',jR b c' d'=jR a c' d':=λc' d'=>by rw[<-hb];rfl
 have wz:CB b:=h.less (by rw[<-hb];rfl) (by rw[<-hb];rfl) (by rw[<-hb];rfl) λx f y hy=>by
  rw[<-hb]at hy;have Z:y∈(if x=c/\f=1 then []else if x=c/\f=0 then []else a.F x f):=hy;split at Z
  ·simp at Z
  ·split at Z
   ·simp at Z
   ·exact Z
 have Y:∃C,uS C N b:=by
  have w1:=Cy {a with iR:=jK a.iR c up} sw c 0;have j:=Cy (({a with iR:=jK a.iR c up}:AN).kZ c 0 []) sw c 1;have w3:=U.b;rw[hb]at j;have e1:({a with iR:=jK a.iR c up}:AN).W sw=a.W sw:=rfl;refine⟨B,by rw[<-hb];exact U.r,λx f hx hf y hy=> ?_,?_,U.one,by rw[<-hb];exact U.ms⟩
  ·rw[<-hb]at hy hx;have Z:y∈(if x=c/\f=1 then []else if x=c/\f=0 then []else a.F x f):=hy;split at Z
   ·simp at Z
   ·split at Z
    ·simp at Z
    ·exact U.f x f hx hf y Z
  ·have Z:sm (λi=>qx (b.R i)) (List.range b.n)=sm (λi=>qx (a.R i)) (List.range a.n):=by rw[<-hb];rfl
   omega
 obtain⟨C,Y⟩:=Y;have f0:=wk Q M V (by decide:0<2) up (by rw[A];exact H 0 dX);have h1:=wz.mY Q M Y V (by decide:0<2) up (by rw[A];exact H 0 dX);obtain⟨D,G⟩:=Az Q M Y hl V (by decide:0<2) up;have J:=(f0 c 1 V dX).1 dU;have u:=h1.mY (a:=b.mY c 0 up) (Q.same rfl rfl rfl) (qv M _ _) G V (by decide:1<2) up (by rw[J.1,A];exact H 1 dX);unfold AN.iD;rw[hb];exact u
theorem mc.YT(s:mc a T S b)(M:sX a)(J:Norm a)(V:uS B N a)(hl:N<1000000)(hX:qy X t a)(h:CB a):CB b:=by
 have MT:∀j,j<a.n->(a.R j).id=(j:Int)+1:=λj hj=>(V.r j hj).2.2.2.1;have hBl:=V.b;have Q:∀c d,c<a.nc->d<2->a.iR c=true->MK ((a.R (a.e c d).1).P (a.e c d).2):=λc d hc hd hi=>by
  have p:=hX.sN hc hd hi;have h6:=p.lu;have h9:=p.l.st;refine⟨?_,h.gate c d hc hd⟩;show tO (jR a c d).st=true;unfold tO;simp only[Bool.or_eq_true,beq_iff_eq,Bool.and_eq_true,decide_eq_true_eq];omega
 have sW:∀c d,c<a.nc->d<2->oK (a.iR c) ((a.R (a.e c d).1).P (a.e c d).2):=λc d hc hd=>by
  cases hi:a.iR c
  ·exact⟨by rw[ae gO];exact(hX.dn c hc hi d hd).2.1,h.gate c d hc hd⟩
  ·exact oK.up.2 (Q c d hc hd hi)
 cases s with
 |lost hl=>exact h.lost hl
 |tick i p hi G=>
  obtain⟨a1,a2,a3,a4,a5⟩:=V.r i hi;obtain⟨ev,hk⟩:=QL (J.emp i) a1 a2 a3 dU G a5;obtain⟨C,c1,_⟩:=Ay a1 a2 a3 dU G a5;have iF:=Xy (J.emp i) c1;refine h.op M (jx.iL (a.R i) p).id MT ev (λq y hy=>⟨hk q y hy,iF q y hy⟩) (λy hy=>absurd hy gO) λc d hc hd H Z=> ?_;have hE:=sW c d hc hd;rw[H]at hE;by_cases e:(a.e c d).2=p
  ·rw[e]at hE Z⊢;exact(Gi p hE).1.gate Z
  ·have hLq:(((a.R i).iL p).P (a.e c d).2).L=((a.R i).P (a.e c d).2).L:=by rw[AB,ae e]
   have hPq:(((a.R i).iL p).P (a.e c d).2).pe=((a.R i).P (a.e c d).2).pe:=by
    rw[kP];split
    ·rw[(j1 _ _ _ _).2.2.2,ae e];exact(lq _ _ _).2
    ·rw[((oV _ _).2.2.2.2 _).2.1,(j1 _ _ _ _).2.2.2,ae e];exact(lq _ _ _).2
   rw[hLq];rw[hPq]at Z;exact hE.gate Z
 |pop c d x l hc hd hF=>
  obtain⟨hi,G⟩:=M.en c (1-d) hc dU;obtain⟨a1,a2,a3,a4,a5⟩:=V.r _ hi;have Vy:x∈a.F c d:=by rw[hF];simp
  have lL:=hX.yh hc hd Vy;obtain⟨ev,hk⟩:=QK (J.emp (a.e c (1-d)).1) a2 (a.e c (1-d)).2 x;obtain⟨m1,_⟩:=pK (J.emp (a.e c (1-d)).1) (a.e c (1-d)).2 x;have wZ:CB (a.kZ c d l):=h.less rfl rfl rfl λy f z hz=>by
   rw[rU]at hz;split at hz
   ·rename_i e;rw[e.1,e.2,hF];simp[hz]
   ·exact hz
  unfold AN.pop;refine wZ.op (a:=a.kZ c d l) (M.same rfl rfl rfl) (Ky a2 _ x).2.1 MT ev (λq y hy=>⟨hk q y hy,Xx (m1 q) (h.kn c d hc hd x Vy).2 y hy⟩) (λy hy=>⟨c,d,hc,hd,rfl,?_⟩) λc' d' jN Y H Z=> ?_
  ·injection hy with hy;rw[<-hy];exact(h.kn c d hc hd x Vy).1
  ·have hG:=Gh (r:=a.R (a.e c (1-d)).1) (a.e c (1-d)).2;cases x with
   |nil=>
    have:=h.gate c' d' jN Y;unfold mr jR at this;rw[show(a.e c' d').1=(a.e c (1-d)).1 from H]at this;exact this Z
   |cons k u=>
    obtain⟨g1,g2⟩:=hG k u (Q c (1-d) hc dU lL);by_cases e:(a.e c' d').2=(a.e c (1-d)).2
    ·have e':((a.kZ c d l).e c' d').2=(a.e c (1-d)).2:=e;rw[e']at Z⊢;exact g1.2 Z
    ·obtain⟨z1,z2⟩:=g2 _ e;have:=h.gate c' d' jN Y;unfold mr jR at this;rw[show(a.e c' d').1=(a.e c (1-d)).1 from H]at this;have Z5:(((a.R (a.e c (1-d)).1).take (a.e c (1-d)).2 k u).P (a.e c' d').2).pe.who≠0:=Z;rw[z2]at Z5;show(((a.R (a.e c (1-d)).1).take (a.e c (1-d)).2 k u).P (a.e c' d').2).L.st=9;rw[z1];exact this Z5
 |send i t tx hi ht1 ht6 hlen=>
  obtain⟨s1,s2,s3,s4,s5⟩:=mJ (a.R i) (t,8,tx);obtain⟨j,g1,g2⟩:=CA (J.emp i) (t,8,tx);refine h.op M s3 MT (uT.alike 0 ν s1 s2 λj=>(s5 j).2.1) (λq y hy=> ?_) (λy hy=>absurd hy gO) λc d hc hd H Z=> ?_
  ·by_cases e:q=j
   ·subst e;rcases g2 with g|⟨_,g⟩
    ·rw[g]at hy;simp at hy
    ·rw[g]at hy;rw[ar.1 hy];refine⟨qN _ _ dX dX dX,by simp only[eM];omega,λk b u e=> ?_⟩;rw[<-(aB (aB (aB e).2).2).1];show(jO ((8:Int)-1)).toNat<=7;decide
   ·rw[g1 q e]at hy;simp at hy
  ·rw[(s5 _).2.1]at Z;rw[(s5 _).2.2];have:=h.gate c d hc hd;unfold mr jR at this;rw[H]at this;exact this Z
 |iD c hc hi _ _=>exact h.iD M J V hl hc true λd hd=>(Dj (hX.dn c hc hi d hd).2.1).1
 |draw c hc hi=>exact h.iD M J V hl hc false λd hd=>(sG (Q c d hc hd hi).1).1
 |anew i m hi hd=>
  obtain⟨b,hb⟩:=fW (({a with R:=jK a.R i (jE ((i:Int)+1) 3 (a.ms i)),ib:=jK a.ib i ((a.ib i).take m)}:AN));rw[hb];have e1:b.nc=a.nc:=by rw[<-hb]
  have e3:b.e=a.e:=by rw[<-hb]
  have e4:b.F=a.F:=by rw[<-hb]
  have A:∀j,b.R j=if j=i then jE ((i:Int)+1) 3 (a.ms i)else a.R j:=λj=>by rw[<-hb];rfl
  have oE:∀c d,mr b c d=if(a.e c d).1=i then nobody else mr a c d:=λc d=>by
   unfold mr;rw[e3,A];by_cases e:(a.e c d).1=i
   ·rw[ag e,ag e];rfl
   ·rw[ae e,ae e]
  have oQ:∀c d,(a.e c d).1≠i->jR b c d=jR a c d:=λc d e=>by unfold jR;rw[e3,A,ae e]
  have kT:∀c d,c<a.nc->d<2->(a.e c (1-d)).1=i->(mr a c d).both=false:=λc d hc Y e=>by
   have lL:=(hd c (1-d) hc dU e).1;have jY:=(hX.dn c hc lL d Y).2.1;have Z:(mr a c d).who=0:=by
    by_cases g:(mr a c d).who=0
    ·exact g
    ·have:=h.gate c d hc Y g;omega
   have hx:=M.en c d hc Y;have G:=(V.r _ hx.1).2.1.pe (a.e c d).2 (by rw[(V.r _ hx.1).2.2.2.2];exact hx.2);cases hb:(mr a c d).both
   ·rfl
   ·have:=G.both hb;unfold mr at Z;omega
  refine⟨λc d hc Y Z=> ?_,λc d hc Y Z=> ?_,λc d hc Y x hx=> ?_,λc d hc Y U y q h1 h2=> ?_⟩
  ·rw[e1]at hc;rw[oE]at Z;by_cases e:(a.e c d).1=i
   ·rw[ag e]at Z;exact absurd rfl Z
   ·rw[ae e]at Z;rw[oQ c d e];exact h.gate c d hc Y Z
  ·rw[e1]at hc;rw[oE]at Z⊢;rw[e3];by_cases e:(a.e c d).1=i
   ·rw[ag e]at Z;exact absurd rfl Z
   ·rw[ae e]at Z⊢;exact h.far c d hc Y Z
  ·rw[e1]at hc;rw[e4]at hx;rw[e3];by_cases e:(a.e c d).1=i
   ·obtain⟨_,f0,f1⟩:=hd c d hc Y e;have:d=0 \/d=1:=dU;rcases this with rfl|rfl
    ·rw[f0]at hx;simp at hx
    ·rw[f1]at hx;simp at hx
   ·rw[A,ae e];exact h.kn c d hc Y x hx
  ·rw[e1]at hc;rw[oE]at U;rw[e3]at h1 h2⊢;by_cases e:(a.e c d).1=i
   ·rw[ag e]at U;exact absurd U (by simp[nobody])
   ·rw[ae e]at U;rw[A,ae e]at h1 h2;by_cases e2:(a.e c (1-d)).1=i
    ·rw[kT c d hc Y e2]at U;exact absurd U gO
    ·rw[A,ae e2];exact h.o c d hc Y U y q h1 h2
structure Inv(N:Nat)(t:Nat×Nat->Nat)(a:AN):Prop where
 qw:sX a
 nrm:Norm a
 own:∃B,uS B N a
 lk:∃X,qy X t a
 fl:CB a
theorem Inv.step(s:mc a T S b)(h:Inv N t a)(hl:N<1000000)(V:∀x,t x<=126):Inv (N+8*T.length) (pN t T) b:=by
 obtain⟨B,Y⟩:=h.own;obtain⟨X,Z⟩:=h.lk;exact⟨h.qw.same s.same.1 s.same.2.1 s.same.2.2.1,s.norm h.nrm,s.own h.qw h.nrm Y hl,s.links h.qw h.nrm Z V,s.YT h.qw h.nrm Y hl Z h.fl⟩
theorem Inv.path(s:jL a T S b)(h:Inv N t a)(hl:N+8*T.length<1000000)(Z:∀x,pN t T x<=126):Inv (N+8*T.length) (pN t T) b:=by
 induction s with
 |nil=>rw[oL];exact h
 |snoc p s ih=>
  rw[Bt]at Z⊢;rw[az]at hl⊢;have V:=ih dU λx=>Nat.le_trans (Nat.le_add_right _ _) (Z x);have Y:=V.step s dU λx=>Nat.le_trans (Nat.le_add_right _ _) (Z x);have e:∀x y:Nat,N+8*(x+y)=N+8*x+8*y:=λx y=>dU;rw[e];exact Y
theorem uS.mono {M:Nat} (h:uS B N a)(Z:N<=M):uS B M a:=⟨h.r,h.f,Nat.le_trans h.b Z,h.one,h.ms⟩
theorem Inv.mono {N M:Nat} {t u:Nat×Nat->Nat} {a:AN} (h:Inv N t a)(Z:N<=M)(V:∀x,t x<=u x):Inv M u a:=by
 obtain⟨B,U⟩:=h.own;obtain⟨X,Y⟩:=h.lk;exact⟨h.qw,h.nrm,⟨B,U.mono Z⟩,⟨X,Y.mono V⟩,h.fl⟩
theorem Inv.act(hF:jo y)(U:GN y)(Q:jT y D 0)(V:D<=800000000)(h:Inv N (λ_=>k) (iz y))(hl:N+144<1000000)(M:k+1<=126)(v:AV):Inv (N+144) (λ_=>k+1) (iz (sg y v)):=by
 obtain⟨T,Z,Y⟩:=Kw hF U Q V v;have hlen:=Z.len;exact(h.path Y dU λx=>Nat.le_trans (m7 Z.nd k x) M).mono dU (m7 Z.nd k)
def Deep(t:Nat×Nat->Nat)(a:AN)(D:Nat->Nat->Nat):Prop:=∃X,qy X t a/\∀c d,c<a.nc->d<2->∀x∈a.F c d,wX (X c d) x<=D c d
theorem Xz(X:Int->Bool)(x:kM):1<=wX X x:=by
 unfold wX;cases Br 1 x with
 |some i=>simp only;split<;>decide
 |none=>
  simp only;split<;>omega
theorem yc.deep(h:yc c d l a b)(H:sX a)(G:Norm a)(ht:∀x,t x<=127)(hX:qy X t a)(hc:c<a.nc)(hd:d<2)(rest:List kM)(hF:a.F c d=l++rest)(k:Nat)(hk:∀x∈l,wX (X c d) x<=k+1):
 ∃Y,qy Y t b/\∀c' d',c'<a.nc->d'<2->∃J,KH X Y a b c' d' (if c'=c/\d'=d then rest else a.F c' d') J/\∀y∈J,wX (Y c' d') y<=k:=by
 induction h generalizing X rest with
 |nil a=>
  refine⟨X,hX,λc' d' _ _=>⟨[],⟨?_,λ_ _=>⟨rfl,rfl⟩⟩,λ_ h=>by simp at h⟩⟩;rw[aC];split
  ·rename_i e;rw[e.1,e.2,hF];rfl
  ·rfl
 | @cons a b x l r h1 h2 h3 h4 ih=>
   have M:r=l++rest:=by rw[hF]at h3;exact(aB h3).2.symm
   obtain⟨Y,hY,pp⟩:=hX.pop H G ht hc hd h3;have rA:(a.pop c d x r).nc=a.nc:=rfl;obtain⟨U,V,de0⟩:=pp.fl c d hc hd;rw[ag ⟨rfl,rfl⟩]at V;have hx:=hk x gO;have Qw:(a.pop c d x r).F c d=l++(rest++U):=by rw[V.f,M,aD]
   obtain⟨Z,hZ,q⟩:=ih (H.same rfl rfl rfl) (qv (a:=a.kZ c d r) G _ _) hY hc (rest++U) Qw λy hy=>by
    rw[(V.o y (by rw[M];simp[hy])).1];exact hk y (by simp[hy])
   refine⟨Z,hZ,λc' d' jN j=> ?_⟩;obtain⟨A,f1,g1⟩:=q c' d' jN j;obtain⟨Q,f2,u⟩:=pp.fl c' d' jN j;by_cases e:c'=c/\d'=d
   ·rw[ag e]at f1 f2⊢;obtain⟨z1,z2⟩:=e;subst z1 z2;have he:Q=U:=by
     have:=f2.f.symm.trans V.f;exact List.append_cancel_left this
    subst he;refine⟨Q++A,⟨by rw[f1.f,aD],λy hy=> ?_⟩,λy hy=> ?_⟩
    ·have o1:=f1.o y (by simp[hy]);have o2:=f2.o y (by rw[M];simp[hy]);exact⟨o1.1.trans o2.1,o1.2.trans o2.2⟩
    ·rcases av.1 hy with g|g
     ·rw[(f1.o y (by simp[g])).1];have:=u y g;omega
     ·exact g1 y g
   ·rw[ae e]at f1 f2⊢;refine⟨Q++A,⟨by rw[f1.f,f2.f,aD],λy hy=> ?_⟩,λy hy=> ?_⟩
    ·have o1:=f1.o y (by rw[f2.f];simp[hy]);have o2:=f2.o y hy;exact⟨o1.1.trans o2.1,o1.2.trans o2.2⟩
    ·rcases av.1 hy with g|g
     ·rw[(f1.o y (by rw[f2.f];simp[g])).1];have:=u y g;omega
     ·exact g1 y g
theorem Deep.lost {t:Nat×Nat->Nat} {a b:AN} {D:Nat->Nat->Nat} (h:Deep t a D)(hl:vY a b):Deep t b D:=by
 obtain⟨X,Y,Z⟩:=h;refine⟨X,Y.lost hl,λc d hc hd x hx=>Z c d (by rw[hl.1]at hc;exact hc) hd x ?_⟩;obtain⟨m,V⟩:=hl.2 c d;rw[V]at hx;exact cU hx
structure Full(y:iI)(c d:Nat)(y':iI):Prop where
 ps:yc c d ((iz y).F c d) (iz y) (iz (y.jg c d ((y.C c).on d).length))/\vY (iz (y.jg c d ((y.C c).on d).length)) (iz y')/\(Room (y.jg c d ((y.C c).on d).length)->iz y'=iz (y.jg c d ((y.C c).on d).length))
 rv:∀x f,x<y.nc->f<2->jM (y.jg c d ((y.C c).on d).length) x f=(if x=c/\f=d then k9 else jM y x f)/\((y.jg c d ((y.C c).on d).length).C x).on f=if x=c/\f=d then []else(y.C x).on f
 rd:∀x f,x<y.nc->f<2->jM y' x f=if x=c/\f=d then k9 else jM y x f
 on:∀x f,x<y.nc->f<2->∃ps:List kM,(∀p∈ps,xt p)/\(y'.C x).on f=(if x=c/\f=d then []else(y.C x).on f)++ps.flatMap Plain.kF
theorem AF {y1:iI} (u:jo y1)(x f:Nat)(hx:x<y1.nc)(hf:f<2):jM y1.gather x f=jM y1 x f/\∃ps:List kM,(∀p∈ps,xt p)/\(y1.gather.C x).on f=(y1.C x).on f++ps.flatMap Plain.kF:=by
 have Y:∀k,k<=y1.nc->(∀x f,x<y1.nc->f<2->jM (y1.jQ k) x f=jM y1 x f/\∃ps:List kM,(∀p∈ps,xt p)/\((y1.jQ k).C x).on f=(y1.C x).on f++ps.flatMap Plain.kF):=λk=>by
  induction k with
  |zero=>intro _ x f _ _;exact⟨rfl,[],λ_ h=>by simp at h,by show(y1.C x).on f=_;simp⟩
  |succ k ih=>
   intro hk x f hx hf;have one:∀(z:iI) (i:Nat),jo z->i<2->z.nc=y1.nc->jM (z.kD k i) x f=jM z x f/\∃ps:List kM,(∀p∈ps,xt p)/\((z.kD k i).C x).on f=(z.C x).on f++ps.flatMap Plain.kF:=λz i hz hi Qd=>by
    refine⟨?_,?_⟩
    ·unfold jM;rw[((mD z k i).2.2.2.2 x).1,Ai];split<;>rfl
    ·rw[Cv];split
     ·rename_i e
      obtain⟨ps,M⟩:=hz.o ((z.C k).e i).1 ((z.C k).e i).2;exact⟨ps,M.2,by rw[e.1,e.2.1,M.1]⟩
     ·exact⟨[],λ_ h=>by simp at h,gO⟩
   have Q:=jo.jQ u k dU;have Z:(y1.jQ k).nc=y1.nc:=(jU y1 k).2.1;obtain⟨i1,j,H,A⟩:=ih dU x f hx hf;obtain⟨J,p2,a2,G⟩:=one (y1.jQ k) 0 Q dX Z;obtain⟨b1,p3,b2,b3⟩:=one ((y1.jQ k).kD k 0) 1 (Q.kD k 0 (by rw[Z];omega)) dX Z;refine⟨b1.trans (J.trans i1),j++p2++p3,λp hp=> ?_,?_⟩
   ·rcases av.1 hp with g|g
    ·exact(av.1 g).elim (H p) (a2 p)
    ·exact b2 p g
   ·show(((y1.jQ k).kD k 0).kD k 1|>.C x).on f=_;rw[b3,G,A];simp
 have U:∀x f,jM ((y1.jQ y1.nc).lW y1.n) x f=jM (y1.jQ y1.nc) x f/\(((y1.jQ y1.nc).lW y1.n).C x).on f=((y1.jQ y1.nc).C x).on f:=λx f=>by
  obtain⟨_,_,_,V⟩:=nE (y1.jQ y1.nc) y1.n;refine⟨?_,by rw[V]⟩;unfold jM;rw[V,(vR (y1.jQ y1.nc) _ y1.n).1];split<;>rfl
 unfold iI.gather;rw[(U x f).1,(U x f).2];exact Y y1.nc (Nat.le_refl _) x f hx hf
theorem uC(hF:jo y)(J:jT y D 0)(hD:D<=900000000)(hc:c<y.nc)(hd:d<2):Full y c d (y.deliver c d 2000).1:=by
 have u:=J.nZ;have hlen:=J.ol c d hc hd;have he:(y.deliver c d 2000).1=(y.jg c d ((y.C c).on d).length).gather:=by
  unfold iI.deliver;rw[ae dU];show(y.jg ((c:Int)).toNat ((d:Int)).toNat (min (2000:Int).toNat ((y.C ((c:Int)).toNat).on ((d:Int)).toNat).length)).gather=_;rw[Int.toNat_natCast,Int.toNat_natCast,Nat.min_eq_right (by show _<=2000;exact hlen)]
 rw[he];obtain⟨l,rest,h1,h2,h3⟩:=Ef hF u c d ((y.C c).on d).length hc hd;have hq:=hF.q c d hc hd;have ho:=J.Ux c d hc hd;have Uu:si y c d=(j9 (jM y c d) ((y.C c).on d)).1:=by unfold si;rw[jj ho,aC]
 have hl:l=(j9 (jM y c d) ((y.C c).on d)).1:=by rw[h2,bX]
 have hr:rest=[] :=by
  rw[Uu,<-hl]at h1;have:=congrArg List.length h1;rw[az]at this;exact aH dU
 have U:(iz y).F c d=l:=by
  show(if c<y.nc/\d<2 then si y c d else [])=_;rw[ag ⟨hc,hd⟩,Uu,hl]
 have hp:=aa4 l [] (iz y) c d (vZ y) hc hd (by rw[U,aC]);have kK:=J.jg (q:=((y.C c).on d).length) dU hc hd;have H:=hF.jg u c d ((y.C c).on d).length hc hd;have G:=oU H kK.nZ;obtain⟨Y,Z⟩:=fW (y.jg c d ((y.C c).on d).length);obtain⟨s1,s2,s3,s4⟩:=qI y c d ((y.C c).on d).length;have Q:∀x e,(Y.C x).on e=if x=c/\e=d then []else(y.C x).on e:=λx e=>by
  rw[<-Z];show((if x=c then {y.C c with on:=jK (y.C c).on d (((y.C c).on d).drop ((y.C c).on d).length)}else y.C x):pT).on e=_;by_cases ex:x=c
  ·rw[ag ex];show jK (y.C c).on d _ e=_;by_cases ed:e=d
   ·rw[ed,iu,ag ⟨ex,rfl⟩,List.drop_length]
   ·rw[iq _ _ ed,ae (λh=>ed h.2),ex]
  ·rw[ae ex,ae (λh=>ex h.1)]
 have V:∀x f,x<y.nc->f<2->jM Y x f=if x=c/\f=d then k9 else jM y x f:=λx f hx hf=>by
  obtain⟨g1,g2,_⟩:=Gl (y.R ((y.C c).e (1-d)).1) ((y.C c).e (1-d)).2 (((y.C c).on d).take ((y.C c).on d).length);have hR:∀j,Y.R j=if j=((y.C c).e (1-d)).1 then(y.R ((y.C c).e (1-d)).1).recv ((y.C c).e (1-d)).2 (((y.C c).on d).take ((y.C c).on d).length)else y.R j:=λj=>by rw[<-Z];rfl
  unfold jM;rw[show(Y.C x).e=(y.C x).e by rw[<-Z];exact(s4 x).1,hR];by_cases e:x=c/\f=d
  ·rw[ag e,e.1,e.2,ag rfl,g1,bX];have:=hq.1;unfold jM at this;rw[this]
  ·rw[ae e];by_cases M:((y.C x).e (1-f)).1=((y.C c).e (1-d)).1
   ·rw[ag M,g2 _ (λe3=> ?_),M];have:=u.ds x (1-f) c (1-d) hx dU hc dU (aR M e3);exact e ⟨this.1,dU⟩
   ·rw[ae M]
 rw[hr]at h3;rw[Z]at h3 H kK G⊢;have l9:Y.nc=y.nc:=by rw[<-Z];exact s2
 have A:yc c d l (iz y) (iz Y):=by rw[h3];exact hp
 refine⟨by rw[U,Z];exact⟨A,G.1,G.2⟩,λx f hx hf=>by rw[Z];exact⟨V x f hx hf,Q x f⟩,λx f hx hf=> ?_,λx f hx hf=> ?_⟩
 ·rw[(AF H x f (by rw[l9];exact hx) hf).1];exact V x f hx hf
 ·obtain⟨_,ps,g1,g2⟩:=AF H x f (by rw[l9];exact hx) hf;exact⟨ps,g1,by rw[g2,Q]⟩
theorem Full.deep {y y':iI} {c d:Nat} (h:Full y c d y')(G:sX (iz y))(hc:c<y.nc)(hd:d<2) {t:Nat×Nat->Nat} (ht:∀x,t x<=127) {D:Nat->Nat->Nat} {k:Nat} (hk:∀x f,D x f<=k+1)(A:∀x f,k<=D x f)(g:Deep t (iz y) D):Deep t (iz y') λx f=>if x=c/\f=d then k else D x f:=by
 obtain⟨z,J⟩:=fW (iz (y.jg c d ((y.C c).on d).length));obtain⟨U,Q,_⟩:=h.ps;rw[J]at U Q;obtain⟨X,H,V⟩:=g;obtain⟨Y,M,q⟩:=U.deep G (vZ y) ht H hc hd [] (by rw[aC]) k λx hx=>Nat.le_trans (V c d hc hd x hx) (hk c d);have j:z.nc=y.nc:=U.path.same.2.1;refine Deep.lost ⟨Y,M,λx f hx hf p Z=> ?_⟩ Q;rw[j]at hx;obtain⟨em,f1,g1⟩:=q x f hx hf;rw[f1.f]at Z;show wX (Y x f) p<=if x=c/\f=d then k else D x f
 by_cases e:x=c/\f=d
 ·rw[ag e];rw[ag e]at Z;exact g1 p (by simpa using Z)
 ·rw[ae e];rw[ae e]at Z f1;rcases av.1 Z with u|u
  ·rw[(f1.o p u).1];exact V x f hx hf p u
  ·exact Nat.le_trans (g1 p u) (A x f)
def sY(y:iI)(x f:Nat):Prop:=jM y x f=k9/\∃ps,Frames ((y.C x).on f) ps
theorem Full.rest {y':iI} (h:Full y c d y') {x f:Nat} (hx:x<y.nc)(hf:f<2)(g:(x=c/\f=d) \/sY y x f):sY y' x f:=by
 have Y:=h.rd x f hx hf;obtain⟨ps,Z,M⟩:=h.on x f hx hf;unfold sY;rw[Y,M];by_cases e:x=c/\f=d
 ·rw[ag e,ag e];exact⟨rfl,ps,rfl,Z⟩
 ·rw[ae e,ae e];obtain⟨g1,qs,V,Q⟩:=g.resolve_left e;exact⟨g1,qs++ps,by rw[V,bZ],λp U=>(av.1 U).elim (Q p) (Z p)⟩
theorem Ex {y:iI} {Z:Nat} (hF:jo y)(V:jT y Z 0)(J:Z<=890000000) {t:Nat×Nat->Nat} (H:∀x,t x<=127)(k:Nat)(g:Deep t (iz y) λ_ _=>k+1):∀q,q<=y.nc->Deep t (iz (y.jF q)) (λx _=>if x<q then k else k+1)/\∀x f,x<q->f<2->sY (y.jF q) x f
 |0,_=>⟨by simp only[Nat.not_lt_zero,if_false];exact g,λx f h=>dU⟩
 |q+1,hq=>by
  have c9:=V.c9;obtain⟨u,r1⟩:=Ex hF V J H k g q dU;have f1:=jo.jF hF V J q dU;have k1:=V.jF J q dU;have n1:(y.jF q).nc=y.nc:=(lp y q).2.1;have d1:=uC f1 k1 dU (c:=q) (d:=0) (by rw[n1];omega) dX;have f2:=f1.deliver k1 (q:Int) 0 2000;have k2:=k1.deliver dU (q:Int) 0 2000;have M:((y.jF q).deliver (q:Int) 0 2000).1.nc=y.nc:=(mE (y.jF q) (q:Int) 0 2000).2.1.trans n1;have d2:=uC f2 k2 dU (c:=q) (d:=1) (by rw[M];omega) dX;have b1:∀x:Nat,(if x<q then k else k+1)<=k+1/\k<=(if x<q then k else k+1):=λx=>by split<;>exact⟨dU,dU⟩
  have b2:∀x f:Nat,(if x=q/\f=0 then k else if x<q then k else k+1)<=k+1/\k<=(if x=q/\f=0 then k else if x<q then k else k+1):=λx f=>by
   split
   ·exact⟨dU,dU⟩
   ·exact b1 x
  have A:=d1.deep k1.qw (by rw[n1];omega) dX H (k:=k) (λx _=>(b1 x).1) (λx _=>(b1 x).2) u;have e2:=d2.deep k2.qw (by rw[M];omega) dX H (k:=k) (λx f=>(b2 x f).1) (λx f=>(b2 x f).2) A;refine⟨?_,λx f hx hf=> ?_⟩
  ·obtain⟨X,j,hd⟩:=e2;refine⟨X,j,λc d hc j3 p hp=> ?_⟩;have:=hd c d hc j3 p hp;simp only at this;have U:d=0 \/d=1:=dU;show wX (X c d) p<=if c<q+1 then k else k+1
   by_cases Y:c<q
   ·rw[ae dU,ae dU,ag Y]at this;rw[ag dU];exact this
   ·by_cases G:c=q
    ·rw[ag dU];rcases U with rfl|rfl
     ·rw[ae dU,ag ⟨G,rfl⟩]at this;exact this
     ·rw[ag ⟨G,rfl⟩]at this;exact this
    ·rw[ae dU,ae dU,ae Y]at this;rw[ae dU];exact this
  ·have Q:x<y.nc:=dU;have U:f=0 \/f=1:=dU;refine d2.rest (by rw[M];exact Q) hf ?_;by_cases e:x=q
   ·rcases U with rfl|rfl
    ·exact .inr (d1.rest (by rw[n1];exact Q) hf (.inl ⟨e,rfl⟩))
    ·exact .inl ⟨e,rfl⟩
   ·exact .inr (d1.rest (by rw[n1];exact Q) hf (.inr (r1 x f dU hf)))
theorem Deep.mono {D E:Nat->Nat->Nat} (h:Deep t a D)(V:∀c d,c<a.nc->D c d<=E c d):Deep t a E:=by
 obtain⟨X,Y,Z⟩:=h;exact⟨X,Y,λc d hc hd x hx=>Nat.le_trans (Z c d hc hd x hx) (V c d hc)⟩
theorem Ey {y:iI} {Z:Nat} (hF:jo y)(Y:jT y Z 0)(V:Z<=810000000) {t:Nat×Nat->Nat} (Q:∀x,t x<=127)(g:Deep t (iz y) λ_ _=>8):∀j,j<=12->Deep t (iz (y.turns j)) (λ_ _=>8-j)/\(1<=j->∀x f,x<y.nc->f<2->sY (y.turns j) x f)
 |0,_=>⟨g,λh=>dU⟩
 |j+1,hj=>by
  obtain⟨J,_⟩:=Ey hF Y V Q g j dU;have n1:(y.turns j).nc=y.nc:=(qj y j).2.1;have U:=Ex (jo.turns hF Y V j dU) (Y.turns V j dU) dU Q (8-j-1) (J.mono λ_ _ _=>dU) y.nc (by rw[n1];exact Nat.le_refl _);have M:((y.turns j).jF y.nc).nc=y.nc:=(lp (y.turns j) y.nc).2.1.trans n1;refine⟨U.1.mono λc _ hc=> ?_,λ_ x f hx hf=>U.2 x f hx hf⟩;have H:c<y.nc:=by rw[<-M];exact hc
  show(if c<y.nc then 8-j-1 else 8-j-1+1)<=8-(j+1);rw[ag H];omega
structure Still(y:iI):Prop where
 f:∀c d,c<y.nc->d<2->(iz y).F c d=[]
 r:∀c d,c<y.nc->d<2->sY y c d
theorem CB.deep(Z:qy X t a)(h:CB a):Deep t a λ_ _=>8:=by
 refine⟨X,Z,λc d hc hd x hx=> ?_⟩;have Y:=(h.kn c d hc hd x hx).2.2;unfold wX;cases Br 1 x with
 |some i=>simp only;split<;>decide
 |none=>
  simp only;split
  ·decide
  ·rename_i k b s
   have:=Y k b s rfl;omega
  ·decide
theorem Bv {Z:Nat} (hF:jo y)(V:jT y Z 0)(M:Z<=800000000)(h:Inv N (λ_=>k) (iz y))(hl:N+144<1000000)(j:k+1<=126):Still y.round:=by
 have n6:=V.n6;have u:=ye hF V M y.n (Nat.le_refl _);obtain⟨t1,t2,_⟩:=oh y.n;have Q:=h.path u (by rw[t2];omega) λx=>Nat.le_trans (m7 t1 k x) j;obtain⟨X,A⟩:=Q.lk;have hd:=Q.fl.deep A;obtain⟨d1,d2⟩:=Ey (hF.iN y.n) (V.iN M y.n n6) dU (λx=>by have:=m7 t1 k x;omega) hd 12 (Nat.le_refl _);have n1:(y.iN y.n).nc=y.nc:=(nY y y.n).2.1;have G:y.round.nc=y.nc:=(kr y).2.1;refine⟨λc d hc U=> ?_,λc d hc U=>d2 dX c d (by rw[n1,<-G];exact hc) U⟩;obtain⟨Y,_,H⟩:=d1;cases J:(iz y.round).F c d with
 |nil=>rfl
 |cons x l=>
  have h3:wX (Y c d) x<=8-12:=H c d hc U x (by show x∈(iz y.round).F c d;rw[J];simp);have h4:=Xz (Y c d) x;omega
