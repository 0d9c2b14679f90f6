import Derived.Test.YtieklnlbljejdaaGreatDoorW12
open Option renaming none → ν, some → μ
open List renaming range → gg, length_cons → eT, sublist_nil → iA, flatMap → iB
namespace Go.Proofs.YtieklnlbljejdaaGreatDoor
open Go.RowKit St
namespace Rt
variable {B N c d d' p t:Nat} {F Fi Fo G em l ps:List lv} {L L' M:LS} {S:List (Int×List UInt8)} {T:List (Nat×Nat)} {X Y:Int->Bool} {a b:AN} {code g g' h i id ow:Int} {r s:iO} {x:lv}
structure vO(B N:Nat)(a:AN):Prop where
 r:∀i,i<a.n->Own (a.R i)/\lD (a.R i)/\mA B (a.R i)/\(a.R i).id=(i:Int)+1/\(a.R i).n=3
 f:∀c d,c<a.nc->d<2->∀x∈a.F c d,Ag B x
 b:B+a.W sw+sm (λi=>rh (a.R i)) (gg a.n)<=N
 one:1<=B
 ms:∀i p,i<a.n->p<3->1<=a.ms i p/\a.ms i p<=20
theorem WC(h:Own s):Own s.core:=h.alike rfl rfl rfl rfl λ_=>⟨rfl,rfl,rfl⟩
theorem ZA(h:lD s):lD s.core:=⟨h.id,h.m,h.pe,h.own,h.PE⟩
theorem own_op(hB:tP a)(h:vO B N a)(i:Nat)(hi:i<a.n)(s:iO)(C k:Nat)(A:Own s)(y:lD s)(u:mA C s)(h4:s.id=(i:Int)+1)(h5:s.n=3)(Z:B<=C)(U:∀p,∀x∈jo (s.P p),Ag C x)(hb:C+rh s+(sm sw (jo (s.P 0))+sm sw (jo (s.P 1))+sm sw (jo (s.P 2)))<=B+rh (a.R i)+k):vO C (N+k) (a.op i s):=by
 refine⟨λj hj=> ?_,λc d hc hd x hx=> ?_,?_,by have:=h.one;omega,h.ms⟩
 ·show Own (jW a.R i s.core j)/\lD (jW a.R i s.core j)/\mA C (jW a.R i s.core j)/\(jW a.R i s.core j).id=_/\(jW a.R i s.core j).n=3;by_cases e:j=i
  ·rw[e,iF];exact⟨WC A,ZA y,u.alike (s:=s.core) rfl,h4,h5⟩
  ·rw[iE _ _ e];obtain⟨Q,J,H,E,D⟩:=h.r j hj;exact⟨Q,J,H.mono Z,E,D⟩
 ·rw[vN]at hx;split at hx
  ·rcases av.1 hx with e|e
   ·exact(h.f c d hc hd x e).mono Z
   ·exact U _ x e
  ·exact(h.f c d hc hd x hx).mono Z
 ·have h6:=adJ hB i s sw;have h7:sm (λj=>rh ((a.op i s).R j)) (gg a.n)+rh (a.R i)<=sm (λj=>rh (a.R j)) (gg a.n)+rh s:=by
   have V:sm (λj=>rh ((a.op i s).R j)+(if j=i then rh (a.R i)else 0)) (gg a.n)<=sm (λj=>rh (a.R j)+(if j=i then rh s else 0)) (gg a.n):=vH λj _=>by
    show rh (jW a.R i s.core j)+_<=_;by_cases e:j=i
    ·subst e;rw[iF,ai rfl,ai rfl];have:rh s.core=rh s:=rfl;omega
    ·rw[iE _ _ e,af e,af e];exact Nat.le_refl _
   rw[Fx,Fx,JL i _ bV,JL i _ bV,ai (aP.2 hi),ai (aP.2 hi)]at V;exact V
  have h8:=h.b;show C+(a.op i s).W sw+sm (λj=>rh ((a.op i s).R j)) (gg a.n)<=N+k;omega
theorem xL {F:Int->Option PS} {y:Int×PS} (h:y∈lJ F):F y.1=μ y.2:=by
 unfold lJ at h;obtain⟨j,_,Z⟩:=cB.1 h;cases e:F ((j:Int)+1)with
 |none=>rw[e]at Z;simp at Z
 |some q=>rw[e]at Z;simp only[Option.map_some,Option.some.injEq]at Z;rw[<-Z];exact e
theorem rT {l:List kP} (h:x∈l.flatMap ox):∃s,x=76::s:=by
 obtain⟨q,_,Z⟩:=aT.1 h;unfold ox at Z;split at Z
 ·exact⟨_,ar.1 Z⟩
 ·simp at Z
theorem Ah:∀ {l:List lv},(∀x∈l,sw x=0)->sm sw l=0
 |[],_=>rfl
 |x::l,h=>by
  have:=Ah (l:=l) λy hy=>h y (by simp[hy]);have h1:=h x gZ;show sw x+sm sw l=0;omega
theorem Qc:∀l:List (Int×PS),sm sw (l.flatMap DH)<=l.length
 |[] =>Nat.le_refl _
 |q::l=>by
  have:=Qc l;rw[bY,pW];have h1:sm sw (DH q)<=1:=by
   unfold DH;split
   ·exact Nat.le_refl _
   ·exact Nat.zero_le _
  simp only[eT];omega
theorem Qd {i:Nat} (h:Fy r i x p l):(∀y∈l,sw y=0)/\∀B,∀y∈l,Ag B y:=by
 have Z:∀(c:UInt8) (s:List UInt8),c≠72->c≠83->sw (c::s)=0/\∀B,Ag B (c::s):=λc s U V=>by
  refine⟨?_,λB t e=>absurd (aC e).1 V⟩;unfold sw;split
  ·rename_i e;exact absurd (aC e).1 U
  ·rename_i e;exact absurd (aC e).1 V
  ·rfl
 cases h with
 |none h=>rw[h];exact⟨λ_ h=>by simp at h,λ_ _ h=>by simp at h⟩
 |link s _ _ _ h=>
  rw[h];exact⟨λy hy=>by obtain⟨s,rfl⟩:=rT hy;exact(Z 76 s eA eA).1,λB y hy=>by obtain⟨s,rfl⟩:=rT hy;exact(Z 76 s eA eA).2 B⟩
 |heard s _ _ _ _ _ _ _ h=>
  rw[h];exact⟨λy hy=>by rw[ar.1 hy];exact(Z 65 _ eA eA).1,λB y hy=>by rw[ar.1 hy];exact(Z 65 _ eA eA).2 B⟩
 |JM a b s _ _ _ _ h=>
  rw[h];exact⟨λy hy=>by rw[ar.1 hy];exact(Z 77 _ eA eA).1,λB y hy=>by rw[ar.1 hy];exact(Z 77 _ eA eA).2 B⟩
theorem Mi(h:lD r)(i:Nat)(x:lv):lD (jP r i x)/\(jP r i x).id=r.id/\(jP r i x).n=r.n:=by
 cases x with
 |nil=>exact⟨h,rfl,rfl⟩
 |cons c s=>exact⟨h.take i c s,(Oi r i c s).2,(Oi r i c s).1⟩
theorem JO(r:iO)(i:Nat)(up:Bool):(r.iL i up).1.id=r.id/\(r.iL i up).1.n=r.n:=⟨(jK.iL r i up).id,(jK.iL r i up).n⟩
theorem JQ(h:∀p,∀y∈jo (s.P p),sw y=0):sm sw (jo (s.P 0))+sm sw (jo (s.P 1))+sm sw (jo (s.P 2))=0:=by
 rw[Ah (h 0),Ah (h 1),Ah (h 2)]
theorem Qe(h:Kh r)(i:Nat)(up:Bool):∀p,∀y∈jo ((r.iL i up).1.P p),∃s,y=76::s:=λp y hy=>by
 by_cases Z:(k8 (r.P i).L (if up=true then 0 else 1)).2.2=0
 ·obtain⟨a,b,_⟩:=JN h i up Z;by_cases e:p=i
  ·subst e;rw[b]at hy;exact rT hy
  ·rw[a p e]at hy;simp at hy
 ·have:(r.iL i up).1=r:=by
   unfold iO.iL jy.iL;generalize k8 (r.P i).L (if up=true then 0 else 1)=E at*;simp only;rw[ai Z];simp only;rw[ai Z]
  rw[this,jC (h p)]at hy;simp at hy
theorem WD(s:List UInt8):sw (76::s)=0/\∀B,Ag B (76::s):=⟨rfl,λB t e=>absurd (aC e).1 eA⟩
theorem BI(Z:tP a)(A:Norm a)(h:vO B N a)(hl:N<1000000)(hc:c<a.nc)(hd:d<2)(up:Bool):∃C,vO C N (a.nK c d up):=by
 obtain⟨hi,u⟩:=Z.en c d hc hd;obtain⟨U,Q,J,H,E⟩:=h.r _ hi;obtain⟨C,c1,c2,c3,c4,D⟩:=WB U Q J (by have:=h.b;omega) u up;have V:=Qe (A.emp (a.e c d).1) (a.e c d).2 up;refine⟨C,own_op Z h _ hi _ C 0 c1 D c2 ((JO _ _ _).1.trans H) ((JO _ _ _).2.trans E) c3 (λp x hx=> ?_) ?_⟩
 ·obtain⟨s,rfl⟩:=V p x hx;exact(WD s).2 C
 ·rw[JQ λp y hy=>by obtain⟨s,rfl⟩:=V p y hy;rfl];omega
theorem Mj(E:tP a)(D:Norm a)(h:vO B N a)(hl:N<1000000)(hc:c<a.nc)(up:Bool):∃C,vO C N (a.iL c up):=by
 obtain⟨b,hb⟩:=gq ((({a with iT:=jW a.iT c up}:AN).lH c 0 []).lH c 1 []);have V:tP b:=E.same (by rw[<-hb];rfl) (by rw[<-hb];rfl) (by rw[<-hb];rfl);have U:Norm b:=by rw[<-hb];exact D
 have Q:c<b.nc:=by rw[<-hb];exact hc
 have J:vO B N b:=by
  have w1:=DG {a with iT:=jW a.iT c up} sw c 0;have u:=DG (({a with iT:=jW a.iT c up}:AN).lH c 0 []) sw c 1;have w3:=h.b;rw[hb]at u;have e1:({a with iT:=jW a.iT c up}:AN).W sw=a.W sw:=rfl;refine⟨by rw[<-hb];exact h.r,λx f hx hf y hy=> ?_,?_,h.one,by rw[<-hb];exact h.ms⟩
  ·have A:y∈a.F x f \/y∈([] :List lv):=by
    rw[<-hb]at hy;have Z:y∈(if x=c/\f=1 then []else if x=c/\f=0 then []else a.F x f):=hy;split at Z
    ·exact .inr Z
    ·split at Z
     ·exact .inr Z
     ·exact .inl Z
   rcases A with g|g
   ·exact h.f x f (by rw[<-hb]at hx;exact hx) hf y g
   ·simp at g
  ·have Z:sm (λi=>rh (b.R i)) (gg b.n)=sm (λi=>rh (a.R i)) (gg a.n):=by rw[<-hb];rfl
   omega
 obtain⟨C,H⟩:=BI V U J hl Q (by decide:0<2) up;unfold AN.iL;rw[hb];exact BI (a:=b.nK c 0 up) (V.same rfl rfl rfl) (rb U _ _) H hl Q (by decide:1<2) up
theorem mW.own(h:mW a T S b)(U:tP a)(hN:Norm a)(Z:vO B N a)(hl:N<1000000):∃C,vO C (N+8*T.length) b:=by
 have hBl:=Z.b;cases h with
 |lost h=>
  refine⟨B,by rw[h.1];exact Z.r,λc d hc hd x hx=> ?_,?_,Z.one,by rw[h.1];exact Z.ms⟩
  ·obtain⟨m,hm⟩:=h.2 c d;rw[hm]at hx;rw[h.1]at hc;exact Z.f c d hc hd x (de hx)
  ·have h1:=adI h sw;have e:sm (λi=>rh (b.R i)) (gg b.n)=sm (λi=>rh (a.R i)) (gg a.n):=by rw[h.1]
   show _<=N+0;omega
 |tick i p hi hp=>
  obtain⟨E,Q,D,A,J⟩:=Z.r i hi;obtain⟨C,c1,c2,c3,c4,c5⟩:=BH E Q D eh hp J;obtain⟨u,e2⟩:=xK (hN.emp i) p;have pZ:((a.R i).iY p).id=(i:Int)+1/\((a.R i).iY p).n=3:=⟨(jK.iY (a.R i) p).id.trans A,(jK.iY (a.R i) p).n.trans J⟩
  have hOp:((a.R i).iY p).O=((jd (a.R i) p).meet p (iK ((a.R i).P p).pe)).O \/(je ((a.R i).P p).L).1.st≠9:=by
   by_cases h9:(je ((a.R i).P p).L).1.st=9
   ·left;have kj:((jd (a.R i) p).P p).L.st=9:=by
     unfold jd;rw[kK,ai rfl];rw[sX];exact h9
    rw[ld,af (by rw[kj];simp),(lZ _ _ _).2];rfl
   ·exact .inr h9
  refine⟨C,own_op U Z i hi _ C 8 c1 c5 c2 pZ.1 pZ.2 c3 (λq x hx=> ?_) ?_⟩
  ·by_cases e:q=p
   ·subst e;rw[e2]at hx;rcases av.1 hx with g|g
    ·obtain⟨s,rfl⟩:=rT g;exact(WD s).2 C
    ·split at g
     ·rename_i h9
      rcases aO.1 g with g|g
      ·rw[g];intro s e;exact absurd (aC e).1 eA
      ·split at g
       ·obtain⟨y,hy,De⟩:=aT.1 g;unfold DH at De;split at De
        ·rw[ar.1 De];intro s e hz;rw[<-(aC e).2];have hK:=c1.tie q y.1 y.2 (by rw[hOp.resolve_right (by rw[h9];simp)];exact xL hy);rw[nQ _ _ _ (c1.val _ _ hK)];exact c2 _ _ hK
        ·simp at De
       ·simp at g
     ·simp at g
   ·rw[u q e]at hx;simp at hx
  ·have hp3:p=0 \/p=1 \/p=2:=eh;have hs:sm sw (jo (((a.R i).iY p).P p))<=8:=by
    rw[e2,pW,Ah λx hx=>by obtain⟨s,rfl⟩:=rT hx;rfl];split
    ·have e3:∀(x:lv) l,sm sw (x::l)=sw x+sm sw l:=λ_ _=>rfl;rw[e3];have e4:sw (72::[j1 (a.R i).id,j1 (iK ((a.R i).P p).pe).who])=2:=rfl;split
     ·have:=Qc (lJ (((jd (a.R i) p).meet p (iK ((a.R i).P p).pe)).O p));have:=Bn (((jd (a.R i) p).meet p (iK ((a.R i).P p).pe)).O p);omega
     ·have e5:sm sw [] =0:=rfl;omega
    ·have e5:sm sw [] =0:=rfl;omega
   have H:∀q,q≠p->sm sw (jo (((a.R i).iY p).P q))=0:=λq hq=>by rw[u q hq];rfl
   rcases hp3 with rfl|rfl|rfl
   ·rw[H 1 eA,H 2 eA];omega
   ·rw[H 0 eA,H 2 eA];omega
   ·rw[H 0 eA,H 1 eA];omega
 |pop c d x l hc hd hF=>
  obtain⟨hi,hp⟩:=U.en c (1-d) hc eh;have hw:=abe sw hc hd hF;have h1:vO B (N-sw x) (a.lH c d l):=by
   refine⟨Z.r,λy f hy hf z hz=> ?_,?_,Z.one,Z.ms⟩
   ·rw[sY]at hz;split at hz
    ·rename_i e
     exact Z.f c d hc hd z (by rw[hF];simp[hz])
    ·exact Z.f y f hy hf z hz
   ·show B+(a.lH c d l).W sw+sm (λi=>rh (a.R i)) (gg a.n)<=_;omega
  obtain⟨E,Q,D,A,J⟩:=Z.r _ hi;obtain⟨C,c1,c2,c3,c4⟩:=SX E Q D eh hp x (Z.f c d hc hd x (by rw[hF];simp));obtain⟨t1,t2,t3⟩:=Mi Q (a.e c (1-d)).2 x;obtain⟨m1,_⟩:=qu (hN.emp (a.e c (1-d)).1) (a.e c (1-d)).2 x;have h2:=own_op (a:=a.lH c d l) (U.same rfl rfl rfl) h1 _ hi (jP (a.R (a.e c (1-d)).1) (a.e c (1-d)).2 x) C (sw x) c1 t1 c2 (t2.trans A) (t3.trans J) c3 (λq y hy=>(Qd (m1 q)).2 C y hy) (by
   rw[JQ λq y hy=>(Qd (m1 q)).1 y hy];show C+_+0<=B+rh (a.R (a.e c (1-d)).1)+sw x;omega)
  refine⟨C,?_⟩;have e:N-sw x+sw x=N+8*0:=eh;rw[e]at h2;exact h2
 |send i t tx hi _ _ _=>
  obtain⟨E,Q,D,A,J⟩:=Z.r i hi;obtain⟨s1,s2,s3,s4,s5⟩:=nu (a.R i) (t,8,tx);obtain⟨j,g1,g2⟩:=DI (hN.emp i) (t,8,tx);have hq:∀p,∀y∈jo (((a.R i).send (t,8,tx)).P p),∃s,y=77::s:=λp y hy=>by
   by_cases e:p=j
   ·subst e;rcases g2 with g|⟨_,g⟩
    ·rw[g]at hy;simp at hy
    ·rw[g]at hy;exact⟨_,ar.1 hy⟩
   ·rw[g1 p e]at hy;simp at hy
  refine⟨B,own_op U Z i hi _ B 0 (Mh E _) (Q.send _) (D.alike s1) (s3.trans A) (s4.trans J) (Nat.le_refl _) (λp x hx=> ?_) ?_⟩
  ·obtain⟨s,rfl⟩:=hq p x hx;intro t e;exact absurd (aC e).1 eA
  ·rw[JQ λp y hy=>by obtain⟨s,rfl⟩:=hq p y hy;rfl,pX λp=>(s5 p).2.1];omega
 |iL c hc _ _ _=>
  obtain⟨C,h⟩:=Mj U hN Z hl hc true;exact⟨C,h.r,h.f,Nat.le_trans h.b (Nat.le_add_right _ _),h.one,h.ms⟩
 |draw c hc _=>exact Mj U hN Z hl hc false
 |anew i m hi hd=>
  have pZ:(1:Int)<=(i:Int)+1/\(i:Int)+1<=6:=by have:=U.n6;omega
  have hR:∀j,({a with R:=jW a.R i (jO ((i:Int)+1) 3 (a.ms i)),ib:=jW a.ib i ((a.ib i).take m)}:AN).R j=if j=i then jO ((i:Int)+1) 3 (a.ms i)else a.R j:=λj=>rfl
  refine⟨B,λj hj=> ?_,Z.f,?_,Z.one,Z.ms⟩
  ·rw[hR];by_cases e:j=i
   ·subst e;rw[ai rfl];refine⟨⟨λp x q h=>h,λx q h=> ?_,?_⟩,zW pZ (Z.ms j · hi),λx q h=> ?_,rfl,rfl⟩
    ·have V:(if x=(j:Int)+1 then μ ((1:Int),([] :List jH))else ν)=μ q:=h;split at V
     ·rename_i e;injection V with V;rw[<-V,e]
      unfold oD;rw[af eh,af gZ];rfl
     ·exact absurd V gZ
    ·have u:C5 (jO ((j:Int)+1) 3 (a.ms j)).K (jO ((j:Int)+1) 3 (a.ms j)).id=[] :=by
      show(match (if(j:Int)+1=(j:Int)+1 then some ((1:Int),([] :List jH))else none)with|none=>[] |some q=>q.2)=_;rw[ai rfl]
     rw[u];have e2:∀n k,jR (jO ((j:Int)+1) 3 (a.ms j)).P n k=ν:=λn k=>by
      induction k with
      |zero=>rfl
      |succ k ih=>unfold jR;rw[af (λh=>absurd h.1 (show¬false=true by simp)),ih]
     unfold jz;simp only[e2,Option.map_none];rfl
    ·have V:(if x=(j:Int)+1 then μ ((1:Int),([] :List jH))else ν)=μ q:=h;split at V
     ·injection V with V;rw[<-V];have:=Z.one;show(1:Int)<=_;omega
     ·exact absurd V gZ
   ·rw[af e];exact Z.r j hj
  ·have u:sm (λj=>rh (({a with R:=jW a.R i (jO ((i:Int)+1) 3 (a.ms i)),ib:=jW a.ib i ((a.ib i).take m)}:AN).R j)) (gg a.n)<=sm (λj=>rh (a.R j)) (gg a.n):=vH λj _=>by
    rw[hR];split
    ·exact Nat.zero_le _
    ·exact Nat.le_refl _
   show B+a.W sw+sm (λj=>rh (({a with R:=jW a.R i (jO ((i:Int)+1) 3 (a.ms i)),ib:=jW a.ib i ((a.ib i).take m)}:AN).R j)) (gg a.n)<=N+0;omega
def oa(g:Int):List jH:=[(1,255),(5,g)]
structure LI(g:Int)(L:LS):Prop where
 fs:L.fs=255
 fm:L.fm=g
 ns:L.ns=255
 nm:L.nm=g
 q:6<=L.st->L.qs=255/\L.qm=g
 st:L.st=1 \/(6<=L.st/\L.st<=9)
 k:AE L
theorem Iz {s:LS} {ev:Int} {l:List UInt8} {nx:Int} (zp:kP)(h:jj s.st ev=(l,nx,0)):tr s ev zp=(qM l (s.next nx),yq l (s.next nx) zp,0):=by
 rw[tW zp (by rw[h])];unfold nY pT;rw[h]
theorem zb:(jj 6 6=([97],8,0)/\jj 7 6=([97,117],9,0)/\jj 8 6=([97],8,0)/\jj 9 6=([100,114,97],8,0))/\(jj 6 8=([105],7,0)/\jj 8 8=([105,117],9,0))/\(jj 6 4=([114],6,0)/\jj 7 4=([114],6,0)/\jj 8 4=([114],8,0))/\(jj 6 5=([102],3,0)/\jj 7 5=([102],3,0)/\jj 8 5=([102],3,0))/\(jj 3 1=([115],1,0)/\jj 1 0=([105,114],6,0))/\(jj 6 1=([],1,0)/\jj 7 1=([],1,0)/\jj 8 1=([],1,0)/\jj 9 1=([100],1,0)):=by
 refine⟨⟨?_,?_,?_,?_⟩,⟨?_,?_⟩,⟨?_,?_,?_⟩,⟨?_,?_,?_⟩,⟨?_,?_⟩,?_,?_,?_,?_⟩<;>rfl
theorem JR(hg:1<=g/\g<=255):oA 255 g=oa g:=by
 unfold oA oa;rw[ai eA,ai eh];rfl
theorem Qf {x:Int} (h:6<=x/\x<=9):x=6 \/x=7 \/x=8 \/x=9:=eh
theorem abg(U:1<=g/\g<=255)(h:LI g L)(V:L.st=1):LI g (k8 L 0).1/\(k8 L 0).2.1=[(1,(L.ow+1) %256,oa g)] /\(k8 L 0).1.ow=(L.ow+1) %256/\(k8 L 0).1.st=6/\(k8 L 0).1.wt=3:=by
 have Z:=h.k.k8 0;have e:k8 L 0=tr L 0 (0,0,[]):=rfl;have Q:jj L.st 0=([105,114],6,0):=by rw[V];exact zb.2.2.2.2.1.2
 rw[e,Iz _ Q]at Z⊢;have en:L.next 6={L with st:=6}:=by unfold LS.next;rw[af eA]
 rw[en]at Z⊢;refine⟨⟨h.fs,h.fm,h.ns,h.nm,λ_=>⟨h.ns,h.nm⟩,.inr ⟨by show(6:Int)<=6;decide,by show(6:Int)<=9;decide⟩,Z⟩,?_,rfl,rfl,rfl⟩;show [(1,(L.ow+1) %256,oA L.ns L.nm)] =_;rw[h.ns,h.nm,JR U]
theorem ZB(h:LI g L)(J:6<=L.st):LI g (k8 L 1).1/\(k8 L 1).1.st=1/\(k8 L 1).1.ow=L.ow:=by
 have Z:=h.k.k8 1;have e:k8 L 1=tr L 1 (0,0,[]):=rfl;obtain⟨a,b,c,d⟩:=zb.2.2.2.2.2;have H:=Qf ⟨J,by have:=h.st;omega⟩;have hl:∃l,jj L.st 1=(l,1,0)/\(l=[] \/l=[100]):=by
  rcases H with g|g|g|g<;>rw[g]
  ·exact⟨_,a,.inl rfl⟩
  ·exact⟨_,b,.inl rfl⟩
  ·exact⟨_,c,.inl rfl⟩
  ·exact⟨_,d,.inr rfl⟩
 obtain⟨l,U,Q⟩:=hl;rw[e,Iz _ U]at Z⊢;have en:L.next 1={L with st:=1,ns:=L.fs,nm:=L.fm,sz:=255}:=by unfold LS.next;rw[ai eA]
 have V:qM l (L.next 1)=L.next 1:=by rcases Q with rfl|rfl<;>rfl
 rw[V,en]at Z;rw[V,en];exact⟨⟨h.fs,h.fm,h.fs,h.fm,λh=>absurd h (by show¬(6:Int)<=1;decide),.inl rfl,Z⟩,rfl,rfl⟩
structure ahk(g:Int)(L L':LS)(out:List kP):Prop where
 li:LI g L'
 or:(out=[] /\L'.ow=L.ow/\L'.st=L.st/\(L.st=1 \/L.st=9->L'=L)/\(6<=L.st/\L.st<=8->1<L.wt/\L'.wt=L.wt-1)) \/((6<=L.st/\L.st<=8)/\L.wt=1/\out=[(1,(L.ow+1) %256,oa g)] /\L'.ow=(L.ow+1) %256/\L'.wt=3/\(L'.st=6 \/(L.st=8/\L'.st=8)))
theorem JT(hg:1<=g/\g<=255)(h:LI g L):ahk g L (je L).1 (je L).2:=by
 obtain⟨o1,o2,o3,o4,o5,o6,o7,o8⟩:=(sP _ _ _).1 h.k.ok;by_cases u:6<=L.st/\L.st<=8
 ·have hb:¬(decide (4<=L.st)&&decide (L.st<=8))=false:=by simp;omega
  by_cases E:0<L.wt-1
  ·have Z:kt L={L with wt:=L.wt-1}:=by unfold kt;rw[af hb,ai E]
   have Q:lT L=[] :=by unfold lT;rw[af hb,ai E]
   have A:=h.k.tick;have J:je L=({L with wt:=L.wt-1},[]):=by
    unfold je;rw[Z,Q,af (show¬L.st=3 by omega)]
   rw[Z]at A;rw[J];exact⟨⟨h.fs,h.fm,h.ns,h.nm,h.q,h.st,A⟩,.inl ⟨rfl,rfl,rfl,λh=>eh,λ_=>⟨eh,rfl⟩⟩⟩
  ·have mU:L.wt=1:=eh;by_cases hf:0<L.lf
   ·have y:∃nx,jj L.st 4=([114],nx,0)/\(nx=6 \/(L.st=8/\nx=8)):=by
     obtain⟨a,b,c⟩:=zb.2.2.1;have:L.st=6 \/L.st=7 \/L.st=8:=eh;rcases this with g|g|g<;>rw[g]
     ·exact⟨_,a,.inl rfl⟩
     ·exact⟨_,b,.inl rfl⟩
     ·exact⟨_,c,.inr ⟨rfl,rfl⟩⟩
    obtain⟨nx,mT,vQ⟩:=y;have A:=h.k.tick;have en:({L with wt:=L.wt-1}:LS).next nx={L with wt:=L.wt-1,st:=nx}:=by unfold LS.next;rw[af eh]
    have Z:kt L=qM [114] {L with wt:=L.wt-1,st:=nx}:=by
     unfold kt;rw[af hb,af E,ai hf];unfold nY;rw[show({L with wt:=L.wt-1}:LS).st=L.st from rfl,mT];simp only;rw[en]
    have Q:lT L=[(1,(L.ow+1) %256,oA L.ns L.nm)] :=by
     unfold lT;rw[af hb,af E,ai hf];unfold pT;rw[show({L with wt:=L.wt-1}:LS).st=L.st from rfl,mT];simp only;rw[en];rfl
    have J:je L=(kt L,lT L):=by
     unfold je;rw[af (by rw[Z];show¬nx=3;omega)]
    rw[J];refine⟨⟨?_,?_,?_,?_,?_,?_,A⟩,.inr ⟨u,mU,?_,?_,?_,?_⟩⟩
    ·rw[Z];exact h.fs
    ·rw[Z];exact h.fm
    ·rw[Z];exact h.ns
    ·rw[Z];exact h.nm
    ·rw[Z];exact λ_=>⟨h.ns,h.nm⟩
    ·rw[Z];show nx=1 \/(6<=nx/\nx<=9);omega
    ·show lT L=_;rw[Q,h.ns,h.nm,JR hg]
    ·rw[Z];rfl
    ·rw[Z];rfl
    ·rw[Z];exact vQ
   ·have y:jj L.st 5=([102],3,0):=by
     obtain⟨a,b,c⟩:=zb.2.2.2.1;have:L.st=6 \/L.st=7 \/L.st=8:=eh;rcases this with g|g|g<;>rw[g] <;>assumption
    have en:({L with wt:=L.wt-1}:LS).next 3={L with wt:=L.wt-1,st:=3,ns:=L.fs,nm:=L.fm,sz:=255}:=by unfold LS.next;rw[ai eA]
    have Z:kt L={L with wt:=L.wt-1,st:=3,ns:=L.fs,nm:=L.fm,sz:=255}:=by
     unfold kt;rw[af hb,af E,af hf];unfold nY;rw[show({L with wt:=L.wt-1}:LS).st=L.st from rfl,y];simp only;rw[en];rfl
    have Q:lT L=[] :=by
     unfold lT;rw[af hb,af E,af hf];unfold pT;rw[show({L with wt:=L.wt-1}:LS).st=L.st from rfl,y];simp only;rw[en];rfl
    obtain⟨L3,U⟩:∃L3:LS,({L with wt:=L.wt-1,st:=3,ns:=L.fs,nm:=L.fm,sz:=255}:LS)=L3:=⟨_,rfl⟩
    rw[U]at Z;have k3:AE L3:=by rw[<-Z];exact h.k.tick
    have D:L3.st=3:=by rw[<-U]
    have d1:k8 L3 1=({L3 with st:=1,ns:=L3.fs,nm:=L3.fm,sz:=255},[],0):=by
     show tr L3 1 (0,0,[])=_;rw[Iz _ (show jj L3.st 1=_ by rw[D];exact zb.2.2.2.2.1.1)];have:L3.next 1={L3 with st:=1,ns:=L3.fs,nm:=L3.fm,sz:=255}:=by unfold LS.next;rw[ai eA]
     rw[this];rfl
    have k1:=k3.k8 1;obtain⟨L1,H⟩:=gq ((k8 L3 1).1);rw[H]at k1;have V:L1={L3 with st:=1,ns:=L3.fs,nm:=L3.fm,sz:=255}:=by rw[<-H,d1]
    have j:LI g L1:=by
     refine⟨?_,?_,?_,?_,?_,?_,k1⟩
     ·rw[V,<-U];exact h.fs
     ·rw[V,<-U];exact h.fm
     ·rw[V,<-U];exact h.fs
     ·rw[V,<-U];exact h.fm
     ·rw[V];exact λh=>absurd h (by show¬(6:Int)<=1;decide)
     ·rw[V];exact .inl rfl
    have how:L1.ow=L.ow:=by rw[V,<-U]
    obtain⟨u1,u2,u3,u4,u5⟩:=abg hg j (by rw[V]);have J:je L=((k8 L1 0).1,(k8 L1 0).2.1):=by
     unfold je;rw[Z,ai D,Q,H,d1];rfl
    rw[J];exact⟨u1,.inr ⟨u,mU,by rw[u2,how],by rw[u3,how],u5,.inl u4⟩⟩
 ·have hb:(decide (4<=L.st)&&decide (L.st<=8))=false:=by
   have:=h.st;simp only[Bool.and_eq_false_iff,decide_eq_false_iff_not];omega
  have Z:kt L=L:=by unfold kt;rw[ai hb]
  have Q:lT L=[] :=by unfold lT;rw[ai hb]
  have J:je L=(L,[]):=by
   unfold je;rw[Z,Q,af (show¬L.st=3 by have:=h.st;omega)]
  rw[J];exact⟨h,.inl ⟨rfl,rfl,rfl,λ_=>rfl,λh=>absurd h u⟩⟩
theorem FF {x:Int} (h0:0<=x)(h1:x<=255):yA x=true:=by
 unfold yA;simp;omega
theorem Ai(hc:code=1 \/code=2)(hi:0<=id/\id<=255)(H:1<=g/\g<=255):jU code id (oa g)=0:=by
 have Q:=FF hi.1 hi.2;have J:yA g=true:=FF eh H.2;unfold jU oa;rw[af (by rw[Q];simp;omega),af gZ,af eh];have V:yA 1=true:=FF eA eA;have U:yA 5=true:=FF eA eA;have Z:yA 255=true:=FF eA eA;simp[qg,V,U,Z,J]
theorem ZC(hg:1<=g'/\g'<=255)(jx:g'≠g):mB g (oa g')=(2,oa g'):=by
 unfold mB oa tS rm Kn xQ;rw[af gZ,af];simp;omega
structure amg(g:Int)(L L':LS)(out:List kP)(a:kP):Prop where
 li:LI g L'
 or:(L.st=9/\out=[(1,(L.ow+1) %256,oa g),a] /\L'.st=8/\L'.ow=(L.ow+1) %256/\L'.wt=3) \/(L.st=7/\out=[a] /\L'.st=9/\L'.ow=L.ow) \/((L.st=6 \/L.st=8)/\out=[a] /\L'.st=8/\L'.ow=L.ow/\L'.wt=L.wt)
theorem WE(J:1<=g/\g<=255)(U:1<=g'/\g'<=255)(D:g'≠g)(hi:0<=id/\id<=255)(h:LI g L)(V:6<=L.st):amg g L (jN L (1,id,oa g')).1 (jN L (1,id,oa g')).2.1 (2,id,oa g'):=by
 have Z:=h.k.jN (1,id,oa g');have Q:jN L (1,id,oa g')=uA L id (oa g'):=by
  unfold jN;rw[af (by rw[Ai (.inl rfl) hi U];simp),ai rfl]
 rw[Q]at Z⊢;have A:=Qf ⟨V,by have:=h.st;omega⟩;have H:(mB L.nm (oa g')).1=2:=by rw[h.nm,ZC U D]
 obtain⟨y,u,j,t9⟩:=zb.1;have key:∀(l:List UInt8) (nx:Int),jj L.st 6=(l,nx,0)->uA L id (oa g')=((qM l (L.next nx)).sized (oa g'),yq l (L.next nx) (2,id,oa g'),0):=λl nx hs=>by
  unfold uA;rw[ai H,Iz _ hs,ai rfl]
 have nx:∀n:Int,¬n<=3->L.next n={L with st:=n}:=λn E=>by unfold LS.next;rw[af E]
 have sz:∀s:LS,(s.sized (oa g')).fs=s.fs/\(s.sized (oa g')).fm=s.fm/\(s.sized (oa g')).ns=s.ns/\(s.sized (oa g')).nm=s.nm/\(s.sized (oa g')).qs=s.qs/\(s.sized (oa g')).qm=s.qm/\(s.sized (oa g')).st=s.st/\(s.sized (oa g')).ow=s.ow/\(s.sized (oa g')).wt=s.wt:=λs=>by
  unfold LS.sized;split<;>exact⟨rfl,rfl,rfl,rfl,rfl,rfl,rfl,rfl,rfl⟩
 have build:∀s:LS,AE (s.sized (oa g'))->s.fs=L.fs->s.fm=L.fm->s.ns=L.ns->s.nm=L.nm->(s.qs=255/\s.qm=g)->(6<=s.st/\s.st<=9)->LI g (s.sized (oa g')):=λs Z a b c d e f=>by
  obtain⟨z1,z2,z3,z4,z5,z6,z7,_,_⟩:=sz s;exact⟨by rw[z1,a,h.fs],by rw[z2,b,h.fm],by rw[z3,c,h.ns],by rw[z4,d,h.nm],λ_=>by rw[z5,z6];exact e,by rw[z7];exact .inr f,Z⟩
 rcases A with hs|hs|hs|hs
 ·have e:=key [97] 8 (by rw[hs];exact y);rw[e,nx 8 eA]at Z;rw[e,nx 8 eA];refine⟨build (qM [97] {L with st:=8}) Z rfl rfl rfl rfl (h.q V) ⟨by show(6:Int)<=8;decide,by show(8:Int)<=9;decide⟩,.inr (.inr ⟨.inl hs,rfl,?_,?_,?_⟩)⟩
  ·exact(sz _).2.2.2.2.2.2.1
  ·exact(sz _).2.2.2.2.2.2.2.1
  ·exact(sz _).2.2.2.2.2.2.2.2
 ·have e:=key [97,117] 9 (by rw[hs];exact u);rw[e,nx 9 eA]at Z;rw[e,nx 9 eA];refine⟨build (qM [97,117] {L with st:=9}) Z rfl rfl rfl rfl (h.q V) ⟨by show(6:Int)<=9;decide,by show(9:Int)<=9;decide⟩,.inr (.inl ⟨hs,rfl,?_,?_⟩)⟩
  ·exact(sz _).2.2.2.2.2.2.1
  ·exact(sz _).2.2.2.2.2.2.2.1
 ·have e:=key [97] 8 (by rw[hs];exact j);rw[e,nx 8 eA]at Z;rw[e,nx 8 eA];refine⟨build (qM [97] {L with st:=8}) Z rfl rfl rfl rfl (h.q V) ⟨by show(6:Int)<=8;decide,by show(8:Int)<=9;decide⟩,.inr (.inr ⟨.inr hs,rfl,?_,?_,?_⟩)⟩
  ·exact(sz _).2.2.2.2.2.2.1
  ·exact(sz _).2.2.2.2.2.2.2.1
  ·exact(sz _).2.2.2.2.2.2.2.2
 ·have e:=key [100,114,97] 8 (by rw[hs];exact t9);rw[e,nx 8 eA]at Z;rw[e,nx 8 eA];refine⟨build (qM [100,114,97] {L with st:=8}) Z rfl rfl rfl rfl ⟨h.ns,h.nm⟩ ⟨by show(6:Int)<=8;decide,by show(8:Int)<=9;decide⟩,.inl ⟨hs,?_,?_,?_,?_⟩⟩
  ·show [(1,(L.ow+1) %256,oA L.ns L.nm),(2,id,oa g')] =_;rw[h.ns,h.nm,JR J]
  ·exact(sz _).2.2.2.2.2.2.1
  ·exact(sz _).2.2.2.2.2.2.2.1
  ·exact(sz _).2.2.2.2.2.2.2.2
theorem adN(Z:1<=g/\g<=255)(hi:0<=id/\id<=255)(V:id≠L.ow):jN L (2,id,oa g)=(L,[],6):=by
 unfold jN;rw[af (by rw[Ai (.inr rfl) hi Z];simp),af (by show¬(2:Int)=1;decide),af (by show¬(2:Int)=5;decide),af (by show¬(2:Int)=6;decide)];unfold tX;rw[ai V]
theorem WG(Q:1<=g/\g<=255)(h:LI g L)(U:L.st=6 \/L.st=8):LI g (jN L (2,L.ow,oa g)).1/\(jN L (2,L.ow,oa g)).2.1=[] /\(jN L (2,L.ow,oa g)).1.ow=L.ow/\(jN L (2,L.ow,oa g)).1.wt=L.wt/\(jN L (2,L.ow,oa g)).1.st=L.st+1:=by
 have Z:=h.k.jN (2,L.ow,oa g);have V:=h.q eh;have J:jN L (2,L.ow,oa g)=tr L 8 (0,L.ow,[]):=by
  unfold jN;rw[af (by rw[Ai (.inr rfl) ⟨h.k.o1,h.k.o2⟩ Q];simp),af (by show¬(2:Int)=1;decide),af (by show¬(2:Int)=5;decide),af (by show¬(2:Int)=6;decide)];unfold tX;rw[af gZ,ai rfl,af (by rw[V.1,V.2,JR Q];simp)]
 rw[J]at Z⊢;obtain⟨E,D⟩:=zb.2.1;have nx:∀n:Int,¬n<=3->L.next n={L with st:=n}:=λn H=>by unfold LS.next;rw[af H]
 rcases U with hs|hs
 ·rw[Iz _ (show jj L.st 8=_ by rw[hs];exact E),nx 7 eA]at Z⊢;exact⟨⟨h.fs,h.fm,h.ns,h.nm,λ_=>V,.inr ⟨by show(6:Int)<=7;decide,by show(7:Int)<=9;decide⟩,Z⟩,rfl,rfl,rfl,by show(7:Int)=_;omega⟩
 ·rw[Iz _ (show jj L.st 8=_ by rw[hs];exact D),nx 9 eA]at Z⊢;exact⟨⟨h.fs,h.fm,h.ns,h.nm,λ_=>V,.inr ⟨by show(6:Int)<=9;decide,by show(9:Int)<=9;decide⟩,Z⟩,rfl,rfl,rfl,by show(9:Int)=_;omega⟩
def mQ(g id:Int):lv:=76::mL 1 id (oa g)
def oe(g id:Int):lv:=76::mL 2 id (oa g)
theorem WH(code id g:Int):(mL code id (oa g)).length=7:=by
 unfold mL;simp only[eT,r9];rfl
theorem Aj(hc:code=1 \/code=2)(hi:0<=id/\id<=255)(V:1<=g/\g<=255):ja (mL code id (oa g))=(code,id,oa g,0):=by
 have e:mL code id (oa g)=[j1 code,j1 id,2,1,255,5,j1 g] :=rfl;have Q:mS [1,255,5,j1 g] =oa g:=by
  have U:mS [1,255,5,j1 g] =[(1,255),(5,((j1 g).toNat:Int))] :=rfl;rw[U,nI g eh V.2];rfl
 have Z:=nI code eh eh;have J:=nI id hi.1 hi.2;rw[e];unfold ja;rw[af gZ];show(if jU ((j1 code).toNat:Int) ((j1 id).toNat:Int) (mS [1,255,5,j1 g])=0 then(((j1 code).toNat:Int),((j1 id).toNat:Int),mS [1,255,5,j1 g],0)else(0,0,[],4))=_;rw[Q,Z,J,ai (Ai hc hi V)]
theorem FG(hc:code=1 \/code=2)(hi:0<=id/\id<=255)(Z:1<=g/\g<=255):ox (code,id,oa g)=[76::mL code id (oa g)] :=by
 unfold ox;rw[ai ⟨Ai hc hi Z,by show(mL code id (oa g)).length+1<=60;rw[WH];decide⟩]
def CB(code:Int):lv->Option Int
 |76::s=>if(ja s).2.2.2=0/\(ja s).1=code then some (ja s).2.1 else none
 |_=>none
theorem xM(code:Int) {c:UInt8} (s:List UInt8)(h:c≠76):CB code (c::s)=ν:=by
 unfold CB;split
 ·rename_i e;exact absurd (aC e).1 h
 ·rfl
theorem Qg {k:Int} (V:k=1 \/k=2)(hi:0<=id/\id<=255)(Z:1<=g/\g<=255):CB code (76::mL k id (oa g))=if k=code then μ id else ν:=by
 show(if(ja (mL k id (oa g))).2.2.2=0/\(ja (mL k id (oa g))).1=code then μ (ja (mL k id (oa g))).2.1 else ν)=_;rw[Aj V hi Z];by_cases e:k=code
 ·rw[ai ⟨rfl,e⟩,ai e]
 ·rw[af (λh=>e h.2),af e]
def ids(code:Int)(l:List lv):List Int:=l.filterMap (CB code)
theorem kA(code:Int)(l m:List lv):ids code (l++m)=ids code l++ids code m:=by unfold ids;rw[bG]
theorem Ak(h:∀x∈l,CB code x=ν):ids code l=[] :=by
 unfold ids;rw[cT];exact h
theorem jT(l:List lv)(h:CB code x=ν):ids code (x::l)=ids code l:=by unfold ids;rw[bh,h]
theorem jL(l:List lv)(h:CB code x=μ i):ids code (x::l)=i::ids code l:=by unfold ids;rw[bh,h]
theorem ZD(h:i∈ids code l):∃x∈l,CB code x=μ i:=by
 unfold ids at h;obtain⟨x,Z,V⟩:=cB.1 h;exact⟨x,Z,V⟩
theorem JU(Z:x∈l)(V:CB code x=μ i):i∈ids code l:=by
 unfold ids;exact cB.2 ⟨x,Z,V⟩
def Mm(go gi:Int)(x:lv):Prop:=(∀c s,x=c::s->c≠76) \/(∃id,0<=id/\id<=255/\x=mQ go id) \/(∃id,0<=id/\id<=255/\x=oe gi id)
def rG(x:lv):Prop:=∀c s,x=c::s->c≠76
theorem rG.lk(h:rG x)(code:Int):CB code x=ν:=by
 cases x with
 |nil=>rfl
 |cons c s=>exact xM code s (h c s rfl)
def JV(X:Int->Bool)(ow:Int)(x y:lv):Prop:=∀j id,CB 2 x=μ j->CB 1 y=μ id->X id=true->j<ow
structure oN(X:Int->Bool)(L:LS)(Fo Fi:List lv)(t:Nat):Prop where
 inc:(ids 2 Fi++ids 1 Fo).Pairwise (· < ·)
 le:∀i∈ids 2 Fi++ids 1 Fo,i<=L.ow
 emp:L.st=7 \/L.st=9->ids 2 Fi++ids 1 Fo=[] /\∀i∈ids 1 Fi,X i=false
 lim:Fi.Pairwise (JV X L.ow)
 JW:L.ow+(((ids 1 Fi).filter λi=> !X i).length:Nat)<=t
structure Pair(X Y:Int->Bool)(t:Nat)(g h:Int)(L M:LS)(F G:List lv):Prop where
 l:LI g L
 m:LI h M
 lu:6<=L.st
 mu:6<=M.st
 f:∀x∈F,Mm g h x
 g:∀x∈G,Mm h g x
 d:oN Y L F G t
 e:oN X M G F t
theorem Pair.symm(p:Pair X Y t g h L M F G):Pair Y X t h g M L G F:=⟨p.m,p.l,p.mu,p.lu,p.g,p.f,p.e,p.d⟩
theorem oN.mono {u:Nat} (p:oN X L Fo Fi t)(h:t<=u):oN X L Fo Fi u:=⟨p.inc,p.le,p.emp,p.lim,by have:=p.JW;omega⟩
theorem Pair.mono {X Y:Int->Bool} {t u:Nat} {g h:Int} {L M:LS} {F G:List lv} (p:Pair X Y t g h L M F G)(k:t<=u):Pair X Y u g h L M F G:=⟨p.l,p.m,p.lu,p.mu,p.f,p.g,p.d.mono k,p.e.mono k⟩
theorem oN.congr(p:oN X L Fo Fi t)(V:L'.st=L.st)(Z:L'.ow=L.ow):oN X L' Fo Fi t:=⟨p.inc,by rw[Z];exact p.le,by rw[V];exact p.emp,by rw[Z];exact p.lim,by rw[Z];exact p.JW⟩
theorem oN.sub {Fo' Fi':List lv} (p:oN X L Fo Fi t)(U:Fo'.Sublist Fo)(Z:Fi'.Sublist Fi):oN X L Fo' Fi' t:=by
 have s1:(ids 2 Fi'++ids 1 Fo').Sublist (ids 2 Fi++ids 1 Fo):=List.Sublist.append (Z.filterMap _) (U.filterMap _);have V:(ids 1 Fi').Sublist (ids 1 Fi):=Z.filterMap _;refine⟨p.inc.sublist s1,λi hi=>p.le i (s1.mem hi),λh=> ?_,p.lim.sublist Z,?_⟩
 ·obtain⟨a,b⟩:=p.emp h;refine⟨?_,λi hi=>b i (V.mem hi)⟩;rw[a]at s1;exact iA.1 s1
 ·have:=p.JW;have:=(V.filter λi=> !X i).length_le;omega
theorem Pair.sub {X Y:Int->Bool} {t:Nat} {g h:Int} {L M:LS} {F G F' G':List lv} (p:Pair X Y t g h L M F G)(Z:F'.Sublist F)(V:G'.Sublist G):Pair X Y t g h L M F' G':=
 ⟨p.l,p.m,p.lu,p.mu,λx hx=>p.f x (Z.mem hx),λx hx=>p.g x (V.mem hx),p.d.sub Z V,p.e.sub V Z⟩
theorem oN.ahl(p:oN X L Fo Fi t)(h:∀x∈ps,rG x):oN X L Fo (Fi++ps) t:=by
 have Z:∀c,ids c (Fi++ps)=ids c Fi:=λc=>by rw[kA,Ak λx hx=>(h x hx).lk c,aB]
 refine⟨by rw[Z];exact p.inc,by rw[Z];exact p.le,by rw[Z,Z];exact p.emp,?_,by rw[Z];exact p.JW⟩;refine br.2 ⟨p.lim,?_,λx _ y hy j id _ U=>by rw[(h y hy).lk]at U;exact absurd U gZ⟩;exact dJ (R:=λ_ _=>True) (λ{x y} hx _ _ j id V=>by rw[(h x hx).lk]at V;exact absurd V gZ) (List.pairwise_of_forall λ_ _=>trivial)
theorem oN.ahm(p:oN X L Fo Fi t)(h:∀x∈ps,rG x):oN X L (Fo++ps) Fi t:=by
 have Z:ids 1 (Fo++ps)=ids 1 Fo:=by rw[kA,Ak λx hx=>(h x hx).lk 1,aB]
 exact⟨by rw[Z];exact p.inc,by rw[Z];exact p.le,by rw[Z];exact p.emp,p.lim,p.JW⟩
theorem Pair.more(p:Pair X Y t g h L M F G)(Z:∀x∈ps,rG x):Pair X Y t g h L M (F++ps) G:=
 ⟨p.l,p.m,p.lu,p.mu,λx hx=>(av.1 hx).elim (p.f x) λe=>.inl (Z x e),p.g,p.d.ahm Z,p.e.ahl Z⟩
theorem sZ(Z:1<=g/\g<=255)(hi:0<=id/\id<=255):CB 1 (mQ g id)=μ id/\CB 2 (mQ g id)=ν/\CB 1 (oe g id)=ν/\CB 2 (oe g id)=μ id:=by
 unfold mQ oe;rw[Qg (.inl rfl) hi Z,Qg (.inl rfl) hi Z,Qg (.inr rfl) hi Z,Qg (.inr rfl) hi Z];exact⟨gZ,gZ,gZ,gZ⟩
def mark(X:Int->Bool)(i:Int)(b:Bool):Int->Bool:=λk=>if k=i then b else X k
theorem Mn {b:Bool} {l:List Int} (h:∀k∈l,k<i):(l.filter λk=> !mark X i b k)=l.filter λk=> !X k:=by
 refine List.filter_congr λk Z=> ?_;have:=h k Z;unfold mark;rw[af eh]
theorem Mp {b:Bool} (h:∀k∈ids 1 F,k<i)(p:F.Pairwise (JV X ow)):F.Pairwise (JV (mark X i b) ow):=by
 refine dJ (λ{x y} _ hy Q j id U V Z=>Q j id U V ?_) p;have:=h id (JU hy V);unfold mark at Z;rw[af eh]at Z;exact Z
theorem WI {CC:Int} (h:ow<=CC)(p:F.Pairwise (JV X ow)):F.Pairwise (JV X CC):=
 p.imp λ{x y} Q j id Z V U=>by have:=Q j id Z V U;omega
theorem Pair.ask(D:1<=g/\g<=255)(p:Pair X Y t g h L M F G)(ht:t+1<=255)(hl:LI g L')(J:L'.ow=L.ow+1)(hs:L'.st=6 \/L'.st=8):Pair (mark X (L.ow+1) false) Y (t+1) g h L' M (F++ [mQ g (L.ow+1)]) G:=by
 have hb:=p.d.JW;have hi:0<=L.ow+1/\L.ow+1<=255:=by have:=p.l.k.o1;omega
 obtain⟨r1,u,_,_⟩:=sZ D hi;have Z:ids 1 (F++ [mQ g (L.ow+1)])=ids 1 F++ [L.ow+1] :=by rw[kA,jL [] r1];rfl
 have U:ids 2 (F++ [mQ g (L.ow+1)])=ids 2 F:=by rw[kA,jT [] u];simp[ids]
 have H:∀k∈ids 1 F,k<L.ow+1:=λk A=>by have:=p.d.le k (av.2 (.inr A));omega
 refine⟨hl,p.m,eh,p.mu,λx hx=> ?_,p.g,⟨?_,?_,λh=>eh,by rw[J];exact WI eh p.d.lim,by rw[J];omega⟩,⟨?_,?_,λh=> ?_,?_,?_⟩⟩
 ·rcases av.1 hx with e|e
  ·exact p.f x e
  ·exact .inr (.inl ⟨_,hi.1,hi.2,ar.1 e⟩)
 ·rw[Z,<-aD];refine br.2 ⟨p.d.inc,gZ,λa E b hb=> ?_⟩;rw[ar.1 hb];have:=p.d.le a E;omega
 ·rw[Z,<-aD,J];intro i hi;rcases av.1 hi with e|e
  ·have:=p.d.le i e;omega
  ·rw[ar.1 e];exact Int.le_refl _
 ·rw[U];exact p.e.inc
 ·rw[U];exact p.e.le
 ·rw[Z,U];obtain⟨a,b⟩:=p.e.emp h;refine⟨a,λi hi=> ?_⟩;unfold mark;rcases av.1 hi with e|e
  ·rw[af (by have:=H i e;omega)];exact b i e
  ·rw[ai (ar.1 e)]
 ·refine br.2 ⟨Mp H p.e.lim,gZ,λx _ y hy j id _ V Q=> ?_⟩;rw[ar.1 hy,r1]at V;injection V with V
  unfold mark at Q;rw[ai V.symm]at Q;exact absurd Q gZ
 ·rw[Z,cy,Mn H,az];have:=p.e.JW;have:((([L.ow+1] :List Int).filter λi=> !mark X (L.ow+1) false i).length)<=1:=cK _ _;omega
theorem Pair.tick(U:1<=g/\g<=255)(p:Pair X Y t g h L M F G)(E:t+1<=255):∃X',Pair X' Y (t+1) g h (je L).1 M (F++(je L).2.flatMap ox) G/\(∀k∈ids 1 F,X' k=X k)/\((je L).2.flatMap ox=[] \/(je L).2.flatMap ox=[mQ g (L.ow+1)]):=by
 obtain⟨li,Z|Z⟩:=JT U p.l
 ·obtain⟨Z,J,V,_⟩:=Z;refine⟨X,?_,λ_ _=>rfl,.inl (by rw[Z];rfl)⟩;rw[Z];have q:Pair X Y t g h (je L).1 M F G:=⟨li,p.m,by rw[V];exact p.lu,p.mu,p.f,p.g,p.d.congr V J,p.e⟩
  simpa using q.mono (Nat.le_succ t)
 ·obtain⟨_,_,V,Q,_,h6⟩:=Z;have hb:=p.d.JW;have hi:0<=L.ow+1/\L.ow+1<=255:=by have:=p.l.k.o1;omega
  have em:(L.ow+1) %256=L.ow+1:=eh;rw[em]at V Q;have e:(je L).2.flatMap ox=[mQ g (L.ow+1)] :=by
   rw[V];show ox _++ [] =_;rw[FG (.inl rfl) hi U];rfl
  refine⟨mark X (L.ow+1) false,?_,λk H=> ?_,.inr e⟩
  ·rw[e];exact p.ask U E li Q eh
  ·have:=p.d.le k (av.2 (.inr H));unfold mark;rw[af eh]
def xX(X:Int->Bool)(x:lv):Nat:=match CB 1 x with
 |some i=>if X i=true then 2 else 3
 |none=>match x with
  |83::_=>2
  |77::_::b::_=>b.toNat+1
  |_=>1
def oV(X:Int->Bool)(x:lv):Nat:=match CB 1 x with
 |some i=>if X i=true then 2 else 4
 |none=>match x with
  |83::_=>2
  |77::_=>0
  |_=>1
theorem Al(Z:1<=g/\g<=255)(hi:0<=id/\id<=255)(X:Int->Bool):xX X (oe g id)=1/\oV X (oe g id)=1:=by
 unfold xX oV;rw[(sZ Z hi).2.2.1];exact⟨rfl,rfl⟩
theorem Am(Z:1<=g/\g<=255)(hi:0<=id/\id<=255)(X:Int->Bool):xX X (mQ g id)=(if X id=true then 2 else 3)/\oV X (mQ g id)=if X id=true then 2 else 4:=by
 unfold xX oV;rw[(sZ Z hi).1];exact⟨rfl,rfl⟩
theorem oN.abh {X':Int->Bool} (hh:1<=h/\h<=255)(hi:0<=id/\id<=255)(p:oN X M (mQ h id::G) F t)(Z:ids 2 em=[id])(V:(F++em).Pairwise (JV X' M.ow))(U:M.ow+(((ids 1 (F++em)).filter λi=> !X' i).length:Nat)<=t):oN X' M G (F++em) t:=by
 have r1:=(sZ hh hi).1;have e:ids 2 (F++em)++ids 1 G=ids 2 F++ids 1 (mQ h id::G):=by
  rw[kA,Z,jL G r1,aD];rfl
 refine⟨by rw[e];exact p.inc,by rw[e];exact p.le,λhs=> ?_,V,U⟩;have:=(p.emp hs).1;rw[jL G r1]at this;simp at this
theorem Qh(Z:F.Pairwise (JV X ow))(V:em.Pairwise (JV X ow))(U:∀y∈em,∀id,CB 1 y=μ id->X id=true->∀j∈ids 2 F,j<ow):(F++em).Pairwise (JV X ow):=
 br.2 ⟨Z,V,λ_ hx y hy j id a b c=>U y hy id b c j (JU hx a)⟩
structure ZF(X X' Y:Int->Bool)(t:Nat)(g h:Int)(L' M:LS)(F l em:List lv)(x:lv):Prop where
 p:Pair X' Y t g h L' M (F++em) l
 old:∀k∈ids 1 F,X' k=X k
 dp:∀y∈em,xX X' y+1<=xX Y x
 wg:sm (oV X') em+1<=oV Y x
 st:6<=L'.st
theorem Pair.ahn(hh:1<=h/\h<=255)(hi:0<=id/\id<=255)(p:Pair X Y t g h L M F (mQ h id::l))(li:LI g L')(Z:L'.ow=L.ow)(Q:6<=L'.st)(A:L'.st=7 \/L'.st=9->L.st=7):ZF X X Y t g h L' M F l [oe h id] (mQ h id):=by
 obtain⟨r1,u,E,j⟩:=sZ hh hi;have U:=jL l r1;have V:=jT l u;have i1:ids 1 [oe h id] =[] :=by rw[jT _ E];rfl
 have D:ids 2 [oe h id] =[id] :=by rw[jL _ j];rfl
 have H:=Am hh hi Y;refine⟨⟨li,p.m,Q,p.mu,λx hx=> ?_,λy hy=>p.g y (by simp[hy]),⟨?_,?_,λhs=> ?_,?_,?_⟩,?_⟩,λk _=>rfl,λy hy=> ?_,?_,Q⟩
 ·rcases av.1 hx with z|z
  ·exact p.f x z
  ·rw[ar.1 z];exact .inr (.inr ⟨id,hi.1,hi.2,rfl⟩)
 ·rw[kA,i1,aB,<-V];exact p.d.inc
 ·rw[kA,i1,aB,<-V,Z];exact p.d.le
 ·rw[kA,i1,aB,<-V];obtain⟨a,b⟩:=p.d.emp (.inl (A hs));exact⟨a,λi hi=>b i (by rw[U];simp[hi])⟩
 ·rw[Z];exact p.d.lim.sublist (bP _ _)
 ·rw[Z];have:=p.d.JW;rw[U]at this;have h2:((ids 1 l).filter λi=> !Y i).length<=((id::ids 1 l).filter λi=> !Y i).length:=((bP id (ids 1 l)).filter _).length_le;omega
 ·refine oN.abh hh hi p.e D (Qh p.e.lim gZ λy hy i J _=>by rw[ar.1 hy,E]at J;exact absurd J gZ) ?_;rw[kA,i1,aB];exact p.e.JW
 ·rw[ar.1 hy,(Al hh hi _).1,H.1];split<;>omega
 ·show oV _ (oe h id)+0+1<=_;rw[(Al hh hi _).2,H.2];split<;>omega
theorem Pair.req(E:1<=g/\g<=255)(hh:1<=h/\h<=255)(jx:h≠g)(ht:t<=255)(hi:0<=id/\id<=255)(p:Pair X Y t g h L M F (mQ h id::l)):∃X',ZF X X' Y t g h (jN L (1,id,oa h)).1 M F l ((jN L (1,id,oa h)).2.1.flatMap ox) (mQ h id):=by
 obtain⟨r1,r2,r3,r4⟩:=sZ hh hi;have hb:=p.d.JW;have ho:=p.l.k.o1;have A:=jL l r1;have Qi:=jT l r2;have hf:∀y∈l,Mm h g y:=λy hy=>p.g y (by simp[hy]);have hack:Mm g h (oe h id):=.inr (.inr ⟨id,hi.1,hi.2,rfl⟩);have Q:ox (2,id,oa h)=[oe h id] :=FG (.inr rfl) hi hh;have hM:∀j∈ids 2 F,j<M.ow:=λj hj=>by
  have h1:=p.e.inc;have h2:=p.e.le id (by rw[A];simp);rw[A]at h1;have:=(br.1 h1).2.2 j hj id gZ;omega
 obtain⟨li,h9|h7|h68⟩:=WE E hh jx hi p.l p.lu
 ·obtain⟨s9,out,s8,Z,_⟩:=h9;obtain⟨WK,adP⟩:=p.d.emp (.inr s9);have hX:Y id=false:=adP id (by rw[A];simp);have ami:((ids 1 (mQ h id::l)).filter λi=> !Y i).length=((ids 1 l).filter λi=> !Y i).length+1:=by
   rw[A,List.filter_cons,hX];rfl
  have em:(L.ow+1) %256=L.ow+1:=eh;have H:0<=L.ow+1/\L.ow+1<=255:=eh;obtain⟨q1,q2,q3,q4⟩:=sZ E H;rw[em]at out Z;have e:(jN L (1,id,oa h)).2.1.flatMap ox=[mQ g (L.ow+1),oe h id] :=by
   rw[out];show ox _++(ox _++ [])=_;rw[FG (.inl rfl) H E,Q];rfl
  have J:ids 2 l=[] /\ids 1 F=[] :=by
   rw[Qi]at WK;exact dQ.1 WK
  have i1:ids 1 [mQ g (L.ow+1),oe h id] =[L.ow+1] :=by rw[jL _ q1,jT _ r3];rfl
  have i2:ids 2 [mQ g (L.ow+1),oe h id] =[id] :=by rw[jT _ q2,jL _ r4];rfl
  refine⟨mark X (L.ow+1) true,?_⟩;rw[e];refine⟨⟨li,p.m,eh,p.mu,λx hx=> ?_,hf,⟨?_,?_,λh=>eh,?_,?_⟩,?_⟩,λk D=>by rw[J.2]at D;simp at D,λy hy=> ?_,?_,eh⟩
  ·rcases av.1 hx with z|z
   ·exact p.f x z
   ·rcases aO.1 z with z|z
    ·exact .inr (.inl ⟨_,H.1,H.2,z⟩)
    ·rw[ar.1 z];exact hack
  ·rw[J.1,kA,J.2,i1];simp
  ·rw[J.1,kA,J.2,i1,Z];simp
  ·rw[Z];exact WI eh (p.d.lim.sublist (bP _ _))
  ·rw[Z];omega
  ·refine oN.abh hh hi p.e i2 (Qh (Mp (λk D=>by rw[J.2]at D;simp at D) p.e.lim) ?_ λy hy i h1 h2=>hM) ?_
   ·refine cA.2 ⟨λy hy j i a=>by rw[q2]at a;exact absurd a gZ,gZ⟩
   ·rw[kA,J.2,i1];have:(([] ++ [L.ow+1] :List Int).filter λi=> !mark X (L.ow+1) true i)=[] :=by simp[mark]
    rw[this];have:=p.e.JW;have e0:(([] :List Int).length:Nat)=0:=rfl;omega
  ·have hY:xX Y (mQ h id)=3:=by rw[(Am hh hi Y).1,hX];rfl
   rw[hY];rcases aO.1 hy with z|z
   ·rw[z,(Am E H _).1];simp[mark]
   ·rw[ar.1 z,(Al hh hi _).1];omega
  ·have hY:oV Y (mQ h id)=4:=by rw[(Am hh hi Y).2,hX];rfl
   rw[hY];show oV _ (mQ g (L.ow+1))+(oV _ (oe h id)+0)+1<=4;rw[(Am E H _).2,(Al hh hi _).2];simp[mark]
 ·have u:∃L',(jN L (1,id,oa h)).1=L'/\LI g L'/\L'.ow=L.ow/\6<=L'.st/\(L'.st=7 \/L'.st=9->L.st=7)/\(jN L (1,id,oa h)).2.1.flatMap ox=[oe h id] :=by
   obtain⟨s7,out,s9,Z⟩:=h7;refine⟨_,rfl,li,Z,eh,λ_=>s7,?_⟩;rw[out];show ox _++ [] =_;rw[Q];rfl
  obtain⟨L',V,U,Z,TA,kj,e⟩:=u;refine⟨X,?_⟩;rw[V,e];exact Pair.ahn hh hi p U Z TA kj
 ·have u:∃L',(jN L (1,id,oa h)).1=L'/\LI g L'/\L'.ow=L.ow/\6<=L'.st/\(L'.st=7 \/L'.st=9->L.st=7)/\(jN L (1,id,oa h)).2.1.flatMap ox=[oe h id] :=by
   obtain⟨s7,out,s8,Z,_⟩:=h68;refine⟨_,rfl,li,Z,eh,λh=>eh,?_⟩;rw[out];show ox _++ [] =_;rw[Q];rfl
  obtain⟨L',V,U,Z,TA,kj,e⟩:=u;refine⟨X,?_⟩;rw[V,e];exact Pair.ahn hh hi p U Z TA kj
theorem Pair.ack(E:1<=g/\g<=255)(hi:0<=id/\id<=255)(p:Pair X Y t g h L M F (oe g id::l)):ZF X X Y t g h (jN L (2,id,oa g)).1 M F l ((jN L (2,id,oa g)).2.1.flatMap ox) (oe g id):=by
 obtain⟨r1,r2,r3,r4⟩:=sZ E hi;have H:=jT l r3;have Qi:=jL l r4;have V:ids 2 (oe g id::l)++ids 1 F=id::(ids 2 l++ids 1 F):=by rw[Qi];rfl
 have lh:¬(L.st=7 \/L.st=9):=λh=>by
  have:=(p.d.emp h).1;rw[V]at this;simp at this
 have U:=p.d.inc;have Z:=p.d.le;rw[V]at U Z;have Q:=cA.1 U;have he:oN X M l F t:=⟨by have:=p.e.inc;rw[H]at this;exact this,by have:=p.e.le;rw[H]at this;exact this,by have:=p.e.emp;rw[H]at this;exact this,p.e.lim,p.e.JW⟩
 have ZE:L.ow+(((ids 1 l).filter λi=> !Y i).length:Nat)<=t:=by have:=p.d.JW;rw[H]at this;exact this
 have D:=p.d.lim;have hf:∀y∈l,Mm h g y:=λy hy=>p.g y (by simp[hy]);have J:sm (oV X) [] +1<=oV Y (oe g id):=by rw[(Al E hi Y).2];exact Nat.le_refl _
 by_cases hw:id=L.ow
 ·have A:L.st=6 \/L.st=8:=by
   have:=p.lu;have:=p.l.st;omega
  obtain⟨a1,a2,a3,_,a5⟩:=WG E p.l A;subst hw;rw[a2];have j:ids 2 l++ids 1 F=[] :=by
   cases hl:ids 2 l++ids 1 F with
   |nil=>rfl
   |cons z zs=>
    have h1:=Q.1 z (by rw[hl];simp);have h2:=Z z (by rw[hl];simp);omega
  refine⟨⟨a1,p.m,by rw[a5];omega,p.mu,?_,hf,⟨?_,?_,λ_=>⟨?_,λi kX=> ?_⟩,?_,?_⟩,?_⟩,λ_ _=>rfl,λy hy=>by simp at hy,J,by rw[a5];omega⟩
  ·simpa using p.f
  ·rw[show F++iB ox [] =F by simp,j];exact List.Pairwise.nil
  ·rw[show F++iB ox [] =F by simp,j];exact λ_ h=>by simp at h
  ·rw[show F++iB ox [] =F by simp];exact j
  ·obtain⟨y,hy,u⟩:=ZD kX;cases hX:Y i
   ·rfl
   ·have:=(cA.1 D).1 y hy L.ow i r4 u hX;omega
  ·rw[a3];exact D.sublist (bP _ _)
  ·rw[a3];exact ZE
  ·rw[show F++iB ox [] =F by simp];exact he
 ·rw[adN E hi hw];refine⟨⟨p.l,p.m,p.lu,p.mu,?_,hf,⟨?_,?_,λh=>absurd h lh,D.sublist (bP _ _),ZE⟩,?_⟩,λ_ _=>rfl,λy hy=>by simp at hy,J,p.lu⟩
  ·simpa using p.f
  ·rw[show F++iB ox [] =F by simp];exact Q.2
  ·rw[show F++iB ox [] =F by simp];exact λi hi=>Z i (by simp[hi])
  ·rw[show F++iB ox [] =F by simp];exact he
theorem Pair.new(U:1<=g/\g<=255)(hh:1<=h/\h<=255)(l:LI g L)(m:LI h M)(s1:L.st=6)(s2:M.st=6)(w1:L.ow+1<=t)(w2:M.ow+1<=t):Pair (λ_=>false) (λ_=>false) t g h L M [mQ g L.ow] [mQ h M.ow] :=by
 obtain⟨q1,q2,_,_⟩:=sZ U ⟨l.k.o1,l.k.o2⟩;obtain⟨r1,Q,_,_⟩:=sZ hh ⟨m.k.o1,m.k.o2⟩;have Z:ids 1 [mQ g L.ow] =[L.ow] :=by rw[jL _ q1];rfl
 have V:ids 2 [mQ g L.ow] =[] :=by rw[jT _ q2];rfl
 have b1:ids 1 [mQ h M.ow] =[M.ow] :=by rw[jL _ r1];rfl
 have b2:ids 2 [mQ h M.ow] =[] :=by rw[jT _ Q];rfl
 refine⟨l,m,eh,eh,λx hx=> ?_,λx hx=> ?_,⟨?_,?_,λh=>eh,gZ,?_⟩,⟨?_,?_,λh=>eh,gZ,?_⟩⟩
 ·exact .inr (.inl ⟨_,l.k.o1,l.k.o2,ar.1 hx⟩)
 ·exact .inr (.inl ⟨_,m.k.o1,m.k.o2,ar.1 hx⟩)
 ·rw[Z,b2];simp
 ·rw[Z,b2];simp
 ·rw[b1];show L.ow+((1:Nat):Int)<=t;omega
 ·rw[b1,V];simp
 ·rw[b1,V];simp
 ·rw[Z];show M.ow+((1:Nat):Int)<=t;omega
def j3(a:AN)(c d:Nat):LS:=((a.R (a.e c d).1).P (a.e c d).2).L
def gP(x:Nat×Nat):Int:=8*((x.1:Int)+1)+(x.2:Int)+1
theorem rH(Z:tP a)(hc:c<a.nc)(hd:d<2):1<=gP (a.e c d)/\gP (a.e c d)<=255:=by
 have:=Z.en c d hc hd;have:=Z.n6;unfold gP;omega
theorem abk(Z:tP a)(hc:c<a.nc)(hd:d<2)(V:d'<2)(h:d≠d'):gP (a.e c d)≠gP (a.e c d'):=by
 have h1:=Z.en c d hc hd;have h2:=Z.en c d' hc V;intro e;unfold gP at e;have:a.e c d=a.e c d':=aV eh eh;exact h (Z.ds _ _ _ _ hc hd hc V this).2
abbrev Marks:=Nat->Nat->Int->Bool
structure rj(X:Marks)(t:Nat×Nat->Nat)(a:AN):Prop where
 up:∀c,c<a.nc->a.iT c=true->Pair (X c 0) (X c 1) (t (a.e c 0)+t (a.e c 1)) (gP (a.e c 0)) (gP (a.e c 1)) (j3 a c 0) (j3 a c 1) (a.F c 0) (a.F c 1)
 dn:∀c,c<a.nc->a.iT c=false->∀d,d<2->LI (gP (a.e c d)) (j3 a c d)/\(j3 a c d).st=1/\(j3 a c d).ow<=((t (a.e c 0)+t (a.e c 1):Nat):Int)/\a.F c d=[]
theorem rj.tT {X:Marks} {t:Nat×Nat->Nat} (h:rj X t a)(hc:c<a.nc)(hd:d<2)(hi:a.iT c=true):Pair (X c d) (X c (1-d)) (t (a.e c 0)+t (a.e c 1)) (gP (a.e c d)) (gP (a.e c (1-d))) (j3 a c d) (j3 a c (1-d)) (a.F c d) (a.F c (1-d)):=by
 have:d=0 \/d=1:=eh;rcases this with rfl|rfl
 ·exact h.up c hc hi
 ·exact(h.up c hc hi).symm
theorem rj.zc {X:Marks} {t:Nat×Nat->Nat} (h:rj X t a)(hc:c<a.nc)(hd:d<2)(hx:x∈a.F c d):a.iT c=true:=by
 cases hi:a.iT c
 ·have:=(h.dn c hc hi d hd).2.2.2;rw[this]at hx;simp at hx
 ·rfl
theorem Mq {X:Marks} {g:Nat->Int} {L:Nat->LS} {F:Nat->List lv} (hd:d<2)(h:Pair (X 0 d) (X 0 (1-d)) t (g d) (g (1-d)) (L d) (L (1-d)) (F d) (F (1-d))):Pair (X 0 0) (X 0 1) t (g 0) (g 1) (L 0) (L 1) (F 0) (F 1):=by
 have:d=0 \/d=1:=eh;rcases this with rfl|rfl
 ·exact h
 ·exact h.symm
theorem rj.PT {X X':Marks} {t u:Nat×Nat->Nat} (h:rj X t a)(V:∀x,t x<=u x)(U:b.e=a.e)(hc:c<a.nc)(hi:b.iT c=a.iT c)(Q:∀d,d<2->X' c d=X c d)(Z:∀d,d<2->j3 b c d=j3 a c d)(hF:∀d,d<2->b.F c d=a.F c d):(b.iT c=true->Pair (X' c 0) (X' c 1) (u (b.e c 0)+u (b.e c 1)) (gP (b.e c 0)) (gP (b.e c 1)) (j3 b c 0) (j3 b c 1) (b.F c 0) (b.F c 1))/\(b.iT c=false->∀d,d<2->LI (gP (b.e c d)) (j3 b c d)/\(j3 b c d).st=1/\(j3 b c d).ow<=((u (b.e c 0)+u (b.e c 1):Nat):Int)/\b.F c d=[]):=by
 have t0:=V (a.e c 0);have t1:=V (a.e c 1);refine⟨λhb=> ?_,λhb d hd=> ?_⟩
 ·rw[U,Q 0 eA,Q 1 eA,Z 0 eA,Z 1 eA,hF 0 eA,hF 1 eA];exact(h.up c hc (by rw[<-hi];exact hb)).mono eh
 ·rw[U,Z d hd,hF d hd];obtain⟨J,H,a3,E⟩:=h.dn c hc (by rw[<-hi];exact hb) d hd;exact⟨J,H,eh,E⟩
theorem IB(a:AN)(i:Nat)(s:iO)(c d:Nat):j3 (a.op i s) c d=if(a.e c d).1=i then(s.P (a.e c d).2).L else j3 a c d:=by
 unfold j3;show((jW a.R i s.core (a.e c d).1).P (a.e c d).2).L=_;by_cases e:(a.e c d).1=i
 ·rw[e,iF,ai rfl];rfl
 ·rw[iE _ _ e,af e]
theorem IC(h:∀k∈ids 1 F,Y k=X k):∀y∈F,xX Y y=xX X y/\oV Y y=oV X y:=λy hy=>by
 unfold xX oV;cases e:CB 1 y with
 |none=>exact⟨rfl,rfl⟩
 |some i=>constructor<;>simp only[h i (JU hy e)]
theorem rj.quiet {X:Marks} {t:Nat×Nat->Nat} (h:rj X t a)(i:Nat)(s:iO)(U:∀p,(s.P p).L=((a.R i).P p).L)(u:∀p,jo (s.P p)=[] \/((s.P p).L.st=9/\∀y∈jo (s.P p),rG y)):rj X t (a.op i s):=by
 have l1:∀c d,j3 (a.op i s) c d=j3 a c d:=λc d=>by
  rw[IB];split
  ·rename_i e;rw[U,<-e];rfl
  ·rfl
 have f1:∀c d,∃em,(a.op i s).F c d=a.F c d++em/\(em=[] \/((j3 a c d).st=9/\∀y∈em,rG y)):=λc d=>by
  rw[vN];split
  ·rename_i e
   refine⟨_,rfl,?_⟩;rcases u (a.e c d).2 with g|⟨g1,V⟩
   ·exact .inl g
   ·right;rw[U]at g1;unfold j3;rw[e.2];exact⟨g1,V⟩
  ·exact⟨[],gZ,.inl rfl⟩
 refine⟨λc hc hi=> ?_,λc hc hi d hd=> ?_⟩
 ·have p:=h.up c hc hi;rw[l1,l1];obtain⟨D,Q,b0⟩:=f1 c 0;obtain⟨A,Z,b1⟩:=f1 c 1;rw[Q,Z];have j:∀y∈D,rG y:=by
   rcases b0 with b|b;· rw[b];exact λ_ h=>by simp at h
   ·exact b.2
  have n1:∀y∈A,rG y:=by
   rcases b1 with b|b;· rw[b];exact λ_ h=>by simp at h
   ·exact b.2
  exact((p.more j).symm.more n1).symm
 ·obtain⟨Z,J,H,E⟩:=h.dn c hc hi d hd;rw[l1];obtain⟨em,g1,V⟩:=f1 c d;refine⟨Z,J,H,?_⟩;rw[g1,E];rcases V with g|g
  ·rw[g];rfl
  ·have:=g.1;omega
theorem xe(i p:Nat)(s:iO)(h:∀q,q≠p->(s.P q).L=((a.R i).P q).L/\jo (s.P q)=[])(c d:Nat):(a.e c d≠(i,p)->j3 (a.op i s) c d=j3 a c d/\(a.op i s).F c d=a.F c d)/\(a.e c d=(i,p)->c<a.nc->d<2->j3 (a.op i s) c d=(s.P p).L/\(a.op i s).F c d=a.F c d++jo (s.P p)):=by
 refine⟨λJ=> ?_,λU hc hd=> ?_⟩
 ·rw[IB,vN];by_cases e:(a.e c d).1=i
  ·have Q:(a.e c d).2≠p:=λZ=>J (aV e Z);obtain⟨g1,V⟩:=h _ Q;rw[ai e,g1,V,aB];refine⟨?_,by split<;>rfl⟩;unfold j3;rw[e]
  ·rw[af e,af (λz=>e z.2)];exact⟨rfl,rfl⟩
 ·rw[IB,vN,U,ai rfl,ai ⟨⟨hc,hd⟩,rfl⟩];exact⟨rfl,rfl⟩
def qA(t:Nat×Nat->Nat)(T:List (Nat×Nat))(x:Nat×Nat):Nat:=t x+T.count x
def Gf(X:Marks)(c d:Nat)(Y:Int->Bool):Marks:=λc' d'=>if c'=c/\d'=d then Y else X c' d'
theorem rI(X:Marks)(c d:Nat)(Y:Int->Bool):Gf X c d Y c d=Y:=ai ⟨rfl,rfl⟩
theorem mH(X:Marks) {c':Nat} (Y:Int->Bool)(h:¬(c'=c/\d'=d)):Gf X c d Y c' d'=X c' d':=af h
theorem Ao(c:UInt8)(s:List UInt8)(h:c≠76):rG (c::s):=λk u e=>by rw[<-(aC e).1];exact h
def AG(r:iO)(p:Nat):List lv:=if(je (r.P p).L).1.st=9 then(72::[j1 r.id,j1 (iK (r.P p).pe).who])::(if(iK (r.P p).pe).both=true then(lJ (((jd r p).meet p (iK (r.P p).pe)).O p)).flatMap DH else [])else []
theorem xf(r:iO)(p:Nat):∀y∈AG r p,rG y:=λy hy=>by
 unfold AG at hy;split at hy
 ·rcases aO.1 hy with g|g
  ·rw[g];exact Ao 72 _ eA
  ·split at g
   ·obtain⟨q,_,Z⟩:=aT.1 g;unfold DH at Z;split at Z
    ·rw[ar.1 Z];exact Ao 83 _ eA
    ·simp at Z
   ·simp at g
 ·simp at hy
theorem BJ(r:iO)(p q:Nat):((r.iY p).P q).L=if q=p then(je (r.P p).L).1 else(r.P q).L:=by
 have Z:((jd r p).P q).L=if q=p then(je (r.P p).L).1 else(r.P q).L:=by
  unfold jd;rw[kK];split
  ·rename_i e;rw[sX]
  ·rfl
 rw[ld];split
 ·rw[(j9 _ _ _ _).2.1];exact Z
 ·rw[((pN _ _).2.2.2.2 q).2.2,(j9 _ _ _ _).2.1];exact Z
structure Mr(X Y:Marks)(a b:AN)(c d:Nat)(l em:List lv):Prop where
 f:b.F c d=l++em
 o:∀y∈l,xX (Y c d) y=xX (X c d) y/\oV (Y c d) y=oV (X c d) y
theorem rj.tick {X:Marks} {t:Nat×Nat->Nat} {a:AN} (hB:tP a)(hN:Norm a)(h:rj X t a) {i p:Nat} (ht:∀x,t x<=126):∃Y,rj Y (qA t [(i,p)]) (a.op i ((a.R i).iY p))/\∀c d,c<a.nc->d<2->(a.e c d≠(i,p)->Mr X Y a (a.op i ((a.R i).iY p)) c d (a.F c d) [])/\(a.e c d=(i,p)->∃em,(em=[] \/em=[mQ (gP (a.e c d)) ((j3 a c d).ow+1)])/\Mr X Y a (a.op i ((a.R i).iY p)) c d (a.F c d) (em++AG (a.R i) p)):=by
 obtain⟨e1,e2⟩:=xK (hN.emp i) p;have Q:=xe (a:=a) i p ((a.R i).iY p) λq hq=>⟨by rw[BJ,af hq],e1 q hq⟩
 have ZH:(((a.R i).iY p).P p).L=(je ((a.R i).P p).L).1:=by rw[BJ,ai rfl]
 have A:∀x,t x<=qA t [(i,p)] x:=λx=>Nat.le_add_right _ _;by_cases hex:∃c d,c<a.nc/\d<2/\a.e c d=(i,p)
 ·obtain⟨c,d,hc,hd,u⟩:=hex;have pI:j3 a c d=((a.R i).P p).L:=by unfold j3;rw[u]
  have hu:∀c' d',c'<a.nc->d'<2->¬(c'=c/\d'=d)->a.e c' d'≠(i,p):=λc' d' U V j e=>j (hB.ds _ _ _ _ U V hc hd (e.trans u.symm));cases hi:a.iT c
  ·obtain⟨l1,l2,l3,l4⟩:=h.dn c hc hi d hd;have zj:=JT (rH hB hc hd) l1;have ku:je (j3 a c d)=(j3 a c d,[]):=by
    rcases zj.or with g|g
    ·exact aV (g.2.2.2.1 (.inl l2)) g.1
    ·omega
   rw[pI]at ku l2;have em0:jo (((a.R i).iY p).P p)=[] :=by
    rw[e2,ku,af (by rw[l2];decide)];rfl
   have tk0:AG (a.R i) p=[] :=by unfold AG;rw[ku,af (by rw[l2];decide)]
   have nO:∀c' d',j3 (a.op i ((a.R i).iY p)) c' d'=j3 a c' d'/\(a.op i ((a.R i).iY p)).F c' d'=a.F c' d':=λc' d'=>by
    by_cases E:a.e c' d'=(i,p)
    ·rw[IB,vN,E,ai rfl,ZH,ku];refine⟨by unfold j3;rw[E],?_⟩;split
     ·rw[em0,aB]
     ·rfl
    ·exact(Q c' d').1 E
   refine⟨X,⟨λc' U H=> ?_,λc' U H=> ?_⟩,λc' d' U V=>⟨λ_=>⟨by rw[(nO c' d').2];simp,λ_ _=>⟨rfl,rfl⟩⟩,λ_=>⟨[],.inl rfl,by rw[(nO c' d').2,tk0];simp,λ_ _=>⟨rfl,rfl⟩⟩⟩⟩
   ·exact(h.PT (X':=X) (b:=a.op i ((a.R i).iY p)) A rfl U rfl (λ_ _=>rfl) (λd _=>(nO c' d).1) (λd _=>(nO c' d).2)).1 H
   ·exact(h.PT (X':=X) (b:=a.op i ((a.R i).iY p)) A rfl U rfl (λ_ _=>rfl) (λd _=>(nO c' d).1) (λd _=>(nO c' d).2)).2 H
  ·have pr:=h.tT hc hd hi;have MX:t (a.e c 0)+t (a.e c 1)+1<=255:=by have:=ht (a.e c 0);have:=ht (a.e c 1);omega
   obtain⟨Z,q1,q2,q3⟩:=pr.tick (rH hB hc hd) MX;have q1:=q1.more (xf (a.R i) p);obtain⟨f1,f2⟩:=(Q c d).2 u hc hd;rw[e2]at f2;have f2:(a.op i ((a.R i).iY p)).F c d=a.F c d++(je (j3 a c d)).2.flatMap ox++AG (a.R i) p:=by
    rw[f2,pI,aD];rfl
   rw[ZH,<-pI]at f1;have GL:a.e c (1-d)≠(i,p):=hu c (1-d) hc eh eh;obtain⟨k1,k2⟩:=(Q c (1-d)).1 GL;have amk:qA t [(i,p)] (a.e c 0)+qA t [(i,p)] (a.e c 1)=t (a.e c 0)+t (a.e c 1)+1:=by
    have c1:([(i,p)] :List (Nat×Nat)).count (a.e c d)=1:=by rw[u];simp
    have c2:([(i,p)] :List (Nat×Nat)).count (a.e c (1-d))=0:=List.count_eq_zero.2 (by simp[GL]);have:d=0 \/d=1:=eh;unfold qA;rcases this with rfl|rfl
    ·rw[c1,show([(i,p)] :List (Nat×Nat)).count (a.e c 1)=0 from c2];omega
    ·rw[c1,show([(i,p)] :List (Nat×Nat)).count (a.e c 0)=0 from c2];omega
   refine⟨Gf X c d Z,⟨λc' U H=> ?_,λc' U H=> ?_⟩,λc' d' U V=>⟨λj=> ?_,λE=> ?_⟩⟩
   ·by_cases hcc:c'=c
    ·subst hcc;show Pair _ _ (qA t [(i,p)] (a.e c' 0)+qA t [(i,p)] (a.e c' 1)) (gP (a.e c' 0)) (gP (a.e c' 1)) _ _ _ _;rw[amk];refine Mq (X:=λ_ d'=>Gf X c' d Z c' d') (g:=λd'=>gP (a.e c' d')) (L:=λd'=>j3 (a.op i ((a.R i).iY p)) c' d') (F:=λd'=>(a.op i ((a.R i).iY p)).F c' d') hd ?_;show Pair (Gf X c' d Z c' d) (Gf X c' d Z c' (1-d)) _ _ _ _ _ _ _;rw[rI,mH X Z eh,f1,f2,k1,k2];exact q1
    ·have J:∀d',d'<2->a.e c' d'≠(i,p):=λd' V=>hu c' d' U V λz=>hcc z.1;exact(h.PT (X':=Gf X c d Z) (b:=a.op i ((a.R i).iY p)) A rfl U rfl (λd' _=>mH X Z λz=>hcc z.1) (λd' V=>((Q c' d').1 (J d' V)).1) (λd' V=>((Q c' d').1 (J d' V)).2)).1 H
   ·have hcc:c'≠c:=λz=>by subst z;have:a.iT c'=false:=H;rw[hi]at this;exact absurd this gZ
    have J:∀d',d'<2->a.e c' d'≠(i,p):=λd' V=>hu c' d' U V λz=>hcc z.1;exact(h.PT (X':=Gf X c d Z) (b:=a.op i ((a.R i).iY p)) A rfl U rfl (λd' _=>mH X Z λz=>hcc z.1) (λd' V=>((Q c' d').1 (J d' V)).1) (λd' V=>((Q c' d').1 (J d' V)).2)).2 H
   ·have D:¬(c'=c/\d'=d):=λz=>j (by rw[z.1,z.2];exact u);exact⟨by rw[((Q c' d').1 j).2];simp,λ_ _=>by rw[mH X Z D];exact⟨rfl,rfl⟩⟩
   ·have D:=hB.ds _ _ _ _ U V hc hd (E.trans u.symm);obtain⟨z1,z2⟩:=D;subst z1 z2;exact⟨_,q3,by rw[f2,aD],λy hy=>by rw[rI];exact IC q2 y hy⟩
 ·have J:∀c d,c<a.nc->d<2->a.e c d≠(i,p):=λc d hc hd e=>hex ⟨c,d,hc,hd,e⟩;refine⟨X,⟨λc hc hi=> ?_,λc hc hi=> ?_⟩,λc d hc hd=>⟨λj=>⟨by rw[((Q c d).1 j).2];simp,λ_ _=>⟨rfl,rfl⟩⟩,λE=>absurd E (J c d hc hd)⟩⟩
  ·exact(h.PT (X':=X) (b:=a.op i ((a.R i).iY p)) A rfl hc rfl (λ_ _=>rfl) (λd hd=>((Q c d).1 (J c d hc hd)).1) (λd hd=>((Q c d).1 (J c d hc hd)).2)).1 hi
  ·exact(h.PT (X':=X) (b:=a.op i ((a.R i).iY p)) A rfl hc rfl (λ_ _=>rfl) (λd hd=>((Q c d).1 (J c d hc hd)).1) (λd hd=>((Q c d).1 (J c d hc hd)).2)).2 hi
theorem vp(r:iO)(i:Nat) {c:UInt8} (s:List UInt8)(hc:c≠76)(p:Nat):((r.take i c s).P p).L=(r.P p).L:=by
 rw[lP,uJ i s hc];split
 ·exact(j9 _ _ _ _).2.1
 ·exact(Ox r i c s p).1
theorem tQ(r:iO)(i:Nat)(s:List UInt8)(p:Nat):((r.take i 76 s).P p).L=((j4 r i 76 s).P p).L/\((r.take i 76 s).P p).out=((j4 r i 76 s).P p).out:=by
 rw[lP];split
 ·exact⟨(j9 _ _ _ _).2.1,(j9 _ _ _ _).1⟩
 ·unfold mF;rw[af eA,af eA,af eA,af eA];exact⟨rfl,rfl⟩
theorem xN {i:Nat} (h:Fy r i x p l)(hx:rG x)(X Y:Int->Bool):(l=[] \/((r.P p).L.st=9/\∀y∈l,rG y))/\(∀y∈l,xX Y y+1<=xX X x)/\(sm (oV Y) l<=(if p=i then oV X x else 0)):=by
 have Z:∀(c:UInt8) (s:List UInt8),c≠76->CB 1 (c::s)=ν:=λc s h=>xM 1 s h;cases h with
 |none h=>rw[h];exact⟨.inl rfl,λ_ h=>by simp at h,Nat.zero_le _⟩
 |link s h _ _ _=>exact absurd rfl (hx 76 s h)
 |heard s hs U V _ _ _ _ h=>
  have d1:xX X x=2/\oV X x=2:=by rw[hs];unfold xX oV;rw[Z 83 s eA];exact⟨rfl,rfl⟩
  have d2:∀u,xX Y (65::u)=1/\oV Y (65::u)=1:=λu=>by unfold xX oV;rw[Z 65 u eA];exact⟨rfl,rfl⟩
  rw[h];refine⟨.inr ⟨by rw[U];exact V,λy hy=>by rw[ar.1 hy];exact Ao 65 _ eA⟩,λy hy=>by rw[ar.1 hy,(d2 _).1,d1.1];exact Nat.le_refl _,?_⟩;rw[ai U,d1.2];show oV Y _+0<=2;rw[(d2 _).2];decide
 |JM a b s hs V h1 _ h=>
  have d1:xX X x=b.toNat+1:=by rw[hs];unfold xX;rw[Z 77 _ eA];rfl
  have d2:xX Y (77::a::j1 ((b.toNat:Int)-1)::s)=b.toNat:=by
   unfold xX;rw[Z 77 _ eA];show(j1 ((b.toNat:Int)-1)).toNat+1=_;have:=nI ((b.toNat:Int)-1) eh (by have:=b.toNat_lt;omega);omega
  have Q:oV Y (77::a::j1 ((b.toNat:Int)-1)::s)=0:=by unfold oV;rw[Z 77 _ eA];rfl
  rw[h];refine⟨.inr ⟨V,λy hy=>by rw[ar.1 hy];exact Ao 77 _ eA⟩,λy hy=>by rw[ar.1 hy,d2,d1];exact Nat.le_refl _,?_⟩;show oV Y _+0<=_;rw[Q];exact Nat.zero_le _
def wc(X:Marks)(a:AN)(c:Nat):Nat:=sm (oV (X c 0)) (a.F c 0)+sm (oV (X c 1)) (a.F c 1)
theorem tf {α:Type} {f g:α->Nat} {l:List α} (h:∀x∈l,f x=g x):sm f l=sm g l:=by
 refine Nat.le_antisymm (vH λx hx=>Nat.le_of_eq (h x hx)) (vH λx hx=>Nat.le_of_eq (h x hx).symm)
theorem Mr.w {X Y:Marks} (h:Mr X Y a b c d l em):sm (oV (Y c d)) (b.F c d)=sm (oV (X c d)) l+sm (oV (Y c d)) em:=by
 rw[h.f,pW,tf λy hy=>(h.o y hy).2]
theorem ZI {X:Marks} {t:Nat×Nat->Nat} (h:rj X t a)(hc:c<a.nc)(hd:d<2)(hF:a.F c d=x::l):rj X t (a.lH c d l):=by
 refine⟨λc' V hi=> ?_,λc' V hi d' H=> ?_⟩
 ·have p:=h.up c' V hi;have hs:∀d',((a.lH c d l).F c' d').Sublist (a.F c' d'):=λd'=>by
   rw[sY];split
   ·rename_i e;rw[e.1,e.2,hF];exact bP _ _
   ·exact List.Sublist.refl _
  exact p.sub (hs 0) (hs 1)
 ·obtain⟨U,Q,J,Z⟩:=h.dn c' V hi d' H;refine⟨U,Q,J,?_⟩;rw[sY,af]
  ·exact Z
  ·rintro⟨rfl,rfl⟩;rw[hF]at Z;exact absurd Z gZ
theorem Qj {P:Prop} [Decidable P] {k:Nat} (hd:d<2) {s e f:Nat->Nat} (Q:∀d',d'<2->e d'<=if P/\d'=1-d then k else 0)(hs:∀d',d'<2->s d'+(if P/\d'=d then k else 0)<=f d'):s 0+e 0+(s 1+e 1)<=f 0+f 1:=by
 have Z:=Q 0 eA;have V:=Q 1 eA;have b0:=hs 0 eA;have b1:=hs 1 eA;have J:d=0 \/d=1:=eh;by_cases U:P
 ·rcases J with rfl|rfl<;>simp[U]at Z V b0 b1<;>omega
 ·simp[U]at Z V b0 b1;omega
structure adQ(X Y:Marks)(a b:AN)(c d:Nat)(x:lv)(l:List lv):Prop where
 fl:∀c' d',c'<a.nc->d'<2->∃em,Mr X Y a b c' d' (if c'=c/\d'=d then l else a.F c' d') em/\(∀y∈em,xX (Y c' d') y+1<=xX (X c d) x)
 w:∀c',c'<a.nc->wc Y b c'<=wc X a c'
theorem rj.pop {X:Marks} {t:Nat×Nat->Nat} {a:AN} (hB:tP a)(hN:Norm a)(h:rj X t a)(ht:∀x,t x<=127) {c d:Nat} {x:lv} {l:List lv} (hc:c<a.nc)(hd:d<2)(hF:a.F c d=x::l):∃Y,rj Y t (a.pop c d x l)/\adQ X Y a (a.pop c d x l) c d x l:=by
 have hi:=h.zc hc hd (x:=x) (by rw[hF];simp);have pr:=(h.tT hc hd hi).symm;have hs0:=ZI h hc hd hF;obtain⟨r,hr⟩:=gq (a.R (a.e c (1-d)).1);obtain⟨i,E⟩:=gq ((a.e c (1-d)).1);obtain⟨p,oP⟩:=gq ((a.e c (1-d)).2);have TB:a.e c (1-d)=(i,p):=aV E oP;have Q:a.pop c d x l=(a.lH c d l).op i (jP r p x):=by unfold AN.pop;rw[hr,E,oP]
 have Gy:a.R i=r:=by rw[<-E];exact hr
 have XW:Kh r:=by rw[<-Gy];exact hN.emp i
 obtain⟨D,_⟩:=qu XW p x;have pI:j3 a c (1-d)=(r.P p).L:=by unfold j3;rw[TB,Gy]
 have hif:∀c' d',(a.lH c d l).F c' d'=if c'=c/\d'=d then l else a.F c' d':=λ_ _=>rfl
 by_cases hx:rG x
 ·
  have hL:∀q,((jP r p x).P q).L=(r.P q).L:=λq=>by
   cases x with
   |nil=>rfl
   |cons k s=>exact vp r p s (hx k s rfl) q
  have hq:=λq=>xN (D q) hx (X c d) (λ_=>false);have hl:=hs0.quiet i (jP r p x) (λq=>by rw[hL];show(r.P q).L=((a.R i).P q).L;rw[Gy]) λq=>by
   rcases(hq q).1 with g|⟨g1,g2⟩
   ·exact .inl g
   ·exact .inr ⟨by rw[hL];exact g1,g2⟩
  have xx:∀c' d',c'<a.nc->d'<2->Mr X X a (a.pop c d x l) c' d' (if c'=c/\d'=d then l else a.F c' d') (if(a.e c' d').1=i then jo ((jP r p x).P (a.e c' d').2)else []):=λc' d' V U=>by
   refine⟨?_,λ_ _=>⟨rfl,rfl⟩⟩;rw[Q,vN,yY,DE,hif];by_cases e:(a.e c' d').1=i
   ·rw[ai ⟨⟨V,U⟩,e⟩,ai e]
   ·rw[af (λz=>e z.2),af e,aB]
  refine⟨X,by rw[Q];exact hl,λc' d' V U=>⟨_,xx c' d' V U,λy hy=> ?_⟩,λc' V=> ?_⟩
  ·split at hy
   ·exact(xN (D (a.e c' d').2) hx (X c d) (X c' d')).2.1 y hy
   ·simp at hy
  ·have w0:=(xx c' 0 V eA).w;have w1:=(xx c' 1 V eA).w;have hE:∀d',d'<2->sm (oV (X c' d')) (if(a.e c' d').1=i then jo ((jP r p x).P (a.e c' d').2)else [])<=if c'=c/\d'=1-d then oV (X c d) x else 0:=λd' U=>by
    by_cases e:(a.e c' d').1=i
    ·rw[ai e];have:=(xN (D (a.e c' d').2) hx (X c d) (X c' d')).2.2;by_cases e2:(a.e c' d').2=p
     ·rw[ai e2]at this;have:=hB.ds c' d' c (1-d) V U hc eh (by rw[TB];exact aV e e2);rw[ai this];assumption
     ·rw[af e2]at this;omega
    ·rw[af e];exact Nat.zero_le _
   have hI:∀d',d'<2->sm (oV (X c' d')) (if c'=c/\d'=d then l else a.F c' d')+(if c'=c/\d'=d then oV (X c d) x else 0)<=sm (oV (X c' d')) (a.F c' d'):=λd' U=>by
    by_cases e:c'=c/\d'=d
    ·rw[ai e,ai e,e.1,e.2,hF];show _<=oV (X c d) x+sm (oV (X c d)) l;omega
    ·rw[af e,af e];exact Nat.le_refl _
   unfold wc;rw[w0,w1];exact Qj hd (s:=λd'=>sm (oV (X c' d')) (if c'=c/\d'=d then l else a.F c' d')) (f:=λd'=>sm (oV (X c' d')) (a.F c' d')) hE hI
 ·
  have WL:(∃id,0<=id/\id<=255/\x=mQ (gP (a.e c d)) id) \/(∃id,0<=id/\id<=255/\x=oe (gP (a.e c (1-d))) id):=by
   rcases pr.g x (by rw[hF];simp)with g|g|g
   ·exact absurd g hx
   ·exact .inl g
   ·exact .inr g
  have gd:=rH hB hc hd;have J:=rH hB hc (show 1-d<2 by omega);obtain⟨q,s,TM,uO,hPL⟩:∃(q:kP) (s:List UInt8),x=76::s/\ja s=(q.1,q.2.1,q.2.2,0)/\∃Z,ZF (X c (1-d)) Z (X c d) (t (a.e c 0)+t (a.e c 1)) (gP (a.e c (1-d))) (gP (a.e c d)) (jN (j3 a c (1-d)) q).1 (j3 a c d) (a.F c (1-d)) l ((jN (j3 a c (1-d)) q).2.1.flatMap ox) x:=by
   rw[hF]at pr;rcases WL with⟨id,i1,i2,j⟩|⟨id,i1,i2,j⟩
   ·rw[j]at pr;obtain⟨Z,hZ⟩:=pr.req J gd (abk hB hc hd eh eh) (by have:=ht (a.e c 0);have:=ht (a.e c 1);omega) ⟨i1,i2⟩;exact⟨(1,id,oa (gP (a.e c d))),_,j,Aj (.inl rfl) ⟨i1,i2⟩ gd,Z,by rw[j];exact hZ⟩
   ·rw[j]at pr;have hZ:=pr.ack J ⟨i1,i2⟩;exact⟨(2,id,oa (gP (a.e c (1-d)))),_,j,Aj (.inr rfl) ⟨i1,i2⟩ J,X c (1-d),by rw[j];exact hZ⟩
  obtain⟨Z,pp⟩:=hPL;obtain⟨k1,_,k3,_⟩:=Af XW p 76 s;rw[uO]at k1 k3;have py:=xe (a:=a.lH c d l) i p (jP r p x) λu hu=>by
   rw[TM];show((r.take p 76 s).P u).L=((a.R i).P u).L/\jo ((r.take p 76 s).P u)=[]
   rw[(tQ r p s u).1,nL (tQ r p s u).2,k1,af (λz=>hu z.1),(k3 u).2.2,af (λz=>hu z.1),Gy];exact⟨rfl,rfl⟩
  have ZH:((jP r p x).P p).L=(jN (j3 a c (1-d)) q).1/\jo ((jP r p x).P p)=(jN (j3 a c (1-d)) q).2.1.flatMap ox:=by
   rw[TM,pI];show((r.take p 76 s).P p).L=_/\jo ((r.take p 76 s).P p)=_;rw[(tQ r p s p).1,nL (tQ r p s p).2,k1,ai ⟨rfl,rfl,rfl⟩,(k3 p).2.2,ai ⟨rfl,rfl,rfl⟩];exact⟨rfl,rfl⟩
  obtain⟨em,aml⟩:=gq ((jN (j3 a c (1-d)) q).2.1.flatMap ox);obtain⟨L',hL'⟩:∃L',(jN (j3 a c (1-d)) q).1=L':=⟨_,rfl⟩
  rw[aml,hL']at pp ZH;have hu:∀c' d',c'<a.nc->d'<2->¬(c'=c/\d'=1-d)->a.e c' d'≠(i,p):=λc' d' V U jx e=>jx (hB.ds _ _ _ _ V U hc eh (e.trans TB.symm));have hb:∀c' d',c'<a.nc->d'<2->¬(c'=c/\d'=1-d)->j3 (a.pop c d x l) c' d'=j3 a c' d'/\(a.pop c d x l).F c' d'=if c'=c/\d'=d then l else a.F c' d':=λc' d' V U jx=>by
   rw[Q];exact(py c' d').1 (hu c' d' V U jx)
  have kC:j3 (a.pop c d x l) c (1-d)=L'/\(a.pop c d x l).F c (1-d)=a.F c (1-d)++em:=by
   rw[Q];obtain⟨z1,z2⟩:=(py c (1-d)).2 TB hc (by show 1-d<2;omega);rw[z1,z2,ZH.1,ZH.2,hif,af eh];exact⟨rfl,rfl⟩
  have XP:=hb c d hc hd eh;rw[ai ⟨rfl,rfl⟩]at XP;have ui:(a.pop c d x l).nc=a.nc:=by rw[Q];rfl
  have H:(a.pop c d x l).e=a.e:=by rw[Q];rfl
  have kR:(a.pop c d x l).iT=a.iT:=by rw[Q];rfl
  have xx:∀c' d',c'<a.nc->d'<2->Mr X (Gf X c (1-d) Z) a (a.pop c d x l) c' d' (if c'=c/\d'=d then l else a.F c' d') (if c'=c/\d'=1-d then em else []):=λc' d' V U=>by
   by_cases e:c'=c/\d'=1-d
   ·rw[ai e,af eh];obtain⟨e1,e2⟩:=e;subst e1 e2;exact⟨kC.2,λy hy=>by rw[rI];exact IC pp.old y hy⟩
   ·rw[af e];exact⟨by rw[(hb c' d' V U e).2,aB],λy hy=>by rw[mH X Z e];exact⟨rfl,rfl⟩⟩
  refine⟨Gf X c (1-d) Z,⟨λc' V kX=> ?_,λc' V kX=> ?_⟩,λc' d' V U=>⟨_,xx c' d' V U,λy hy=> ?_⟩,λc' V=> ?_⟩
  ·rw[ui]at V;by_cases hcc:c'=c
   ·subst hcc;rw[H];refine Mq (X:=λ_ d'=>Gf X c' (1-d) Z c' d') (g:=λd'=>gP (a.e c' d')) (L:=λd'=>j3 (a.pop c' d x l) c' d') (F:=λd'=>(a.pop c' d x l).F c' d') (d:=1-d) eh ?_;show Pair (Gf X c' (1-d) Z c' (1-d)) (Gf X c' (1-d) Z c' (1-(1-d))) _ _ _ _ _ _ _;rw[show 1-(1-d)=d by omega,rI,mH X Z eh,kC.1,kC.2,XP.1,XP.2];exact pp.p
   ·rw[kR]at kX;have A:∀d',¬(c'=c/\d'=1-d):=λ_ z=>hcc z.1;refine(h.PT (X':=Gf X c (1-d) Z) (b:=a.pop c d x l) (u:=t) (λ_=>Nat.le_refl _) H V (by rw[kR]) (λd' _=>mH X Z (A d')) (λd' U=>(hb c' d' V U (A d')).1) (λd' U=> ?_)).1 (by rw[kR];exact kX);rw[(hb c' d' V U (A d')).2,af (λz=>hcc z.1)]
  ·rw[ui]at V;have hcc:c'≠c:=λz=>by subst z;rw[kR,hi]at kX;exact absurd kX gZ
   have A:∀d',¬(c'=c/\d'=1-d):=λ_ z=>hcc z.1;refine(h.PT (X':=Gf X c (1-d) Z) (b:=a.pop c d x l) (u:=t) (λ_=>Nat.le_refl _) H V (by rw[kR]) (λd' _=>mH X Z (A d')) (λd' U=>(hb c' d' V U (A d')).1) (λd' U=> ?_)).2 kX;rw[(hb c' d' V U (A d')).2,af (λz=>hcc z.1)]
  ·split at hy
   ·rename_i e
    rw[e.1,e.2,rI];exact pp.dp y hy
   ·simp at hy
  ·have w0:=(xx c' 0 V eA).w;have w1:=(xx c' 1 V eA).w;have arw:=pp.wg;unfold wc;rw[w0,w1];refine Qj (P:=c'=c) (k:=oV (X c d) x) hd (s:=λd'=>sm (oV (X c' d')) (if c'=c/\d'=d then l else a.F c' d')) (e:=λd'=>sm (oV (Gf X c (1-d) Z c' d')) (if c'=c/\d'=1-d then em else [])) (f:=λd'=>sm (oV (X c' d')) (a.F c' d')) (λd' _=> ?_) λd' _=> ?_
   ·by_cases e:c'=c/\d'=1-d
    ·simp only[if_pos e];rw[e.1,e.2,rI];omega
    ·simp only[if_neg e];exact Nat.le_refl _
   ·by_cases e:c'=c/\d'=d
    ·simp only[if_pos e];rw[e.1,e.2,hF];show _<=oV (X c d) x+sm (oV (X c d)) l;omega
    ·simp only[if_neg e];exact Nat.le_refl _
theorem xh(A:tP a)(y:Norm a)(hc:c<a.nc)(hd:d<2)(up:Bool)(h:(k8 (j3 a c d) (if up=true then 0 else 1)).2.2=0):∀c' d',c'<a.nc->d'<2->(¬(c'=c/\d'=d)->j3 (a.nK c d up) c' d'=j3 a c' d'/\(a.nK c d up).F c' d'=a.F c' d')/\(c'=c/\d'=d->j3 (a.nK c d up) c' d'=(k8 (j3 a c d) (if up=true then 0 else 1)).1/\(a.nK c d up).F c' d'=a.F c d++(k8 (j3 a c d) (if up=true then 0 else 1)).2.1.flatMap ox):=λc' d' U Q=>by
 obtain⟨H,E,D⟩:=JN (y.emp (a.e c d).1) (a.e c d).2 up h;have Z:∀q,(((a.R (a.e c d).1).iL (a.e c d).2 up).1.P q).L=if q=(a.e c d).2 then(k8 (j3 a c d) (if up=true then 0 else 1)).1 else((a.R (a.e c d).1).P q).L:=λq=>by
  rw[D,(j9 _ _ _ _).2.1,kK];split
  ·rw[Ff];rfl
  ·rfl
 have J:=xe (a:=a) (a.e c d).1 (a.e c d).2 _ (λq V=>⟨by rw[Z,af V],H q V⟩) c' d';refine⟨λj=>J.1 λe=>j (A.ds _ _ _ _ U Q hc hd e),λu=> ?_⟩;obtain⟨z1,z2⟩:=u;subst z1 z2;have:=J.2 rfl U Q;rw[Z,ai rfl,E]at this;exact this
theorem FH(j:tP a)(hN:Norm a)(hc:c<a.nc)(up:Bool)(h:∀d,d<2->(k8 (j3 a c d) (if up=true then 0 else 1)).2.2=0):(∀c' d',c'<a.nc->d'<2->c'≠c->j3 (a.iL c up) c' d'=j3 a c' d'/\(a.iL c up).F c' d'=a.F c' d')/\∀d,d<2->j3 (a.iL c up) c d=(k8 (j3 a c d) (if up=true then 0 else 1)).1/\(a.iL c up).F c d=(k8 (j3 a c d) (if up=true then 0 else 1)).2.1.flatMap ox:=by
 obtain⟨b,hb⟩:=gq ((({a with iT:=jW a.iT c up}:AN).lH c 0 []).lH c 1 []);have D:tP b:=j.same (by rw[<-hb];rfl) (by rw[<-hb];rfl) (by rw[<-hb];rfl);have A:Norm b:=by rw[<-hb];exact hN
 have U:c<b.nc:=by rw[<-hb];exact hc
 have Q:∀c' d',j3 b c' d'=j3 a c' d':=λc' d'=>by rw[<-hb];rfl
 have Z:∀c' d',b.F c' d'=if c'=c/\d'=1 then []else if c'=c/\d'=0 then []else a.F c' d':=λc' d'=>by rw[<-hb];rfl
 have hp:a.iL c up=(b.nK c 0 up).nK c 1 up:=by unfold AN.iL;rw[hb]
 have f0:=xh D A U (by decide:0<2) up (by rw[Q];exact h 0 eA);have rN:tP (b.nK c 0 up):=D.same rfl rfl rfl;have V:=(f0 c 1 U eA).1 eh;have f1:=xh (a:=b.nK c 0 up) rN (rb A _ _) U (by decide:1<2) up (by rw[V.1,Q];exact h 1 eA);have J:b.nc=a.nc:=by rw[<-hb];rfl
 rw[hp];refine⟨λc' d' y u H=> ?_,λd hd=> ?_⟩
 ·have g0:=(f0 c' d' (by rw[J];exact y) u).1 (λz=>H z.1);have g1:=(f1 c' d' (by show c'<b.nc;rw[J];exact y) u).1 (λz=>H z.1);rw[g1.1,g1.2,g0.1,g0.2,Q,Z,af (λz=>H z.1),af (λz=>H z.1)];exact⟨rfl,rfl⟩
 ·have:d=0 \/d=1:=eh;rcases this with rfl|rfl
  ·have g1:=(f1 c 0 U eA).1 eh;have g0:=(f0 c 0 U eA).2 ⟨rfl,rfl⟩;have E:b.F c 0=[] :=by rw[Z];simp
   rw[g1.1,g1.2,g0.1,g0.2,Q,E];exact⟨rfl,rfl⟩
  ·have g1:=(f1 c 1 U eA).2 ⟨rfl,rfl⟩;have E:b.F c 1=[] :=by rw[Z];simp
   rw[g1.1,g1.2,V.1,V.2,Q,E];exact⟨rfl,rfl⟩
theorem uK(a:AN)(c:Nat)(up:Bool)(c':Nat):(a.iL c up).iT c'=if c'=c then up else a.iT c':=rfl
theorem rj.iL {X:Marks} {t:Nat×Nat->Nat} {a:AN} (U:tP a)(hN:Norm a)(h:rj X t a)(D:∀x,t x<=126) {c:Nat} (hc:c<a.nc)(hi:a.iT c=false):rj (Gf (Gf X c 0 λ_=>false) c 1 λ_=>false) (qA t [a.e c 0,a.e c 1]) (a.iL c true):=by
 have Z:=h.dn c hc hi;have hu:=λd hd=>abg (rH U hc hd) (Z d hd).1 (Z d hd).2.1;obtain⟨f1,f2⟩:=FH U hN hc true λd hd=>(Eu (Z d hd).2.1).1;have H:∀x,t x<=qA t [a.e c 0,a.e c 1] x:=λx=>Nat.le_add_right _ _;have A:a.e c 0≠a.e c 1:=λe=>by have:=(U.ds _ _ _ _ hc eA hc eA e).2;omega
 refine⟨λc' V Q=> ?_,λc' V Q=> ?_⟩
 ·by_cases e:c'=c
  ·subst e;have E:∀d,d<2->Gf (Gf X c' 0 λ_=>false) c' 1 (λ_=>false) c' d=λ_=>false:=λd hd=>by
    have:d=0 \/d=1:=eh;rcases this with rfl|rfl
    ·rw[mH _ _ eh,rI]
    ·rw[rI]
   have hF:∀d,d<2->(a.iL c' true).F c' d=[mQ (gP (a.e c' d)) (j3 (a.iL c' true) c' d).ow] /\LI (gP (a.e c' d)) (j3 (a.iL c' true) c' d)/\(j3 (a.iL c' true) c' d).st=6/\(j3 (a.iL c' true) c' d).ow=(j3 a c' d).ow+1:=λd hd=>by
    obtain⟨u1,u2,u3,u4,u5⟩:=hu d hd;obtain⟨g1,g2⟩:=f2 d hd;have hw:=(Z d hd).2.2.1;have ho:=(Z d hd).1.k.o1;have hb:(j3 a c' d).ow+1<=255:=by have:=D (a.e c' 0);have:=D (a.e c' 1);omega
    have em:((j3 a c' d).ow+1) %256=(j3 a c' d).ow+1:=eh;rw[em]at u2 u3;rw[g1,g2];simp only[if_true];refine⟨?_,u1,u4,u3⟩;rw[u2,u3];show ox _++ [] =_;rw[FG (.inl rfl) ⟨eh,hb⟩ (rH U hc hd)];rfl
   obtain⟨y,u,j,a4⟩:=hF 0 eA;obtain⟨b1,b2,b3,b4⟩:=hF 1 eA;show Pair _ _ (qA t [a.e c' 0,a.e c' 1] (a.e c' 0)+qA t [a.e c' 0,a.e c' 1] (a.e c' 1)) (gP (a.e c' 0)) (gP (a.e c' 1)) _ _ _ _;rw[E 0 eA,E 1 eA,y,b1];have c0:qA t [a.e c' 0,a.e c' 1] (a.e c' 0)=t (a.e c' 0)+1:=by unfold qA;simp[Ne.symm A]
   have c1:qA t [a.e c' 0,a.e c' 1] (a.e c' 1)=t (a.e c' 1)+1:=by unfold qA;simp[A]
   have w0:=(Z 0 eA).2.2.1;have w1:=(Z 1 eA).2.2.1;refine Pair.new (rH U hc eA) (rH U hc eA) u b2 j b3 ?_ ?_
   ·rw[a4,c0,c1];omega
   ·rw[b4,c0,c1];omega
  ·have J:(a.iL c true).iT c'=a.iT c':=by rw[uK,af e]
   exact(h.PT (b:=a.iL c true) H rfl V J (λd _=>by rw[mH _ _ (λz=>e z.1),mH _ _ (λz=>e z.1)]) (λd hd=>(f1 c' d V hd e).1) (λd hd=>(f1 c' d V hd e).2)).1 Q
 ·have e:c'≠c:=λz=>by rw[uK,ai z]at Q;exact absurd Q gZ
  have J:(a.iL c true).iT c'=a.iT c':=by rw[uK,af e]
  exact(h.PT (X':=Gf (Gf X c 0 λ_=>false) c 1 λ_=>false) (b:=a.iL c true) H rfl V J (λd _=>by rw[mH _ _ (λz=>e z.1),mH _ _ (λz=>e z.1)]) (λd hd=>(f1 c' d V hd e).1) (λd hd=>(f1 c' d V hd e).2)).2 Q
theorem rj.draw {X:Marks} {t:Nat×Nat->Nat} (E:tP a)(D:Norm a)(h:rj X t a)(hc:c<a.nc)(hi:a.iT c=true):rj X t (a.iL c false):=by
 have J:∀d,d<2->uG (j3 a c d).st=true:=λd hd=>by
  have p:=h.tT hc hd hi;have:=p.lu;have:=p.l.st;unfold uG;simp only[Bool.or_eq_true,beq_iff_eq,Bool.and_eq_true,decide_eq_true_eq];omega
 obtain⟨f1,f2⟩:=FH E D hc false λd hd=>(tO (J d hd)).1;refine⟨λc' Z V=> ?_,λc' Z V=> ?_⟩
 ·have e:c'≠c:=λz=>by rw[uK,ai z]at V;exact absurd V gZ
  have U:(a.iL c false).iT c'=a.iT c':=by rw[uK,af e]
  exact(h.PT (X':=X) (b:=a.iL c false) (u:=t) (λ_=>Nat.le_refl _) rfl Z U (λd _=>rfl) (λd hd=>(f1 c' d Z hd e).1) (λd hd=>(f1 c' d Z hd e).2)).1 V
 ·by_cases e:c'=c
  ·subst e;intro d hd;have p:=h.tT hc hd hi;obtain⟨d1,d2,H⟩:=ZB p.l p.lu;obtain⟨g1,Q⟩:=f2 d hd;simp only[Bool.false_eq_true,if_false]at g1 Q;rw[g1,Q,Mf (J d hd),H];refine⟨d1,d2,?_,rfl⟩;have:=p.d.JW;show _<=((t (a.e c' 0)+t (a.e c' 1):Nat):Int)
   omega
  ·have U:(a.iL c false).iT c'=a.iT c':=by rw[uK,af e]
   exact(h.PT (X':=X) (b:=a.iL c false) (u:=t) (λ_=>Nat.le_refl _) rfl Z U (λd _=>rfl) (λd hd=>(f1 c' d Z hd e).1) (λd hd=>(f1 c' d Z hd e).2)).2 V
theorem Ms {i:Nat} (hi:i<6)(hp:p<3)(m:Nat->Int):LI (gP (i,p)) (Hz ((i:Int)+1) m p).L/\(Hz ((i:Int)+1) m p).L.st=1/\(Hz ((i:Int)+1) m p).L.ow=0:=by
 have e:gP (i,p)=8*((i:Int)+1)+(p:Int)+1:=rfl;have hb:0<=gP (i,p)/\gP (i,p)<=255:=by rw[e];omega
 refine⟨⟨rfl,rfl,rfl,rfl,λh=>absurd h (by show¬(6:Int)<=1;decide),.inl rfl,⟨by show xT 1 0 0=true;decide,by show(0:Int)<=0;decide,by show(0:Int)<=255;decide,hb.1,hb.2,hb.1,hb.2⟩⟩,rfl,rfl⟩
theorem rj.lost {X:Marks} {t:Nat×Nat->Nat} (h:rj X t a)(hl:wY a b):rj X t b:=by
 have hs:∀c d,(b.F c d).Sublist (a.F c d):=λc d=>by
  obtain⟨m,A⟩:=hl.2 c d;rw[A];exact List.take_sublist _ _
 have V:b.nc=a.nc:=by rw[hl.1]
 have U:b.iT=a.iT:=by rw[hl.1]
 have Q:b.e=a.e:=by rw[hl.1]
 have Z:∀c d,j3 b c d=j3 a c d:=λc d=>by rw[hl.1];rfl
 refine⟨λc hc hi=> ?_,λc hc hi d hd=> ?_⟩
 ·rw[Q,Z,Z];exact(h.up c (by rw[<-V];exact hc) (by rw[<-U];exact hi)).sub (hs c 0) (hs c 1)
 ·obtain⟨J,H,E,D⟩:=h.dn c (by rw[<-V];exact hc) (by rw[<-U];exact hi) d hd;rw[Q,Z];refine⟨J,H,E,?_⟩;have:=hs c d;rw[D]at this;exact iA.1 this
theorem rj.send {X:Marks} {t:Nat×Nat->Nat} {a:AN} (U:Norm a)(h:rj X t a)(i:Nat)(m:zi):rj X t (a.op i ((a.R i).send m)):=by
 obtain⟨_,_,_,_,Z⟩:=nu (a.R i) m;obtain⟨j,g1,V⟩:=DI (U.emp i) m;refine h.quiet i _ (λp=>(Z p).2.2) λp=> ?_;by_cases e:p=j
 ·subst e;rcases V with g|⟨g,f⟩
  ·exact .inl g
  ·exact .inr ⟨by rw[(Z p).2.2];exact g.1,λy hy=>by rw[f]at hy;rw[ar.1 hy];exact Ao 77 _ eA⟩
 ·exact .inl (g1 p e)
theorem rj.anew {X:Marks} {t:Nat×Nat->Nat} (D:tP a)(h:rj X t a)(i m:Nat)(hd:∀c d,c<a.nc->d<2->(a.e c d).1=i->a.iT c=false/\a.F c 0=[] /\a.F c 1=[]):rj X t {a with R:=jW a.R i (jO ((i:Int)+1) 3 (a.ms i)),ib:=jW a.ib i ((a.ib i).take m)}:=by
 obtain⟨b,hb⟩:=gq (({a with R:=jW a.R i (jO ((i:Int)+1) 3 (a.ms i)),ib:=jW a.ib i ((a.ib i).take m)}:AN));have V:∀c d,(a.e c d).1≠i->j3 b c d=j3 a c d:=λc d e=>by
  rw[<-hb];show((jW a.R i _ (a.e c d).1).P _).L=_;rw[iE _ _ e];rfl
 rw[hb];have Q:b.nc=a.nc:=by rw[<-hb]
 have J:b.iT=a.iT:=by rw[<-hb]
 have H:b.e=a.e:=by rw[<-hb]
 have E:b.F=a.F:=by rw[<-hb]
 refine⟨λc hc hi=> ?_,λc hc hi d Z=> ?_⟩
 ·rw[Q]at hc;rw[J]at hi;have A:∀d,d<2->(a.e c d).1≠i:=λd Z e=>by rw[(hd c d hc Z e).1]at hi;exact absurd hi gZ
  rw[H,E,V c 0 (A 0 eA),V c 1 (A 1 eA)];exact h.up c hc hi
 ·rw[Q]at hc;rw[J]at hi;obtain⟨y,u,j,U⟩:=h.dn c hc hi d Z;rw[H,E];by_cases e:(a.e c d).1=i
  ·have hp:=D.en c d hc Z;have hl:j3 b c d=(Hz ((i:Int)+1) (a.ms i) (a.e c d).2).L:=by
    rw[<-hb];show((jW a.R i _ (a.e c d).1).P _).L=_;rw[e,iF];rfl
   obtain⟨z1,z2,z3⟩:=Ms (i:=i) (p:=(a.e c d).2) (by have:=D.n6;omega) hp.2 (a.ms i);rw[hl];have he:a.e c d=(i,(a.e c d).2):=aV e rfl;rw[he];exact⟨z1,z2,by rw[z3];omega,U⟩
  ·rw[V c d e];exact⟨y,u,j,U⟩
theorem pC(t:Nat×Nat->Nat):qA t [] =t:=by funext x;simp[qA]
theorem CD(t:Nat×Nat->Nat)(T U:List (Nat×Nat)):qA t (T++U)=qA (qA t T) U:=by
 funext x;unfold qA;rw[List.count_append];omega
theorem mW.links(s:mW a T S b)(Z:tP a)(V:Norm a) {X:Marks} {t:Nat×Nat->Nat} (h:rj X t a)(Q:∀x,t x<=126):∃Y,rj Y (qA t T) b:=by
 cases s with
 |lost hl=>exact⟨X,by rw[pC];exact h.lost hl⟩
 |tick i p _ _=>obtain⟨Y,U,_⟩:=h.tick Z V (i:=i) (p:=p) Q;exact⟨Y,U⟩
 |pop c d x l hc hd hF=>obtain⟨Y,U,_⟩:=h.pop Z V (λx=>by have:=Q x;omega) hc hd hF;exact⟨Y,by rw[pC];exact U⟩
 |send i m tx _ _ _ _=>exact⟨X,by rw[pC];exact h.send V i _⟩
 |iL c hc hi _ _=>exact⟨_,h.iL Z V Q hc hi⟩
 |draw c hc hi=>exact⟨X,by rw[pC];exact h.draw Z V hc hi⟩
 |anew i m hi hd=>exact⟨X,by rw[pC];exact h.anew Z i m hd⟩
theorem rj.mono {X:Marks} {t u:Nat×Nat->Nat} {a:AN} (h:rj X t a)(Z:∀x,t x<=u x):rj X u a:=
 ⟨λc hc hi=>(h.up c hc hi).mono (by have:=Z (a.e c 0);have:=Z (a.e c 1);omega),λc hc hi d hd=>by
  obtain⟨V,U,a3,Q⟩:=h.dn c hc hi d hd;exact⟨V,U,by have:=Z (a.e c 0);have:=Z (a.e c 1);omega,Q⟩⟩
theorem nN(h:T.Nodup)(k:Nat)(x:Nat×Nat):qA (λ_=>k) T x<=k+1:=by
 have:=List.nodup_iff_count.1 h x;show k+T.count x<=k+1;omega
