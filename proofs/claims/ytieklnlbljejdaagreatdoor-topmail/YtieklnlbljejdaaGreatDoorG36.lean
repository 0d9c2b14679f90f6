import Derived.Test.YtieklnlbljejdaaGreatDoorG35
open Option renaming none → ν, some → μ
open List renaming range → gJ, length_cons → eZ
namespace Go.Proofs.YtieklnlbljejdaaGreatDoor
open Go.RowKit St
namespace Rt
variable {B N c:Nat} {L:LS} {a:AN} {code g g' id:Int} {r s:iY} {x:mQ}
structure uv(B N:Nat)(a:AN):Prop where
 r:∀i,i<a.n->Own (a.R i)/\lp (a.R i)/\lT B (a.R i)/\(a.R i).id=(i:Int)+1/\(a.R i).n=3
 f:∀c d,c<a.nc->d<2->∀x∈a.F c d,yx B x
 b:B+a.W sw+sm (λi=>qo (a.R i)) (gJ a.n)<=N
 one:1<=B
 ms:∀i p,i<a.n->p<3->1<=a.ms i p/\a.ms i p<=20
theorem Tz(h:Own s):Own s.core:=h.alike rfl rfl rfl rfl λ_=>⟨rfl,rfl,rfl⟩
theorem Wi(h:lp s):lp s.core:=⟨h.id,h.m,h.pe,h.own,h.RY⟩
theorem own_op(hB:ux a)(h:uv B N a)(i:Nat)(hi:i<a.n)(s:iY)(C k:Nat)(h1:Own s)(h2:lp s)(h3:lT C s)(h4:s.id=(i:Int)+1)(h5:s.n=3)(hBC:B<=C)(hem:∀p,∀x∈jH (s.P p),yx C x)(hb:C+qo s+(sm sw (jH (s.P 0))+sm sw (jH (s.P 1))+sm sw (jH (s.P 2)))<=B+qo (a.R i)+k):uv C (N+k) (a.op i s):=by
 refine⟨λj hj=> ?_,λc d hc hd x hx=> ?_,?_,by have:=h.one;omega,h.ms⟩
 ·show Own (jI a.R i s.core j)/\lp (jI a.R i s.core j)/\lT C (jI a.R i s.core j)/\(jI a.R i s.core j).id=_/\(jI a.R i s.core j).n=3;by_cases e:j=i
  ·rw[e,iP];exact⟨Tz h1,Wi h2,h3.alike (s:=s.core) rfl,h4,h5⟩
  ·rw[iL _ _ e];obtain⟨a1,a2,a3,a4,a5⟩:=h.r j hj;exact⟨a1,a2,a3.mono hBC,a4,a5⟩
 ·rw[zy]at hx;split at hx
  ·rcases aD.1 hx with e|e
   ·exact(h.f c d hc hd x e).mono hBC
   ·exact hem _ x e
  ·exact(h.f c d hc hd x hx).mono hBC
 ·have h6:=adH hB i s sw;have h7:sm (λj=>qo ((a.op i s).R j)) (gJ a.n)+qo (a.R i)<=sm (λj=>qo (a.R j)) (gJ a.n)+qo s:=by
   have e1:sm (λj=>qo ((a.op i s).R j)+(if j=i then qo (a.R i)else 0)) (gJ a.n)<=sm (λj=>qo (a.R j)+(if j=i then qo s else 0)) (gJ a.n):=tq λj _=>by
    show qo (jI a.R i s.core j)+_<=_;by_cases e:j=i
    ·subst e;rw[iP,ag rfl,ag rfl];have:qo s.core=qo s:=rfl;omega
    ·rw[iL _ _ e,ae e,ae e];exact Nat.le_refl _
   rw[zD,zD,Dg i _ bS,Dg i _ bS,ag (a7.2 hi),ag (a7.2 hi)]at e1;exact e1
  have h8:=h.b;show C+(a.op i s).W sw+sm (λj=>qo ((a.op i s).R j)) (gJ a.n)<=N+k;omega
theorem zG {F:Int->Option PS} {y:Int×PS} (h:y∈mN F):F y.1=μ y.2:=by
 unfold mN at h;obtain⟨j,_,hj⟩:=dE.1 h;cases e:F ((j:Int)+1)with
 |none=>rw[e]at hj;simp at hj
 |some q=>rw[e]at hj;simp only[Option.map_some,Option.some.injEq]at hj;rw[<-hj];exact e
theorem xC {l:List kZ} (h:x∈l.flatMap r8):∃s,x=76::s:=by
 obtain⟨q,_,hq⟩:=bB.1 h;unfold r8 at hq;split at hq
 ·exact⟨_,az.1 hq⟩
 ·simp at hq
theorem yy:∀ {l:List mQ},(∀x∈l,sw x=0)->sm sw l=0
 |[],_=>rfl
 |x::l,h=>by
  have:=yy (l:=l) λy hy=>h y (by simp[hy]);have h1:=h x iC;show sw x+sm sw l=0;omega
theorem Nd:∀l:List (Int×PS),sm sw (l.flatMap Tt)<=l.length
 |[] =>Nat.le_refl _
 |q::l=>by
  have:=Nd l;rw[cV,tr];have h1:sm sw (Tt q)<=1:=by
   unfold Tt;split
   ·exact Nat.le_refl _
   ·exact Nat.zero_le _
  simp only[eZ];omega
theorem Nf {i:Nat} {p:Nat} {l:List mQ} (h:D9 r i x p l):(∀y∈l,sw y=0)/\∀B,∀y∈l,yx B y:=by
 have mr:∀(c:UInt8) (s:List UInt8),c≠72->c≠83->sw (c::s)=0/\∀B,yx B (c::s):=λc s h1 h2=>by
  refine⟨?_,λB t e=>absurd (aP e).1 h2⟩;unfold sw;split
  ·rename_i e;exact absurd (aP e).1 h1
  ·rename_i e;exact absurd (aP e).1 h2
  ·rfl
 cases h with
 |none h=>rw[h];exact⟨λ_ h=>by simp at h,λ_ _ h=>by simp at h⟩
 |link s _ _ _ h=>
  rw[h];exact⟨λy hy=>by obtain⟨s,rfl⟩:=xC hy;exact(mr 76 s eH eH).1,λB y hy=>by obtain⟨s,rfl⟩:=xC hy;exact(mr 76 s eH eH).2 B⟩
 |heard s _ _ _ _ _ _ _ h=>
  rw[h];exact⟨λy hy=>by rw[az.1 hy];exact(mr 65 _ eH eH).1,λB y hy=>by rw[az.1 hy];exact(mr 65 _ eH eH).2 B⟩
 |Tw a b s _ _ _ _ h=>
  rw[h];exact⟨λy hy=>by rw[az.1 hy];exact(mr 77 _ eH eH).1,λB y hy=>by rw[az.1 hy];exact(mr 77 _ eH eH).2 B⟩
theorem JC(h:lp r)(i:Nat)(x:mQ):lp (j7 r i x)/\(j7 r i x).id=r.id/\(j7 r i x).n=r.n:=by
 cases x with
 |nil=>exact⟨h,rfl,rfl⟩
 |cons c s=>exact⟨h.take i c s,(Li r i c s).2,(Li r i c s).1⟩
theorem GJ(r:iY)(i:Nat)(up:Bool):(r.iW i up).1.id=r.id/\(r.iW i up).1.n=r.n:=⟨(jR.iW r i up).id,(jR.iW r i up).n⟩
theorem GK(h:∀p,∀y∈jH (s.P p),sw y=0):sm sw (jH (s.P 0))+sm sw (jH (s.P 1))+sm sw (jH (s.P 2))=0:=by
 rw[yy (h 0),yy (h 1),yy (h 2)]
theorem Ng(h:JA r)(i:Nat)(up:Bool):∀p,∀y∈jH ((r.iW i up).1.P p),∃s,y=76::s:=λp y hy=>by
 by_cases h1:(k7 (r.P i).L (if up=true then 0 else 1)).2.2=0
 ·obtain⟨a,b,_⟩:=GH h i up h1;by_cases e:p=i
  ·subst e;rw[b]at hy;exact xC hy
  ·rw[a p e]at hy;simp at hy
 ·have:(r.iW i up).1=r:=by
   unfold iY.iW jF.iW;generalize k7 (r.P i).L (if up=true then 0 else 1)=E at*;simp only;rw[ag h1];simp only;rw[ag h1]
  rw[this,jM (h p)]at hy;simp at hy
theorem TA(s:List UInt8):sw (76::s)=0/\∀B,yx B (76::s):=⟨rfl,λB t e=>absurd (aP e).1 eH⟩
theorem zH(hB:ux a)(hN:Norm a)(h:uv B N a)(hl:N<1000000) {d:Nat} (hc:c<a.nc)(hd:d<2)(up:Bool):∃C,uv C N (a.lH c d up):=by
 obtain⟨hi,hp⟩:=hB.en c d hc hd;obtain⟨a1,a2,a3,a4,a5⟩:=h.r _ hi;obtain⟨C,c1,c2,c3,c4,c5⟩:=Ty a1 a2 a3 (by have:=h.b;omega) hp up;have hq:=Ng (hN.emp (a.e c d).1) (a.e c d).2 up;refine⟨C,own_op hB h _ hi _ C 0 c1 c5 c2 ((GJ _ _ _).1.trans a4) ((GJ _ _ _).2.trans a5) c3 (λp x hx=> ?_) ?_⟩
 ·obtain⟨s,rfl⟩:=hq p x hx;exact(TA s).2 C
 ·rw[GK λp y hy=>by obtain⟨s,rfl⟩:=hq p y hy;rfl];omega
theorem JD(hB:ux a)(hN:Norm a)(h:uv B N a)(hl:N<1000000)(hc:c<a.nc)(up:Bool):∃C,uv C N (a.iW c up):=by
 obtain⟨b,hb⟩:=gH ((({a with jG:=jI a.jG c up}:AN).lg c 0 []).lg c 1 []);have J0:ux b:=hB.same (by rw[<-hb];rfl) (by rw[<-hb];rfl) (by rw[<-hb];rfl);have PH:Norm b:=by rw[<-hb];exact hN
 have wj:c<b.nc:=by rw[<-hb];exact hc
 have h0:uv B N b:=by
  have w1:=vV {a with jG:=jI a.jG c up} sw c 0;have w2:=vV (({a with jG:=jI a.jG c up}:AN).lg c 0 []) sw c 1;have w3:=h.b;rw[hb]at w2;have e1:({a with jG:=jI a.jG c up}:AN).W sw=a.W sw:=rfl;refine⟨by rw[<-hb];exact h.r,λx f hx hf y hy=> ?_,?_,h.one,by rw[<-hb];exact h.ms⟩
  ·have np:y∈a.F x f \/y∈([] :List mQ):=by
    rw[<-hb]at hy;have e2:y∈(if x=c/\f=1 then []else if x=c/\f=0 then []else a.F x f):=hy;split at e2
    ·exact .inr e2
    ·split at e2
     ·exact .inr e2
     ·exact .inl e2
   rcases np with g|g
   ·exact h.f x f (by rw[<-hb]at hx;exact hx) hf y g
   ·simp at g
  ·have e2:sm (λi=>qo (b.R i)) (gJ b.n)=sm (λi=>qo (a.R i)) (gJ a.n):=by rw[<-hb];rfl
   omega
 obtain⟨C,h1⟩:=zH J0 PH h0 hl wj (by decide:0<2) up;unfold AN.iW;rw[hb];exact zH (a:=b.lH c 0 up) (J0.same rfl rfl rfl) (pI PH _ _) h1 hl wj (by decide:1<2) up
theorem mE.own {b:AN} {T:List (Nat×Nat)} {S:List (Int×List UInt8)} (h:mE a T S b)(hB:ux a)(hN:Norm a)(hO:uv B N a)(hl:N<1000000):∃C,uv C (N+8*T.length) b:=by
 have hBl:=hO.b;cases h with
 |lost h=>
  refine⟨B,by rw[h.1];exact hO.r,λc d hc hd x hx=> ?_,?_,hO.one,by rw[h.1];exact hO.ms⟩
  ·obtain⟨m,hm⟩:=h.2 c d;rw[hm]at hx;rw[h.1]at hc;exact hO.f c d hc hd x (dm hx)
  ·have h1:=Ts h sw;have e:sm (λi=>qo (b.R i)) (gJ b.n)=sm (λi=>qo (a.R i)) (gJ a.n):=by rw[h.1]
   show _<=N+0;omega
 |tick i p hi hp=>
  obtain⟨a1,a2,a3,a4,a5⟩:=hO.r i hi;obtain⟨C,c1,c2,c3,c4,c5⟩:=zF a1 a2 a3 eE hp a5;obtain⟨e1,e2⟩:=Bq (hN.emp i) p;have rO:((a.R i).jx p).id=(i:Int)+1/\((a.R i).jx p).n=3:=⟨(jR.jx (a.R i) p).id.trans a4,(jR.jx (a.R i) p).n.trans a5⟩
  have hOp:((a.R i).jx p).O=((jn (a.R i) p).meet p (jg ((a.R i).P p).pe)).O \/(j3 ((a.R i).P p).L).1.st≠9:=by
   by_cases h9:(j3 ((a.R i).P p).L).1.st=9
   ·left;have kD:((jn (a.R i) p).P p).L.st=9:=by
     unfold jn;rw[la,ag rfl];rw[vw];exact h9
    rw[k9,ae (by rw[kD];simp),(mP _ _ _).2];rfl
   ·exact .inr h9
  refine⟨C,own_op hB hO i hi _ C 8 c1 c5 c2 rO.1 rO.2 c3 (λq x hx=> ?_) ?_⟩
  ·by_cases e:q=p
   ·subst e;rw[e2]at hx;rcases aD.1 hx with g|g
    ·obtain⟨s,rfl⟩:=xC g;exact(TA s).2 C
    ·split at g
     ·rename_i h9
      rcases bn.1 g with g|g
      ·rw[g];intro s e;exact absurd (aP e).1 eH
      ·split at g
       ·obtain⟨y,hy,vm⟩:=bB.1 g;unfold Tt at vm;split at vm
        ·rw[az.1 vm];intro s e hz;rw[<-(aP e).2];have hK:=c1.tie q y.1 y.2 (by rw[hOp.resolve_right (by rw[h9];simp)];exact zG hy);rw[uB _ _ _ (c1.val _ _ hK)];exact c2 _ _ hK
        ·simp at vm
       ·simp at g
     ·simp at g
   ·rw[e1 q e]at hx;simp at hx
  ·have hp3:p=0 \/p=1 \/p=2:=eE;have hs:sm sw (jH (((a.R i).jx p).P p))<=8:=by
    rw[e2,tr,yy λx hx=>by obtain⟨s,rfl⟩:=xC hx;rfl];split
    ·have e3:∀(x:mQ) l,sm sw (x::l)=sw x+sm sw l:=λ_ _=>rfl;rw[e3];have e4:sw (72::[j8 (a.R i).id,j8 (jg ((a.R i).P p).pe).who])=2:=rfl;split
     ·have:=Nd (mN (((jn (a.R i) p).meet p (jg ((a.R i).P p).pe)).O p));have:=EO (((jn (a.R i) p).meet p (jg ((a.R i).P p).pe)).O p);omega
     ·have e5:sm sw [] =0:=rfl;omega
    ·have e5:sm sw [] =0:=rfl;omega
   have h0:∀q,q≠p->sm sw (jH (((a.R i).jx p).P q))=0:=λq hq=>by rw[e1 q hq];rfl
   rcases hp3 with rfl|rfl|rfl
   ·rw[h0 1 eH,h0 2 eH];omega
   ·rw[h0 0 eH,h0 2 eH];omega
   ·rw[h0 0 eH,h0 1 eH];omega
 |pop c d x l hc hd hF=>
  obtain⟨hi,hp⟩:=hB.en c (1-d) hc eE;have hw:=XI sw hc hd hF;have h1:uv B (N-sw x) (a.lg c d l):=by
   refine⟨hO.r,λy f hy hf z hz=> ?_,?_,hO.one,hO.ms⟩
   ·rw[xB]at hz;split at hz
    ·rename_i e
     exact hO.f c d hc hd z (by rw[hF];simp[hz])
    ·exact hO.f y f hy hf z hz
   ·show B+(a.lg c d l).W sw+sm (λi=>qo (a.R i)) (gJ a.n)<=_;omega
  obtain⟨a1,a2,a3,a4,a5⟩:=hO.r _ hi;obtain⟨C,c1,c2,c3,c4⟩:=PN a1 a2 a3 eE hp x (hO.f c d hc hd x (by rw[hF];simp));obtain⟨t1,t2,t3⟩:=JC a2 (a.e c (1-d)).2 x;obtain⟨m1,_⟩:=yv (hN.emp (a.e c (1-d)).1) (a.e c (1-d)).2 x;have h2:=own_op (a:=a.lg c d l) (hB.same rfl rfl rfl) h1 _ hi (j7 (a.R (a.e c (1-d)).1) (a.e c (1-d)).2 x) C (sw x) c1 t1 c2 (t2.trans a4) (t3.trans a5) c3 (λq y hy=>(Nf (m1 q)).2 C y hy) (by
   rw[GK λq y hy=>(Nf (m1 q)).1 y hy];show C+_+0<=B+qo (a.R (a.e c (1-d)).1)+sw x;omega)
  refine⟨C,?_⟩;have e:N-sw x+sw x=N+8*0:=eE;rw[e]at h2;exact h2
 |send i t tx hi _ _ _=>
  obtain⟨a1,a2,a3,a4,a5⟩:=hO.r i hi;obtain⟨s1,s2,s3,s4,s5⟩:=oR (a.R i) (t,8,tx);obtain⟨j,g1,g2⟩:=Bp (hN.emp i) (t,8,tx);have hq:∀p,∀y∈jH (((a.R i).send (t,8,tx)).P p),∃s,y=77::s:=λp y hy=>by
   by_cases e:p=j
   ·subst e;rcases g2 with g|⟨_,g⟩
    ·rw[g]at hy;simp at hy
    ·rw[g]at hy;exact⟨_,az.1 hy⟩
   ·rw[g1 p e]at hy;simp at hy
  refine⟨B,own_op hB hO i hi _ B 0 (JB a1 _) (a2.send _) (a3.alike s1) (s3.trans a4) (s4.trans a5) (Nat.le_refl _) (λp x hx=> ?_) ?_⟩
  ·obtain⟨s,rfl⟩:=hq p x hx;intro t e;exact absurd (aP e).1 eH
  ·rw[GK λp y hy=>by obtain⟨s,rfl⟩:=hq p y hy;rfl,o9 λp=>(s5 p).2.1];omega
 |iW c hc _ _ _=>
  obtain⟨C,h⟩:=JD hB hN hO hl hc true;exact⟨C,h.r,h.f,Nat.le_trans h.b (Nat.le_add_right _ _),h.one,h.ms⟩
 |draw c hc _=>exact JD hB hN hO hl hc false
 |anew i m hi hd=>
  have rO:(1:Int)<=(i:Int)+1/\(i:Int)+1<=6:=by have:=hB.n6;omega
  have hR:∀j,({a with R:=jI a.R i (jX ((i:Int)+1) 3 (a.ms i)),ib:=jI a.ib i ((a.ib i).take m)}:AN).R j=if j=i then jX ((i:Int)+1) 3 (a.ms i)else a.R j:=λj=>rfl
  refine⟨B,λj hj=> ?_,hO.f,?_,hO.one,hO.ms⟩
  ·rw[hR];by_cases e:j=i
   ·subst e;rw[ag rfl];refine⟨⟨λp x q h=>h,λx q h=> ?_,?_⟩,yh rO (hO.ms j · hi),λx q h=> ?_,rfl,rfl⟩
    ·have h':(if x=(j:Int)+1 then μ ((1:Int),([] :List j2))else ν)=μ q:=h;split at h'
     ·rename_i e;injection h' with h';rw[<-h',e]
      unfold pj;rw[ae eE,ae iC];rfl
     ·exact absurd h' iC
    ·have e1:Cm (jX ((j:Int)+1) 3 (a.ms j)).K (jX ((j:Int)+1) 3 (a.ms j)).id=[] :=by
      show(match (if(j:Int)+1=(j:Int)+1 then some ((1:Int),([] :List j2))else none)with|none=>[] |some q=>q.2)=_;rw[ag rfl]
     rw[e1];have e2:∀n k,kd (jX ((j:Int)+1) 3 (a.ms j)).P n k=ν:=λn k=>by
      induction k with
      |zero=>rfl
      |succ k ih=>unfold kd;rw[ae (λh=>absurd h.1 (show¬false=true by simp)),ih]
     unfold jZ;simp only[e2,Option.map_none];rfl
    ·have h':(if x=(j:Int)+1 then μ ((1:Int),([] :List j2))else ν)=μ q:=h;split at h'
     ·injection h' with h';rw[<-h'];have:=hO.one;show(1:Int)<=_;omega
     ·exact absurd h' iC
   ·rw[ae e];exact hO.r j hj
  ·have e1:sm (λj=>qo (({a with R:=jI a.R i (jX ((i:Int)+1) 3 (a.ms i)),ib:=jI a.ib i ((a.ib i).take m)}:AN).R j)) (gJ a.n)<=sm (λj=>qo (a.R j)) (gJ a.n):=tq λj _=>by
    rw[hR];split
    ·exact Nat.zero_le _
    ·exact Nat.le_refl _
   show B+a.W sw+sm (λj=>qo (({a with R:=jI a.R i (jX ((i:Int)+1) 3 (a.ms i)),ib:=jI a.ib i ((a.ib i).take m)}:AN).R j)) (gJ a.n)<=N+0;omega
def oE(g:Int):List j2:=[(1,255),(5,g)]
structure LI(g:Int)(L:LS):Prop where
 fs:L.fs=255
 fm:L.fm=g
 ns:L.ns=255
 nm:L.nm=g
 q:6<=L.st->L.qs=255/\L.qm=g
 st:L.st=1 \/(6<=L.st/\L.st<=9)
 k:yJ L
theorem Ff {s:LS} {ev:Int} {l:List UInt8} {nx:Int} (xM:kZ)(h:jt s.st ev=(l,nx,0)):rN s ev xM=(ph l (s.next nx),wM l (s.next nx) xM,0):=by
 rw[sv xM (by rw[h])];unfold nJ oV;rw[h]
theorem xD:(jt 6 6=([97],8,0)/\jt 7 6=([97,117],9,0)/\jt 8 6=([97],8,0)/\jt 9 6=([100,114,97],8,0))/\(jt 6 8=([105],7,0)/\jt 8 8=([105,117],9,0))/\(jt 6 4=([114],6,0)/\jt 7 4=([114],6,0)/\jt 8 4=([114],8,0))/\(jt 6 5=([102],3,0)/\jt 7 5=([102],3,0)/\jt 8 5=([102],3,0))/\(jt 3 1=([115],1,0)/\jt 1 0=([105,114],6,0))/\(jt 6 1=([],1,0)/\jt 7 1=([],1,0)/\jt 8 1=([],1,0)/\jt 9 1=([100],1,0)):=by
 refine⟨⟨?_,?_,?_,?_⟩,⟨?_,?_⟩,⟨?_,?_,?_⟩,⟨?_,?_,?_⟩,⟨?_,?_⟩,?_,?_,?_,?_⟩<;>rfl
theorem GL(hg:1<=g/\g<=255):nS 255 g=oE g:=by
 unfold nS oE;rw[ag eH,ag eE];rfl
theorem Nh {x:Int} (h:6<=x/\x<=9):x=6 \/x=7 \/x=8 \/x=9:=eE
theorem XK(hg:1<=g/\g<=255)(h:LI g L)(h1:L.st=1):LI g (k7 L 0).1/\(k7 L 0).2.1=[(1,(L.ow+1) %256,oE g)] /\(k7 L 0).1.ow=(L.ow+1) %256/\(k7 L 0).1.st=6/\(k7 L 0).1.wt=3:=by
 have hk:=h.k.k7 0;have e:k7 L 0=rN L 0 (0,0,[]):=rfl;have ht:jt L.st 0=([105,114],6,0):=by rw[h1];exact xD.2.2.2.2.1.2
 rw[e,Ff _ ht]at hk⊢;have en:L.next 6={L with st:=6}:=by unfold LS.next;rw[ae eH]
 rw[en]at hk⊢;refine⟨⟨h.fs,h.fm,h.ns,h.nm,λ_=>⟨h.ns,h.nm⟩,.inr ⟨by show(6:Int)<=6;decide,by show(6:Int)<=9;decide⟩,hk⟩,?_,rfl,rfl,rfl⟩;show [(1,(L.ow+1) %256,nS L.ns L.nm)] =_;rw[h.ns,h.nm,GL hg]
theorem Wj(h:LI g L)(h6:6<=L.st):LI g (k7 L 1).1/\(k7 L 1).1.st=1/\(k7 L 1).1.ow=L.ow:=by
 have hk:=h.k.k7 1;have e:k7 L 1=rN L 1 (0,0,[]):=rfl;obtain⟨a,b,c,d⟩:=xD.2.2.2.2.2;have kD:=Nh ⟨h6,by have:=h.st;omega⟩;have hl:∃l,jt L.st 1=(l,1,0)/\(l=[] \/l=[100]):=by
  rcases kD with g|g|g|g<;>rw[g]
  ·exact⟨_,a,.inl rfl⟩
  ·exact⟨_,b,.inl rfl⟩
  ·exact⟨_,c,.inl rfl⟩
  ·exact⟨_,d,.inr rfl⟩
 obtain⟨l,Qq,FC⟩:=hl;rw[e,Ff _ Qq]at hk⊢;have en:L.next 1={L with st:=1,ns:=L.fs,nm:=L.fm,sz:=255}:=by unfold LS.next;rw[ag eH]
 have er:ph l (L.next 1)=L.next 1:=by rcases FC with rfl|rfl<;>rfl
 rw[er,en]at hk;show LI g (ph l (L.next 1))/\(ph l (L.next 1)).st=1/\(ph l (L.next 1)).ow=L.ow;rw[er,en];exact⟨⟨h.fs,h.fm,h.fs,h.fm,λh=>absurd h (by show¬(6:Int)<=1;decide),.inl rfl,hk⟩,rfl,rfl⟩
structure adJ(g:Int)(L L':LS)(out:List kZ):Prop where
 li:LI g L'
 or:(out=[] /\L'.ow=L.ow/\L'.st=L.st/\(L.st=1 \/L.st=9->L'=L)/\(6<=L.st/\L.st<=8->1<L.wt/\L'.wt=L.wt-1)) \/((6<=L.st/\L.st<=8)/\L.wt=1/\out=[(1,(L.ow+1) %256,oE g)] /\L'.ow=(L.ow+1) %256/\L'.wt=3/\(L'.st=6 \/(L.st=8/\L'.st=8)))
theorem Ni(hg:1<=g/\g<=255)(h:LI g L):adJ g L (j3 L).1 (j3 L).2:=by
 obtain⟨o1,o2,o3,o4,o5,o6,o7,o8⟩:=(sX _ _ _).1 h.k.ok;by_cases hT:6<=L.st/\L.st<=8
 ·have hb:¬(decide (4<=L.st)&&decide (L.st<=8))=false:=by simp;omega
  by_cases hw:0<L.wt-1
  ·have e1:kE L={L with wt:=L.wt-1}:=by unfold kE;rw[ae hb,ag hw]
   have e2:mI L=[] :=by unfold mI;rw[ae hb,ag hw]
   have hk:=h.k.tick;have e3:j3 L=({L with wt:=L.wt-1},[]):=by
    unfold j3;rw[e1,e2,ae (show¬L.st=3 by omega)]
   rw[e1]at hk;rw[e3];exact⟨⟨h.fs,h.fm,h.ns,h.nm,h.q,h.st,hk⟩,.inl ⟨rfl,rfl,rfl,λh=>eE,λ_=>⟨eE,rfl⟩⟩⟩
  ·have l7:L.wt=1:=eE;by_cases hf:0<L.lf
   ·have kD:∃nx,jt L.st 4=([114],nx,0)/\(nx=6 \/(L.st=8/\nx=8)):=by
     obtain⟨a,b,c⟩:=xD.2.2.1;have:L.st=6 \/L.st=7 \/L.st=8:=eE;rcases this with g|g|g<;>rw[g]
     ·exact⟨_,a,.inl rfl⟩
     ·exact⟨_,b,.inl rfl⟩
     ·exact⟨_,c,.inr ⟨rfl,rfl⟩⟩
    obtain⟨nx,mM,xF⟩:=kD;have hk:=h.k.tick;have en:({L with wt:=L.wt-1}:LS).next nx={L with wt:=L.wt-1,st:=nx}:=by unfold LS.next;rw[ae eE]
    have e1:kE L=ph [114] {L with wt:=L.wt-1,st:=nx}:=by
     unfold kE;rw[ae hb,ae hw,ag hf];unfold nJ;rw[show({L with wt:=L.wt-1}:LS).st=L.st from rfl,mM];simp only;rw[en]
    have e2:mI L=[(1,(L.ow+1) %256,nS L.ns L.nm)] :=by
     unfold mI;rw[ae hb,ae hw,ag hf];unfold oV;rw[show({L with wt:=L.wt-1}:LS).st=L.st from rfl,mM];simp only;rw[en];rfl
    have e3:j3 L=(kE L,mI L):=by
     unfold j3;rw[ae (by rw[e1];show¬nx=3;omega)]
    rw[e3];refine⟨⟨?_,?_,?_,?_,?_,?_,hk⟩,.inr ⟨hT,l7,?_,?_,?_,?_⟩⟩
    ·rw[e1];exact h.fs
    ·rw[e1];exact h.fm
    ·rw[e1];exact h.ns
    ·rw[e1];exact h.nm
    ·rw[e1];exact λ_=>⟨h.ns,h.nm⟩
    ·rw[e1];show nx=1 \/(6<=nx/\nx<=9);omega
    ·show mI L=_;rw[e2,h.ns,h.nm,GL hg]
    ·rw[e1];rfl
    ·rw[e1];rfl
    ·rw[e1];exact xF
   ·have kD:jt L.st 5=([102],3,0):=by
     obtain⟨a,b,c⟩:=xD.2.2.2.1;have:L.st=6 \/L.st=7 \/L.st=8:=eE;rcases this with g|g|g<;>rw[g] <;>assumption
    have en:({L with wt:=L.wt-1}:LS).next 3={L with wt:=L.wt-1,st:=3,ns:=L.fs,nm:=L.fm,sz:=255}:=by unfold LS.next;rw[ag eH]
    have e1:kE L={L with wt:=L.wt-1,st:=3,ns:=L.fs,nm:=L.fm,sz:=255}:=by
     unfold kE;rw[ae hb,ae hw,ae hf];unfold nJ;rw[show({L with wt:=L.wt-1}:LS).st=L.st from rfl,kD];simp only;rw[en];rfl
    have e2:mI L=[] :=by
     unfold mI;rw[ae hb,ae hw,ae hf];unfold oV;rw[show({L with wt:=L.wt-1}:LS).st=L.st from rfl,kD];simp only;rw[en];rfl
    obtain⟨L3,Uq⟩:∃L3:LS,({L with wt:=L.wt-1,st:=3,ns:=L.fs,nm:=L.fm,sz:=255}:LS)=L3:=⟨_,rfl⟩
    rw[Uq]at e1;have k3:yJ L3:=by rw[<-e1];exact h.k.tick
    have h31:L3.st=3:=by rw[<-Uq]
    have d1:k7 L3 1=({L3 with st:=1,ns:=L3.fs,nm:=L3.fm,sz:=255},[],0):=by
     show rN L3 1 (0,0,[])=_;rw[Ff _ (show jt L3.st 1=_ by rw[h31];exact xD.2.2.2.2.1.1)];have:L3.next 1={L3 with st:=1,ns:=L3.fs,nm:=L3.fm,sz:=255}:=by unfold LS.next;rw[ag eH]
     rw[this];rfl
    have k1:=k3.k7 1;obtain⟨L1,hL1⟩:=gH ((k7 L3 1).1);rw[hL1]at k1;have JE:L1={L3 with st:=1,ns:=L3.fs,nm:=L3.fm,sz:=255}:=by rw[<-hL1,d1]
    have li1:LI g L1:=by
     refine⟨?_,?_,?_,?_,?_,?_,k1⟩
     ·rw[JE,<-Uq];exact h.fs
     ·rw[JE,<-Uq];exact h.fm
     ·rw[JE,<-Uq];exact h.fs
     ·rw[JE,<-Uq];exact h.fm
     ·rw[JE];exact λh=>absurd h (by show¬(6:Int)<=1;decide)
     ·rw[JE];exact .inl rfl
    have how:L1.ow=L.ow:=by rw[JE,<-Uq]
    obtain⟨u1,u2,u3,u4,u5⟩:=XK hg li1 (by rw[JE]);have e3:j3 L=((k7 L1 0).1,(k7 L1 0).2.1):=by
     unfold j3;rw[e1,ag h31,e2,hL1,d1];rfl
    rw[e3];exact⟨u1,.inr ⟨hT,l7,by rw[u2,how],by rw[u3,how],u5,.inl u4⟩⟩
 ·have hb:(decide (4<=L.st)&&decide (L.st<=8))=false:=by
   have:=h.st;simp only[Bool.and_eq_false_iff,decide_eq_false_iff_not];omega
  have e1:kE L=L:=by unfold kE;rw[ag hb]
  have e2:mI L=[] :=by unfold mI;rw[ag hb]
  have e3:j3 L=(L,[]):=by
   unfold j3;rw[e1,e2,ae (show¬L.st=3 by have:=h.st;omega)]
  rw[e3];exact⟨h,.inl ⟨rfl,rfl,rfl,λ_=>rfl,λh=>absurd h hT⟩⟩
theorem Dn {x:Int} (h0:0<=x)(h1:x<=255):wV x=true:=by
 unfold wV;simp;omega
theorem yz(hc:code=1 \/code=2)(hi:0<=id/\id<=255)(hg:1<=g/\g<=255):jW code id (oE g)=0:=by
 have h1:=Dn hi.1 hi.2;have h2:wV g=true:=Dn eE hg.2;unfold jW oE;rw[ae (by rw[h1];simp;omega),ae iC,ae eE];have e1:wV 1=true:=Dn eH eH;have e5:wV 5=true:=Dn eH eH;have ahy:wV 255=true:=Dn eH eH;simp[pA,e1,e5,ahy,h2]
theorem Wk(hg:1<=g'/\g'<=255)(jV:g'≠g):lV g (oE g')=(2,oE g'):=by
 unfold lV oE sd qp Hk vX;rw[ae iC,ae];simp;omega
structure ahz(g:Int)(L L':LS)(out:List kZ)(a:kZ):Prop where
 li:LI g L'
 or:(L.st=9/\out=[(1,(L.ow+1) %256,oE g),a] /\L'.st=8/\L'.ow=(L.ow+1) %256/\L'.wt=3) \/(L.st=7/\out=[a] /\L'.st=9/\L'.ow=L.ow) \/((L.st=6 \/L.st=8)/\out=[a] /\L'.st=8/\L'.ow=L.ow/\L'.wt=L.wt)
theorem Z5(hg:1<=g/\g<=255)(Dy:1<=g'/\g'<=255)(jV:g'≠g)(hi:0<=id/\id<=255)(h:LI g L)(h6:6<=L.st):ahz g L (j4 L (1,id,oE g')).1 (j4 L (1,id,oE g')).2.1 (2,id,oE g'):=by
 have hk:=h.k.j4 (1,id,oE g');have e0:j4 L (1,id,oE g')=sQ L id (oE g'):=by
  unfold j4;rw[ae (by rw[yz (.inl rfl) hi Dy];simp),ag rfl]
 rw[e0]at hk⊢;have kD:=Nh ⟨h6,by have:=h.st;omega⟩;have hj:(lV L.nm (oE g')).1=2:=by rw[h.nm,Wk Dy jV]
 obtain⟨t6,t7,t8,t9⟩:=xD.1;have key:∀(l:List UInt8) (nx:Int),jt L.st 6=(l,nx,0)->sQ L id (oE g')=((ph l (L.next nx)).sized (oE g'),wM l (L.next nx) (2,id,oE g'),0):=λl nx hs=>by
  unfold sQ;rw[ag hj,Ff _ hs,ag rfl]
 have nx:∀n:Int,¬n<=3->L.next n={L with st:=n}:=λn hn=>by unfold LS.next;rw[ae hn]
 have sz:∀s:LS,(s.sized (oE g')).fs=s.fs/\(s.sized (oE g')).fm=s.fm/\(s.sized (oE g')).ns=s.ns/\(s.sized (oE g')).nm=s.nm/\(s.sized (oE g')).qs=s.qs/\(s.sized (oE g')).qm=s.qm/\(s.sized (oE g')).st=s.st/\(s.sized (oE g')).ow=s.ow/\(s.sized (oE g')).wt=s.wt:=λs=>by
  unfold LS.sized;split<;>exact⟨rfl,rfl,rfl,rfl,rfl,rfl,rfl,rfl,rfl⟩
 have build:∀s:LS,yJ (s.sized (oE g'))->s.fs=L.fs->s.fm=L.fm->s.ns=L.ns->s.nm=L.nm->(s.qs=255/\s.qm=g)->(6<=s.st/\s.st<=9)->LI g (s.sized (oE g')):=λs hk a b c d e f=>by
  obtain⟨z1,z2,z3,z4,z5,z6,z7,_,_⟩:=sz s;exact⟨by rw[z1,a,h.fs],by rw[z2,b,h.fm],by rw[z3,c,h.ns],by rw[z4,d,h.nm],λ_=>by rw[z5,z6];exact e,by rw[z7];exact .inr f,hk⟩
 rcases kD with hs|hs|hs|hs
 ·have e:=key [97] 8 (by rw[hs];exact t6);rw[e,nx 8 eH]at hk;rw[e,nx 8 eH];refine⟨build (ph [97] {L with st:=8}) hk rfl rfl rfl rfl (h.q h6) ⟨by show(6:Int)<=8;decide,by show(8:Int)<=9;decide⟩,.inr (.inr ⟨.inl hs,rfl,?_,?_,?_⟩)⟩
  ·exact(sz _).2.2.2.2.2.2.1
  ·exact(sz _).2.2.2.2.2.2.2.1
  ·exact(sz _).2.2.2.2.2.2.2.2
 ·have e:=key [97,117] 9 (by rw[hs];exact t7);rw[e,nx 9 eH]at hk;rw[e,nx 9 eH];refine⟨build (ph [97,117] {L with st:=9}) hk rfl rfl rfl rfl (h.q h6) ⟨by show(6:Int)<=9;decide,by show(9:Int)<=9;decide⟩,.inr (.inl ⟨hs,rfl,?_,?_⟩)⟩
  ·exact(sz _).2.2.2.2.2.2.1
  ·exact(sz _).2.2.2.2.2.2.2.1
 ·have e:=key [97] 8 (by rw[hs];exact t8);rw[e,nx 8 eH]at hk;rw[e,nx 8 eH];refine⟨build (ph [97] {L with st:=8}) hk rfl rfl rfl rfl (h.q h6) ⟨by show(6:Int)<=8;decide,by show(8:Int)<=9;decide⟩,.inr (.inr ⟨.inr hs,rfl,?_,?_,?_⟩)⟩
  ·exact(sz _).2.2.2.2.2.2.1
  ·exact(sz _).2.2.2.2.2.2.2.1
  ·exact(sz _).2.2.2.2.2.2.2.2
 ·have e:=key [100,114,97] 8 (by rw[hs];exact t9);rw[e,nx 8 eH]at hk;rw[e,nx 8 eH];refine⟨build (ph [100,114,97] {L with st:=8}) hk rfl rfl rfl rfl ⟨h.ns,h.nm⟩ ⟨by show(6:Int)<=8;decide,by show(8:Int)<=9;decide⟩,.inl ⟨hs,?_,?_,?_,?_⟩⟩
  ·show [(1,(L.ow+1) %256,nS L.ns L.nm),(2,id,oE g')] =_;rw[h.ns,h.nm,GL hg]
  ·exact(sz _).2.2.2.2.2.2.1
  ·exact(sz _).2.2.2.2.2.2.2.1
  ·exact(sz _).2.2.2.2.2.2.2.2
theorem Z6(hg:1<=g/\g<=255)(hi:0<=id/\id<=255)(jV:id≠L.ow):j4 L (2,id,oE g)=(L,[],6):=by
 unfold j4;rw[ae (by rw[yz (.inr rfl) hi hg];simp),ae (by show¬(2:Int)=1;decide),ae (by show¬(2:Int)=5;decide),ae (by show¬(2:Int)=6;decide)];unfold sy;rw[ag jV]
theorem Z7(hg:1<=g/\g<=255)(h:LI g L)(h68:L.st=6 \/L.st=8):LI g (j4 L (2,L.ow,oE g)).1/\(j4 L (2,L.ow,oE g)).2.1=[] /\(j4 L (2,L.ow,oE g)).1.ow=L.ow/\(j4 L (2,L.ow,oE g)).1.wt=L.wt/\(j4 L (2,L.ow,oE g)).1.st=L.st+1:=by
 have hk:=h.k.j4 (2,L.ow,oE g);have hq:=h.q eE;have e0:j4 L (2,L.ow,oE g)=rN L 8 (0,L.ow,[]):=by
  unfold j4;rw[ae (by rw[yz (.inr rfl) ⟨h.k.o1,h.k.o2⟩ hg];simp),ae (by show¬(2:Int)=1;decide),ae (by show¬(2:Int)=5;decide),ae (by show¬(2:Int)=6;decide)];unfold sy;rw[ae iC,ag rfl,ae (by rw[hq.1,hq.2,GL hg];simp)]
 rw[e0]at hk⊢;obtain⟨t6,t8⟩:=xD.2.1;have nx:∀n:Int,¬n<=3->L.next n={L with st:=n}:=λn hn=>by unfold LS.next;rw[ae hn]
 rcases h68 with hs|hs
 ·rw[Ff _ (show jt L.st 8=_ by rw[hs];exact t6),nx 7 eH]at hk⊢;exact⟨⟨h.fs,h.fm,h.ns,h.nm,λ_=>hq,.inr ⟨by show(6:Int)<=7;decide,by show(7:Int)<=9;decide⟩,hk⟩,rfl,rfl,rfl,by show(7:Int)=_;omega⟩
 ·rw[Ff _ (show jt L.st 8=_ by rw[hs];exact t8),nx 9 eH]at hk⊢;exact⟨⟨h.fs,h.fm,h.ns,h.nm,λ_=>hq,.inr ⟨by show(6:Int)<=9;decide,by show(9:Int)<=9;decide⟩,hk⟩,rfl,rfl,rfl,by show(9:Int)=_;omega⟩
def oC(g id:Int):mQ:=76::lQ 1 id (oE g)
def rI(g id:Int):mQ:=76::lQ 2 id (oE g)
theorem TB(code id g:Int):(lQ code id (oE g)).length=7:=by
 unfold lQ;simp only[eZ,qO];rfl
theorem GM(hc:code=1 \/code=2)(hi:0<=id/\id<=255)(hg:1<=g/\g<=255):jf (lQ code id (oE g))=(code,id,oE g,0):=by
 have e:lQ code id (oE g)=[j8 code,j8 id,2,1,255,5,j8 g] :=rfl;have hp:mF [1,255,5,j8 g] =oE g:=by
  have e1:mF [1,255,5,j8 g] =[(1,255),(5,((j8 g).toNat:Int))] :=rfl;rw[e1,nK g eE hg.2];rfl
 have hcn:=nK code eE eE;have pw:=nK id hi.1 hi.2;rw[e];unfold jf;rw[ae iC];show(if jW ((j8 code).toNat:Int) ((j8 id).toNat:Int) (mF [1,255,5,j8 g])=0 then(((j8 code).toNat:Int),((j8 id).toNat:Int),mF [1,255,5,j8 g],0)else(0,0,[],4))=_;rw[hp,hcn,pw,ag (yz hc hi hg)]
theorem Nj(hc:code=1 \/code=2)(hi:0<=id/\id<=255)(hg:1<=g/\g<=255):r8 (code,id,oE g)=[76::lQ code id (oE g)] :=by
 unfold r8;rw[ag ⟨yz hc hi hg,by show(lQ code id (oE g)).length+1<=60;rw[TB];decide⟩]
end Rt
end Go.Proofs.YtieklnlbljejdaaGreatDoor
