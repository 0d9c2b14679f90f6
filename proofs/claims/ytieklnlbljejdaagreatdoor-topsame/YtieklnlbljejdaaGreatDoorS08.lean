import Derived.Test.YtieklnlbljejdaaGreatDoorS07
open Option renaming none → ν, some → μ
open List renaming sublist_nil → iF, filter_cons → iG, flatMap → iH, take_sublist → iJ, count_append → iK, nodup_iff_count → iL, length_cons → eW, filterMap → iM
set_option maxRecDepth 100000
namespace Go.Proofs.YtieklnlbljejdaaGreatDoor
open Go.RowKit St
namespace Rt
variable {B D N W Z c d d' i j k p:Nat} {F Fi Fo G em l ps:List lD} {K:Int->Option PS} {L L' M:LS} {S:List (Int×List UInt8)} {T:List (Nat×Nat)} {X Y:Int->Bool} {a b m:AN} {code g h id ow own seq:Int} {es:List jQ} {q:PS} {r:iW} {t:Nat×Nat->Nat} {x:lD} {y:ja}
def CS(code:Int):lD->Option Int
 |76::s=>if(jk s).2.2.2=0/\(jk s).1=code then some (jk s).2.1 else none
 |_=>none
theorem x5(code:Int) {c:UInt8} (s:List UInt8)(h:c≠76):CS code (c::s)=ν:=by
 unfold CS;split;{rename_i e;exact absurd (aC e).1 h};{rfl}
theorem Qv {k:Int} (U:k=1 \/k=2)(hi:0<=id/\id<=255)(V:1<=g/\g<=255):CS code (76::mV k id (oz g))=if k=code then μ id else ν:=by
 show(if(jk (mV k id (oz g))).2.2.2=0/\(jk (mV k id (oz g))).1=code then μ (jk (mV k id (oz g))).2.1 else ν)=_;rw[AG U hi V];by_cases e:k=code;{rw[ai ⟨rfl,e⟩,ai e]};{rw[af (λh=>e h.2),af e]}
def ids(code:Int)(l:List lD):List Int:=l.filterMap (CS code)
theorem kM(code:Int)(l m:List lD):ids code (l++m)=ids code l++ids code m:=by unfold ids;rw[bJ]
theorem AH(h:∀x∈l,CS code x=ν):ids code l=[] :=by
 unfold ids;rw[cX];exact h
theorem j3(l:List lD)(h:CS code x=ν):ids code (x::l)=ids code l:=by unfold ids;rw[br,h]
theorem jU {i:Int} (l:List lD)(h:CS code x=μ i):ids code (x::l)=i::ids code l:=by unfold ids;rw[br,h]
theorem Z9 {i:Int} (h:i∈ids code l):∃x∈l,CS code x=μ i:=by
 unfold ids at h;obtain⟨x,V,U⟩:=bZ.1 h;exact⟨x,V,U⟩
theorem Ka {i:Int} (V:x∈l)(U:CS code x=μ i):i∈ids code l:=by
 unfold ids;exact bZ.2 ⟨x,V,U⟩
def MC(go gi:Int)(x:lD):Prop:=(∀c s,x=c::s->c≠76) \/(∃id,0<=id/\id<=255/\x=mY go id) \/(∃id,0<=id/\id<=255/\x=oC gi id)
def rW(x:lD):Prop:=∀c s,x=c::s->c≠76
theorem rW.lk(h:rW x)(code:Int):CS code x=ν:=by
 cases x with
 |nil=>rfl
 |cons c s=>exact x5 code s (h c s rfl)
def Kc(X:Int->Bool)(ow:Int)(x y:lD):Prop:=∀j id,CS 2 x=μ j->CS 1 y=μ id->X id=true->j<ow
structure oZ(X:Int->Bool)(L:LS)(Fo Fi:List lD)(t:Nat):Prop where
 inc:(ids 2 Fi++ids 1 Fo).Pairwise (· < ·)
 le:∀i∈ids 2 Fi++ids 1 Fo,i<=L.ow
 emp:L.st=7 \/L.st=9->ids 2 Fi++ids 1 Fo=[] /\∀i∈ids 1 Fi,X i=false
 lim:Fi.Pairwise (Kc X L.ow)
 Kd:L.ow+(((ids 1 Fi).filter λi=> !X i).length:Nat)<=t
structure Pair(X Y:Int->Bool)(t:Nat)(g h:Int)(L M:LS)(F G:List lD):Prop where
 l:LI g L
 m:LI h M
 lu:6<=L.st
 mu:6<=M.st
 f:∀x∈F,MC g h x
 g:∀x∈G,MC h g x
 d:oZ Y L F G t
 e:oZ X M G F t
theorem Pair.symm {t:Nat} (p:Pair X Y t g h L M F G):Pair Y X t h g M L G F:=⟨p.m,p.l,p.mu,p.lu,p.g,p.f,p.e,p.d⟩
theorem oZ.mono {t u:Nat} (p:oZ X L Fo Fi t)(h:t<=u):oZ X L Fo Fi u:=⟨p.inc,p.le,p.emp,p.lim,by have:=p.Kd;omega⟩
theorem Pair.mono {X Y:Int->Bool} {t u:Nat} {g h:Int} {L M:LS} {F G:List lD} (p:Pair X Y t g h L M F G)(k:t<=u):Pair X Y u g h L M F G:=⟨p.l,p.m,p.lu,p.mu,p.f,p.g,p.d.mono k,p.e.mono k⟩
theorem oZ.congr {t:Nat} (p:oZ X L Fo Fi t)(U:L'.st=L.st)(V:L'.ow=L.ow):oZ X L' Fo Fi t:=⟨p.inc,by rw[V];exact p.le,by rw[U];exact p.emp,by rw[V];exact p.lim,by rw[V];exact p.Kd⟩
theorem oZ.sub {Fo' Fi':List lD} {t:Nat} (p:oZ X L Fo Fi t)(Q:Fo'.Sublist Fo)(V:Fi'.Sublist Fi):oZ X L Fo' Fi' t:=by
 have s1:(ids 2 Fi'++ids 1 Fo').Sublist (ids 2 Fi++ids 1 Fo):=List.Sublist.append (V.filterMap _) (Q.filterMap _);have U:(ids 1 Fi').Sublist (ids 1 Fi):=V.filterMap _;refine⟨p.inc.sublist s1,λi hi=>p.le i (s1.mem hi),λh=> ?_,p.lim.sublist V,?_⟩;{obtain⟨a,b⟩:=p.emp h;refine⟨?_,λi hi=>b i (U.mem hi)⟩;rw[a]at s1;exact iF.1 s1};{have:=p.Kd;have:=(U.filter λi=> !X i).length_le;omega}
theorem Pair.sub {X Y:Int->Bool} {t:Nat} {g h:Int} {L M:LS} {F G F' G':List lD} (p:Pair X Y t g h L M F G)(V:F'.Sublist F)(U:G'.Sublist G):Pair X Y t g h L M F' G':=
 ⟨p.l,p.m,p.lu,p.mu,λx hx=>p.f x (V.mem hx),λx hx=>p.g x (U.mem hx),p.d.sub V U,p.e.sub U V⟩
theorem oZ.ah3 {t:Nat} (p:oZ X L Fo Fi t)(h:∀x∈ps,rW x):oZ X L Fo (Fi++ps) t:=by
 have V:∀c,ids c (Fi++ps)=ids c Fi:=λc=>by rw[kM,AH λx hx=>(h x hx).lk c,aB]
 refine⟨by rw[V];exact p.inc,by rw[V];exact p.le,by rw[V,V];exact p.emp,?_,by rw[V];exact p.Kd⟩;refine bz.2 ⟨p.lim,?_,λx _ y hy j id _ Q=>by rw[(h y hy).lk]at Q;exact absurd Q ik⟩;exact dK (R:=λ_ _=>True) (λ{x y} hx _ _ j id U=>by rw[(h x hx).lk]at U;exact absurd U ik) (List.pairwise_of_forall λ_ _=>trivial)
theorem oZ.ah4 {t:Nat} (p:oZ X L Fo Fi t)(h:∀x∈ps,rW x):oZ X L (Fo++ps) Fi t:=by
 have V:ids 1 (Fo++ps)=ids 1 Fo:=by rw[kM,AH λx hx=>(h x hx).lk 1,aB]
 exact⟨by rw[V];exact p.inc,by rw[V];exact p.le,by rw[V];exact p.emp,p.lim,p.Kd⟩
theorem Pair.more {t:Nat} (p:Pair X Y t g h L M F G)(V:∀x∈ps,rW x):Pair X Y t g h L M (F++ps) G:=
 ⟨p.l,p.m,p.lu,p.mu,λx hx=>(av.1 hx).elim (p.f x) λe=>.inl (V x e),p.g,p.d.ah4 V,p.e.ah3 V⟩
theorem tL(V:1<=g/\g<=255)(hi:0<=id/\id<=255):CS 1 (mY g id)=μ id/\CS 2 (mY g id)=ν/\CS 1 (oC g id)=ν/\CS 2 (oC g id)=μ id:=by
 unfold mY oC;rw[Qv (.inl rfl) hi V,Qv (.inl rfl) hi V,Qv (.inr rfl) hi V,Qv (.inr rfl) hi V];exact⟨ik,ik,ik,ik⟩
def mark(X:Int->Bool)(i:Int)(b:Bool):Int->Bool:=λk=>if k=i then b else X k
theorem MD {i:Int} {b:Bool} {l:List Int} (h:∀k∈l,k<i):(l.filter λk=> !mark X i b k)=l.filter λk=> !X k:=by
 refine List.filter_congr λk V=> ?_;have:=h k V;unfold mark;rw[af eB]
theorem ME {i:Int} {b:Bool} (h:∀k∈ids 1 F,k<i)(p:F.Pairwise (Kc X ow)):F.Pairwise (Kc (mark X i b) ow):=by
 refine dK (λ{x y} _ hy J j id Q U V=>J j id Q U ?_) p;have:=h id (Ka hy U);unfold mark at V;rw[af eB]at V;exact V
theorem Xg {CT:Int} (h:ow<=CT)(p:F.Pairwise (Kc X ow)):F.Pairwise (Kc X CT):=
 p.imp λ{x y} J j id V U Q=>by have:=J j id V U Q;omega
theorem Pair.ask {t:Nat} (u:1<=g/\g<=255)(p:Pair X Y t g h L M F G)(ht:t+1<=255)(hl:LI g L')(H:L'.ow=L.ow+1)(hs:L'.st=6 \/L'.st=8):Pair (mark X (L.ow+1) false) Y (t+1) g h L' M (F++ [mY g (L.ow+1)]) G:=by
 have hb:=p.d.Kd;have hi:0<=L.ow+1/\L.ow+1<=255:=by have:=p.l.k.o1;omega
 obtain⟨r1,r2,_,_⟩:=tL u hi;have V:ids 1 (F++ [mY g (L.ow+1)])=ids 1 F++ [L.ow+1] :=by rw[kM,jU [] r1];rfl
 have Q:ids 2 (F++ [mY g (L.ow+1)])=ids 2 F:=by rw[kM,j3 [] r2];simp[ids]
 have E:∀k∈ids 1 F,k<L.ow+1:=λk hk=>by have:=p.d.le k (av.2 (.inr hk));omega
 refine⟨hl,p.m,eB,p.mu,λx hx=> ?_,p.g,⟨?_,?_,λh=>eB,by rw[H];exact Xg eB p.d.lim,by rw[H];omega⟩,⟨?_,?_,λh=> ?_,?_,?_⟩⟩
 ·rcases av.1 hx with e|e
  {exact p.f x e};{exact .inr (.inl ⟨_,hi.1,hi.2,ar.1 e⟩)}
 ·rw[V,<-aD];refine bz.2 ⟨p.d.inc,ik,λa A b hb=> ?_⟩;rw[ar.1 hb];have:=p.d.le a A;omega
 ·rw[V,<-aD,H];intro i hi;rcases av.1 hi with e|e
  {have:=p.d.le i e;omega};{rw[ar.1 e];exact Int.le_refl _}
 {rw[Q];exact p.e.inc};{rw[Q];exact p.e.le}
 ·rw[V,Q];obtain⟨a,b⟩:=p.e.emp h;refine⟨a,λi hi=> ?_⟩;unfold mark;rcases av.1 hi with e|e
  {rw[af (by have:=E i e;omega)];exact b i e};{rw[ai (ar.1 e)]}
 ·refine bz.2 ⟨ME E p.e.lim,ik,λx _ y hy j id _ U J=> ?_⟩;rw[ar.1 hy,r1]at U;injection U with U
  unfold mark at J;rw[ai U.symm]at J;exact absurd J ik
 ·rw[V,cD,MD E,aA];have:=p.e.Kd;have:((([L.ow+1] :List Int).filter λi=> !mark X (L.ow+1) false i).length)<=1:=cK _ _;omega
theorem Pair.tick {t:Nat} (Q:1<=g/\g<=255)(p:Pair X Y t g h L M F G)(A:t+1<=255):∃X',Pair X' Y (t+1) g h (jq L).1 M (F++(jq L).2.flatMap oJ) G/\(∀k∈ids 1 F,X' k=X k)/\((jq L).2.flatMap oJ=[] \/(jq L).2.flatMap oJ=[mY g (L.ow+1)]):=by
 obtain⟨li,V|V⟩:=J9 Q p.l
 ·obtain⟨V,H,U,_⟩:=V;refine⟨X,?_,λ_ _=>rfl,.inl (by rw[V];rfl)⟩;rw[V];have q:Pair X Y t g h (jq L).1 M F G:=⟨li,p.m,by rw[U];exact p.lu,p.mu,p.f,p.g,p.d.congr U H,p.e⟩
  simpa using q.mono (Nat.le_succ t)
 ·obtain⟨_,_,U,J,_,h6⟩:=V;have hb:=p.d.Kd;have hi:0<=L.ow+1/\L.ow+1<=255:=by have:=p.l.k.o1;omega
  have em:(L.ow+1) %256=L.ow+1:=eB;rw[em]at U J;have e:(jq L).2.flatMap oJ=[mY g (L.ow+1)] :=by
   rw[U];show oJ _++ [] =_;rw[F8 (.inl rfl) hi Q];rfl
  refine⟨mark X (L.ow+1) false,?_,λk E=> ?_,.inr e⟩;{rw[e];exact p.ask Q A li J eB};{have:=p.d.le k (av.2 (.inr E));unfold mark;rw[af eB]}
def yn(X:Int->Bool)(x:lD):Nat:=match CS 1 x with
 |some i=>if X i=true then 2 else 3
 |none=>match x with
  |83::_=>2
  |77::_::b::_=>b.toNat+1
  |_=>1
def pq(X:Int->Bool)(x:lD):Nat:=match CS 1 x with
 |some i=>if X i=true then 2 else 4
 |none=>match x with
  |83::_=>2
  |77::_=>0
  |_=>1
theorem AJ(V:1<=g/\g<=255)(hi:0<=id/\id<=255)(X:Int->Bool):yn X (oC g id)=1/\pq X (oC g id)=1:=by
 unfold yn pq;rw[(tL V hi).2.2.1];exact⟨rfl,rfl⟩
theorem AK(V:1<=g/\g<=255)(hi:0<=id/\id<=255)(X:Int->Bool):yn X (mY g id)=(if X id=true then 2 else 3)/\pq X (mY g id)=if X id=true then 2 else 4:=by
 unfold yn pq;rw[(tL V hi).1];exact⟨rfl,rfl⟩
theorem oZ.abN {X':Int->Bool} {t:Nat} (hh:1<=h/\h<=255)(hi:0<=id/\id<=255)(p:oZ X M (mY h id::G) F t)(U:ids 2 em=[id])(Q:(F++em).Pairwise (Kc X' M.ow))(V:M.ow+(((ids 1 (F++em)).filter λi=> !X' i).length:Nat)<=t):oZ X' M G (F++em) t:=by
 have r1:=(tL hh hi).1;have e:ids 2 (F++em)++ids 1 G=ids 2 F++ids 1 (mY h id::G):=by
  rw[kM,U,jU G r1,aD];rfl
 refine⟨by rw[e];exact p.inc,by rw[e];exact p.le,λhs=> ?_,Q,V⟩;have:=(p.emp hs).1;rw[jU G r1]at this;simp at this
theorem Qw(V:F.Pairwise (Kc X ow))(U:em.Pairwise (Kc X ow))(Q:∀y∈em,∀id,CS 1 y=μ id->X id=true->∀j∈ids 2 F,j<ow):(F++em).Pairwise (Kc X ow):=
 bz.2 ⟨V,U,λ_ hx y hy j id a b c=>Q y hy id b c j (Ka hx a)⟩
structure aad(X X' Y:Int->Bool)(t:Nat)(g h:Int)(L' M:LS)(F l em:List lD)(x:lD):Prop where
 p:Pair X' Y t g h L' M (F++em) l
 old:∀k∈ids 1 F,X' k=X k
 dp:∀y∈em,yn X' y+1<=yn Y x
 wg:sm (pq X') em+1<=pq Y x
 st:6<=L'.st
theorem Pair.ah5 {t:Nat} (hh:1<=h/\h<=255)(hi:0<=id/\id<=255)(p:Pair X Y t g h L M F (mY h id::l))(li:LI g L')(V:L'.ow=L.ow)(J:6<=L'.st)(kC:L'.st=7 \/L'.st=9->L.st=7):aad X X Y t g h L' M F l [oC h id] (mY h id):=by
 obtain⟨r1,r2,A,r4⟩:=tL hh hi;have Q:=jU l r1;have U:=j3 l r2;have i1:ids 1 [oC h id] =[] :=by rw[j3 _ A];rfl
 have u:ids 2 [oC h id] =[id] :=by rw[jU _ r4];rfl
 have E:=AK hh hi Y;refine⟨⟨li,p.m,J,p.mu,λx hx=> ?_,λy hy=>p.g y (by simp[hy]),⟨?_,?_,λhs=> ?_,?_,?_⟩,?_⟩,λk _=>rfl,λy hy=> ?_,?_,J⟩
 ·rcases av.1 hx with z|z
  {exact p.f x z};{rw[ar.1 z];exact .inr (.inr ⟨id,hi.1,hi.2,rfl⟩)}
 {rw[kM,i1,aB,<-U];exact p.d.inc};{rw[kM,i1,aB,<-U,V];exact p.d.le};{rw[kM,i1,aB,<-U];obtain⟨a,b⟩:=p.d.emp (.inl (kC hs));exact⟨a,λi hi=>b i (by rw[Q];simp[hi])⟩};{rw[V];exact p.d.lim.sublist (bR _ _)};{rw[V];have:=p.d.Kd;rw[Q]at this;have h2:((ids 1 l).filter λi=> !Y i).length<=((id::ids 1 l).filter λi=> !Y i).length:=((bR id (ids 1 l)).filter _).length_le;omega};{refine oZ.abN hh hi p.e u (Qw p.e.lim ik λy hy i H _=>by rw[ar.1 hy,A]at H;exact absurd H ik) ?_;rw[kM,i1,aB];exact p.e.Kd};{rw[ar.1 hy,(AJ hh hi _).1,E.1];split<;>omega};{show pq _ (oC h id)+0+1<=_;rw[(AJ hh hi _).2,E.2];split<;>omega}
theorem Pair.req {t:Nat} (A:1<=g/\g<=255)(hh:1<=h/\h<=255)(jx:h≠g)(ht:t<=255)(hi:0<=id/\id<=255)(p:Pair X Y t g h L M F (mY h id::l)):∃X',aad X X' Y t g h (jW L (1,id,oz h)).1 M F l ((jW L (1,id,oz h)).2.1.flatMap oJ) (mY h id):=by
 obtain⟨r1,r2,r3,r4⟩:=tL hh hi;have hb:=p.d.Kd;have ho:=p.l.k.o1;have Kx:=jU l r1;have Qx:=j3 l r2;have hf:∀y∈l,MC h g y:=λy hy=>p.g y (by simp[hy]);have hack:MC g h (oC h id):=.inr (.inr ⟨id,hi.1,hi.2,rfl⟩);have J:oJ (2,id,oz h)=[oC h id] :=F8 (.inr rfl) hi hh;have hM:∀j∈ids 2 F,j<M.ow:=λj hj=>by
  have h1:=p.e.inc;have h2:=p.e.le id (by rw[Kx];simp);rw[Kx]at h1;have:=(bz.1 h1).2.2 j hj id ik;omega
 obtain⟨li,h9|h7|h68⟩:=Xd A hh jx hi p.l p.lu
 ·obtain⟨s9,out,s8,V,_⟩:=h9;obtain⟨Xi,aeB⟩:=p.d.emp (.inr s9);have hX:Y id=false:=aeB id (by rw[Kx];simp);have amX:((ids 1 (mY h id::l)).filter λi=> !Y i).length=((ids 1 l).filter λi=> !Y i).length+1:=by
   rw[Kx,iG,hX];rfl
  have em:(L.ow+1) %256=L.ow+1:=eB;have E:0<=L.ow+1/\L.ow+1<=255:=eB;obtain⟨q1,q2,q3,q4⟩:=tL A E;rw[em]at out V;have e:(jW L (1,id,oz h)).2.1.flatMap oJ=[mY g (L.ow+1),oC h id] :=by
   rw[out];show oJ _++(oJ _++ [])=_;rw[F8 (.inl rfl) E A,J];rfl
  have H:ids 2 l=[] /\ids 1 F=[] :=by
   rw[Qx]at Xi;exact dS.1 Xi
  have i1:ids 1 [mY g (L.ow+1),oC h id] =[L.ow+1] :=by rw[jU _ q1,j3 _ r3];rfl
  have i2:ids 2 [mY g (L.ow+1),oC h id] =[id] :=by rw[j3 _ q2,jU _ r4];rfl
  refine⟨mark X (L.ow+1) true,?_⟩;rw[e];refine⟨⟨li,p.m,eB,p.mu,λx hx=> ?_,hf,⟨?_,?_,λh=>eB,?_,?_⟩,?_⟩,λk u=>by rw[H.2]at u;simp at u,λy hy=> ?_,?_,eB⟩
  ·rcases av.1 hx with z|z
   ·exact p.f x z
   ·rcases aP.1 z with z|z
    {exact .inr (.inl ⟨_,E.1,E.2,z⟩)};{rw[ar.1 z];exact hack}
  {rw[H.1,kM,H.2,i1];simp};{rw[H.1,kM,H.2,i1,V];simp};{rw[V];exact Xg eB (p.d.lim.sublist (bR _ _))};{rw[V];omega}
  ·refine oZ.abN hh hi p.e i2 (Qw (ME (λk u=>by rw[H.2]at u;simp at u) p.e.lim) ?_ λy hy i h1 h2=>hM) ?_;{refine cF.2 ⟨λy hy j i a=>by rw[q2]at a;exact absurd a ik,ik⟩}
   ·rw[kM,H.2,i1];have:(([] ++ [L.ow+1] :List Int).filter λi=> !mark X (L.ow+1) true i)=[] :=by simp[mark]
    rw[this];have:=p.e.Kd;have e0:(([] :List Int).length:Nat)=0:=rfl;omega
  ·have hY:yn Y (mY h id)=3:=by rw[(AK hh hi Y).1,hX];rfl
   rw[hY];rcases aP.1 hy with z|z
   {rw[z,(AK A E _).1];simp[mark]};{rw[ar.1 z,(AJ hh hi _).1];omega}
  ·have hY:pq Y (mY h id)=4:=by rw[(AK hh hi Y).2,hX];rfl
   rw[hY];show pq _ (mY g (L.ow+1))+(pq _ (oC h id)+0)+1<=4;rw[(AK A E _).2,(AJ hh hi _).2];simp[mark]
 ·have IW:∃L',(jW L (1,id,oz h)).1=L'/\LI g L'/\L'.ow=L.ow/\6<=L'.st/\(L'.st=7 \/L'.st=9->L.st=7)/\(jW L (1,id,oz h)).2.1.flatMap oJ=[oC h id] :=by
   obtain⟨s7,out,s9,V⟩:=h7;refine⟨_,rfl,li,V,eB,λ_=>s7,?_⟩;rw[out];show oJ _++ [] =_;rw[J];rfl
  obtain⟨L',U,Q,V,TM,kC,e⟩:=IW;refine⟨X,?_⟩;rw[U,e];exact Pair.ah5 hh hi p Q V TM kC
 ·have IW:∃L',(jW L (1,id,oz h)).1=L'/\LI g L'/\L'.ow=L.ow/\6<=L'.st/\(L'.st=7 \/L'.st=9->L.st=7)/\(jW L (1,id,oz h)).2.1.flatMap oJ=[oC h id] :=by
   obtain⟨s7,out,s8,V,_⟩:=h68;refine⟨_,rfl,li,V,eB,λh=>eB,?_⟩;rw[out];show oJ _++ [] =_;rw[J];rfl
  obtain⟨L',U,Q,V,TM,kC,e⟩:=IW;refine⟨X,?_⟩;rw[U,e];exact Pair.ah5 hh hi p Q V TM kC
theorem Pair.ack {t:Nat} (u:1<=g/\g<=255)(hi:0<=id/\id<=255)(p:Pair X Y t g h L M F (oC g id::l)):aad X X Y t g h (jW L (2,id,oz g)).1 M F l ((jW L (2,id,oz g)).2.1.flatMap oJ) (oC g id):=by
 obtain⟨r1,r2,r3,r4⟩:=tL u hi;have A:=j3 l r3;have Qx:=jU l r4;have Q:ids 2 (oC g id::l)++ids 1 F=id::(ids 2 l++ids 1 F):=by rw[Qx];rfl
 have lL:¬(L.st=7 \/L.st=9):=λh=>by
  have:=(p.d.emp h).1;rw[Q]at this;simp at this
 have J:=p.d.inc;have V:=p.d.le;rw[Q]at J V;have H:=cF.1 J;have he:oZ X M l F t:=⟨by have:=p.e.inc;rw[A]at this;exact this,by have:=p.e.le;rw[A]at this;exact this,by have:=p.e.emp;rw[A]at this;exact this,p.e.lim,p.e.Kd⟩
 have U:L.ow+(((ids 1 l).filter λi=> !Y i).length:Nat)<=t:=by have:=p.d.Kd;rw[A]at this;exact this
 have Xh:=p.d.lim;have hf:∀y∈l,MC h g y:=λy hy=>p.g y (by simp[hy]);have E:sm (pq X) [] +1<=pq Y (oC g id):=by rw[(AJ u hi Y).2];exact Nat.le_refl _
 by_cases hw:id=L.ow
 ·have h68:L.st=6 \/L.st=8:=by
   have:=p.lu;have:=p.l.st;omega
  obtain⟨a1,a2,a3,_,a5⟩:=Xe u p.l h68;subst hw;rw[a2];have kH:ids 2 l++ids 1 F=[] :=by
   cases hl:ids 2 l++ids 1 F with
   |nil=>rfl
   |cons z zs=>
    have h1:=H.1 z (by rw[hl];simp);have h2:=V z (by rw[hl];simp);omega
  refine⟨⟨a1,p.m,by rw[a5];omega,p.mu,?_,hf,⟨?_,?_,λ_=>⟨?_,λi ll=> ?_⟩,?_,?_⟩,?_⟩,λ_ _=>rfl,λy hy=>by simp at hy,E,by rw[a5];omega⟩;{simpa using p.f};{rw[show F++iH oJ [] =F by simp,kH];exact List.Pairwise.nil};{rw[show F++iH oJ [] =F by simp,kH];exact λ_ h=>by simp at h};{rw[show F++iH oJ [] =F by simp];exact kH};{obtain⟨y,hy,hy2⟩:=Z9 ll;cases hX:Y i;{rfl};{have:=(cF.1 Xh).1 y hy L.ow i r4 hy2 hX;omega}}
  {rw[a3];exact Xh.sublist (bR _ _)};{rw[a3];exact U};{rw[show F++iH oJ [] =F by simp];exact he}
 ·rw[aez u hi hw];refine⟨⟨p.l,p.m,p.lu,p.mu,?_,hf,⟨?_,?_,λh=>absurd h lL,Xh.sublist (bR _ _),U⟩,?_⟩,λ_ _=>rfl,λy hy=>by simp at hy,E,p.lu⟩;{simpa using p.f};{rw[show F++iH oJ [] =F by simp];exact H.2};{rw[show F++iH oJ [] =F by simp];exact λi hi=>V i (by simp[hi])};{rw[show F++iH oJ [] =F by simp];exact he}
theorem Pair.new {t:Nat} (Q:1<=g/\g<=255)(hh:1<=h/\h<=255)(l:LI g L)(m:LI h M)(s1:L.st=6)(s2:M.st=6)(w1:L.ow+1<=t)(w2:M.ow+1<=t):Pair (λ_=>false) (λ_=>false) t g h L M [mY g L.ow] [mY h M.ow] :=by
 obtain⟨q1,q2,_,_⟩:=tL Q ⟨l.k.o1,l.k.o2⟩;obtain⟨r1,J,_,_⟩:=tL hh ⟨m.k.o1,m.k.o2⟩;have V:ids 1 [mY g L.ow] =[L.ow] :=by rw[jU _ q1];rfl
 have U:ids 2 [mY g L.ow] =[] :=by rw[j3 _ q2];rfl
 have b1:ids 1 [mY h M.ow] =[M.ow] :=by rw[jU _ r1];rfl
 have b2:ids 2 [mY h M.ow] =[] :=by rw[j3 _ J];rfl
 refine⟨l,m,eB,eB,λx hx=> ?_,λx hx=> ?_,⟨?_,?_,λh=>eB,ik,?_⟩,⟨?_,?_,λh=>eB,ik,?_⟩⟩;{exact .inr (.inl ⟨_,l.k.o1,l.k.o2,ar.1 hx⟩)};{exact .inr (.inl ⟨_,m.k.o1,m.k.o2,ar.1 hx⟩)};{rw[V,b2];simp};{rw[V,b2];simp};{rw[b1];show L.ow+((1:Nat):Int)<=t;omega};{rw[b1,U];simp};{rw[b1,U];simp};{rw[V];show M.ow+((1:Nat):Int)<=t;omega}
def kf(a:AN)(c d:Nat):LS:=((a.R (a.e c d).1).P (a.e c d).2).L
def gP(x:Nat×Nat):Int:=8*((x.1:Int)+1)+(x.2:Int)+1
theorem rY(V:uh a)(hc:c<a.nc)(hd:d<2):1<=gP (a.e c d)/\gP (a.e c d)<=255:=by
 have:=V.en c d hc hd;have:=V.n6;unfold gP;omega
theorem abP(V:uh a)(hc:c<a.nc)(hd:d<2)(U:d'<2)(h:d≠d'):gP (a.e c d)≠gP (a.e c d'):=by
 have h1:=V.en c d hc hd;have h2:=V.en c d' hc U;intro e;unfold gP at e;have:a.e c d=a.e c d':=aU eB eB;exact h (V.ds _ _ _ _ hc hd hc U this).2
abbrev Marks:=Nat->Nat->Int->Bool
structure rK(X:Marks)(t:Nat×Nat->Nat)(a:AN):Prop where
 up:∀c,c<a.nc->a.jc c=true->Pair (X c 0) (X c 1) (t (a.e c 0)+t (a.e c 1)) (gP (a.e c 0)) (gP (a.e c 1)) (kf a c 0) (kf a c 1) (a.F c 0) (a.F c 1)
 dn:∀c,c<a.nc->a.jc c=false->∀d,d<2->LI (gP (a.e c d)) (kf a c d)/\(kf a c d).st=1/\(kf a c d).ow<=((t (a.e c 0)+t (a.e c 1):Nat):Int)/\a.F c d=[]
theorem rK.uu {X:Marks} (h:rK X t a)(hc:c<a.nc)(hd:d<2)(hi:a.jc c=true):Pair (X c d) (X c (1-d)) (t (a.e c 0)+t (a.e c 1)) (gP (a.e c d)) (gP (a.e c (1-d))) (kf a c d) (kf a c (1-d)) (a.F c d) (a.F c (1-d)):=by
 have:d=0 \/d=1:=eB;rcases this with rfl|rfl
 {exact h.up c hc hi};{exact(h.up c hc hi).symm}
theorem rK.zw {X:Marks} (h:rK X t a)(hc:c<a.nc)(hd:d<2)(hx:x∈a.F c d):a.jc c=true:=by
 cases hi:a.jc c;{have:=(h.dn c hc hi d hd).2.2.2;rw[this]at hx;simp at hx};{rfl}
theorem MF {X:Marks} {t:Nat} {g:Nat->Int} {L:Nat->LS} {F:Nat->List lD} (hd:d<2)(h:Pair (X 0 d) (X 0 (1-d)) t (g d) (g (1-d)) (L d) (L (1-d)) (F d) (F (1-d))):Pair (X 0 0) (X 0 1) t (g 0) (g 1) (L 0) (L 1) (F 0) (F 1):=by
 have:d=0 \/d=1:=eB;rcases this with rfl|rfl
 {exact h};{exact h.symm}
theorem rK.Qd {X X':Marks} {u:Nat×Nat->Nat} (h:rK X t a)(V:∀x,t x<=u x)(Q:b.e=a.e)(hc:c<a.nc)(hi:b.jc c=a.jc c)(J:∀d,d<2->X' c d=X c d)(U:∀d,d<2->kf b c d=kf a c d)(hF:∀d,d<2->b.F c d=a.F c d):(b.jc c=true->Pair (X' c 0) (X' c 1) (u (b.e c 0)+u (b.e c 1)) (gP (b.e c 0)) (gP (b.e c 1)) (kf b c 0) (kf b c 1) (b.F c 0) (b.F c 1))/\(b.jc c=false->∀d,d<2->LI (gP (b.e c d)) (kf b c d)/\(kf b c d).st=1/\(kf b c d).ow<=((u (b.e c 0)+u (b.e c 1):Nat):Int)/\b.F c d=[]):=by
 have t0:=V (a.e c 0);have t1:=V (a.e c 1);refine⟨λhb=> ?_,λhb d hd=> ?_⟩;{rw[Q,J 0 eF,J 1 eF,U 0 eF,U 1 eF,hF 0 eF,hF 1 eF];exact(h.up c hc (by rw[<-hi];exact hb)).mono eB};{rw[Q,U d hd,hF d hd];obtain⟨H,E,a3,A⟩:=h.dn c hc (by rw[<-hi];exact hb) d hd;exact⟨H,E,eB,A⟩}
theorem IX(a:AN)(i:Nat)(s:iW)(c d:Nat):kf (a.op i s) c d=if(a.e c d).1=i then(s.P (a.e c d).2).L else kf a c d:=by
 unfold kf;show((j6 a.R i s.core (a.e c d).1).P (a.e c d).2).L=_;by_cases e:(a.e c d).1=i;{rw[e,iQ,ai rfl];rfl};{rw[iI _ _ e,af e]}
theorem IY(h:∀k∈ids 1 F,Y k=X k):∀y∈F,yn Y y=yn X y/\pq Y y=pq X y:=λy hy=>by
 unfold yn pq;cases e:CS 1 y with
 |none=>exact⟨rfl,rfl⟩
 |some i=>constructor<;>simp only[h i (Ka hy e)]
theorem rK.quiet {X:Marks} (h:rK X t a)(i:Nat)(s:iW)(Q:∀p,(s.P p).L=((a.R i).P p).L)(hq:∀p,jz (s.P p)=[] \/((s.P p).L.st=9/\∀y∈jz (s.P p),rW y)):rK X t (a.op i s):=by
 have l1:∀c d,kf (a.op i s) c d=kf a c d:=λc d=>by
  rw[IX];split;{rename_i e;rw[Q,<-e];rfl};{rfl}
 have f1:∀c d,∃em,(a.op i s).F c d=a.F c d++em/\(em=[] \/((kf a c d).st=9/\∀y∈em,rW y)):=λc d=>by
  rw[vZ];split
  ·rename_i e
   refine⟨_,rfl,?_⟩;rcases hq (a.e c d).2 with g|⟨g1,U⟩
   {exact .inl g};{right;rw[Q]at g1;unfold kf;rw[e.2];exact⟨g1,U⟩}
  ·exact⟨[],ik,.inl rfl⟩
 refine⟨λc hc hi=> ?_,λc hc hi d hd=> ?_⟩
 ·have p:=h.up c hc hi;rw[l1,l1];obtain⟨u,J,b0⟩:=f1 c 0;obtain⟨e1,V,b1⟩:=f1 c 1;rw[J,V];have n0:∀y∈u,rW y:=by
   rcases b0 with b|b;· rw[b];exact λ_ h=>by simp at h
   ·exact b.2
  have n1:∀y∈e1,rW y:=by
   rcases b1 with b|b;· rw[b];exact λ_ h=>by simp at h
   ·exact b.2
  exact((p.more n0).symm.more n1).symm
 ·obtain⟨V,H,E,A⟩:=h.dn c hc hi d hd;rw[l1];obtain⟨em,g1,U⟩:=f1 c d;refine⟨V,H,E,?_⟩;rw[g1,A];rcases U with g|g
  {rw[g];rfl};{have:=g.1;omega}
theorem xC(i p:Nat)(s:iW)(h:∀q,q≠p->(s.P q).L=((a.R i).P q).L/\jz (s.P q)=[])(c d:Nat):(a.e c d≠(i,p)->kf (a.op i s) c d=kf a c d/\(a.op i s).F c d=a.F c d)/\(a.e c d=(i,p)->c<a.nc->d<2->kf (a.op i s) c d=(s.P p).L/\(a.op i s).F c d=a.F c d++jz (s.P p)):=by
 refine⟨λH=> ?_,λQ hc hd=> ?_⟩;{rw[IX,vZ];by_cases e:(a.e c d).1=i;{have J:(a.e c d).2≠p:=λV=>H (aU e V);obtain⟨g1,U⟩:=h _ J;rw[ai e,g1,U,aB];refine⟨?_,by split<;>rfl⟩;unfold kf;rw[e]};{rw[af e,af (λz=>e z.2)];exact⟨rfl,rfl⟩}};{rw[IX,vZ,Q,ai rfl,ai ⟨⟨hc,hd⟩,rfl⟩];exact⟨rfl,rfl⟩}
def qS(t:Nat×Nat->Nat)(T:List (Nat×Nat))(x:Nat×Nat):Nat:=t x+T.count x
def Gu(X:Marks)(c d:Nat)(Y:Int->Bool):Marks:=λc' d'=>if c'=c/\d'=d then Y else X c' d'
theorem rZ(X:Marks)(c d:Nat)(Y:Int->Bool):Gu X c d Y c d=Y:=ai ⟨rfl,rfl⟩
theorem mR(X:Marks) {c':Nat} (Y:Int->Bool)(h:¬(c'=c/\d'=d)):Gu X c d Y c' d'=X c' d':=af h
theorem AL(c:UInt8)(s:List UInt8)(h:c≠76):rW (c::s):=λk u e=>by rw[<-(aC e).1];exact h
def A3(r:iW)(p:Nat):List lD:=if(jq (r.P p).L).1.st=9 then(72::[kc r.id,kc (iV (r.P p).pe).who])::(if(iV (r.P p).pe).both=true then(lV (((jo r p).meet p (iV (r.P p).pe)).O p)).flatMap DW else [])else []
theorem xD(r:iW)(p:Nat):∀y∈A3 r p,rW y:=λy hy=>by
 unfold A3 at hy;split at hy
 ·rcases aP.1 hy with g|g
  {rw[g];exact AL 72 _ eF};{split at g;{obtain⟨q,_,V⟩:=aT.1 g;unfold DW at V;split at V;{rw[ar.1 V];exact AL 83 _ eF};{simp at V}};{simp at g}}
 ·simp at hy
theorem B6(r:iW)(p q:Nat):((r.jj p).P q).L=if q=p then(jq (r.P p).L).1 else(r.P q).L:=by
 have V:((jo r p).P q).L=if q=p then(jq (r.P p).L).1 else(r.P q).L:=by
  unfold jo;rw[k9];split;{rename_i e;rw[tJ]};{rfl}
 rw[lA];split;{rw[(kB _ _ _ _).2.1];exact V};{rw[((qe _ _).2.2.2.2 q).2.2,(kB _ _ _ _).2.1];exact V}
structure MG(X Y:Marks)(a b:AN)(c d:Nat)(l em:List lD):Prop where
 f:b.F c d=l++em
 o:∀y∈l,yn (Y c d) y=yn (X c d) y/\pq (Y c d) y=pq (X c d) y
theorem rK.tick {X:Marks} {t:Nat×Nat->Nat} {a:AN} (hB:uh a)(hN:Norm a)(h:rK X t a) {i p:Nat} (ht:∀x,t x<=126):∃Y,rK Y (qS t [(i,p)]) (a.op i ((a.R i).jj p))/\∀c d,c<a.nc->d<2->(a.e c d≠(i,p)->MG X Y a (a.op i ((a.R i).jj p)) c d (a.F c d) [])/\(a.e c d=(i,p)->∃em,(em=[] \/em=[mY (gP (a.e c d)) ((kf a c d).ow+1)])/\MG X Y a (a.op i ((a.R i).jj p)) c d (a.F c d) (em++A3 (a.R i) p)):=by
 obtain⟨e1,e2⟩:=xY (hN.emp i) p;have Q:=xC (a:=a) i p ((a.R i).jj p) λq hq=>⟨by rw[B6,af hq],e1 q hq⟩
 have hLp:(((a.R i).jj p).P p).L=(jq ((a.R i).P p).L).1:=by rw[B6,ai rfl]
 have u:∀x,t x<=qS t [(i,p)] x:=λx=>Nat.le_add_right _ _;by_cases hex:∃c d,c<a.nc/\d<2/\a.e c d=(i,p)
 ·obtain⟨c,d,hc,hd,he⟩:=hex;have pV:kf a c d=((a.R i).P p).L:=by unfold kf;rw[he]
  have hu:∀c' d',c'<a.nc->d'<2->¬(c'=c/\d'=d)->a.e c' d'≠(i,p):=λc' d' U V jx e=>jx (hB.ds _ _ _ _ U V hc hd (e.trans he.symm));cases hi:a.jc c
  ·obtain⟨l1,l2,l3,l4⟩:=h.dn c hc hi d hd;have zE:=J9 (rY hB hc hd) l1;have kJ:jq (kf a c d)=(kf a c d,[]):=by
    rcases zE.or with g|g
    {exact aU (g.2.2.2.1 (.inl l2)) g.1};{omega}
   rw[pV]at kJ l2;have em0:jz (((a.R i).jj p).P p)=[] :=by
    rw[e2,kJ,af (by rw[l2];decide)];rfl
   have tk0:A3 (a.R i) p=[] :=by unfold A3;rw[kJ,af (by rw[l2];decide)]
   have oa:∀c' d',kf (a.op i ((a.R i).jj p)) c' d'=kf a c' d'/\(a.op i ((a.R i).jj p)).F c' d'=a.F c' d':=λc' d'=>by
    by_cases E:a.e c' d'=(i,p)
    {rw[IX,vZ,E,ai rfl,hLp,kJ];refine⟨by unfold kf;rw[E],?_⟩;split;{rw[em0,aB]};{rfl}};{exact(Q c' d').1 E}
   refine⟨X,⟨λc' U H=> ?_,λc' U H=> ?_⟩,λc' d' U V=>⟨λ_=>⟨by rw[(oa c' d').2];simp,λ_ _=>⟨rfl,rfl⟩⟩,λ_=>⟨[],.inl rfl,by rw[(oa c' d').2,tk0];simp,λ_ _=>⟨rfl,rfl⟩⟩⟩⟩;{exact(h.Qd (X':=X) (b:=a.op i ((a.R i).jj p)) u rfl U rfl (λ_ _=>rfl) (λd _=>(oa c' d).1) (λd _=>(oa c' d).2)).1 H};{exact(h.Qd (X':=X) (b:=a.op i ((a.R i).jj p)) u rfl U rfl (λ_ _=>rfl) (λd _=>(oa c' d).1) (λd _=>(oa c' d).2)).2 H}
  ·have pr:=h.uu hc hd hi;have Nq:t (a.e c 0)+t (a.e c 1)+1<=255:=by have:=ht (a.e c 0);have:=ht (a.e c 1);omega
   obtain⟨Z,q1,q2,q3⟩:=pr.tick (rY hB hc hd) Nq;have q1:=q1.more (xD (a.R i) p);obtain⟨f1,f2⟩:=(Q c d).2 he hc hd;rw[e2]at f2;have f2:(a.op i ((a.R i).jj p)).F c d=a.F c d++(jq (kf a c d)).2.flatMap oJ++A3 (a.R i) p:=by
    rw[f2,pV,aD];rfl
   rw[hLp,<-pV]at f1;have G7:a.e c (1-d)≠(i,p):=hu c (1-d) hc eB eB;obtain⟨k1,k2⟩:=(Q c (1-d)).1 G7;have amZ:qS t [(i,p)] (a.e c 0)+qS t [(i,p)] (a.e c 1)=t (a.e c 0)+t (a.e c 1)+1:=by
    have c1:([(i,p)] :List (Nat×Nat)).count (a.e c d)=1:=by rw[he];simp
    have c2:([(i,p)] :List (Nat×Nat)).count (a.e c (1-d))=0:=List.count_eq_zero.2 (by simp[G7]);have:d=0 \/d=1:=eB;unfold qS;rcases this with rfl|rfl
    {rw[c1,show([(i,p)] :List (Nat×Nat)).count (a.e c 1)=0 from c2];omega};{rw[c1,show([(i,p)] :List (Nat×Nat)).count (a.e c 0)=0 from c2];omega}
   refine⟨Gu X c d Z,⟨λc' U H=> ?_,λc' U H=> ?_⟩,λc' d' U V=>⟨λjx=> ?_,λE=> ?_⟩⟩;{by_cases hcc:c'=c;{subst hcc;show Pair _ _ (qS t [(i,p)] (a.e c' 0)+qS t [(i,p)] (a.e c' 1)) (gP (a.e c' 0)) (gP (a.e c' 1)) _ _ _ _;rw[amZ];refine MF (X:=λ_ d'=>Gu X c' d Z c' d') (g:=λd'=>gP (a.e c' d')) (L:=λd'=>kf (a.op i ((a.R i).jj p)) c' d') (F:=λd'=>(a.op i ((a.R i).jj p)).F c' d') hd ?_;show Pair (Gu X c' d Z c' d) (Gu X c' d Z c' (1-d)) _ _ _ _ _ _ _;rw[rZ,mR X Z eB,f1,f2,k1,k2];exact q1};{have J:∀d',d'<2->a.e c' d'≠(i,p):=λd' V=>hu c' d' U V λz=>hcc z.1;exact(h.Qd (X':=Gu X c d Z) (b:=a.op i ((a.R i).jj p)) u rfl U rfl (λd' _=>mR X Z λz=>hcc z.1) (λd' V=>((Q c' d').1 (J d' V)).1) (λd' V=>((Q c' d').1 (J d' V)).2)).1 H}}
   ·have hcc:c'≠c:=λz=>by subst z;have:a.jc c'=false:=H;rw[hi]at this;exact absurd this ik
    have J:∀d',d'<2->a.e c' d'≠(i,p):=λd' V=>hu c' d' U V λz=>hcc z.1;exact(h.Qd (X':=Gu X c d Z) (b:=a.op i ((a.R i).jj p)) u rfl U rfl (λd' _=>mR X Z λz=>hcc z.1) (λd' V=>((Q c' d').1 (J d' V)).1) (λd' V=>((Q c' d').1 (J d' V)).2)).2 H
   {have A:¬(c'=c/\d'=d):=λz=>jx (by rw[z.1,z.2];exact he);exact⟨by rw[((Q c' d').1 jx).2];simp,λ_ _=>by rw[mR X Z A];exact⟨rfl,rfl⟩⟩};{have A:=hB.ds _ _ _ _ U V hc hd (E.trans he.symm);obtain⟨z1,z2⟩:=A;subst z1 z2;exact⟨_,q3,by rw[f2,aD],λy hy=>by rw[rZ];exact IY q2 y hy⟩}
 ·have J:∀c d,c<a.nc->d<2->a.e c d≠(i,p):=λc d hc hd e=>hex ⟨c,d,hc,hd,e⟩;refine⟨X,⟨λc hc hi=> ?_,λc hc hi=> ?_⟩,λc d hc hd=>⟨λjx=>⟨by rw[((Q c d).1 jx).2];simp,λ_ _=>⟨rfl,rfl⟩⟩,λE=>absurd E (J c d hc hd)⟩⟩;{exact(h.Qd (X':=X) (b:=a.op i ((a.R i).jj p)) u rfl hc rfl (λ_ _=>rfl) (λd hd=>((Q c d).1 (J c d hc hd)).1) (λd hd=>((Q c d).1 (J c d hc hd)).2)).1 hi};{exact(h.Qd (X':=X) (b:=a.op i ((a.R i).jj p)) u rfl hc rfl (λ_ _=>rfl) (λd hd=>((Q c d).1 (J c d hc hd)).1) (λd hd=>((Q c d).1 (J c d hc hd)).2)).2 hi}
theorem vI(r:iW)(i:Nat) {c:UInt8} (s:List UInt8)(hc:c≠76)(p:Nat):((r.take i c s).P p).L=(r.P p).L:=by
 rw[l7,uX i s hc];split;{exact(kB _ _ _ _).2.1};{exact(OX r i c s p).1}
theorem ui(r:iW)(i:Nat)(s:List UInt8)(p:Nat):((r.take i 76 s).P p).L=((kg r i 76 s).P p).L/\((r.take i 76 s).P p).out=((kg r i 76 s).P p).out:=by
 rw[l7];split;{exact⟨(kB _ _ _ _).2.1,(kB _ _ _ _).1⟩};{unfold mO;rw[af eF,af eF,af eF,af eF];exact⟨rfl,rfl⟩}
theorem x6(h:FR r i x p l)(hx:rW x)(X Y:Int->Bool):(l=[] \/((r.P p).L.st=9/\∀y∈l,rW y))/\(∀y∈l,yn Y y+1<=yn X x)/\(sm (pq Y) l<=(if p=i then pq X x else 0)):=by
 have V:∀(c:UInt8) (s:List UInt8),c≠76->CS 1 (c::s)=ν:=λc s h=>x5 1 s h;cases h with
 |none h=>rw[h];exact⟨.inl rfl,λ_ h=>by simp at h,Nat.zero_le _⟩
 |link s h _ _ _=>exact absurd rfl (hx 76 s h)
 |heard s hs Q U _ _ _ _ h=>
  have d1:yn X x=2/\pq X x=2:=by rw[hs];unfold yn pq;rw[V 83 s eF];exact⟨rfl,rfl⟩
  have d2:∀u,yn Y (65::u)=1/\pq Y (65::u)=1:=λu=>by unfold yn pq;rw[V 65 u eF];exact⟨rfl,rfl⟩
  rw[h];refine⟨.inr ⟨by rw[Q];exact U,λy hy=>by rw[ar.1 hy];exact AL 65 _ eF⟩,λy hy=>by rw[ar.1 hy,(d2 _).1,d1.1];exact Nat.le_refl _,?_⟩;rw[ai Q,d1.2];show pq Y _+0<=2;rw[(d2 _).2];decide
 |J4 a b s hs U h1 _ h=>
  have d1:yn X x=b.toNat+1:=by rw[hs];unfold yn;rw[V 77 _ eF];rfl
  have d2:yn Y (77::a::kc ((b.toNat:Int)-1)::s)=b.toNat:=by
   unfold yn;rw[V 77 _ eF];show(kc ((b.toNat:Int)-1)).toNat+1=_;have:=nU ((b.toNat:Int)-1) eB (by have:=b.toNat_lt;omega);omega
  have J:pq Y (77::a::kc ((b.toNat:Int)-1)::s)=0:=by unfold pq;rw[V 77 _ eF];rfl
  rw[h];refine⟨.inr ⟨U,λy hy=>by rw[ar.1 hy];exact AL 77 _ eF⟩,λy hy=>by rw[ar.1 hy,d2,d1];exact Nat.le_refl _,?_⟩;show pq Y _+0<=_;rw[J];exact Nat.zero_le _
def wc(X:Marks)(a:AN)(c:Nat):Nat:=sm (pq (X c 0)) (a.F c 0)+sm (pq (X c 1)) (a.F c 1)
theorem tM {α:Type} {f g:α->Nat} {l:List α} (h:∀x∈l,f x=g x):sm f l=sm g l:=by
 refine Nat.le_antisymm (vS λx hx=>Nat.le_of_eq (h x hx)) (vS λx hx=>Nat.le_of_eq (h x hx).symm)
theorem MG.w {X Y:Marks} (h:MG X Y a b c d l em):sm (pq (Y c d)) (b.F c d)=sm (pq (X c d)) l+sm (pq (Y c d)) em:=by
 rw[h.f,qz,tM λy hy=>(h.o y hy).2]
theorem aag {X:Marks} (h:rK X t a)(hc:c<a.nc)(hd:d<2)(hF:a.F c d=x::l):rK X t (a.lR c d l):=by
 refine⟨λc' U hi=> ?_,λc' U hi d' E=> ?_⟩
 ·have p:=h.up c' U hi;have hs:∀d',((a.lR c d l).F c' d').Sublist (a.F c' d'):=λd'=>by
   rw[tK];split;{rename_i e;rw[e.1,e.2,hF];exact bR _ _};{exact List.Sublist.refl _}
  exact p.sub (hs 0) (hs 1)
 ·obtain⟨Q,J,H,V⟩:=h.dn c' U hi d' E;refine⟨Q,J,H,?_⟩;rw[tK,af];{exact V};{rintro⟨rfl,rfl⟩;rw[hF]at V;exact absurd V ik}
theorem Qy {P:Prop} [Decidable P] (hd:d<2) {s e f:Nat->Nat} (J:∀d',d'<2->e d'<=if P/\d'=1-d then k else 0)(hs:∀d',d'<2->s d'+(if P/\d'=d then k else 0)<=f d'):s 0+e 0+(s 1+e 1)<=f 0+f 1:=by
 have V:=J 0 eF;have U:=J 1 eF;have b0:=hs 0 eF;have b1:=hs 1 eF;have H:d=0 \/d=1:=eB;by_cases Q:P;{rcases H with rfl|rfl<;>simp[Q]at V U b0 b1<;>omega};{simp[Q]at V U b0 b1;omega}
structure aeC(X Y:Marks)(a b:AN)(c d:Nat)(x:lD)(l:List lD):Prop where
 fl:∀c' d',c'<a.nc->d'<2->∃em,MG X Y a b c' d' (if c'=c/\d'=d then l else a.F c' d') em/\(∀y∈em,yn (Y c' d') y+1<=yn (X c d) x)
 w:∀c',c'<a.nc->wc Y b c'<=wc X a c'
theorem rK.pop {X:Marks} {t:Nat×Nat->Nat} {a:AN} (hB:uh a)(hN:Norm a)(h:rK X t a)(ht:∀x,t x<=127) {c d:Nat} {x:lD} {l:List lD} (hc:c<a.nc)(hd:d<2)(hF:a.F c d=x::l):∃Y,rK Y t (a.pop c d x l)/\aeC X Y a (a.pop c d x l) c d x l:=by
 have hi:=h.zw hc hd (x:=x) (by rw[hF];simp);have pr:=(h.uu hc hd hi).symm;have TU:=aag h hc hd hF;obtain⟨r,hr⟩:=fq (a.R (a.e c (1-d)).1);obtain⟨i,A⟩:=fq ((a.e c (1-d)).1);obtain⟨p,oQ⟩:=fq ((a.e c (1-d)).2);have TP:a.e c (1-d)=(i,p):=aU A oQ;have Q:a.pop c d x l=(a.lR c d l).op i (jY r p x):=by unfold AN.pop;rw[hr,A,oQ]
 have GJ:a.R i=r:=by rw[<-A];exact hr
 have Yn:Kw r:=by rw[<-GJ];exact hN.emp i
 obtain⟨hsy,_⟩:=qM Yn p x;have pV:kf a c (1-d)=(r.P p).L:=by unfold kf;rw[TP,GJ]
 have hif:∀c' d',(a.lR c d l).F c' d'=if c'=c/\d'=d then l else a.F c' d':=λ_ _=>rfl
 by_cases hx:rW x
 ·
  have hL:∀q,((jY r p x).P q).L=(r.P q).L:=λq=>by
   cases x with
   |nil=>rfl
   |cons k s=>exact vI r p s (hx k s rfl) q
  have hq:=λq=>x6 (hsy q) hx (X c d) (λ_=>false);have hl:=TU.quiet i (jY r p x) (λq=>by rw[hL];show(r.P q).L=((a.R i).P q).L;rw[GJ]) λq=>by
   rcases(hq q).1 with g|⟨g1,g2⟩
   {exact .inl g};{exact .inr ⟨by rw[hL];exact g1,g2⟩}
  have xM:∀c' d',c'<a.nc->d'<2->MG X X a (a.pop c d x l) c' d' (if c'=c/\d'=d then l else a.F c' d') (if(a.e c' d').1=i then jz ((jY r p x).P (a.e c' d').2)else []):=λc' d' V U=>by
   refine⟨?_,λ_ _=>⟨rfl,rfl⟩⟩;rw[Q,vZ,zq,DT,hif];by_cases e:(a.e c' d').1=i;{rw[ai ⟨⟨V,U⟩,e⟩,ai e]};{rw[af (λz=>e z.2),af e,aB]}
  refine⟨X,by rw[Q];exact hl,λc' d' V U=>⟨_,xM c' d' V U,λy hy=> ?_⟩,λc' V=> ?_⟩;{split at hy;{exact(x6 (hsy (a.e c' d').2) hx (X c d) (X c' d')).2.1 y hy};{simp at hy}}
  ·have w0:=(xM c' 0 V eF).w;have w1:=(xM c' 1 V eF).w;have hE:∀d',d'<2->sm (pq (X c' d')) (if(a.e c' d').1=i then jz ((jY r p x).P (a.e c' d').2)else [])<=if c'=c/\d'=1-d then pq (X c d) x else 0:=λd' U=>by
    by_cases e:(a.e c' d').1=i;{rw[ai e];have:=(x6 (hsy (a.e c' d').2) hx (X c d) (X c' d')).2.2;by_cases e2:(a.e c' d').2=p;{rw[ai e2]at this;have:=hB.ds c' d' c (1-d) V U hc eB (by rw[TP];exact aU e e2);rw[ai this];assumption};{rw[af e2]at this;omega}};{rw[af e];exact Nat.zero_le _}
   have hI:∀d',d'<2->sm (pq (X c' d')) (if c'=c/\d'=d then l else a.F c' d')+(if c'=c/\d'=d then pq (X c d) x else 0)<=sm (pq (X c' d')) (a.F c' d'):=λd' U=>by
    by_cases e:c'=c/\d'=d;{rw[ai e,ai e,e.1,e.2,hF];show _<=pq (X c d) x+sm (pq (X c d)) l;omega};{rw[af e,af e];exact Nat.le_refl _}
   unfold wc;rw[w0,w1];exact Qy hd (s:=λd'=>sm (pq (X c' d')) (if c'=c/\d'=d then l else a.F c' d')) (f:=λd'=>sm (pq (X c' d')) (a.F c' d')) hE hI
 ·
  have Xj:(∃id,0<=id/\id<=255/\x=mY (gP (a.e c d)) id) \/(∃id,0<=id/\id<=255/\x=oC (gP (a.e c (1-d))) id):=by
   rcases pr.g x (by rw[hF];simp)with g|g|g
   {exact absurd g hx};{exact .inl g};{exact .inr g}
  have gd:=rY hB hc hd;have J:=rY hB hc (show 1-d<2 by omega);obtain⟨q,s,Ue,vf,hPL⟩:∃(q:kZ) (s:List UInt8),x=76::s/\jk s=(q.1,q.2.1,q.2.2,0)/\∃Z,aad (X c (1-d)) Z (X c d) (t (a.e c 0)+t (a.e c 1)) (gP (a.e c (1-d))) (gP (a.e c d)) (jW (kf a c (1-d)) q).1 (kf a c d) (a.F c (1-d)) l ((jW (kf a c (1-d)) q).2.1.flatMap oJ) x:=by
   rw[hF]at pr;rcases Xj with⟨id,i1,i2,pS⟩|⟨id,i1,i2,pS⟩
   {rw[pS]at pr;obtain⟨Z,hZ⟩:=pr.req J gd (abP hB hc hd eB eB) (by have:=ht (a.e c 0);have:=ht (a.e c 1);omega) ⟨i1,i2⟩;exact⟨(1,id,oz (gP (a.e c d))),_,pS,AG (.inl rfl) ⟨i1,i2⟩ gd,Z,by rw[pS];exact hZ⟩};{rw[pS]at pr;have hZ:=pr.ack J ⟨i1,i2⟩;exact⟨(2,id,oz (gP (a.e c (1-d)))),_,pS,AG (.inr rfl) ⟨i1,i2⟩ J,X c (1-d),by rw[pS];exact hZ⟩}
  obtain⟨Z,pp⟩:=hPL;obtain⟨k1,_,k3,_⟩:=AA Yn p 76 s;rw[vf]at k1 k3;have pK:=xC (a:=a.lR c d l) i p (jY r p x) λu hu=>by
   rw[Ue];show((r.take p 76 s).P u).L=((a.R i).P u).L/\jz ((r.take p 76 s).P u)=[]
   rw[(ui r p s u).1,nX (ui r p s u).2,k1,af (λz=>hu z.1),(k3 u).2.2,af (λz=>hu z.1),GJ];exact⟨rfl,rfl⟩
  have H:((jY r p x).P p).L=(jW (kf a c (1-d)) q).1/\jz ((jY r p x).P p)=(jW (kf a c (1-d)) q).2.1.flatMap oJ:=by
   rw[Ue,pV];show((r.take p 76 s).P p).L=_/\jz ((r.take p 76 s).P p)=_;rw[(ui r p s p).1,nX (ui r p s p).2,k1,ai ⟨rfl,rfl,rfl⟩,(k3 p).2.2,ai ⟨rfl,rfl,rfl⟩];exact⟨rfl,rfl⟩
  obtain⟨em,am0⟩:=fq ((jW (kf a c (1-d)) q).2.1.flatMap oJ);obtain⟨L',hL'⟩:∃L',(jW (kf a c (1-d)) q).1=L':=⟨_,rfl⟩
  rw[am0,hL']at pp H;have hu:∀c' d',c'<a.nc->d'<2->¬(c'=c/\d'=1-d)->a.e c' d'≠(i,p):=λc' d' V U jx e=>jx (hB.ds _ _ _ _ V U hc eB (e.trans TP.symm));have hb:∀c' d',c'<a.nc->d'<2->¬(c'=c/\d'=1-d)->kf (a.pop c d x l) c' d'=kf a c' d'/\(a.pop c d x l).F c' d'=if c'=c/\d'=d then l else a.F c' d':=λc' d' V U jx=>by
   rw[Q];exact(pK c' d').1 (hu c' d' V U jx)
  have kO:kf (a.pop c d x l) c (1-d)=L'/\(a.pop c d x l).F c (1-d)=a.F c (1-d)++em:=by
   rw[Q];obtain⟨z1,z2⟩:=(pK c (1-d)).2 TP hc (by show 1-d<2;omega);rw[z1,z2,H.1,H.2,hif,af eB];exact⟨rfl,rfl⟩
  have Yh:=hb c d hc hd eB;rw[ai ⟨rfl,rfl⟩]at Yh;have uG:(a.pop c d x l).nc=a.nc:=by rw[Q];rfl
  have E:(a.pop c d x l).e=a.e:=by rw[Q];rfl
  have ld:(a.pop c d x l).jc=a.jc:=by rw[Q];rfl
  have xM:∀c' d',c'<a.nc->d'<2->MG X (Gu X c (1-d) Z) a (a.pop c d x l) c' d' (if c'=c/\d'=d then l else a.F c' d') (if c'=c/\d'=1-d then em else []):=λc' d' V U=>by
   by_cases e:c'=c/\d'=1-d;{rw[ai e,af eB];obtain⟨e1,e2⟩:=e;subst e1 e2;exact⟨kO.2,λy hy=>by rw[rZ];exact IY pp.old y hy⟩};{rw[af e];exact⟨by rw[(hb c' d' V U e).2,aB],λy hy=>by rw[mR X Z e];exact⟨rfl,rfl⟩⟩}
  refine⟨Gu X c (1-d) Z,⟨λc' V ll=> ?_,λc' V ll=> ?_⟩,λc' d' V U=>⟨_,xM c' d' V U,λy hy=> ?_⟩,λc' V=> ?_⟩;{rw[uG]at V;by_cases hcc:c'=c;{subst hcc;rw[E];refine MF (X:=λ_ d'=>Gu X c' (1-d) Z c' d') (g:=λd'=>gP (a.e c' d')) (L:=λd'=>kf (a.pop c' d x l) c' d') (F:=λd'=>(a.pop c' d x l).F c' d') (d:=1-d) eB ?_;show Pair (Gu X c' (1-d) Z c' (1-d)) (Gu X c' (1-d) Z c' (1-(1-d))) _ _ _ _ _ _ _;rw[show 1-(1-d)=d by omega,rZ,mR X Z eB,kO.1,kO.2,Yh.1,Yh.2];exact pp.p};{rw[ld]at ll;have lL:∀d',¬(c'=c/\d'=1-d):=λ_ z=>hcc z.1;refine(h.Qd (X':=Gu X c (1-d) Z) (b:=a.pop c d x l) (u:=t) (λ_=>Nat.le_refl _) E V (by rw[ld]) (λd' _=>mR X Z (lL d')) (λd' U=>(hb c' d' V U (lL d')).1) (λd' U=> ?_)).1 (by rw[ld];exact ll);rw[(hb c' d' V U (lL d')).2,af (λz=>hcc z.1)]}}
  ·rw[uG]at V;have hcc:c'≠c:=λz=>by subst z;rw[ld,hi]at ll;exact absurd ll ik
   have lL:∀d',¬(c'=c/\d'=1-d):=λ_ z=>hcc z.1;refine(h.Qd (X':=Gu X c (1-d) Z) (b:=a.pop c d x l) (u:=t) (λ_=>Nat.le_refl _) E V (by rw[ld]) (λd' _=>mR X Z (lL d')) (λd' U=>(hb c' d' V U (lL d')).1) (λd' U=> ?_)).2 ll;rw[(hb c' d' V U (lL d')).2,af (λz=>hcc z.1)]
  ·split at hy
   ·rename_i e
    rw[e.1,e.2,rZ];exact pp.dp y hy
   ·simp at hy
  ·have w0:=(xM c' 0 V eF).w;have w1:=(xM c' 1 V eF).w;have ar1:=pp.wg;unfold wc;rw[w0,w1];refine Qy (P:=c'=c) (k:=pq (X c d) x) hd (s:=λd'=>sm (pq (X c' d')) (if c'=c/\d'=d then l else a.F c' d')) (e:=λd'=>sm (pq (Gu X c (1-d) Z c' d')) (if c'=c/\d'=1-d then em else [])) (f:=λd'=>sm (pq (X c' d')) (a.F c' d')) (λd' _=> ?_) λd' _=> ?_;{by_cases e:c'=c/\d'=1-d;{simp only[if_pos e];rw[e.1,e.2,rZ];omega};{simp only[if_neg e];exact Nat.le_refl _}};{by_cases e:c'=c/\d'=d;{simp only[if_pos e];rw[e.1,e.2,hF];show _<=pq (X c d) x+sm (pq (X c d)) l;omega};{simp only[if_neg e];exact Nat.le_refl _}}
theorem xE(hB:uh a)(hN:Norm a)(hc:c<a.nc)(hd:d<2)(up:Bool)(h:(lr (kf a c d) (if up=true then 0 else 1)).2.2=0):∀c' d',c'<a.nc->d'<2->(¬(c'=c/\d'=d)->kf (a.nW c d up) c' d'=kf a c' d'/\(a.nW c d up).F c' d'=a.F c' d')/\(c'=c/\d'=d->kf (a.nW c d up) c' d'=(lr (kf a c d) (if up=true then 0 else 1)).1/\(a.nW c d up).F c' d'=a.F c d++(lr (kf a c d) (if up=true then 0 else 1)).2.1.flatMap oJ):=λc' d' Q J=>by
 obtain⟨E,A,u⟩:=J5 (hN.emp (a.e c d).1) (a.e c d).2 up h;have V:∀q,(((a.R (a.e c d).1).iZ (a.e c d).2 up).1.P q).L=if q=(a.e c d).2 then(lr (kf a c d) (if up=true then 0 else 1)).1 else((a.R (a.e c d).1).P q).L:=λq=>by
  rw[u,(kB _ _ _ _).2.1,k9];split;{rw[FC];rfl};{rfl}
 have H:=xC (a:=a) (a.e c d).1 (a.e c d).2 _ (λq U=>⟨by rw[V,af U],E q U⟩) c' d';refine⟨λjx=>H.1 λe=>jx (hB.ds _ _ _ _ Q J hc hd e),λhe=> ?_⟩;obtain⟨z1,z2⟩:=he;subst z1 z2;have:=H.2 rfl Q J;rw[V,ai rfl,A]at this;exact this
theorem F9(hB:uh a)(hN:Norm a)(hc:c<a.nc)(up:Bool)(h:∀d,d<2->(lr (kf a c d) (if up=true then 0 else 1)).2.2=0):(∀c' d',c'<a.nc->d'<2->c'≠c->kf (a.iZ c up) c' d'=kf a c' d'/\(a.iZ c up).F c' d'=a.F c' d')/\∀d,d<2->kf (a.iZ c up) c d=(lr (kf a c d) (if up=true then 0 else 1)).1/\(a.iZ c up).F c d=(lr (kf a c d) (if up=true then 0 else 1)).2.1.flatMap oJ:=by
 obtain⟨b,hb⟩:=fq ((({a with jc:=j6 a.jc c up}:AN).lR c 0 []).lR c 1 []);have u:uh b:=hB.same (by rw[<-hb];rfl) (by rw[<-hb];rfl) (by rw[<-hb];rfl);have M8:Norm b:=by rw[<-hb];exact hN
 have Q:c<b.nc:=by rw[<-hb];exact hc
 have J:∀c' d',kf b c' d'=kf a c' d':=λc' d'=>by rw[<-hb];rfl
 have V:∀c' d',b.F c' d'=if c'=c/\d'=1 then []else if c'=c/\d'=0 then []else a.F c' d':=λc' d'=>by rw[<-hb];rfl
 have hp:a.iZ c up=(b.nW c 0 up).nW c 1 up:=by unfold AN.iZ;rw[hb]
 have f0:=xE u M8 Q (by decide:0<2) up (by rw[J];exact h 0 eF);have su:uh (b.nW c 0 up):=u.same rfl rfl rfl;have U:=(f0 c 1 Q eF).1 eB;have f1:=xE (a:=b.nW c 0 up) su (rI M8 _ _) Q (by decide:1<2) up (by rw[U.1,J];exact h 1 eF);have H:b.nc=a.nc:=by rw[<-hb];rfl
 rw[hp];refine⟨λc' d' j9 kF E=> ?_,λd hd=> ?_⟩;{have g0:=(f0 c' d' (by rw[H];exact j9) kF).1 (λz=>E z.1);have g1:=(f1 c' d' (by show c'<b.nc;rw[H];exact j9) kF).1 (λz=>E z.1);rw[g1.1,g1.2,g0.1,g0.2,J,V,af (λz=>E z.1),af (λz=>E z.1)];exact⟨rfl,rfl⟩}
 ·have:d=0 \/d=1:=eB;rcases this with rfl|rfl
  ·have g1:=(f1 c 0 Q eF).1 eB;have g0:=(f0 c 0 Q eF).2 ⟨rfl,rfl⟩;have A:b.F c 0=[] :=by rw[V];simp
   rw[g1.1,g1.2,g0.1,g0.2,J,A];exact⟨rfl,rfl⟩
  ·have g1:=(f1 c 1 Q eF).2 ⟨rfl,rfl⟩;have A:b.F c 1=[] :=by rw[V];simp
   rw[g1.1,g1.2,U.1,U.2,J,A];exact⟨rfl,rfl⟩
theorem uY(a:AN)(c:Nat)(up:Bool)(c':Nat):(a.iZ c up).jc c'=if c'=c then up else a.jc c':=rfl
theorem rK.iZ {X:Marks} {t:Nat×Nat->Nat} {a:AN} (Q:uh a)(hN:Norm a)(h:rK X t a)(u:∀x,t x<=126) {c:Nat} (hc:c<a.nc)(hi:a.jc c=false):rK (Gu (Gu X c 0 λ_=>false) c 1 λ_=>false) (qS t [a.e c 0,a.e c 1]) (a.iZ c true):=by
 have V:=h.dn c hc hi;have hu:=λd hd=>abM (rY Q hc hd) (V d hd).1 (V d hd).2.1;obtain⟨f1,f2⟩:=F9 Q hN hc true λd hd=>(EA (V d hd).2.1).1;have E:∀x,t x<=qS t [a.e c 0,a.e c 1] x:=λx=>Nat.le_add_right _ _;have jx:a.e c 0≠a.e c 1:=λe=>by have:=(Q.ds _ _ _ _ hc eF hc eF e).2;omega
 refine⟨λc' U J=> ?_,λc' U J=> ?_⟩
 ·by_cases e:c'=c
  ·subst e;have A:∀d,d<2->Gu (Gu X c' 0 λ_=>false) c' 1 (λ_=>false) c' d=λ_=>false:=λd hd=>by
    have:d=0 \/d=1:=eB;rcases this with rfl|rfl
    {rw[mR _ _ eB,rZ]};{rw[rZ]}
   have hF:∀d,d<2->(a.iZ c' true).F c' d=[mY (gP (a.e c' d)) (kf (a.iZ c' true) c' d).ow] /\LI (gP (a.e c' d)) (kf (a.iZ c' true) c' d)/\(kf (a.iZ c' true) c' d).st=6/\(kf (a.iZ c' true) c' d).ow=(kf a c' d).ow+1:=λd hd=>by
    obtain⟨u1,u2,u3,u4,u5⟩:=hu d hd;obtain⟨g1,g2⟩:=f2 d hd;have hw:=(V d hd).2.2.1;have ho:=(V d hd).1.k.o1;have hb:(kf a c' d).ow+1<=255:=by have:=u (a.e c' 0);have:=u (a.e c' 1);omega
    have em:((kf a c' d).ow+1) %256=(kf a c' d).ow+1:=eB;rw[em]at u2 u3;rw[g1,g2];simp only[if_true];refine⟨?_,u1,u4,u3⟩;rw[u2,u3];show oJ _++ [] =_;rw[F8 (.inl rfl) ⟨eB,hb⟩ (rY Q hc hd)];rfl
   obtain⟨a1,a2,a3,a4⟩:=hF 0 eF;obtain⟨b1,b2,b3,b4⟩:=hF 1 eF;show Pair _ _ (qS t [a.e c' 0,a.e c' 1] (a.e c' 0)+qS t [a.e c' 0,a.e c' 1] (a.e c' 1)) (gP (a.e c' 0)) (gP (a.e c' 1)) _ _ _ _;rw[A 0 eF,A 1 eF,a1,b1];have c0:qS t [a.e c' 0,a.e c' 1] (a.e c' 0)=t (a.e c' 0)+1:=by unfold qS;simp[Ne.symm jx]
   have c1:qS t [a.e c' 0,a.e c' 1] (a.e c' 1)=t (a.e c' 1)+1:=by unfold qS;simp[jx]
   have w0:=(V 0 eF).2.2.1;have w1:=(V 1 eF).2.2.1;refine Pair.new (rY Q hc eF) (rY Q hc eF) a2 b2 a3 b3 ?_ ?_;{rw[a4,c0,c1];omega};{rw[b4,c0,c1];omega}
  ·have H:(a.iZ c true).jc c'=a.jc c':=by rw[uY,af e]
   exact(h.Qd (b:=a.iZ c true) E rfl U H (λd _=>by rw[mR _ _ (λz=>e z.1),mR _ _ (λz=>e z.1)]) (λd hd=>(f1 c' d U hd e).1) (λd hd=>(f1 c' d U hd e).2)).1 J
 ·have e:c'≠c:=λz=>by rw[uY,ai z]at J;exact absurd J ik
  have H:(a.iZ c true).jc c'=a.jc c':=by rw[uY,af e]
  exact(h.Qd (X':=Gu (Gu X c 0 λ_=>false) c 1 λ_=>false) (b:=a.iZ c true) E rfl U H (λd _=>by rw[mR _ _ (λz=>e z.1),mR _ _ (λz=>e z.1)]) (λd hd=>(f1 c' d U hd e).1) (λd hd=>(f1 c' d U hd e).2)).2 J
theorem rK.draw {X:Marks} (A:uh a)(hN:Norm a)(h:rK X t a)(hc:c<a.nc)(hi:a.jc c=true):rK X t (a.iZ c false):=by
 have H:∀d,d<2->uU (kf a c d).st=true:=λd hd=>by
  have p:=h.uu hc hd hi;have:=p.lu;have:=p.l.st;unfold uU;simp only[Bool.or_eq_true,beq_iff_eq,Bool.and_eq_true,decide_eq_true_eq];omega
 obtain⟨f1,f2⟩:=F9 A hN hc false λd hd=>(ug (H d hd)).1;refine⟨λc' V U=> ?_,λc' V U=> ?_⟩
 ·have e:c'≠c:=λz=>by rw[uY,ai z]at U;exact absurd U ik
  have Q:(a.iZ c false).jc c'=a.jc c':=by rw[uY,af e]
  exact(h.Qd (X':=X) (b:=a.iZ c false) (u:=t) (λ_=>Nat.le_refl _) rfl V Q (λd _=>rfl) (λd hd=>(f1 c' d V hd e).1) (λd hd=>(f1 c' d V hd e).2)).1 U
 ·by_cases e:c'=c
  ·subst e;intro d hd;have p:=h.uu hc hd hi;obtain⟨d1,d2,E⟩:=Z7 p.l p.lu;obtain⟨g1,J⟩:=f2 d hd;simp only[Bool.false_eq_true,if_false]at g1 J;rw[g1,J,Mw (H d hd),E];refine⟨d1,d2,?_,rfl⟩;have:=p.d.Kd;show _<=((t (a.e c' 0)+t (a.e c' 1):Nat):Int)
   omega
  ·have Q:(a.iZ c false).jc c'=a.jc c':=by rw[uY,af e]
   exact(h.Qd (X':=X) (b:=a.iZ c false) (u:=t) (λ_=>Nat.le_refl _) rfl V Q (λd _=>rfl) (λd hd=>(f1 c' d V hd e).1) (λd hd=>(f1 c' d V hd e).2)).2 U
theorem MH(hi:i<6)(hp:p<3)(m:Nat->Int):LI (gP (i,p)) (Ie ((i:Int)+1) m p).L/\(Ie ((i:Int)+1) m p).L.st=1/\(Ie ((i:Int)+1) m p).L.ow=0:=by
 have e:gP (i,p)=8*((i:Int)+1)+(p:Int)+1:=rfl;have hb:0<=gP (i,p)/\gP (i,p)<=255:=by rw[e];omega
 refine⟨⟨rfl,rfl,rfl,rfl,λh=>absurd h (by show¬(6:Int)<=1;decide),.inl rfl,⟨by show yg 1 0 0=true;decide,by show(0:Int)<=0;decide,by show(0:Int)<=255;decide,hb.1,hb.2,hb.1,hb.2⟩⟩,rfl,rfl⟩
theorem rK.lost {X:Marks} (h:rK X t a)(hl:xx a b):rK X t b:=by
 have hs:∀c d,(b.F c d).Sublist (a.F c d):=λc d=>by
  obtain⟨m,hm⟩:=hl.2 c d;rw[hm];exact iJ _ _
 have U:b.nc=a.nc:=by rw[hl.1]
 have Q:b.jc=a.jc:=by rw[hl.1]
 have J:b.e=a.e:=by rw[hl.1]
 have V:∀c d,kf b c d=kf a c d:=λc d=>by rw[hl.1];rfl
 refine⟨λc hc hi=> ?_,λc hc hi d hd=> ?_⟩;{rw[J,V,V];exact(h.up c (by rw[<-U];exact hc) (by rw[<-Q];exact hi)).sub (hs c 0) (hs c 1)};{obtain⟨H,E,A,u⟩:=h.dn c (by rw[<-U];exact hc) (by rw[<-Q];exact hi) d hd;rw[J,V];refine⟨H,E,A,?_⟩;have:=hs c d;rw[u]at this;exact iF.1 this}
theorem rK.send {X:Marks} {t:Nat×Nat->Nat} {a:AN} (Q:Norm a)(h:rK X t a)(i:Nat)(m:zD):rK X t (a.op i ((a.R i).send m)):=by
 obtain⟨_,_,_,_,V⟩:=nJ (a.R i) m;obtain⟨j,g1,U⟩:=DX (Q.emp i) m;refine h.quiet i _ (λp=>(V p).2.2) λp=> ?_;by_cases e:p=j
 ·subst e;rcases U with g|⟨g,f⟩
  {exact .inl g};{exact .inr ⟨by rw[(V p).2.2];exact g.1,λy hy=>by rw[f]at hy;rw[ar.1 hy];exact AL 77 _ eF⟩}
 ·exact .inl (g1 p e)
theorem rK.anew {X:Marks} (u:uh a)(h:rK X t a)(i m:Nat)(hd:∀c d,c<a.nc->d<2->(a.e c d).1=i->a.jc c=false/\a.F c 0=[] /\a.F c 1=[]):rK X t {a with R:=j6 a.R i (jZ ((i:Int)+1) 3 (a.ms i)),ib:=j6 a.ib i ((a.ib i).take m)}:=by
 obtain⟨b,hb⟩:=fq (({a with R:=j6 a.R i (jZ ((i:Int)+1) 3 (a.ms i)),ib:=j6 a.ib i ((a.ib i).take m)}:AN));have U:∀c d,(a.e c d).1≠i->kf b c d=kf a c d:=λc d e=>by
  rw[<-hb];show((j6 a.R i _ (a.e c d).1).P _).L=_;rw[iI _ _ e];rfl
 rw[hb];have J:b.nc=a.nc:=by rw[<-hb]
 have H:b.jc=a.jc:=by rw[<-hb]
 have E:b.e=a.e:=by rw[<-hb]
 have A:b.F=a.F:=by rw[<-hb]
 refine⟨λc hc hi=> ?_,λc hc hi d V=> ?_⟩
 ·rw[J]at hc;rw[H]at hi;have lL:∀d,d<2->(a.e c d).1≠i:=λd V e=>by rw[(hd c d hc V e).1]at hi;exact absurd hi ik
  rw[E,A,U c 0 (lL 0 eF),U c 1 (lL 1 eF)];exact h.up c hc hi
 ·rw[J]at hc;rw[H]at hi;obtain⟨a1,a2,a3,Q⟩:=h.dn c hc hi d V;rw[E,A];by_cases e:(a.e c d).1=i
  ·have hp:=u.en c d hc V;have hl:kf b c d=(Ie ((i:Int)+1) (a.ms i) (a.e c d).2).L:=by
    rw[<-hb];show((j6 a.R i _ (a.e c d).1).P _).L=_;rw[e,iQ];rfl
   obtain⟨z1,z2,z3⟩:=MH (i:=i) (p:=(a.e c d).2) (by have:=u.n6;omega) hp.2 (a.ms i);rw[hl];have he:a.e c d=(i,(a.e c d).2):=aU e rfl;rw[he];exact⟨z1,z2,by rw[z3];omega,Q⟩
  ·rw[U c d e];exact⟨a1,a2,a3,Q⟩
theorem pO(t:Nat×Nat->Nat):qS t [] =t:=by funext x;simp[qS]
theorem CU(t:Nat×Nat->Nat)(T U:List (Nat×Nat)):qS t (T++U)=qS (qS t T) U:=by
 funext x;unfold qS;rw[iK];omega
theorem ni.links(s:ni a T S b)(V:uh a)(U:Norm a) {X:Marks} (h:rK X t a)(J:∀x,t x<=126):∃Y,rK Y (qS t T) b:=by
 cases s with
 |lost hl=>exact⟨X,by rw[pO];exact h.lost hl⟩
 |tick i p _ _=>obtain⟨Y,Q,_⟩:=h.tick V U (i:=i) (p:=p) J;exact⟨Y,Q⟩
 |pop c d x l hc hd hF=>obtain⟨Y,Q,_⟩:=h.pop V U (λx=>by have:=J x;omega) hc hd hF;exact⟨Y,by rw[pO];exact Q⟩
 |send i m tx _ _ _ _=>exact⟨X,by rw[pO];exact h.send U i _⟩
 |iZ c hc hi _ _=>exact⟨_,h.iZ V U J hc hi⟩
 |draw c hc hi=>exact⟨X,by rw[pO];exact h.draw V U hc hi⟩
 |anew i m hi hd=>exact⟨X,by rw[pO];exact h.anew V i m hd⟩
theorem rK.mono {X:Marks} {t u:Nat×Nat->Nat} {a:AN} (h:rK X t a)(V:∀x,t x<=u x):rK X u a:=
 ⟨λc hc hi=>(h.up c hc hi).mono (by have:=V (a.e c 0);have:=V (a.e c 1);omega),λc hc hi d hd=>by
  obtain⟨U,Q,a3,J⟩:=h.dn c hc hi d hd;exact⟨U,Q,by have:=V (a.e c 0);have:=V (a.e c 1);omega,J⟩⟩
theorem nY(h:T.Nodup)(k:Nat)(x:Nat×Nat):qS (λ_=>k) T x<=k+1:=by
 have:=iL.1 h x;show k+T.count x<=k+1;omega
def yE(K:Int->Option PS)(y seq:Int)(es:List jQ):Prop:=∃q,K y=μ q/\0<=mC q.1 q.2 seq es
theorem oA(s:Int)(e:List jQ):mC s e s e=0:=Ba.2 ⟨rfl,rfl⟩
theorem uZ {y:Int} (h:K y=μ q):yE K y q.1 q.2:=⟨q,h,by rw[oA];exact Int.le_refl _⟩
def pP(K K':Int->Option PS):Prop:=∀y q,K y=μ q->yE K' y q.1 q.2
theorem pP.refl(K:Int->Option PS):pP K K:=λ_ _ h=>uZ h
theorem yE.mono {K':Int->Option PS} (h:pP K K') {y:Int} (g:yE K y seq es):yE K' y seq es:=by
 obtain⟨q,V,U⟩:=g;obtain⟨u,Q,J⟩:=h y q V;exact⟨u,Q,(yP J U).1⟩
theorem yE.trans {y s1 s2:Int} {e1 e2:List jQ} (g:yE K y s1 e1)(h:0<=mC s1 e1 s2 e2):yE K y s2 e2:=by
 obtain⟨q,V,U⟩:=g;exact⟨q,V,(yP U h).1⟩
theorem pP.trans {L M:Int->Option PS} (h:pP K L)(g:pP L M):pP K M:=λy q V=>(h y q V).mono g
def aia(x:Option lD)(y:Int)(q:PS):Prop:=∃s,(x=μ (83::s) \/x=μ (65::s))/\(iB s).2.2.2=0/\(iB s).1=y/\0<=mC (iB s).2.1 (iB s).2.2.1 q.1 q.2
def Hi(x:Option lD)(w:Int):Prop:=∃s,x=μ (72::s)/\(kT s).2.2=0/\(kT s).1=w
structure wh(r r':iW)(p:Nat)(x:Option lD):Prop where
 k:pP r.K r'.K
 o:∀j,(r'.P j).pe.both=true->∀y q,r'.K y=μ q->r'.O j y=ν->((r.P j).pe.both=true/\r.K y=μ q/\r.O j y=ν) \/(j=p/\aia x y q)
 w:∀j,(r'.P j).pe.who≠0->(r'.P j).pe.who=(r.P j).pe.who \/(j=p/\Hi x (r'.P j).pe.who)
theorem wh.refl(r:iW)(p:Nat)(x:Option lD):wh r r p x:=⟨pP.refl _,λ_ h _ _ V U=>.inl ⟨h,V,U⟩,λ_ _=>.inl rfl⟩
theorem wh.alike {s:iW} (p:Nat)(x:Option lD)(V:s.K=r.K)(H:s.O=r.O)(U:∀j,(s.P j).pe=(r.P j).pe):wh r s p x:=
 ⟨by rw[V];exact pP.refl _,λj h y q Q J=>.inl ⟨by rw[<-U];exact h,by rw[<-V];exact Q,by rw[<-H];exact J⟩,λj _=>.inl (by rw[U])⟩
theorem wh.trans {a b c:iW} {p:Nat} {x:Option lD} (h:wh a b p x)(g:wh b c p x):wh a c p x:=by
 refine⟨h.k.trans g.k,λj hb y q U Q=> ?_,λj V=> ?_⟩
 ·rcases g.o j hb y q U Q with⟨J,H,E⟩|z
  {exact h.o j J y q H E};{exact .inr z}
 ·rcases g.w j V with z|z
  ·rcases h.w j (by rw[<-z];exact V)with u|u
   {exact .inl (z.trans u)};{exact .inr (by rw[z];exact u)}
  ·exact .inr z
theorem Ga(E:lM r) {q:Int} (Q:y8 r.K r.id<=q)(p:Nat)(x:Option lD):wh r (r.behind q) p x:=by
 unfold iW.behind;split
 ·obtain⟨u,hu,_⟩:=E.own;have V:∀y,(r.EP (q+1) (jJ r)).K y=if y=r.id then μ (q+1,jJ r)else r.K y:=λy=>rfl
  refine⟨λy v hv=> ?_,λj hb y v J H=> ?_,λj _=>.inl rfl⟩
  ·by_cases e:y=r.id
   ·refine⟨(q+1,jJ r),by rw[V,ai e],?_⟩;have hsq:v.1<=q:=by
     rw[e]at hv;unfold y8 at Q;rw[hv]at Q;exact Q
    unfold mC;have:mH (q+1) v.1=1:=by unfold mH;rw[af eB,ai eB]
    rw[ai (by rw[this];decide),this];decide
   ·exact⟨v,by rw[V,af e];exact hv,by rw[oA];exact Int.le_refl _⟩
  ·have U:(if y=r.id then μ (q+1,jJ r)else r.O j y)=ν:=H;by_cases e:y=r.id;{rw[ai e]at U;exact absurd U ik};{rw[af e]at U;rw[V,af e]at J;exact .inl ⟨hb,J,U⟩}
 ·exact wh.refl r p x
theorem O4(V:lM r)(p:Nat)(x:Option lD):wh r r.change p x:=by
 unfold iW.change;split;{exact wh.refl r p x};{exact Ga V (Int.le_refl _) p x}
theorem xF(jb:lM r) {q:lK} (hq:oI r.id q)(x:Option lD)(hw:q.who≠0->q.who=(r.P i).pe.who \/Hi x q.who):wh r (r.meet i q) i x:=by
 have E:=λj=>(kB r i q j).2.2.2;have hW:∀j,((r.meet i q).P j).pe.who≠0->((r.meet i q).P j).pe.who=(r.P j).pe.who \/(j=i/\Hi x ((r.meet i q).P j).pe.who):=λj h=>by
  rw[E]at h⊢;by_cases e:j=i
  ·subst e;rw[ai rfl]at h⊢;rcases hw h with z|z
   {exact .inl z};{exact .inr ⟨rfl,z⟩}
  ·rw[af e];exact .inl rfl
 by_cases kJ:q.who=(r.P i).pe.who/\q.both=(r.P i).pe.both
 ·have e:r.meet i q=r.jh i {r.P i with pe:=q}:=by unfold iW.meet;simp only;rw[ai kJ]
  refine⟨by rw[e];exact pP.refl _,λj hb y v Q U=> ?_,hW⟩;rw[E]at hb;rw[e]at Q U;refine .inl ⟨?_,Q,U⟩;by_cases V:j=i;{rw[ai V]at hb;rw[V,<-kJ.2];exact hb};{rw[af V]at hb;exact hb}
 ·obtain⟨z,H⟩:∃z:iW,({r.jh i {r.P i with pe:=q}with O:=λx=>if x=i then λ_=>ν else(r.jh i {r.P i with pe:=q}).O x}:iW)=z:=⟨_,rfl⟩
  have okz:lM z:=by rw[<-H];exact(jb.jh i {r.P i with pe:=q} rfl λ_=>hq).zd _
  have ev:=O4 okz i x;have zK:z.K=r.K:=by rw[<-H];rfl
  have e:r.meet i q=if q.both=true then {z.change with O:=λx=>if x=i then qU (z.change.O i) z.change.K else z.change.O x}else z.change:=by
   unfold iW.meet;simp only;rw[af kJ,H]
  have eK:(r.meet i q).K=z.change.K:=by rw[e];split<;>rfl
  have hzO:∀j,j≠i->z.O j=r.O j:=λj A=>by
   rw[<-H];show(if j=i then λ_=>ν else r.O j)=_;rw[af A]
  have hzP:∀j,j≠i->(z.P j).pe=(r.P j).pe:=λj A=>by
   rw[<-H];show((r.jh i {r.P i with pe:=q}).P j).pe=_;rw[k9,af A]
  refine⟨by rw[eK,<-zK];exact ev.k,λj hb y v Q U=> ?_,hW⟩;rw[eK]at Q;by_cases V:j=i;{subst V;rw[E,ai rfl]at hb;rw[e,ai hb]at U;have J:(if j=j then qU (z.change.O j) z.change.K else z.change.O j) y=ν:=U;rw[ai rfl]at J;unfold qU at J;rw[ai (by rw[Q];rfl),Q]at J;exact absurd J ik}
  ·have J:z.change.O j y=ν:=by
    rw[e]at U;split at U;{have h3:(if j=i then qU (z.change.O i) z.change.K else z.change.O j) y=ν:=U;rw[af V]at h3;exact h3};{exact U}
   rw[E,af V]at hb;have hzb:(z.change.P j).pe.both=true:=by rw[(xe z).2.2.2,hzP j V];exact hb
   rcases ev.o j hzb y v Q J with⟨u1,u2,u3⟩|u
   {exact .inl ⟨hb,by rw[<-zK];exact u2,by rw[<-hzO j V];exact u3⟩};{exact absurd u.1 V}
theorem oB(h:K own=μ q):newF K own seq es=mC seq es q.1 q.2:=by unfold newF;rw[h]
theorem ya(jb:lM r)(i:Nat)(s:List UInt8):wh r (jw r i s) i (μ (83::s))/\∀y∈jz ((jw r i s).P i),jz ((jw r i s).P i)=[65::rN (iB s).1 (iB s).2.1 (iB s).2.2.1]->(iB s).2.2.2=0->0<=newF r.K (iB s).1 (iB s).2.1 (iB s).2.2.1->¬((iB s).1=r.id/\0<newF r.K (iB s).1 (iB s).2.1 (iB s).2.2.1)->(r.P i).pe.both=true->yE (jw r i s).K (iB s).1 (iB s).2.1 (iB s).2.2.1:=by
 unfold jw;simp only;split
 ·rename_i h
  refine⟨wh.refl _ _ _,λy _ _ hz _ _ hb=> ?_⟩;rcases h with h|h
  {exact absurd hz h};{rw[hb]at h;exact absurd h ik}
 ·rename_i h
  have hz:(iB s).2.2.2=0:=eB;split
  ·rename_i h2
   refine⟨Ga jb ?_ _ _,λy _ _ _ _ lL _=>absurd h2 lL⟩;obtain⟨u,hu,_⟩:=jb.own;have H:=h2.2;rw[h2.1,oB hu]at H;unfold y8;rw[hu];show u.1<=_;unfold mC at H;by_cases hc:mH (iB s).2.1 u.1=0;{rw[nS.1 hc];exact Int.le_refl _};{rw[ai hc]at H;have:=uL.1 H;omega}
  ·rename_i h2
   have E:∀q:PS,0<=mC (iB s).2.1 (iB s).2.2.1 q.1 q.2->aia (μ (83::s)) (iB s).1 q:=λq J=>⟨s,.inl rfl,hz,rfl,J⟩
   generalize (iB s).1=own,(iB s).2.1=seq,(iB s).2.2.1=es at*;have hm:wh r {r with K:=lQ r.K own seq es,O:=pw r.K r.O i own seq es} i (μ (83::s)):=by
    refine⟨λy q J=> ?_,λj hb y q h1 H=> ?_,λj _=>.inl rfl⟩;{show yE (lQ r.K own seq es) y q.1 q.2;unfold lQ;by_cases g:0<newF r.K own seq es;{rw[ai g];by_cases e:y=own;{subst e;rw[oB J]at g;exact⟨(seq,es),by show(if y=y then _ else _)=_;rw[ai rfl],by show 0<=mC seq es q.1 q.2;omega⟩};{exact⟨q,by show(if y=own then _ else _)=_;rw[af e];exact J,by rw[oA];exact Int.le_refl _⟩}};{rw[af g];exact uZ J}}
    ·have U:lQ r.K own seq es y=μ q:=h1;have V:pw r.K r.O i own seq es j y=ν:=H;unfold lQ at U;unfold pw at V;by_cases g:0<newF r.K own seq es
     ·rw[ai g]at U V;have U:(if y=own then μ (seq,es)else r.K y)=μ q:=U;by_cases e:y=own
      ·subst e;rw[ai rfl]at U;injection U with U
       by_cases Q:j=i;{refine .inr ⟨Q,E q ?_⟩;rw[<-U];show 0<=mC seq es seq es;rw[oA];exact Int.le_refl _};{rw[af Q]at V;have V:(if y=y then μ (seq,es)else r.O j y)=ν:=V;rw[ai rfl]at V;exact absurd V ik}
      ·rw[af e]at U;refine .inl ⟨hb,U,?_⟩;by_cases Q:j=i;{rw[ai Q]at V;have V:(if y=own then ν else if y=own then μ (seq,es)else r.O i y)=ν:=V;rw[af e,af e]at V;rw[Q];exact V};{rw[af Q]at V;have V:(if y=own then μ (seq,es)else r.O j y)=ν:=V;rw[af e]at V;exact V}
     ·rw[af g]at U V;by_cases g2:newF r.K own seq es<0
      ·rw[ai g2]at V;by_cases Q:j=i
       ·rw[ai Q]at V;cases hk:r.K own with
        |none=>rw[hk]at V;exact .inl ⟨hb,U,by rw[Q];exact V⟩
        |some u=>
         rw[hk]at V;have V:(if y=own then μ u else r.O i y)=ν:=V;by_cases e:y=own;{rw[ai e]at V;exact absurd V ik};{rw[af e]at V;exact .inl ⟨hb,U,by rw[Q];exact V⟩}
       ·rw[af Q]at V;exact .inl ⟨hb,U,V⟩
      ·rw[af g2]at V;by_cases Q:j=i;{rw[ai Q]at V;have V:(if y=own then ν else r.O i y)=ν:=V;by_cases e:y=own;{subst e;rw[oB U]at g2;exact .inr ⟨Q,E q eB⟩};{rw[af e]at V;exact .inl ⟨hb,U,by rw[Q];exact V⟩}};{rw[af Q]at V;exact .inl ⟨hb,U,V⟩}
   have hk:0<=newF r.K own seq es->yE (lQ r.K own seq es) own seq es:=λA=>by
    unfold lQ;by_cases g:0<newF r.K own seq es;{rw[ai g];exact⟨(seq,es),by show(if own=own then _ else _)=_;rw[ai rfl],by show 0<=mC seq es seq es;rw[oA];exact Int.le_refl _⟩}
    ·rw[af g];cases J:r.K own with
     |none=>unfold newF at g;rw[J]at g;exact absurd (by decide:(0:Int)<1) g
     |some q=>
      rw[oB J]at g A;refine⟨q,J,?_⟩;rw[uM];omega
   split;{refine⟨hm.trans (wh.alike _ _ rfl rfl λj=> ?_),λy _ _ _ A _ _=>hk A⟩;rw[k9];split;{rename_i e;rw[e,(sT _ _ _).2]};{rfl}}
   ·rename_i am4
    exact⟨hm,λy _ _ _ A _ _=>absurd A am4⟩
theorem Tn(r:iW)(i:Nat)(s:List UInt8):wh r (kQ r i s) i (μ (65::s)):=by
 unfold kQ;simp only;split
 ·rename_i A
  refine⟨pP.refl _,λj hb y q H E=> ?_,λj _=>.inl rfl⟩;have V:(if j=i/\0<=newF r.K (iB s).1 (iB s).2.1 (iB s).2.2.1 then yU (r.O i) (iB s).1 else r.O j) y=ν:=E;have Q:r.K y=μ q:=H;by_cases e:j=i/\0<=newF r.K (iB s).1 (iB s).2.1 (iB s).2.2.1;{rw[ai e]at V;have J:(if y=(iB s).1 then ν else r.O i y)=ν:=V;by_cases U:y=(iB s).1;{refine .inr ⟨e.1,s,.inr rfl,A,U.symm,?_⟩;have:=e.2;rw[<-U,oB Q]at this;exact this};{rw[af U]at J;exact .inl ⟨hb,Q,by rw[e.1];exact J⟩}};{rw[af e]at V;exact .inl ⟨hb,Q,V⟩}
 ·exact wh.refl _ _ _
def yF(r:iW)(x:lD):Prop:=(∀s,(x=83::s \/x=65::s)->(iB s).2.2.2=0->yE r.K (iB s).1 (iB s).2.1 (iB s).2.2.1)/\∀s,x=72::s->(kT s).2.2=0->(kT s).1=r.id
theorem r7(r:iW) {c:UInt8} (s:List UInt8)(V:c≠83)(U:c≠65)(Q:c≠72):yF r (c::s):=
 ⟨λ_ e=>e.elim (λe=>absurd (aC e).1 V) λe=>absurd (aC e).1 U,λ_ e=>absurd (aC e).1 Q⟩
theorem Tp(H:Kw r)(E:lM r)(i:Nat)(x:lD):wh r (jY r i x) i (μ x)/\∀p,∀y∈jz ((jY r i x).P p),yF (jY r i x) y:=by
 obtain⟨m1,_⟩:=qM H i x;have wz:wh r (jY r i x) i (μ x):=by
  cases x with
  |nil=>exact wh.refl _ _ _
  |cons c s=>
   show wh r (r.take i c s) i _;obtain⟨_,_,k3,k4,k5,_,_,_⟩:=AA H i c s;have V:wh r (kg r i c s) i (μ (c::s)):=wh.alike _ _ k4 k5 λj=>(k3 j).1;have U:=E.link i c s;rw[l7];obtain⟨r1,lE⟩:=fq (kg r i c s);rw[lE]at V U⊢;split;{exact V.trans (xF U (oI.nobody U.id.1) _ λh=>absurd rfl h)}
   ·unfold mO;split
    ·rename_i hc
     split
     ·rename_i Q
      refine V.trans (xF U (oI.Zr (s:=(kT s).2.1) U.id.1 (Fg Q)) _ λJ=>.inr ⟨s,by rw[hc],Q,?_⟩);unfold ju at J⊢;split at J;{exact absurd rfl J};{rename_i g;rw[af g]}
     ·exact V
    ·split;{rename_i hc;rw[hc]at V⊢;exact V.trans (ya U i s).1};{split;{rename_i hc;rw[hc]at V⊢;exact V.trans (Tn r1 i s)};{split;{unfold rS;split;{obtain⟨a,b,_,_,e⟩:=nJ r1 (((s.getD 0 0).toNat:Int),((s.getD 1 0).toNat:Int),s.drop 2);exact V.trans (wh.alike _ _ a b λj=>(e j).2.1)};{exact V}};{exact V}}}
 refine⟨wz,λp y hy=> ?_⟩;cases m1 p with
 |none h=>rw[h]at hy;simp at hy
 |link s _ _ _ h=>
  rw[h]at hy;obtain⟨u,rfl⟩:=sD hy;exact r7 _ u eF eF eF
 |J4 a b s _ _ _ _ h=>
  rw[h]at hy;rw[ar.1 hy];exact r7 _ _ eF eF eF
 |heard s hx hp h9 Q hb lL A h=>
  rw[h]at hy;rw[ar.1 hy];have hv:oK (iB s).1 (iB s).2.1 (iB s).2.2.1=0:=qy (by rw[<-Q]);refine⟨λu e _=> ?_,λu e=>absurd (aC e).1 eF⟩;have hu:u=rN (iB s).1 (iB s).2.1 (iB s).2.2.1:=by
   rcases e with e|e
   {exact absurd (aC e).1 eF};{exact(aC e).2.symm}
  rw[hu,od _ _ _ hv];have ht:jY r i x=jw r i s:=by
   rw[hx];show r.take i 83 s=_;rw[l7,uX i s eF,af (by rw[h9];simp)];unfold mO;rw[af eF,ai rfl]
  rw[ht]at h⊢;rw[hp]at h;exact(ya E i s).2 _ (by rw[h];exact ar.2 rfl) h Q A lL hb
theorem Tq(hE:Kw r)(h:Own r)(E:lM r)(hs:mJ B r)(hB:B<1000000)(hi:i<3)(hn:r.n=3):wh r (r.jj i) i ν/\∀p,∀y∈jz ((r.jj i).P p),yF (r.jj i) y:=by
 have ha:=mB r i;have A:wh r (jo r i) i ν:=wh.alike _ _ rfl rfl λj=>(ha j).2;have U:=E.jo i;have CC:(iV ((jo r i).P i).pe).who≠0->(iV ((jo r i).P i).pe).who=((jo r i).P i).pe.who:=λV=>by
  unfold iV at V⊢;split at V;{exact absurd rfl V};{rename_i g;rw[af g]}
 have wz:wh r (r.jj i) i ν:=by
  rw[lA];split;{exact A.trans (xF U (oI.nobody U.id.1) _ λh=>absurd rfl h)};{have hp:=oI.tick U.id.1 (U.pe i (by show i<r.n;omega));obtain⟨t1,t2,_,_,t5⟩:=qe ((jo r i).meet i (iV ((jo r i).P i).pe)) i;exact(A.trans (xF U hp _ λV=>.inl (CC V))).trans (wh.alike _ _ t1 t2 λj=>(t5 j).2.1)}
 refine⟨wz,λp y hy=> ?_⟩;obtain⟨C,c1,c2,_⟩:=B3 h E hs hB hi hn;obtain⟨e1,e2⟩:=xY hE i;by_cases ep:p=i
 ·subst ep;rw[e2]at hy;rcases av.1 hy with g|g
  ·obtain⟨u,rfl⟩:=sD g;exact r7 _ u eF eF eF
  ·split at g
   ·rename_i h9
    rcases aP.1 g with g|g
    ·rw[g];refine⟨λu e=> ?_,λu e J=> ?_⟩;{rcases e with e|e<;>exact absurd (aC e).1 eF}
     ·rw[<-(aC e).2]at J⊢;have pS:=E.id;have H:(r.jj p).id=r.id:=(jT.jj r p).id;rw[H];unfold kT at J⊢;split at J
      ·rename_i hh
       rw[ai hh];show((kc r.id).toNat:Int)=_;exact nU _ eB eB
      ·exact absurd J ik
    ·split at g
     ·obtain⟨q,hq,Q⟩:=aT.1 g;unfold DW at Q;split at Q
      ·rw[ar.1 Q];have hO:(r.jj p).O p q.1=μ q.2:=by
        have kC:((jo r p).P p).L.st=9:=by
         unfold jo;rw[k9,ai rfl,tJ];exact h9
        rw[lA,af (by rw[kC];simp),(ha p).2];exact xZ hq
       have hK:=c1.tie p q.1 q.2 hO;refine⟨λu e _=> ?_,λu e=>absurd (aC e).1 eF⟩;have hu:u=rN q.1 q.2.1 q.2.2:=by
        rcases e with e|e
        {exact(aC e).2.symm};{exact absurd (aC e).1 eF}
       rw[hu,od _ _ _ (c1.val _ _ hK)];exact uZ hK
      ·simp at Q
     ·simp at g
   ·simp at g
 ·rw[e1 p ep]at hy;simp at hy
theorem Xk(V:lM r)(i:Nat)(up:Bool):wh r (r.iZ i up).1 i ν/\(((r.P i).iZ up).2=0->((r.iZ i up).1.P i).pe=nobody):=by
 unfold iW.iZ;simp only;split;{rename_i h;exact⟨wh.refl _ _ _,λQ=>absurd Q h⟩}
 ·have e:((r.P i).iZ up).1.m=(r.P i).m/\((r.P i).iZ up).1.pe=(r.P i).pe:=by
   unfold jI.iZ;generalize lr (r.P i).L (if up=true then 0 else 1)=E;simp only;split;{exact⟨rfl,rfl⟩};{rw[(xd _ _).1,(xd _ _).2];exact⟨rfl,rfl⟩}
  have k1:lM (r.jh i ((r.P i).iZ up).1):=V.jh i _ e.1 λhi=>by rw[e.2];exact V.pe i hi
  have U:wh r (r.jh i ((r.P i).iZ up).1) i ν:=wh.alike _ _ rfl rfl λj=>by
   rw[k9];split;{rename_i g;rw[g];exact e.2};{rfl}
  refine⟨U.trans (xF k1 (oI.nobody k1.id.1) _ λh=>absurd rfl h),λ_=> ?_⟩;rw[(kB _ _ _ _).2.2.2,ai rfl]
def mZ(a:AN)(c d:Nat):lK:=((a.R (a.e c d).1).P (a.e c d).2).pe
def CV(x:lD):Prop:=x.length<=23/\∀k b s,x=77::k::b::s->b.toNat<=7
theorem uj {c:UInt8} {s:List UInt8} (h:s.length<=22)(hc:c≠77):CV (c::s):=⟨by simp only[eW];omega,λ_ _ _ e=>absurd (aC e).1 hc⟩
structure DY(a:AN):Prop where
 gate:∀c d,c<a.nc->d<2->(mZ a c d).who≠0->(kf a c d).st=9
 far:∀c d,c<a.nc->d<2->(mZ a c d).who≠0->(mZ a c d).who=((a.e c (1-d)).1:Int)+1
 kn:∀c d,c<a.nc->d<2->∀x∈a.F c d,yF (a.R (a.e c d).1) x/\CV x
 o:∀c d,c<a.nc->d<2->(mZ a c d).both=true->∀y q,(a.R (a.e c d).1).K y=μ q->(a.R (a.e c d).1).O (a.e c d).2 y=ν->yE (a.R (a.e c (1-d)).1).K y q.1 q.2
theorem yF.mono {r s:iW} (h:pP r.K s.K)(U:s.id=r.id) {x:lD} (g:yF r x):yF s x:=⟨λu e V=>(g.1 u e V).mono h,λu e V=>by rw[U];exact g.2 u e V⟩
theorem Ke(a:AN)(i:Nat)(s:iW)(j:Nat):(a.op i s).R j=if j=i then s.core else a.R j:=rfl
theorem AO(a:AN)(i:Nat)(s:iW)(c d:Nat):mZ (a.op i s) c d=if(a.e c d).1=i then(s.P (a.e c d).2).pe else mZ a c d:=by
 unfold mZ;rw[S9,Ke];by_cases e:(a.e c d).1=i;{rw[ai e,ai e];rfl};{rw[af e,af e]}
theorem DY.op {a:AN} (hB:uh a)(h:DY a) {i:Nat} {s:iW} (pS:s.id=(a.R i).id)(O3:∀j,j<a.n->(a.R j).id=(j:Int)+1) {p:Nat} {x:Option lD} (ev:wh (a.R i) s p x)(Yn:∀q,∀y∈jz (s.P q),yF s y/\CV y)
 (hx:∀y,x=μ y->∃c d,c<a.nc/\d<2/\a.e c (1-d)=(i,p)/\yF (a.R (a.e c d).1) y)
 (hg:∀c d,c<a.nc->d<2->(a.e c d).1=i->(s.P (a.e c d).2).pe.who≠0->(s.P (a.e c d).2).L.st=9):DY (a.op i s):=by
 have hm:∀j,pP (a.R j).K ((a.op i s).R j).K:=λj=>by
  rw[Ke];by_cases e:j=i;{rw[ai e,e];exact ev.k};{rw[af e];exact pP.refl _}
 have E:∀j,((a.op i s).R j).id=(a.R j).id:=λj=>by
  rw[Ke];by_cases e:j=i;{rw[ai e,e];exact pS};{rw[af e]}
 have Q:∀c d,c<a.nc->d<2->a.e c d=(i,p)->∀y,x=μ y->yF (a.R (a.e c (1-d)).1) y:=λc d hc hd he y hy=>by
  obtain⟨c',d',j9,kF,Cp,hk⟩:=hx y hy;have:=hB.ds c' (1-d') c d j9 eB hc hd (Cp.trans he.symm);have Hl:d'=1-d:=eB;rw[this.1,Hl]at hk;exact hk
 refine⟨λc d hc hd V=> ?_,λc d hc hd V=> ?_,λc d hc hd y hy=> ?_,λc d hc hd hb y q A u=> ?_⟩;{rw[AO]at V;rw[IX];by_cases e:(a.e c d).1=i;{rw[ai e]at V⊢;exact hg c d hc hd e V};{rw[af e]at V⊢;exact h.gate c d hc hd V}}
 ·rw[AO]at V⊢;rw[S9];by_cases e:(a.e c d).1=i
  ·rw[ai e]at V⊢;rcases ev.w _ V with z|⟨J,s',U,H,z4⟩
   {rw[z]at V⊢;have:=h.far c d hc hd;unfold mZ at this;rw[e]at this;exact this V};{have:=(Q c d hc hd (aU e J) _ U).2 s' rfl H;rw[<-z4,this];exact O3 _ (hB.en c (1-d) hc eB).1}
  ·rw[af e]at V⊢;exact h.far c d hc hd V
 ·rw[S9];rw[vZ]at hy;by_cases e:(a.e c d).1=i
  ·rw[ai ⟨⟨hc,hd⟩,e⟩]at hy;rcases av.1 hy with g|g
   {exact⟨(h.kn c d hc hd y g).1.mono (hm _) (E _),(h.kn c d hc hd y g).2⟩};{rw[Ke,ai e];exact Yn _ y g}
  ·rw[af (λz=>e z.2)]at hy;exact⟨(h.kn c d hc hd y hy).1.mono (hm _) (E _),(h.kn c d hc hd y hy).2⟩
 ·rw[S9];rw[S9]at A u;rw[AO]at hb;by_cases e:(a.e c d).1=i
  ·rw[ai e]at hb;rw[Ke,ai e]at A u;rcases ev.o _ hb y q A u with⟨J,U,H⟩|⟨J,s',U,H,z4,z5⟩
   ·have:=h.o c d hc hd;unfold mZ at this;rw[e]at this;exact(this J y q U H).mono (hm _)
   ·have hk:yE (a.R (a.e c (1-d)).1).K (iB s').1 (iB s').2.1 (iB s').2.2.1:=by
     rcases U with U|U
     {exact(Q c d hc hd (aU e J) _ U).1 s' (.inl rfl) H};{exact(Q c d hc hd (aU e J) _ U).1 s' (.inr rfl) H}
    rw[z4]at hk;exact(hk.trans z5).mono (hm _)
  ·rw[af e]at hb;rw[Ke,af e]at A u;exact(h.o c d hc hd hb y q A u).mono (hm _)
theorem DY.lost(h:DY a)(hl:xx a b):DY b:=by
 have hs:∀c d,(b.F c d).Sublist (a.F c d):=λc d=>by
  obtain⟨m,E⟩:=hl.2 c d;rw[E];exact iJ _ _
 have U:b.nc=a.nc:=by rw[hl.1]
 have V:b.e=a.e:=by rw[hl.1]
 have Q:b.R=a.R:=by rw[hl.1]
 have J:∀c d,mZ b c d=mZ a c d:=λc d=>by unfold mZ;rw[V,Q]
 have H:∀c d,kf b c d=kf a c d:=λc d=>by unfold kf;rw[V,Q]
 refine⟨λc d=> ?_,λc d=> ?_,λc d hc hd x hx=> ?_,λc d=> ?_⟩;{rw[U,J,H];exact h.gate c d};{rw[U,J,V];exact h.far c d};{rw[V,Q];exact h.kn c d (by rw[<-U];exact hc) hd x ((hs c d).mem hx)};{rw[U,J,V,Q];exact h.o c d}
theorem DY.less(h:DY a)(U:b.nc=a.nc)(V:b.e=a.e)(Q:b.R=a.R)(hs:∀c d,∀x∈b.F c d,x∈a.F c d):DY b:=by
 have J:∀c d,mZ b c d=mZ a c d:=λc d=>by unfold mZ;rw[V,Q]
 have H:∀c d,kf b c d=kf a c d:=λc d=>by unfold kf;rw[V,Q]
 refine⟨λc d=> ?_,λc d=> ?_,λc d hc hd x hx=> ?_,λc d=> ?_⟩;{rw[U,J,H];exact h.gate c d};{rw[U,J,V];exact h.far c d};{rw[V,Q];exact h.kn c d (by rw[<-U];exact hc) hd x (hs c d x hx)};{rw[U,J,V,Q];exact h.o c d}
theorem Tr {os:List jQ} (h:j4 code id os=0):os.length<=8:=by
 unfold j4 at h;split at h;{simp at h};{split at h;{simp at h};{omega}}
theorem DZ(h:oK own seq es=0):(rN own seq es).length<=16:=by
 have:=(jC h).2.2.1;unfold rN;simp only[eW,yN];omega
theorem aah(q:kZ):∀x∈oJ q,CV x:=λx hx=>by
 unfold oJ at hx;split at hx
 ·rename_i g
  rw[ar.1 hx];have:=Tr g.1;refine uj ?_ eF;unfold mV;simp only[eW,sM];omega
 ·simp at hx
theorem Gb {l:List kZ} (h:x∈l.flatMap oJ):CV x:=by
 obtain⟨q,_,hx⟩:=aT.1 h;exact aah q x hx
theorem aai(h:FR r i x p l)(hx:CV x):∀y∈l,CV y:=λy hy=>by
 cases h with
 |none h=>rw[h]at hy;simp at hy
 |link s _ _ _ h=>rw[h]at hy;exact Gb hy
 |heard s _ _ _ U _ _ _ h=>
  rw[h]at hy;rw[ar.1 hy];have hv:oK (iB s).1 (iB s).2.1 (iB s).2.2.1=0:=qy (by rw[<-U]);have:=DZ hv;exact uj eB eF
 |J4 a b s hs h9 h1 hl h=>
  rw[h]at hy;rw[ar.1 hy];refine⟨by simp only[eW];omega,λk c u e=> ?_⟩;have V:=(aC (aC (aC e).2).2).1;have hb:=hx.2 a b s hs;rw[<-V];have:=nU ((b.toNat:Int)-1) eB (by have:=b.toNat_lt;omega);omega
theorem aaj(u:Kw r)(J:Own (r.jj i)):∀p,∀y∈jz ((r.jj i).P p),CV y:=λp y hy=>by
 obtain⟨H,E⟩:=xY u i;by_cases Q:p=i
 ·subst Q;rw[E]at hy;rcases av.1 hy with g|g
  ·exact Gb g
  ·split at g
   ·rename_i A
    rcases aP.1 g with g|g
    ·rw[g];exact uj ik eF
    ·split at g
     ·obtain⟨q,hq,V⟩:=aT.1 g;unfold DW at V;split at V
      ·rw[ar.1 V];have kC:((jo r p).P p).L.st=9:=by
        unfold jo;rw[k9,ai rfl,tJ];exact A
       have U:(r.jj p).O p q.1=μ q.2:=by
        rw[lA,af (by rw[kC];simp),(mB r p p).2];exact xZ hq
       have:=DZ (J.val _ _ (J.tie p q.1 q.2 U));exact uj eB eF
      ·simp at V
     ·simp at g
   ·simp at g
 ·rw[H p Q]at hy;simp at hy
theorem DY.nW {a:AN} (E:uh a)(A:Norm a)(h:DY a) {B N:Nat} (hO:wa B N a) {c d:Nat} (hc:c<a.nc)(hd:d<2)(up:Bool)(Q:(lr (kf a c d) (if up=true then 0 else 1)).2.2=0):DY (a.nW c d up):=by
 obtain⟨hi,hp⟩:=E.en c d hc hd;obtain⟨a1,a2,a3,a4,a5⟩:=hO.r _ hi;obtain⟨ev,oQ⟩:=Xk a2 (a.e c d).2 up;obtain⟨e1,e2,H⟩:=J5 (A.emp (a.e c d).1) (a.e c d).2 up Q;have J:=Qt (A.emp (a.e c d).1) (a.e c d).2 up;have V:∀q,(((a.R (a.e c d).1).iZ (a.e c d).2 up).1.P q).pe=if q=(a.e c d).2 then nobody else((a.R (a.e c d).1).P q).pe:=λq=>by
  rw[H,(kB _ _ _ _).2.2.2];by_cases g:q=(a.e c d).2;{rw[ai g,ai g]};{rw[af g,af g,k9,af g]}
 have hL:∀q,q≠(a.e c d).2->(((a.R (a.e c d).1).iZ (a.e c d).2 up).1.P q).L=((a.R (a.e c d).1).P q).L:=λq J=>by
  rw[H,(kB _ _ _ _).2.1,k9,af J]
 refine h.op E (J6 _ _ _).1 (λj hj=>(hO.r j hj).2.2.2.1) ev (λq y hy=> ?_) (λy hy=>absurd hy ik) λc' d' j9 kF he U=> ?_;{obtain⟨u,rfl⟩:=J q y hy;refine⟨r7 _ u eF eF eF,?_⟩;by_cases g:q=(a.e c d).2;{rw[g,e2]at hy;exact Gb hy};{rw[e1 q g]at hy;simp at hy}};{by_cases g:(a.e c' d').2=(a.e c d).2;{rw[g,V,ai rfl]at U;exact absurd rfl U};{rw[V,af g]at U;rw[hL _ g];have:=h.gate c' d' j9 kF;unfold mZ kf at this;rw[he]at this;exact this U}}
theorem DY.iZ {a:AN} (hB:uh a)(hN:Norm a)(h:DY a) {B N:Nat} (J:wa B N a)(hl:N<1000000) {c:Nat} (hc:c<a.nc)(up:Bool)(Q:∀d,d<2->(lr (kf a c d) (if up=true then 0 else 1)).2.2=0):DY (a.iZ c up):=by
 obtain⟨b,hb⟩:=fq ((({a with jc:=j6 a.jc c up}:AN).lR c 0 []).lR c 1 []);have E:uh b:=hB.same (by rw[<-hb];rfl) (by rw[<-hb];rfl) (by rw[<-hb];rfl);have A:Norm b:=by rw[<-hb];exact hN
 have H:c<b.nc:=by rw[<-hb];exact hc
 have u:∀c' d',kf b c' d'=kf a c' d':=λc' d'=>by rw[<-hb];rfl
 have xM:DY b:=h.less (by rw[<-hb];rfl) (by rw[<-hb];rfl) (by rw[<-hb];rfl) λx f y hy=>by
  rw[<-hb]at hy;have V:y∈(if x=c/\f=1 then []else if x=c/\f=0 then []else a.F x f):=hy;split at V;{simp at V};{split at V;{simp at V};{exact V}}
 have U:∃C,wa C N b:=by
  have w1:=DV {a with jc:=j6 a.jc c up} sw c 0;have w2:=DV (({a with jc:=j6 a.jc c up}:AN).lR c 0 []) sw c 1;have w3:=J.b;rw[hb]at w2;have e1:({a with jc:=j6 a.jc c up}:AN).W sw=a.W sw:=rfl;refine⟨B,by rw[<-hb];exact J.r,λx f hx hf y hy=> ?_,?_,J.one,by rw[<-hb];exact J.ms⟩;{rw[<-hb]at hy hx;have V:y∈(if x=c/\f=1 then []else if x=c/\f=0 then []else a.F x f):=hy;split at V;{simp at V};{split at V;{simp at V};{exact J.f x f hx hf y V}}}
  ·have V:sm (λi=>rJ (b.R i)) (List.range b.n)=sm (λi=>rJ (a.R i)) (List.range a.n):=by rw[<-hb];rfl
   omega
 obtain⟨C,U⟩:=U;have f0:=xE E A H (by decide:0<2) up (by rw[u];exact Q 0 eF);have h1:=xM.nW E A U H (by decide:0<2) up (by rw[u];exact Q 0 eF);obtain⟨D,hO1⟩:=B5 E A U hl H (by decide:0<2) up;have k01:=(f0 c 1 H eF).1 eB;have h2:=h1.nW (a:=b.nW c 0 up) (E.same rfl rfl rfl) (rI A _ _) hO1 H (by decide:1<2) up (by rw[k01.1,u];exact Q 1 eF);unfold AN.iZ;rw[hb];exact h2
theorem ni.abT(s:ni a T S b)(E:uh a)(A:Norm a)(Q:wa B N a)(hl:N<1000000) {X:Marks} (hX:rK X t a)(h:DY a):DY b:=by
 have O3:∀j,j<a.n->(a.R j).id=(j:Int)+1:=λj hj=>(Q.r j hj).2.2.2.1;have hBl:=Q.b;have H:∀c d,c<a.nc->d<2->a.jc c=true->OY ((a.R (a.e c d).1).P (a.e c d).2):=λc d hc hd hi=>by
  have p:=hX.uu hc hd hi;have h6:=p.lu;have h9:=p.l.st;refine⟨?_,h.gate c d hc hd⟩;show uU (kf a c d).st=true;unfold uU;simp only[Bool.or_eq_true,beq_iff_eq,Bool.and_eq_true,decide_eq_true_eq];omega
 have uB:∀c d,c<a.nc->d<2->pN (a.jc c) ((a.R (a.e c d).1).P (a.e c d).2):=λc d hc hd=>by
  cases hi:a.jc c;{exact⟨by rw[af ik];exact(hX.dn c hc hi d hd).2.1,h.gate c d hc hd⟩};{exact pN.up.2 (H c d hc hd hi)}
 cases s with
 |lost hl=>exact h.lost hl
 |tick i p hi hp=>
  obtain⟨a1,a2,a3,a4,a5⟩:=Q.r i hi;obtain⟨ev,hk⟩:=Tq (A.emp i) a1 a2 a3 eB hp a5;obtain⟨C,c1,_⟩:=B3 a1 a2 a3 eB hp a5;have jb:=aaj (A.emp i) c1;refine h.op E (jT.jj (a.R i) p).id O3 ev (λq y hy=>⟨hk q y hy,jb q y hy⟩) (λy hy=>absurd hy ik) λc d hc hd he V=> ?_;have hE:=uB c d hc hd;rw[he]at hE;by_cases e:(a.e c d).2=p;{rw[e]at hE V⊢;exact(IE p hE).1.gate V}
  ·have hLq:(((a.R i).jj p).P (a.e c d).2).L=((a.R i).P (a.e c d).2).L:=by rw[B6,af e]
   have hPq:(((a.R i).jj p).P (a.e c d).2).pe=((a.R i).P (a.e c d).2).pe:=by
    rw[lA];split;{rw[(kB _ _ _ _).2.2.2,af e];exact(mB _ _ _).2};{rw[((qe _ _).2.2.2.2 _).2.1,(kB _ _ _ _).2.2.2,af e];exact(mB _ _ _).2}
   rw[hLq];rw[hPq]at V;exact hE.gate V
 |pop c d x l hc hd hF=>
  obtain⟨hi,hp⟩:=E.en c (1-d) hc eB;obtain⟨a1,a2,a3,a4,a5⟩:=Q.r _ hi;have Ub:x∈a.F c d:=by rw[hF];simp
  have ld:=hX.zw hc hd Ub;obtain⟨ev,hk⟩:=Tp (A.emp (a.e c (1-d)).1) a2 (a.e c (1-d)).2 x;obtain⟨m1,_⟩:=qM (A.emp (a.e c (1-d)).1) (a.e c (1-d)).2 x;have wA:DY (a.lR c d l):=h.less rfl rfl rfl λy f z hz=>by
   rw[tK]at hz;split at hz;{rename_i e;rw[e.1,e.2,hF];simp[hz]};{exact hz}
  unfold AN.pop;refine wA.op (a:=a.lR c d l) (E.same rfl rfl rfl) (Mz a2 _ x).2.1 O3 ev (λq y hy=>⟨hk q y hy,aai (m1 q) (h.kn c d hc hd x Ub).2 y hy⟩) (λy hy=>⟨c,d,hc,hd,rfl,?_⟩) λc' d' j9 U he V=> ?_;{injection hy with hy;rw[<-hy];exact(h.kn c d hc hd x Ub).1}
  ·have hG:=IC (r:=a.R (a.e c (1-d)).1) (a.e c (1-d)).2;cases x with
   |nil=>
    have:=h.gate c' d' j9 U;unfold mZ kf at this;rw[show(a.e c' d').1=(a.e c (1-d)).1 from he]at this;exact this V
   |cons k u=>
    obtain⟨g1,g2⟩:=hG k u (H c (1-d) hc eB ld);by_cases e:(a.e c' d').2=(a.e c (1-d)).2;{have e':((a.lR c d l).e c' d').2=(a.e c (1-d)).2:=e;rw[e']at V⊢;exact g1.2 V}
    ·obtain⟨z1,z2⟩:=g2 _ e;have:=h.gate c' d' j9 U;unfold mZ kf at this;rw[show(a.e c' d').1=(a.e c (1-d)).1 from he]at this;have hw':(((a.R (a.e c (1-d)).1).take (a.e c (1-d)).2 k u).P (a.e c' d').2).pe.who≠0:=V;rw[z2]at hw';show(((a.R (a.e c (1-d)).1).take (a.e c (1-d)).2 k u).P (a.e c' d').2).L.st=9;rw[z1];exact this hw'
 |send i t tx hi ht1 ht6 hlen=>
  obtain⟨s1,s2,s3,s4,s5⟩:=nJ (a.R i) (t,8,tx);obtain⟨j,g1,g2⟩:=DX (A.emp i) (t,8,tx);refine h.op E s3 O3 (wh.alike 0 ν s1 s2 λj=>(s5 j).2.1) (λq y hy=> ?_) (λy hy=>absurd hy ik) λc d hc hd he V=> ?_
  ·by_cases e:q=j
   ·subst e;rcases g2 with g|⟨_,g⟩
    {rw[g]at hy;simp at hy};{rw[g]at hy;rw[ar.1 hy];refine⟨r7 _ _ eF eF eF,by simp only[eW];omega,λk b u e=> ?_⟩;rw[<-(aC (aC (aC e).2).2).1];show(kc ((8:Int)-1)).toNat<=7;decide}
   ·rw[g1 q e]at hy;simp at hy
  ·rw[(s5 _).2.1]at V;rw[(s5 _).2.2];have:=h.gate c d hc hd;unfold mZ kf at this;rw[he]at this;exact this V
 |iZ c hc hi _ _=>exact h.iZ E A Q hl hc true λd hd=>(EA (hX.dn c hc hi d hd).2.1).1
 |draw c hc hi=>exact h.iZ E A Q hl hc false λd hd=>(ug (H c d hc hd hi).1).1
 |anew i m hi hd=>
  obtain⟨b,hb⟩:=fq (({a with R:=j6 a.R i (jZ ((i:Int)+1) 3 (a.ms i)),ib:=j6 a.ib i ((a.ib i).take m)}:AN));rw[hb];have e1:b.nc=a.nc:=by rw[<-hb]
  have e3:b.e=a.e:=by rw[<-hb]
  have e4:b.F=a.F:=by rw[<-hb]
  have hR:∀j,b.R j=if j=i then jZ ((i:Int)+1) 3 (a.ms i)else a.R j:=λj=>by rw[<-hb];rfl
  have oQ:∀c d,mZ b c d=if(a.e c d).1=i then nobody else mZ a c d:=λc d=>by
   unfold mZ;rw[e3,hR];by_cases e:(a.e c d).1=i;{rw[ai e,ai e];rfl};{rw[af e,af e]}
  have pV:∀c d,(a.e c d).1≠i->kf b c d=kf a c d:=λc d e=>by unfold kf;rw[e3,hR,af e]
  have lL:∀c d,c<a.nc->d<2->(a.e c (1-d)).1=i->(mZ a c d).both=false:=λc d hc U e=>by
   have ld:=(hd c (1-d) hc eB e).1;have kC:=(hX.dn c hc ld d U).2.1;have V:(mZ a c d).who=0:=by
    by_cases g:(mZ a c d).who=0;{exact g};{have:=h.gate c d hc U g;omega}
   have hx:=E.en c d hc U;have hp:=(Q.r _ hx.1).2.1.pe (a.e c d).2 (by rw[(Q.r _ hx.1).2.2.2.2];exact hx.2);cases hb:(mZ a c d).both;{rfl};{have:=hp.both hb;unfold mZ at V;omega}
  refine⟨λc d hc U V=> ?_,λc d hc U V=> ?_,λc d hc U x hx=> ?_,λc d hc U J y q h1 h2=> ?_⟩;{rw[e1]at hc;rw[oQ]at V;by_cases e:(a.e c d).1=i;{rw[ai e]at V;exact absurd rfl V};{rw[af e]at V;rw[pV c d e];exact h.gate c d hc U V}};{rw[e1]at hc;rw[oQ]at V⊢;rw[e3];by_cases e:(a.e c d).1=i;{rw[ai e]at V;exact absurd rfl V};{rw[af e]at V⊢;exact h.far c d hc U V}}
  ·rw[e1]at hc;rw[e4]at hx;rw[e3];by_cases e:(a.e c d).1=i
   ·obtain⟨_,f0,f1⟩:=hd c d hc U e;have:d=0 \/d=1:=eB;rcases this with rfl|rfl
    {rw[f0]at hx;simp at hx};{rw[f1]at hx;simp at hx}
   ·rw[hR,af e];exact h.kn c d hc U x hx
  ·rw[e1]at hc;rw[oQ]at J;rw[e3]at h1 h2⊢;by_cases e:(a.e c d).1=i;{rw[ai e]at J;exact absurd J (by simp[nobody])};{rw[af e]at J;rw[hR,af e]at h1 h2;by_cases e2:(a.e c (1-d)).1=i;{rw[lL c d hc U e2]at J;exact absurd J ik};{rw[hR,af e2];exact h.o c d hc U J y q h1 h2}}
structure Inv(N:Nat)(t:Nat×Nat->Nat)(a:AN):Prop where
 rD:uh a
 nrm:Norm a
 own:∃B,wa B N a
 lk:∃X,rK X t a
 fl:DY a
theorem Inv.step(s:ni a T S b)(h:Inv N t a)(hl:N<1000000)(Q:∀x,t x<=126):Inv (N+8*T.length) (qS t T) b:=by
 obtain⟨B,V⟩:=h.own;obtain⟨X,U⟩:=h.lk;exact⟨h.rD.same s.same.1 s.same.2.1 s.same.2.2.1,s.norm h.nrm,s.own h.rD h.nrm V hl,s.links h.rD h.nrm U Q,s.abT h.rD h.nrm V hl U h.fl⟩
theorem Inv.path(s:j5 a T S b)(h:Inv N t a)(hl:N+8*T.length<1000000)(V:∀x,qS t T x<=126):Inv (N+8*T.length) (qS t T) b:=by
 induction s with
 |nil=>rw[pO];exact h
 |snoc p s ih=>
  rw[CU]at V⊢;rw[aA]at hl⊢;have U:=ih eB λx=>Nat.le_trans (Nat.le_add_right _ _) (V x);have Q:=U.step s eB λx=>Nat.le_trans (Nat.le_add_right _ _) (V x);have e:∀x y:Nat,N+8*(x+y)=N+8*x+8*y:=λx y=>eB;rw[e];exact Q
theorem wa.mono {M:Nat} (h:wa B N a)(V:N<=M):wa B M a:=⟨h.r,h.f,Nat.le_trans h.b V,h.one,h.ms⟩
theorem Inv.mono {N M:Nat} {t u:Nat×Nat->Nat} {a:AN} (h:Inv N t a)(U:N<=M)(V:∀x,t x<=u x):Inv M u a:=by
 obtain⟨B,Q⟩:=h.own;obtain⟨X,J⟩:=h.lk;exact⟨h.rD,h.nrm,⟨B,Q.mono U⟩,⟨X,J.mono V⟩,h.fl⟩
theorem Inv.act(hF:jN y)(Q:GN y)(E:ki y D 0)(U:D<=800000000)(h:Inv N (λ_=>k) (iT y))(hl:N+144<1000000)(J:k+1<=126)(v:AV):Inv (N+144) (λ_=>k+1) (iT (tT y v)):=by
 obtain⟨T,V,H⟩:=Mx hF Q E U v;have hlen:=V.len;exact(h.path H eB λx=>Nat.le_trans (nY V.nd k x) J).mono eB (nY V.nd k)
def Deep(t:Nat×Nat->Nat)(a:AN)(D:Nat->Nat->Nat):Prop:=∃X,rK X t a/\∀c d,c<a.nc->d<2->∀x∈a.F c d,yn (X c d) x<=D c d
theorem aak(X:Int->Bool)(x:lD):1<=yn X x:=by
 unfold yn;cases CS 1 x with
 |some i=>simp only;split<;>decide
 |none=>
  simp only;split<;>omega
theorem zr.deep(h:zr c d l a b)(A:uh a)(u:Norm a)(ht:∀x,t x<=127) {X:Marks} (hX:rK X t a)(hc:c<a.nc)(hd:d<2)(rest:List lD)(hF:a.F c d=l++rest)(k:Nat)(hk:∀x∈l,yn (X c d) x<=k+1):
 ∃Y,rK Y t b/\∀c' d',c'<a.nc->d'<2->∃em,MG X Y a b c' d' (if c'=c/\d'=d then rest else a.F c' d') em/\∀y∈em,yn (Y c' d') y<=k:=by
 induction h generalizing X rest with
 |nil a=>
  refine⟨X,hX,λc' d' _ _=>⟨[],⟨?_,λ_ _=>⟨rfl,rfl⟩⟩,λ_ h=>by simp at h⟩⟩;rw[aB];split;{rename_i e;rw[e.1,e.2,hF];rfl}
  ·rfl
 | @cons a b x l r h1 h2 h3 h4 ih=>
   have J:r=l++rest:=by rw[hF]at h3;exact(aC h3).2.symm
   obtain⟨Y,hY,pp⟩:=hX.pop A u ht hc hd h3;have uG:(a.pop c d x r).nc=a.nc:=rfl;obtain⟨U,V,de0⟩:=pp.fl c d hc hd;rw[ai ⟨rfl,rfl⟩]at V;have hx:=hk x ik;have Ta:(a.pop c d x r).F c d=l++(rest++U):=by rw[V.f,J,aD]
   obtain⟨Z,hZ,q⟩:=ih (A.same rfl rfl rfl) (rI (a:=a.lR c d r) u _ _) hY hc (rest++U) Ta λy hy=>by
    rw[(V.o y (by rw[J];simp[hy])).1];exact hk y (by simp[hy])
   refine⟨Z,hZ,λc' d' j9 kF=> ?_⟩;obtain⟨H,f1,g1⟩:=q c' d' j9 kF;obtain⟨Q,f2,E⟩:=pp.fl c' d' j9 kF;by_cases e:c'=c/\d'=d
   ·rw[ai e]at f1 f2⊢;obtain⟨z1,z2⟩:=e;subst z1 z2;have he:Q=U:=by
     have:=f2.f.symm.trans V.f;exact List.append_cancel_left this
    subst he;refine⟨Q++H,⟨by rw[f1.f,aD],λy hy=> ?_⟩,λy hy=> ?_⟩;{have o1:=f1.o y (by simp[hy]);have o2:=f2.o y (by rw[J];simp[hy]);exact⟨o1.1.trans o2.1,o1.2.trans o2.2⟩}
    ·rcases av.1 hy with g|g
     {rw[(f1.o y (by simp[g])).1];have:=E y g;omega};{exact g1 y g}
   ·rw[af e]at f1 f2⊢;refine⟨Q++H,⟨by rw[f1.f,f2.f,aD],λy hy=> ?_⟩,λy hy=> ?_⟩;{have o1:=f1.o y (by rw[f2.f];simp[hy]);have o2:=f2.o y hy;exact⟨o1.1.trans o2.1,o1.2.trans o2.2⟩}
    ·rcases av.1 hy with g|g
     {rw[(f1.o y (by rw[f2.f];simp[g])).1];have:=E y g;omega};{exact g1 y g}
theorem Deep.lost {t:Nat×Nat->Nat} {a b:AN} {D:Nat->Nat->Nat} (h:Deep t a D)(hl:xx a b):Deep t b D:=by
 obtain⟨X,V,U⟩:=h;refine⟨X,V.lost hl,λc d hc hd x hx=>U c d (by rw[hl.1]at hc;exact hc) hd x ?_⟩;obtain⟨m,Q⟩:=hl.2 c d;rw[Q]at hx;exact dj hx
structure Full(y:ja)(c d:Nat)(y':ja):Prop where
 ps:zr c d ((iT y).F c d) (iT y) (iT (y.jE c d ((y.C c).on d).length))/\xx (iT (y.jE c d ((y.C c).on d).length)) (iT y')/\(Room (y.jE c d ((y.C c).on d).length)->iT y'=iT (y.jE c d ((y.C c).on d).length))
 rv:∀x f,x<y.nc->f<2->j8 (y.jE c d ((y.C c).on d).length) x f=(if x=c/\f=d then lZ else j8 y x f)/\((y.jE c d ((y.C c).on d).length).C x).on f=if x=c/\f=d then []else(y.C x).on f
 rd:∀x f,x<y.nc->f<2->j8 y' x f=if x=c/\f=d then lZ else j8 y x f
 on:∀x f,x<y.nc->f<2->∃ps:List lD,(∀p∈ps,yD p)/\(y'.C x).on f=(if x=c/\f=d then []else(y.C x).on f)++ps.flatMap Plain.mb
theorem Cb {y1:ja} (A:jN y1)(x f:Nat)(hx:x<y1.nc)(hf:f<2):j8 y1.gather x f=j8 y1 x f/\∃ps:List lD,(∀p∈ps,yD p)/\(y1.gather.C x).on f=(y1.C x).on f++ps.flatMap Plain.mb:=by
 have V:∀k,k<=y1.nc->(∀x f,x<y1.nc->f<2->j8 (y1.kh k) x f=j8 y1 x f/\∃ps:List lD,(∀p∈ps,yD p)/\((y1.kh k).C x).on f=(y1.C x).on f++ps.flatMap Plain.mb):=λk=>by
  induction k with
  |zero=>intro _ x f _ _;exact⟨rfl,[],λ_ h=>by simp at h,by show(y1.C x).on f=_;simp⟩
  |succ k ih=>
   intro hk x f hx hf;have one:∀(z:ja) (i:Nat),jN z->i<2->z.nc=y1.nc->j8 (z.lz k i) x f=j8 z x f/\∃ps:List lD,(∀p∈ps,yD p)/\((z.lz k i).C x).on f=(z.C x).on f++ps.flatMap Plain.mb:=λz i hz hi SH=>by
    refine⟨?_,?_⟩;{unfold j8;rw[((nt z k i).2.2.2.2 x).1,BM];split<;>rfl}
    ·rw[DS];split
     ·rename_i e
      obtain⟨ps,E⟩:=hz.o ((z.C k).e i).1 ((z.C k).e i).2;exact⟨ps,E.2,by rw[e.1,e.2.1,E.1]⟩
     ·exact⟨[],λ_ h=>by simp at h,ik⟩
   have J:=jN.kh A k eB;have U:(y1.kh k).nc=y1.nc:=(kj y1 k).2.1;obtain⟨i1,p1,i2,i3⟩:=ih eB x f hx hf;obtain⟨u,p2,a2,a3⟩:=one (y1.kh k) 0 J eF U;obtain⟨b1,p3,b2,b3⟩:=one ((y1.kh k).lz k 0) 1 (J.lz k 0 (by rw[U];omega)) eF U;refine⟨b1.trans (u.trans i1),p1++p2++p3,λp hp=> ?_,?_⟩
   ·rcases av.1 hp with g|g
    {exact(av.1 g).elim (i2 p) (a2 p)};{exact b2 p g}
   ·show(((y1.kh k).lz k 0).lz k 1|>.C x).on f=_;rw[b3,a3,i3];simp
 have H:∀x f,j8 ((y1.kh y1.nc).nA y1.n) x f=j8 (y1.kh y1.nc) x f/\(((y1.kh y1.nc).nA y1.n).C x).on f=((y1.kh y1.nc).C x).on f:=λx f=>by
  obtain⟨_,_,_,Q⟩:=oy (y1.kh y1.nc) y1.n;refine⟨?_,by rw[Q]⟩;unfold j8;rw[Q,(xj (y1.kh y1.nc) _ y1.n).1];split<;>rfl
 unfold ja.gather;rw[(H x f).1,(H x f).2];exact V y1.nc (Nat.le_refl _) x f hx hf
theorem vJ(hF:jN y)(u:ki y D 0)(hD:D<=900000000)(hc:c<y.nc)(hd:d<2):Full y c d (y.deliver c d 2000).1:=by
 have hE:=u.oY;have hlen:=u.ol c d hc hd;have he:(y.deliver c d 2000).1=(y.jE c d ((y.C c).on d).length).gather:=by
  unfold ja.deliver;rw[af eB];show(y.jE ((c:Int)).toNat ((d:Int)).toNat (min (2000:Int).toNat ((y.C ((c:Int)).toNat).on ((d:Int)).toNat).length)).gather=_;rw[Int.toNat_natCast,Int.toNat_natCast,Nat.min_eq_right (by show _<=2000;exact hlen)]
 rw[he];obtain⟨l,rest,h1,h2,h3⟩:=FL hF hE c d ((y.C c).on d).length hc hd;have hq:=hF.q c d hc hd;have ho:=u.Z5 c d hc hd;have WW:uC y c d=(kN (j8 y c d) ((y.C c).on d)).1:=by unfold uC;rw[jM ho,aB]
 have hl:l=(kN (j8 y c d) ((y.C c).on d)).1:=by rw[h2,cu]
 have hr:rest=[] :=by
  rw[WW,<-hl]at h1;have:=congrArg List.length h1;rw[aA]at this;exact aJ eB
 have H:(iT y).F c d=l:=by
  show(if c<y.nc/\d<2 then uC y c d else [])=_;rw[ai ⟨hc,hd⟩,WW,hl]
 have hp:=aen l [] (iT y) c d (xy y) hc hd (by rw[H,aB]);have lq:=u.jE (q:=((y.C c).on d).length) eB hc hd;have E:=hF.jE hE c d ((y.C c).on d).length hc hd;have hg:=qb E lq.oY;obtain⟨U,V⟩:=fq (y.jE c d ((y.C c).on d).length);obtain⟨s1,s2,s3,s4⟩:=rT y c d ((y.C c).on d).length;have Q:∀x e,(U.C x).on e=if x=c/\e=d then []else(y.C x).on e:=λx e=>by
  rw[<-V];show((if x=c then {y.C c with on:=j6 (y.C c).on d (((y.C c).on d).drop ((y.C c).on d).length)}else y.C x):qX).on e=_;by_cases ex:x=c;{rw[ai ex];show j6 (y.C c).on d _ e=_;by_cases ed:e=d;{rw[ed,iQ,ai ⟨ex,rfl⟩,List.drop_length]};{rw[iI _ _ ed,af (λh=>ed h.2),ex]}};{rw[af ex,af (λh=>ex h.1)]}
 have J:∀x f,x<y.nc->f<2->j8 U x f=if x=c/\f=d then lZ else j8 y x f:=λx f hx hf=>by
  obtain⟨g1,g2,_⟩:=IJ (y.R ((y.C c).e (1-d)).1) ((y.C c).e (1-d)).2 (((y.C c).on d).take ((y.C c).on d).length);have hR:∀j,U.R j=if j=((y.C c).e (1-d)).1 then(y.R ((y.C c).e (1-d)).1).recv ((y.C c).e (1-d)).2 (((y.C c).on d).take ((y.C c).on d).length)else y.R j:=λj=>by rw[<-V];rfl
  unfold j8;rw[show(U.C x).e=(y.C x).e by rw[<-V];exact(s4 x).1,hR];by_cases e:x=c/\f=d;{rw[ai e,e.1,e.2,ai rfl,g1,cu];have:=hq.1;unfold j8 at this;rw[this]};{rw[af e];by_cases A:((y.C x).e (1-f)).1=((y.C c).e (1-d)).1;{rw[ai A,g2 _ (λe3=> ?_),A];have:=hE.ds x (1-f) c (1-d) hx eB hc eB (aU A e3);exact e ⟨this.1,eB⟩};{rw[af A]}}
 rw[hr]at h3;rw[V]at h3 E lq hg⊢;have mP:U.nc=y.nc:=by rw[<-V];exact s2
 have hp':zr c d l (iT y) (iT U):=by rw[h3];exact hp
 refine⟨by rw[H,V];exact⟨hp',hg.1,hg.2⟩,λx f hx hf=>by rw[V];exact⟨J x f hx hf,Q x f⟩,λx f hx hf=> ?_,λx f hx hf=> ?_⟩;{rw[(Cb E x f (by rw[mP];exact hx) hf).1];exact J x f hx hf};{obtain⟨_,ps,g1,g2⟩:=Cb E x f (by rw[mP];exact hx) hf;exact⟨ps,g1,by rw[g2,Q]⟩}
theorem Full.deep {y y':ja} {c d:Nat} (h:Full y c d y')(E:uh (iT y))(hc:c<y.nc)(hd:d<2) {t:Nat×Nat->Nat} (ht:∀x,t x<=127) {D:Nat->Nat->Nat} {k:Nat} (hk:∀x f,D x f<=k+1)(H:∀x f,k<=D x f)(g:Deep t (iT y) D):Deep t (iT y') λx f=>if x=c/\f=d then k else D x f:=by
 obtain⟨z,oN⟩:=fq (iT (y.jE c d ((y.C c).on d).length));obtain⟨Q,J,_⟩:=h.ps;rw[oN]at Q J;obtain⟨X,A,V⟩:=g;obtain⟨Y,hY,q⟩:=Q.deep E (xy y) ht A hc hd [] (by rw[aB]) k λx hx=>Nat.le_trans (V c d hc hd x hx) (hk c d);have hz:z.nc=y.nc:=Q.path.same.2.1;refine Deep.lost ⟨Y,hY,λx f hx hf p U=> ?_⟩ J;rw[hz]at hx;obtain⟨em,f1,g1⟩:=q x f hx hf;rw[f1.f]at U;show yn (Y x f) p<=if x=c/\f=d then k else D x f
 by_cases e:x=c/\f=d;{rw[ai e];rw[ai e]at U;exact g1 p (by simpa using U)}
 ·rw[af e];rw[af e]at U f1;rcases av.1 U with u|u
  {rw[(f1.o p u).1];exact V x f hx hf p u};{exact Nat.le_trans (g1 p u) (H x f)}
def vK(y:ja)(x f:Nat):Prop:=j8 y x f=lZ/\∃ps,Frames ((y.C x).on f) ps
theorem Full.rest {y':ja} (h:Full y c d y') {x f:Nat} (hx:x<y.nc)(hf:f<2)(g:(x=c/\f=d) \/vK y x f):vK y' x f:=by
 have J:=h.rd x f hx hf;obtain⟨ps,V,E⟩:=h.on x f hx hf;unfold vK;rw[J,E];by_cases e:x=c/\f=d;{rw[ai e,ai e];exact⟨rfl,ps,rfl,V⟩};{rw[af e,af e];obtain⟨g1,qs,U,Q⟩:=g.resolve_left e;exact⟨g1,qs++ps,by rw[U,cA],λp H=>(av.1 H).elim (Q p) (V p)⟩}
theorem Gc {y:ja} {Z:Nat} (hF:jN y)(U:ki y Z 0)(J:Z<=890000000) {t:Nat×Nat->Nat} (H:∀x,t x<=127)(k:Nat)(g:Deep t (iT y) λ_ _=>k+1):∀q,q<=y.nc->Deep t (iT (y.j0 q)) (λx _=>if x<q then k else k+1)/\∀x f,x<q->f<2->vK (y.j0 q) x f
 |0,_=>⟨by simp only[Nat.not_lt_zero,if_false];exact g,λx f h=>eB⟩
 |q+1,hq=>by
  have c9:=U.c9;obtain⟨h1,r1⟩:=Gc hF U J H k g q eB;have f1:=jN.j0 hF U J q eB;have k1:=U.j0 J q eB;have n1:(y.j0 q).nc=y.nc:=(mA y q).2.1;have d1:=vJ f1 k1 eB (c:=q) (d:=0) (by rw[n1];omega) eF;have f2:=f1.deliver k1 (q:Int) 0 2000;have k2:=k1.deliver eB (q:Int) 0 2000;have E:((y.j0 q).deliver (q:Int) 0 2000).1.nc=y.nc:=(nC (y.j0 q) (q:Int) 0 2000).2.1.trans n1;have d2:=vJ f2 k2 eB (c:=q) (d:=1) (by rw[E];omega) eF;have b1:∀x:Nat,(if x<q then k else k+1)<=k+1/\k<=(if x<q then k else k+1):=λx=>by split<;>exact⟨eB,eB⟩
  have b2:∀x f:Nat,(if x=q/\f=0 then k else if x<q then k else k+1)<=k+1/\k<=(if x=q/\f=0 then k else if x<q then k else k+1):=λx f=>by
   split;{exact⟨eB,eB⟩};{exact b1 x}
  have e1:=d1.deep k1.rD (by rw[n1];omega) eF H (k:=k) (λx _=>(b1 x).1) (λx _=>(b1 x).2) h1;have e2:=d2.deep k2.rD (by rw[E];omega) eF H (k:=k) (λx f=>(b2 x f).1) (λx f=>(b2 x f).2) e1;refine⟨?_,λx f hx hf=> ?_⟩
  ·obtain⟨X,hX,hd⟩:=e2;refine⟨X,hX,λc d hc kF p hp=> ?_⟩;have:=hd c d hc kF p hp;simp only at this;have Q:d=0 \/d=1:=eB;show yn (X c d) p<=if c<q+1 then k else k+1
   by_cases V:c<q;{rw[af eB,af eB,ai V]at this;rw[ai eB];exact this}
   ·by_cases u:c=q
    ·rw[ai eB];rcases Q with rfl|rfl
     {rw[af eB,ai ⟨u,rfl⟩]at this;exact this};{rw[ai ⟨u,rfl⟩]at this;exact this}
    ·rw[af eB,af eB,af V]at this;rw[af eB];exact this
  ·have A:x<y.nc:=eB;have Q:f=0 \/f=1:=eB;refine d2.rest (by rw[E];exact A) hf ?_;by_cases e:x=q
   ·rcases Q with rfl|rfl
    {exact .inr (d1.rest (by rw[n1];exact A) hf (.inl ⟨e,rfl⟩))};{exact .inl ⟨e,rfl⟩}
   ·exact .inr (d1.rest (by rw[n1];exact A) hf (.inr (r1 x f eB hf)))
theorem Deep.mono {D E:Nat->Nat->Nat} (h:Deep t a D)(Q:∀c d,c<a.nc->D c d<=E c d):Deep t a E:=by
 obtain⟨X,V,U⟩:=h;exact⟨X,V,λc d hc hd x hx=>Nat.le_trans (U c d hc hd x hx) (Q c d hc)⟩
theorem Gd {y:ja} {Z:Nat} (hF:jN y)(U:ki y Z 0)(V:Z<=810000000) {t:Nat×Nat->Nat} (J:∀x,t x<=127)(g:Deep t (iT y) λ_ _=>8):∀j,j<=12->Deep t (iT (y.turns j)) (λ_ _=>8-j)/\(1<=j->∀x f,x<y.nc->f<2->vK (y.turns j) x f)
 |0,_=>⟨g,λh=>eB⟩
 |j+1,hj=>by
  obtain⟨H,_⟩:=Gd hF U V J g j eB;have n1:(y.turns j).nc=y.nc:=(rB y j).2.1;have Q:=Gc (jN.turns hF U V j eB) (U.turns V j eB) eB J (8-j-1) (H.mono λ_ _ _=>eB) y.nc (by rw[n1];exact Nat.le_refl _);have A:((y.turns j).j0 y.nc).nc=y.nc:=(mA (y.turns j) y.nc).2.1.trans n1;refine⟨Q.1.mono λc _ hc=> ?_,λ_ x f hx hf=>Q.2 x f hx hf⟩;have E:c<y.nc:=by rw[<-A];exact hc
  show(if c<y.nc then 8-j-1 else 8-j-1+1)<=8-(j+1);rw[ai E];omega
structure Still(y:ja):Prop where
 f:∀c d,c<y.nc->d<2->(iT y).F c d=[]
 r:∀c d,c<y.nc->d<2->vK y c d
theorem DY.deep {X:Marks} (V:rK X t a)(h:DY a):Deep t a λ_ _=>8:=by
 refine⟨X,V,λc d hc hd x hx=> ?_⟩;have U:=(h.kn c d hc hd x hx).2.2;unfold yn;cases CS 1 x with
 |some i=>simp only;split<;>decide
 |none=>
  simp only;split;{decide}
  ·rename_i k b s
   have:=U k b s rfl;omega
  ·decide
theorem CW(hF:jN y)(V:ki y Z 0)(J:Z<=800000000)(h:Inv N (λ_=>k) (iT y))(hl:N+144<1000000)(u:k+1<=126):Still y.round:=by
 have n6:=V.n6;have hp:=zt hF V J y.n (Nat.le_refl _);obtain⟨t1,t2,_⟩:=pU y.n;have Q:=h.path hp (by rw[t2];omega) λx=>Nat.le_trans (nY t1 k x) u;obtain⟨X,H⟩:=Q.lk;have hd:=Q.fl.deep H;obtain⟨d1,d2⟩:=Gd (hF.jn y.n) (V.jn J y.n n6) eB (λx=>by have:=nY t1 k x;omega) hd 12 (Nat.le_refl _);have n1:(y.jn y.n).nc=y.nc:=(oX y y.n).2.1;have n2:y.round.nc=y.nc:=(kX y).2.1;refine⟨λc d hc U=> ?_,λc d hc U=>d2 eF c d (by rw[n1,<-n2];exact hc) U⟩;obtain⟨Y,_,E⟩:=d1;cases A:(iT y.round).F c d with
 |nil=>rfl
 |cons x l=>
  have h3:yn (Y c d) x<=8-12:=E c d hc U x (by show x∈(iT y.round).F c d;rw[A];simp);have h4:=aak (Y c d) x;omega
def vL:lD->Nat
 |77::_=>1
 |_=>0
theorem ve {c:UInt8} (s:List UInt8)(h:c≠77):vL (c::s)=0:=by
 unfold vL;split;{rename_i e;exact absurd (aC e).1 h};{rfl}
theorem Xl {α:Type} {f g:α->Nat}:∀ {l:List α},(∀x∈l,1<=f x+g x)->l.length<=sm f l+sm g l
 |[],_=>Nat.zero_le _
 |x::l,h=>by
  have:=Xl (l:=l) λy hy=>h y (by simp[hy]);have h1:=h x ik;show l.length+1<=(f x+sm f l)+(g x+sm g l);omega
theorem aal(X:Int->Bool)(x:lD):1<=pq X x+vL x:=by
 unfold pq;cases CS 1 x with
 |some i=>simp only;split<;>omega
 |none=>
  simp only;split;{omega};{show 1<=0+1;omega};{omega}
theorem aid(a:AN)(hc:c<a.nc)(hd:d<2):sm vL (a.F c d)<=a.W vL:=by
 have h1:0+sm vL (a.F c d)<=a.W vL:=by
  have:=Az (f:=λ_:Nat×Nat=>0) (g:=λx:Nat×Nat=>sm vL (a.F x.1 x.2)) (y:=(c,d)) (k:=sm vL (a.F c d)) (xX a.nc) (qL.2 ⟨hc,hd⟩) λx _=>by
   show 0+(if x=(c,d)then _ else 0)<=sm vL (a.F x.1 x.2);by_cases e:x=(c,d)
   {subst e;rw[ai rfl];exact Nat.le_of_eq (Nat.zero_add _)};{rw[af e];omega}
  have e0:sm (λ_:Nat×Nat=>0) (Ti a.nc)=0:=by
   generalize Ti a.nc=l
   induction l with
   |nil=>rfl
   |cons x l ih=>simpa[sm]using ih
  unfold AN.W;omega
 omega
theorem Ts(h:x.length<=23):(Plain.mb x).length<=52:=by
 have h1:=Plain.DB (Plain.mD x);have h2:=Plain.oO x;have h3:=yu x;omega
theorem Ge:∀ {l:List lD},(∀x∈l,x.length<=23)->(l.flatMap Plain.mb).length<=52*l.length
 |[],_=>Nat.le_refl _
 |x::l,h=>by
  have:=Ge (l:=l) λy hy=>h y (by simp[hy]);have h1:=Ts (h x ik);rw[ch,aA,cS];omega
structure Calm(t:Nat×Nat->Nat)(W:Nat)(a:AN):Prop where
 lk:∃X,rK X t a/\∀c,c<a.nc->wc X a c<=W
 ml:a.W vL<=1
theorem Calm.few(h:Calm t W a)(hc:c<a.nc)(hd:d<2):(a.F c d).length<=W+1/\(a.F c d≠ []->a.jc c=true):=by
 obtain⟨X,U,Q⟩:=h.lk;have h1:=Xl (l:=a.F c d) λx _=>aal (X c d) x;have h2:=aid a hc hd;have h3:=h.ml;have h4:sm (pq (X c d)) (a.F c d)<=wc X a c:=by
  have:d=0 \/d=1:=eB;unfold wc;rcases this with rfl|rfl<;>omega
 have h5:=Q c hc;refine⟨eB,λJ=> ?_⟩;cases V:a.F c d with
 |nil=>exact absurd V J
 |cons x l=>exact U.zw hc hd (x:=x) (by rw[V];simp)
theorem Calm.room {z:ja} (h:Calm t 34 (iT z))(hF:∀i p,∃ps,Frames ((z.R i).P p).out ps)(U:∀c d,c<z.nc->d<2->vK z c d)(J:DY (iT z)):Room z:=λc d hc hd=>by
 obtain⟨r1,ps,V,Q⟩:=U c d hc hd;obtain⟨qs,q1,q2⟩:=hF ((z.C c).e d).1 ((z.C c).e d).2;have hf:(iT z).F c d=ps++qs:=by
  show(if c<z.nc/\d<2 then uC z c d else [])=_;rw[ai ⟨hc,hd⟩];unfold uC;rw[r1,V,rV ps Q,nD ⟨q1,q2⟩]
 obtain⟨f1,f2⟩:=h.few hc hd;rw[hf]at f1 f2;cases qs with
 |nil=>left;rw[q1];rfl
 |cons x l=>
  right;refine⟨f2 ik,?_⟩;rw[V,q1,<-aA,<-cA];have:=Ge (l:=ps++x::l) λy hy=>(J.kn c d hc hd y (by rw[hf];exact hy)).2.1;omega
inductive wk:AN->AN->Prop
 |nil (a:AN):wk a a
 |snoc {a b:AN} (c d:Nat) (x:lD) (l:List lD):wk a b->c<b.nc->d<2->b.F c d=x::l->wk a (b.pop c d x l)
theorem wk.path(h:wk a b):j5 a [] [] b:=by
 induction h with
 |nil=>exact j5.nil a
 |snoc c d x l _ hc hd hF ih=>exact ih.snoc (ni.pop c d x l hc hd hF)
theorem wk.trans {c:AN} (h:wk a b)(g:wk b c):wk a c:=by
 induction g with
 |nil=>exact h
 |snoc c d x l _ hc hd hF ih=>exact ih.snoc c d x l hc hd hF
theorem zr.pps(h:zr c d l a b):wk a b:=by
 induction h with
 |nil a=>exact wk.nil a
 |cons V U Q _ ih=>exact((wk.nil _).snoc _ _ _ _ V U Q).trans ih
theorem Xm(h:FR r i x p l):sm vL l<=vL x:=by
 cases h with
 |none h=>rw[h];exact Nat.zero_le _
 |link s _ _ _ h=>
  rw[h];have:∀l:List kZ,sm vL (l.flatMap oJ)=0:=λl=>by
   have e:∀y∈l.flatMap oJ,vL y=0:=λy hy=>by obtain⟨s,rfl⟩:=sD hy;exact ve s eF
   rw[tM (g:=λ_=>0) e];generalize l.flatMap oJ=m
   induction m with
   |nil=>rfl
   |cons x l ih=>simpa[sm]using ih
  rw[this];exact Nat.zero_le _
 |heard s _ _ _ _ _ _ _ h=>rw[h];show vL (65::_)+0<=_;rw[ve _ eF];exact Nat.zero_le _
 |J4 a b s hx _ _ _ h=>rw[h,hx];exact Nat.le_refl _
theorem Xn(A:uh a)(u:Norm a)(hc:c<a.nc)(hd:d<2)(hF:a.F c d=x::l):(a.pop c d x l).W vL<=a.W vL:=by
 obtain⟨m1,m2⟩:=qM (u.emp (a.e c (1-d)).1) (a.e c (1-d)).2 x;have E:=aev (a:=a.lR c d l) (A.same rfl rfl rfl) (a.e c (1-d)).1 (jY (a.R (a.e c (1-d)).1) (a.e c (1-d)).2 x) vL;have h2:=abK vL hc hd hF;have U:=λp=>Xm (m1 p);obtain⟨r',H⟩:∃r',jY (a.R (a.e c (1-d)).1) (a.e c (1-d)).2 x=r':=⟨_,rfl⟩
 unfold AN.pop;rw[H]at m2 E U⊢;have h4:sm vL (jz (r'.P 0))+sm vL (jz (r'.P 1))+sm vL (jz (r'.P 2))<=vL x:=by
  have z:∀p,jz (r'.P p)=[]->sm vL (jz (r'.P p))=0:=λp h=>by rw[h];rfl
  have a0:=U 0;have a1:=U 1;have a2:=U 2;by_cases Q:jz (r'.P 0)=[]
  ·rw[z 0 Q];by_cases V:jz (r'.P 1)=[]
   ·rw[z 1 V];omega
   ·have J:jz (r'.P 2)=[] :=by
     by_cases e:jz (r'.P 2)=[]
     {exact e};{exact absurd (m2 1 2 V e) eF}
    rw[z 2 J];omega
  ·have V:jz (r'.P 1)=[] :=by
    by_cases e:jz (r'.P 1)=[]
    {exact e};{exact absurd (m2 0 1 Q e) eF}
   have J:jz (r'.P 2)=[] :=by
    by_cases e:jz (r'.P 2)=[]
    {exact e};{exact absurd (m2 0 2 Q e) eF}
   rw[z 1 V,z 2 J];omega
 omega
theorem wk.calm(h:wk a b)(A:uh a)(u:Norm a)(ht:∀x,t x<=127)(hc:Calm t W a):Calm t W b:=by
 induction h with
 |nil=>exact hc
 |snoc c d x l p Q J H ih=>
  obtain⟨⟨X,hX,hw⟩,hm⟩:=ih;have V:=p.path.rD A;have U:=p.path.norm u;obtain⟨Y,hY,pp⟩:=hX.pop V U ht Q J H;exact⟨⟨Y,hY,λc' E=>Nat.le_trans (pp.w c' E) (hw c' E)⟩,Nat.le_trans (Xn V U Q J H) hm⟩
theorem Qz(X:Int->Bool):∀l:List (Int×PS),sm (pq X) (l.flatMap DW)<=2*l.length
 |[] =>Nat.le_refl _
 |q::l=>by
  have:=Qz X l;rw[ch,qz];have h1:sm (pq X) (DW q)<=2:=by
   unfold DW;split;{show pq X (83::_)+0<=2;unfold pq;rw[x5 1 _ eF];exact Nat.le_refl _};{exact Nat.zero_le _}
  simp only[eW];omega
theorem QA(X:Int->Bool)(r:iW)(p:Nat):sm (pq X) (A3 r p)<=13/\sm vL (A3 r p)=0:=by
 have Q:sm vL (A3 r p)=0:=by
  have e:∀y∈A3 r p,vL y=0:=λy hy=>by
   unfold A3 at hy;split at hy
   ·rcases aP.1 hy with g|g
    {rw[g];exact ve _ eF};{split at g;{obtain⟨q,_,V⟩:=aT.1 g;unfold DW at V;split at V;{rw[ar.1 V];exact ve _ eF};{simp at V}};{simp at g}}
   ·simp at hy
  rw[tM (g:=λ_=>0) e];generalize A3 r p=m
  induction m with
  |nil=>rfl
  |cons x l ih=>simpa[sm]using ih
 refine⟨?_,Q⟩;unfold A3;split
 ·have U:∀s,pq X (72::s)=1:=λs=>by unfold pq;rw[x5 1 s eF];rfl
  show pq X (72::_)+sm (pq X) (if _ then _ else _)<=13;rw[U];split;{have:=Qz X (lV (((jo r p).meet p (iV (r.P p).pe)).O p));have:=BJ (((jo r p).meet p (iV (r.P p).pe)).O p);omega};{show 1+0<=13;omega}
 ·exact Nat.zero_le _
theorem ym.light(h:ym T a b)(U:uh a)(A:Norm a)(Q:∀x,qS t T x<=126) {X:Marks} (u:rK X t a)(E:∀c d,c<a.nc->d<2->sm (pq (X c d)) (a.F c d)=0):(∃Y,rK Y (qS t T) b/\∀c d,c<a.nc->d<2->sm (pq (Y c d)) (b.F c d)<=17*T.count (a.e c d))/\b.W vL<=a.W vL:=by
 induction h with
 |nil=>exact⟨⟨X,by rw[pO];exact u,λc d hc hd=>by rw[E c d hc hd];exact Nat.zero_le _⟩,Nat.le_refl _⟩
 | @snoc T a b i p tk hi hp ih=>
   rw[CU]at Q⊢;obtain⟨⟨Y,hY,hs⟩,hm⟩:=ih U A (λx=>Nat.le_trans (Nat.le_add_right _ _) (Q x)) u E;have J:=tk.path.rD U;have H:=tk.path.norm A;have hn:=tk.path.same;obtain⟨Z,hZ,hf⟩:=hY.tick J H (i:=i) (p:=p) λx=>Nat.le_trans (Nat.le_add_right _ _) (Q x);refine⟨⟨Z,hZ,λc d hc hd=> ?_⟩,?_⟩
   ·have j9:c<b.nc:=by rw[hn.2.1];exact hc
    obtain⟨f1,f2⟩:=hf c d j9 hd;rw[iK];have h1:=hs c d hc hd;rw[hn.2.2.1]at f1 f2;by_cases e:a.e c d=(i,p)
    ·obtain⟨em,g1,g2⟩:=f2 e;have V:=g2.w;have Yn:sm (pq (Z c d)) em<=4:=by
      rcases g1 with g|g
      {rw[g];exact Nat.zero_le _};{rw[g];show pq _ (mY _ _)+0<=4;have hg:=rY U hc hd;unfold pq;split;{split<;>omega};{split<;>omega}}
     have zE:=(QA (Z c d) (b.R i) p).1;rw[qz]at V;have h2:([(i,p)] :List (Nat×Nat)).count (a.e c d)=1:=by rw[e];simp
     rw[h2];omega
    ·have V:=(f1 e).w;have:sm (pq (Z c d)) [] =0:=rfl;omega
   ·obtain⟨e1,e2⟩:=xY (H.emp i) p;have V:=aev J i ((b.R i).jj p) vL;have z:∀q,sm vL (jz (((b.R i).jj p).P q))=0:=λq=>by
     by_cases e:q=p
     ·subst e;have e3:jz (((b.R i).jj q).P q)=(jq ((b.R i).P q).L).2.flatMap oJ++A3 (b.R i) q:=e2;rw[e3,qz,(QA (λ_=>false) (b.R i) q).2];have e:∀y∈(jq ((b.R i).P q).L).2.flatMap oJ,vL y=0:=λy hy=>by obtain⟨s,rfl⟩:=sD hy;exact ve s eF
      rw[tM (g:=λ_=>0) e];generalize (jq ((b.R i).P q).L).2.flatMap oJ=m
      induction m with
      |nil=>rfl
      |cons x l ih=>simpa[sm]using ih
     ·rw[e1 q e];rfl
    rw[z,z,z]at V;omega
def qg(y:ja):Prop:=∀c d,c<y.nc->d<2->vK y c d
theorem Hd(hF:jN y)(h:qg y):qg y.gather:=λc d hc hd=>by
 have V:c<y.nc:=by rw[<-(mr y).2.1];exact hc
 obtain⟨g1,ps,U,Q⟩:=Cb hF c d V hd;obtain⟨r1,qs,H,E⟩:=h c d V hd;exact⟨g1.trans r1,qs++ps,by rw[Q,H,cA],λp J=>(av.1 J).elim (E p) (U p)⟩
theorem MI(h:qg y)(i:Nat)(V:nO (y.R i) r):qg (y.jO i r):=λc d hc hd=>by
 obtain⟨r1,U⟩:=h c d hc hd;refine⟨?_,U⟩;rw[<-r1];show((j6 y.R i r ((y.C c).e (1-d)).1).P ((y.C c).e (1-d)).2).rd=((y.R ((y.C c).e (1-d)).1).P ((y.C c).e (1-d)).2).rd;by_cases e:((y.C c).e (1-d)).1=i;{rw[e,iQ];exact V.rd _};{rw[iI _ _ e]}
theorem count_le(h:T.Nodup)(x:Nat×Nat):T.count x<=1:=iL.1 h x
theorem Gf(h:ym T a b)(V:T.Nodup)(Q:uh a)(J:Norm a)(A:k+1<=126) {X:Marks} (H:rK X (λ_=>k) a)(U:∀c d,c<a.nc->d<2->sm (pq (X c d)) (a.F c d)=0)(u:a.W vL<=1):Calm (λ_=>k+1) 34 b:=by
 obtain⟨⟨Y,E,hs⟩,hw⟩:=h.light Q J (λx=>Nat.le_trans (nY V k x) A) H U;refine⟨⟨Y,E.mono (nY V k),λc hc=> ?_⟩,Nat.le_trans hw u⟩;rw[h.path.same.2.1]at hc;have h1:=hs c 0 hc eF;have h2:=hs c 1 hc eF;have c1:=count_le V (a.e c 0);have c2:=count_le V (a.e c 1);unfold wc;omega
theorem CX {y:ja} {Z N k:Nat} (hF:jN y)(H:ki y Z 0)(hZ:Z<=800000000)(U:Inv N (λ_=>k) (iT y))(hl:N+144<1000000)(J:k+1<=126)(u:qg y) {X:Marks} (hX:rK X (λ_=>k) (iT y))(E:∀c d,c<y.nc->d<2->sm (pq (X c d)) ((iT y).F c d)=0)(hm:(iT y).W vL<=1):∀q,q<=y.n->ym (m9 q) (iT y) (iT (y.jn q))/\qg (y.jn q)
 |0,_=>⟨ym.nil _,u⟩
 |q+1,hq=>by
  have n6:=H.n6;obtain⟨A,r1⟩:=CX hF H hZ U hl J u hX E hm q eB;have fz:=jN.jn hF q;have kz:=H.jn hZ q eB;have nz:(y.jn q).n=y.n:=(oX y q).1;obtain⟨z,hz⟩:=fq (y.jn q);rw[hz]at A r1 fz kz nz;obtain⟨t1,e1,f1⟩:=FO fz kz eB q eB;have r2:=MI r1 q (nO.jn (z.R q) (z.R q).n);have V:=A.trans t1;rw[<-BZ]at V;obtain⟨nd,len,_⟩:=pU (q+1);have hc:=Gf V nd U.rD U.nrm J hX E hm;have xM:=(U.path V.path (by rw[len];omega) λx=>Nat.le_trans (nY nd k x) J).fl;have Q:=hc.room f1.o r2 xM;have kC:(y.jn (q+1))=(z.jO q (z.R q).tick).gather:=by
   show((y.jn q).tick ((q:Int)+1)).1=_;rw[hz];unfold ja.tick;rw[af eB];show(z.jO ((q:Int)+1-1).toNat (z.R ((q:Int)+1-1).toNat).tick).gather=_;rw[show((q:Int)+1-1).toNat=q by omega]
  rw[kC];exact⟨by rw[(qb f1 e1).2 Q];exact V,Hd f1 r2⟩
theorem yG(hF:jN y)(A:ki y Z 0)(hZ:Z<=900000000)(J:Inv N (λ_=>k) (iT y))(hl:N<1000000)(hk:k<=126)(E:qg y)(hc:Calm (λ_=>k) 34 (iT y))(U:c<y.nc)(hd:d<2):wk (iT y) (iT (y.deliver c d 2000).1)/\qg (y.deliver c d 2000).1:=by
 have hf:=vJ hF A hZ U hd;obtain⟨u,_,p3⟩:=hf.ps;have hE:=A.oY;have f1:=hF.jE hE c d ((y.C c).on d).length U hd;have rr:=hf.rv;obtain⟨s1,s2,_,_⟩:=rT y c d ((y.C c).on d).length;have Q:=u.pps;have H:=Q.calm J.rD J.nrm (λ_=>eB) hc;have xM:DY (iT (y.jE c d ((y.C c).on d).length)):=(J.path u.path (by simpa using hl) λx=>by rw[pO];exact hk).fl;have r1:qg (y.jE c d ((y.C c).on d).length):=λx f hx V=>by
  rw[s2]at hx;obtain⟨g1,g2⟩:=rr x f hx V;unfold vK;rw[g1,g2];by_cases e:x=c/\f=d;{rw[ai e,ai e];exact⟨rfl,[],Frames.nil⟩};{rw[af e,af e];exact E x f hx V}
 rw[p3 (H.room f1.o r1 xM)];refine⟨Q,λx f hx V=> ?_⟩;have vY:x<y.nc:=by rw[<-(nC y c d 2000).2.1];exact hx
 exact hf.rest vY V (.inr (E x f vY V))
theorem Inv.pps(h:Inv N (λ_=>k) a)(p:wk a b)(hl:N<1000000)(V:k<=126):Inv N (λ_=>k) b:=by
 have:=h.path p.path (by simpa using hl) λx=>by rw[pO];exact V
 rw[pO]at this;simpa using this
theorem AP {y:ja} {Z N k:Nat} (hF:jN y)(J:ki y Z 0)(E:Z<=890000000)(U:Inv N (λ_=>k) (iT y))(hl:N<1000000)(Q:k<=126)(A:qg y)(hc:Calm (λ_=>k) 34 (iT y)):∀q,q<=y.nc->wk (iT y) (iT (y.j0 q))/\qg (y.j0 q)
 |0,_=>⟨wk.nil _,A⟩
 |q+1,hq=>by
  have c9:=J.c9;obtain⟨H,r1⟩:=AP hF J E U hl Q A hc q eB;have f1:=jN.j0 hF J E q eB;have k1:=J.j0 E q eB;have n1:(y.j0 q).nc=y.nc:=(mA y q).2.1;obtain⟨u,r2⟩:=yG f1 k1 eB (U.pps H hl Q) hl Q r1 (H.calm U.rD U.nrm (λ_=>eB) hc) (c:=q) (d:=0) eB eF;have f2:=f1.deliver k1 (q:Int) 0 2000;have k2:=k1.deliver eB (q:Int) 0 2000;have n2:((y.j0 q).deliver (q:Int) 0 2000).1.nc=y.nc:=(nC (y.j0 q) (q:Int) 0 2000).2.1.trans n1;have V:=H.trans u;obtain⟨h3,r3⟩:=yG f2 k2 eB (U.pps V hl Q) hl Q r2 (V.calm U.rD U.nrm (λ_=>eB) hc) (c:=q) (d:=1) eB eF;exact⟨V.trans h3,r3⟩
theorem CY {y:ja} {Z N k:Nat} (hF:jN y)(H:ki y Z 0)(Q:Z<=810000000)(V:Inv N (λ_=>k) (iT y))(hl:N<1000000)(J:k<=126)(E:qg y)(hc:Calm (λ_=>k) 34 (iT y)):∀j,j<=12->wk (iT y) (iT (y.turns j))/\qg (y.turns j)
 |0,_=>⟨wk.nil _,E⟩
 |j+1,hj=>by
  obtain⟨U,r1⟩:=CY hF H Q V hl J E hc j eB;have n1:(y.turns j).nc=y.nc:=(rB y j).2.1;obtain⟨A,u⟩:=AP (jN.turns hF H Q j eB) (H.turns Q j eB) eB (V.pps U hl J) hl J r1 (U.calm V.rD V.nrm (λ_=>eB) hc) y.nc eB;exact⟨U.trans A,u⟩
theorem MJ(hF:jN y)(Q:ki y Z 0)(E:Z<=800000000)(V:Inv N (λ_=>k) (iT y))(hl:N+144<1000000)(U:k+1<=126)(hR:qg y) {X:Marks} (u:rK X (λ_=>k) (iT y))(A:∀c d,c<y.nc->d<2->sm (pq (X c d)) ((iT y).F c d)=0)(hm:(iT y).W vL<=1):∃m,ym (m9 y.n) (iT y) m/\wk m (iT y.round)/\Still y.round:=by
 have n6:=Q.n6;obtain⟨J,r1⟩:=CX hF Q E V hl U hR u A hm y.n (Nat.le_refl _);obtain⟨nd,len,_⟩:=pU y.n;have hc:=Gf J nd V.rD V.nrm U u A hm;have H:Inv (N+144) (λ_=>k+1) (iT (y.jn y.n)):=(V.path J.path (by rw[len];omega) λx=>Nat.le_trans (nY nd k x) U).mono (by rw[len];omega) (nY nd k);obtain⟨h2,_⟩:=CY (hF.jn y.n) (Q.jn E y.n n6) eB H hl U r1 hc 12 (Nat.le_refl _);exact⟨_,J,h2,CW hF Q E V hl U⟩
theorem Still.aeG(h:Still y):qg y:=h.r
theorem Still.zero(h:Still y)(X:Marks):(∀c d,c<y.nc->d<2->sm (pq (X c d)) ((iT y).F c d)=0)/\(iT y).W vL<=1:=by
 refine⟨λc d hc hd=>by rw[h.f c d hc hd];rfl,?_⟩;have e:(iT y).W vL=0:=by
  unfold AN.W;rw[tM (g:=λ_=>0) λx hx=>by
   have:=qL.1 hx;show sm vL ((iT y).F x.1 x.2)=0;rw[h.f x.1 x.2 this.1 this.2];rfl]
  generalize Ti (iT y).nc=m
  induction m with
  |nil=>rfl
  |cons x l ih=>simpa[sm]using ih
 omega
theorem QB(u:Norm a)(i p:Nat)(c d:Nat):(a.e c d≠(i,p)->kf (a.op i ((a.R i).jj p)) c d=kf a c d/\(a.op i ((a.R i).jj p)).F c d=a.F c d)/\(a.e c d=(i,p)->c<a.nc->d<2->kf (a.op i ((a.R i).jj p)) c d=(jq (kf a c d)).1/\(a.op i ((a.R i).jj p)).F c d=a.F c d++((jq (kf a c d)).2.flatMap oJ++A3 (a.R i) p)):=by
 obtain⟨Q,J⟩:=xY (u.emp i) p;obtain⟨E,A⟩:=xC (a:=a) i p ((a.R i).jj p) (λq U=>⟨by rw[B6,af U],Q q U⟩) c d;refine⟨E,λV hc hd=> ?_⟩;obtain⟨g1,H⟩:=A V hc hd;have pV:kf a c d=((a.R i).P p).L:=by unfold kf;rw[V]
 rw[g1,H,J,B6,ai rfl,pV];exact⟨rfl,rfl⟩
inductive aeH(a:AN)(c d:Nat)(x:lD)(l:List lD):Prop
 |other:rW x->(∀c' d',kf (a.pop c d x l) c' d'=kf a c' d')->(∀c' d',c'<a.nc->d'<2->∃em,(a.pop c d x l).F c' d'=(if c'=c/\d'=d then l else a.F c' d')++em/\∀y∈em,rW y)->aeH a c d x l
 |link (q:kZ):((∃id,0<=id/\id<=255/\x=mY (gP (a.e c d)) id/\q=(1,id,oz (gP (a.e c d)))) \/(∃id,0<=id/\id<=255/\x=oC (gP (a.e c (1-d))) id/\q=(2,id,oz (gP (a.e c (1-d))))))->kf (a.pop c d x l) c (1-d)=(jW (kf a c (1-d)) q).1->(a.pop c d x l).F c (1-d)=a.F c (1-d)++(jW (kf a c (1-d)) q).2.1.flatMap oJ->(∀c' d',c'<a.nc->d'<2->¬(c'=c/\d'=1-d)->kf (a.pop c d x l) c' d'=kf a c' d'/\(a.pop c d x l).F c' d'=if c'=c/\d'=d then l else a.F c' d')->aeH a c d x l
theorem IZ {X:Marks} (A:uh a)(hN:Norm a)(h:rK X t a)(hc:c<a.nc)(hd:d<2)(hF:a.F c d=x::l):aeH a c d x l:=by
 have hi:=h.zw hc hd (x:=x) (by rw[hF];simp);have pr:=(h.uu hc hd hi).symm;obtain⟨r,hr⟩:=fq (a.R (a.e c (1-d)).1);obtain⟨i,V⟩:=fq ((a.e c (1-d)).1);obtain⟨p,oQ⟩:=fq ((a.e c (1-d)).2);have H:a.e c (1-d)=(i,p):=aU V oQ;have U:a.pop c d x l=(a.lR c d l).op i (jY r p x):=by unfold AN.pop;rw[hr,V,oQ]
 have J:a.R i=r:=by rw[<-V];exact hr
 have Yn:Kw r:=by rw[<-J];exact hN.emp i
 obtain⟨hsy,_⟩:=qM Yn p x;have pV:kf a c (1-d)=(r.P p).L:=by unfold kf;rw[H,J]
 by_cases hx:rW x
 ·have hL:∀q,((jY r p x).P q).L=(r.P q).L:=λq=>by
   cases x with
   |nil=>rfl
   |cons k s=>exact vI r p s (hx k s rfl) q
  refine .other hx (λc' d'=> ?_) λc' d' j9 kF=> ?_
  ·rw[U,IX];split
   ·rename_i e
    rw[hL,<-J];unfold kf;rw[show(a.e c' d').1=i from e];rfl
   ·rfl
  ·rw[U,vZ,zq,DT];by_cases e:(a.e c' d').1=i
   ·rw[ai ⟨⟨j9,kF⟩,e⟩];refine⟨_,rfl,λy hy=> ?_⟩;rcases(x6 (hsy (a.e c' d').2) hx (λ_=>false) (λ_=>false)).1 with g|g
    {rw[g]at hy;simp at hy};{exact g.2 y hy}
   ·rw[af (λz=>e z.2)];exact⟨[],by rw[aB];rfl,λ_ h=>by simp at h⟩
 ·have gd:=rY A hc hd;have E:=rY A hc (show 1-d<2 by omega);have Xj:∃q s,x=76::s/\jk s=(q.1,q.2.1,q.2.2,0)/\((∃id,0<=id/\id<=255/\x=mY (gP (a.e c d)) id/\q=(1,id,oz (gP (a.e c d)))) \/(∃id,0<=id/\id<=255/\x=oC (gP (a.e c (1-d))) id/\q=(2,id,oz (gP (a.e c (1-d)))))):=by
   rcases pr.g x (by rw[hF];simp)with g|⟨id,i1,i2,g⟩|⟨id,i1,i2,g⟩
   {exact absurd g hx};{exact⟨_,_,g,AG (.inl rfl) ⟨i1,i2⟩ gd,.inl ⟨id,i1,i2,g,rfl⟩⟩};{exact⟨_,_,g,AG (.inr rfl) ⟨i1,i2⟩ E,.inr ⟨id,i1,i2,g,rfl⟩⟩}
  obtain⟨q,s,Ue,vf,hq⟩:=Xj;obtain⟨k1,_,k3,_⟩:=AA Yn p 76 s;rw[vf]at k1 k3;have pK:=xC (a:=a.lR c d l) i p (jY r p x) λu hu=>by
   rw[Ue];show((r.take p 76 s).P u).L=((a.R i).P u).L/\jz ((r.take p 76 s).P u)=[]
   rw[(ui r p s u).1,nX (ui r p s u).2,k1,af (λz=>hu z.1),(k3 u).2.2,af (λz=>hu z.1),J];exact⟨rfl,rfl⟩
  have Q:((jY r p x).P p).L=(jW (kf a c (1-d)) q).1/\jz ((jY r p x).P p)=(jW (kf a c (1-d)) q).2.1.flatMap oJ:=by
   rw[Ue,pV];show((r.take p 76 s).P p).L=_/\jz ((r.take p 76 s).P p)=_;rw[(ui r p s p).1,nX (ui r p s p).2,k1,ai ⟨rfl,rfl,rfl⟩,(k3 p).2.2,ai ⟨rfl,rfl,rfl⟩];exact⟨rfl,rfl⟩
  obtain⟨z1,z2⟩:=(pK c (1-d)).2 H hc (by show 1-d<2;omega);refine .link q hq ?_ ?_ λc' d' j9 kF jx=> ?_;{rw[U,z1,Q.1]};{rw[U,z2,Q.2,tK,af eB]};{rw[U];exact(pK c' d').1 λe=>jx (A.ds _ _ _ _ j9 kF hc eB (e.trans H.symm))}
def lb(x:lD):Option Bool:=if(CS 1 x).isSome=true then μ true else if(CS 2 x).isSome=true then μ false else ν
def I0(l:List lD):List Bool:=l.filterMap lb
theorem tN(l m:List lD):I0 (l++m)=I0 l++I0 m:=by unfold I0;rw[bJ]
theorem rW.lb {x:lD} (h:rW x):lb x=ν:=by unfold Rt.lb;rw[h.lk,h.lk];rfl
theorem QC(h:∀x∈l,rW x):I0 l=[] :=by
 unfold I0;rw[cX];exact λx hx=>(h x hx).lb
theorem O5(V:1<=g/\g<=255)(hi:0<=id/\id<=255):lb (mY g id)=μ true/\lb (oC g id)=μ false:=by
 obtain⟨a,b,c,d⟩:=tL V hi;unfold lb;rw[a,c,d];exact⟨rfl,rfl⟩
structure Sp where
 s0:Nat
 w0:Nat
 q0:List Bool
 s1:Nat
 w1:Nat
 q1:List Bool
def pB(s w:Nat)(b:Bool):Nat×Nat×List Bool:=
 if b=true then(if s=9 then(8,3,[true,false])else if s=7 then(9,1,[false])else(8,w,[false]))
 else if s=6 then(7,w,[])else if s=8 then(9,1,[])else(s,w,[])
def uD(s w:Nat):List (Nat×Nat×List Bool):=if s=9 then [(9,1,[])]else if w=1 then(if s=8 then [(6,3,[true]),(8,3,[true])]else [(6,3,[true])])else [(s,w-1,[])]
def Sp.Tt(S:Sp):List Sp:=match S.q0 with
 |[] =>[]
 |b::r=>[⟨S.s0,S.w0,r,(pB S.s1 S.w1 b).1,(pB S.s1 S.w1 b).2.1,S.q1++(pB S.s1 S.w1 b).2.2⟩]
def Sp.Gg(S:Sp):List Sp:=match S.q1 with
 |[] =>[]
 |b::r=>[⟨(pB S.s0 S.w0 b).1,(pB S.s0 S.w0 b).2.1,S.q0++(pB S.s0 S.w0 b).2.2,S.s1,S.w1,r⟩]
def vT(P:Sp->Bool):Nat->Sp->Bool
 |0,S=>S.q0.isEmpty&&S.q1.isEmpty&&P S
 |k+1,S=>if S.q0.isEmpty&&S.q1.isEmpty then P S else(S.Tt++S.Gg).all (vT P k)
def Kf(S:Sp):Bool:=S.s0==9&&S.s1==9
def uE:Nat->Sp->Bool
 |0,S=>Kf S
 |k+1,S=>Kf S||(uD S.s0 S.w0).all λu=>(uD S.s1 S.w1).all λv=>vT (uE k) 12 ⟨u.1,u.2.1,u.2.2,v.1,v.2.1,v.2.2⟩
def Tv:List (Nat×Nat):=[(6,1),(6,2),(6,3),(7,1),(7,2),(7,3),(8,1),(8,2),(8,3),(9,1)]
theorem aeI:(Tv.all λu=>Tv.all λv=>uE 6 ⟨u.1,u.2,[],v.1,v.2,[]⟩)=true:=by decide+kernel
theorem Tw {P:Sp->Bool} {S:Sp} (h:vT P k S=true)(V:S.q0=[])(U:S.q1=[]):P S=true:=by
 cases k with
 |zero=>unfold vT at h;simp only[Bool.and_eq_true]at h;exact h.2
 |succ k=>unfold vT at h;rw[V,U]at h;exact h
theorem Tx {P:Sp->Bool} {S T:Sp} (h:vT P k S=true)(V:T∈S.Tt++S.Gg):∃j,vT P j T=true:=by
 have U:(S.q0.isEmpty&&S.q1.isEmpty)=false:=by
  cases Q:S.q0 with
  |cons b r=>rfl
  |nil=>
   cases J:S.q1 with
   |cons b r=>rfl
   |nil=>
    unfold Sp.Tt Sp.Gg at V;rw[Q,J]at V;simp at V
 cases k with
 |zero=>unfold vT at h;rw[U]at h;simp at h
 |succ k=>
  unfold vT at h;rw[U]at h;exact⟨k,aZ.1 h T V⟩
theorem MK(k:Nat) {S:Sp} (h:Kf S=true):uE k S=true:=by
 cases k with
 |zero=>exact h
 |succ k=>unfold uE;rw[h];rfl
def Sp.swap(S:Sp):Sp:=⟨S.s1,S.w1,S.q1,S.s0,S.w0,S.q0⟩
theorem Xo(S:Sp) {T:Sp} (h:T∈S.swap.Gg):T.swap∈S.Tt:=by
 unfold Sp.Gg Sp.swap at h;unfold Sp.Tt;cases e:S.q0 with
 |nil=>rw[e]at h;simp at h
 |cons b r=>
  rw[e]at h;simp only[List.mem_singleton]at h⊢;rw[h];rfl
structure PQ(L M:LS)(F G:List lD)(S:Sp):Prop where
 s0:L.st=(S.s0:Int)
 w0:S.s0≠9->L.wt=(S.w0:Int)
 s1:M.st=(S.s1:Int)
 w1:S.s1≠9->M.wt=(S.w1:Int)
 q0:I0 F=S.q0
 q1:I0 G=S.q1
 i0:ids 2 G++ids 1 F=[] \/ids 2 G++ids 1 F=[L.ow]
 i1:ids 2 F++ids 1 G=[] \/ids 2 F++ids 1 G=[M.ow]
theorem PQ.symm {S:Sp} (p:PQ L M F G S):PQ M L G F S.swap:=⟨p.s1,p.w1,p.s0,p.w0,p.q1,p.q0,p.i1,p.i0⟩
theorem PQ.more {e f:List lD} {S:Sp} (p:PQ L M F G S)(V:∀x∈e,rW x)(hf:∀x∈f,rW x):PQ L M (F++e) (G++f) S:=by
 have a:∀c,ids c (F++e)=ids c F:=λc=>by rw[kM,AH λx hx=>(V x hx).lk c,aB]
 have b:∀c,ids c (G++f)=ids c G:=λc=>by rw[kM,AH λx hx=>(hf x hx).lk c,aB]
 exact⟨p.s0,p.w0,p.s1,p.w1,by rw[tN,QC V,aB];exact p.q0,by rw[tN,QC hf,aB];exact p.q1,by rw[a,b];exact p.i0,by rw[a,b];exact p.i1⟩
theorem PQ.skip {S:Sp} (p:PQ L M F (x::l) S)(hx:rW x):PQ L M F l S:=by
 have e:I0 (x::l)=I0 l:=by unfold I0;rw[br,hx.lb]
 have i:=λc=>j3 l (hx.lk c);exact⟨p.s0,p.w0,p.s1,p.w1,p.q0,by rw[<-e];exact p.q1,by rw[<-i];exact p.i0,by rw[<-i];exact p.i1⟩
theorem PQ.pop {t:Nat} {S:Sp} {q:kZ} (J:1<=g/\g<=255)(hh:1<=h/\h<=255)(jx:h≠g)(ht:t<=255)(p:Pair X Y t g h L M F (x::l))(r:PQ L M F (x::l) S)
 (hq:(∃id,0<=id/\id<=255/\x=mY h id/\q=(1,id,oz h)) \/(∃id,0<=id/\id<=255/\x=oC g id/\q=(2,id,oz g))):∃T∈S.Gg,PQ (jW L q).1 M (F++(jW L q).2.1.flatMap oJ) l T:=by
 rcases hq with⟨id,i1,Q,rfl,rfl⟩|⟨id,i1,Q,rfl,rfl⟩
 ·have hi:0<=id/\id<=255:=⟨i1,Q⟩
  obtain⟨r1,r2,r3,r4⟩:=tL hh hi;have E:oJ (2,id,oz h)=[oC h id] :=F8 (.inr rfl) hi hh;have hS:S.q1=true::I0 l:=by rw[<-r.q1];unfold I0;rw[br,(O5 hh hi).1]
  have Db:S.Gg=[⟨(pB S.s0 S.w0 true).1,(pB S.s0 S.w0 true).2.1,S.q0++(pB S.s0 S.w0 true).2.2,S.s1,S.w1,I0 l⟩] :=by unfold Sp.Gg;rw[hS]
  have Kx:=jU l r1;have Qx:=j3 l r2;have H:∀em,ids 2 em=[id]->ids 2 (F++em)++ids 1 l=ids 2 F++ids 1 (mY h id::l):=λem he=>by
   rw[kM,he,Kx,aD];rfl
  have s0:=r.s0;rw[Db];refine⟨_,ar.2 rfl,?_⟩;obtain⟨li,h9|h7|U⟩:=Xd J hh jx hi p.l p.lu
  ·obtain⟨s9,out,s8,u,A⟩:=h9;obtain⟨Xi,aeB⟩:=p.d.emp (.inr s9);have hb:=p.d.Kd;have hX:Y id=false:=aeB id (by rw[Kx];simp);have amX:((ids 1 (mY h id::l)).filter λi=> !Y i).length=((ids 1 l).filter λi=> !Y i).length+1:=by rw[Kx,iG,hX];rfl
   have ho:=p.l.k.o1;have em:(L.ow+1) %256=L.ow+1:=eB;have ll:0<=L.ow+1/\L.ow+1<=255:=eB;obtain⟨q1,q2,q3,q4⟩:=tL J ll;rw[em]at out u;have e:(jW L (1,id,oz h)).2.1.flatMap oJ=[mY g (L.ow+1),oC h id] :=by
    rw[out];show oJ _++(oJ _++ [])=_;rw[F8 (.inl rfl) ll J,E];rfl
   have V:pB S.s0 S.w0 true=(8,3,[true,false]):=by unfold pB;rw[ai rfl,ai eB]
   rw[e,V];rw[Qx]at Xi;have uN:=dS.1 Xi;have i1:ids 1 [mY g (L.ow+1),oC h id] =[L.ow+1] :=by rw[jU _ q1,j3 _ r3];rfl
   have Q:ids 2 [mY g (L.ow+1),oC h id] =[id] :=by rw[j3 _ q2,jU _ r4];rfl
   refine⟨s8,λ_=>A,r.s1,r.w1,?_,rfl,.inr ?_,?_⟩;{rw[tN,r.q0];show S.q0++iM lb _=_;rw[br,(O5 J ll).1,br,(O5 hh hi).2];rfl};{rw[uN.1,kM,uN.2,i1,u];rfl};{rw[H _ Q];exact r.i1}
  ·obtain⟨s7,out,s9,u⟩:=h7;have e:(jW L (1,id,oz h)).2.1.flatMap oJ=[oC h id] :=by rw[out];show oJ _++ [] =_;rw[E];rfl
   have V:pB S.s0 S.w0 true=(9,1,[false]):=by unfold pB;rw[ai rfl,af eB,ai eB]
   rw[e,V];have i1:ids 1 [oC h id] =[] :=by rw[j3 _ r3];rfl
   have Q:ids 2 [oC h id] =[id] :=by rw[jU _ r4];rfl
   refine⟨s9,λh=>absurd rfl h,r.s1,r.w1,?_,rfl,?_,?_⟩;{rw[tN,r.q0];show S.q0++iM lb _=_;rw[br,(O5 hh hi).2];rfl};{rw[kM,i1,aB,<-Qx,u];exact r.i0};{rw[H _ Q];exact r.i1}
  ·obtain⟨s68,out,s8,u,A⟩:=U;have e:(jW L (1,id,oz h)).2.1.flatMap oJ=[oC h id] :=by rw[out];show oJ _++ [] =_;rw[E];rfl
   have V:pB S.s0 S.w0 true=(8,S.w0,[false]):=by unfold pB;rw[ai rfl,af eB,af eB]
   rw[e,V];have i1:ids 1 [oC h id] =[] :=by rw[j3 _ r3];rfl
   have Q:ids 2 [oC h id] =[id] :=by rw[jU _ r4];rfl
   refine⟨s8,λ_=>by rw[A];exact r.w0 eB,r.s1,r.w1,?_,rfl,?_,?_⟩;{rw[tN,r.q0];show S.q0++iM lb _=_;rw[br,(O5 hh hi).2];rfl};{rw[kM,i1,aB,<-Qx,u];exact r.i0};{rw[H _ Q];exact r.i1}
 ·have hi:0<=id/\id<=255:=⟨i1,Q⟩
  obtain⟨r1,r2,r3,r4⟩:=tL J hi;have hS:S.q1=false::I0 l:=by rw[<-r.q1];unfold I0;rw[br,(O5 J hi).2]
  have Db:S.Gg=[⟨(pB S.s0 S.w0 false).1,(pB S.s0 S.w0 false).2.1,S.q0++(pB S.s0 S.w0 false).2.2,S.s1,S.w1,I0 l⟩] :=by unfold Sp.Gg;rw[hS]
  have Kx:=j3 l r3;have Qx:=jU l r4;have lL:¬(L.st=7 \/L.st=9):=λh=>by
   have:=(p.d.emp h).1;rw[Qx]at this;simp at this
  have pS:id=L.ow/\ids 2 l++ids 1 F=[] :=by
   have:=r.i0;rw[Qx]at this;rcases this with z|z
   ·simp at z
   ·have z':id::(ids 2 l++ids 1 F)=[L.ow] :=z;injection z' with z1 z2
    exact⟨z1,z2⟩
  have U:L.st=6 \/L.st=8:=by have:=p.lu;have:=p.l.st;omega
  obtain⟨z1,z2⟩:=pS;subst z1;obtain⟨a1,a2,a3,a4,a5⟩:=Xe J p.l U;have s0:=r.s0;rw[Db];refine⟨_,ar.2 rfl,?_⟩;rw[a2];have hF:F++iH oJ [] =F:=ik;rw[hF];have vP:ids 2 F++ids 1 l=[] \/ids 2 F++ids 1 l=[M.ow] :=by rw[<-Kx];exact r.i1
  rcases U with h6|h8
  ·have V:pB S.s0 S.w0 false=(7,S.w0,[]):=by unfold pB;rw[af ik,ai eB]
   rw[V];exact⟨by rw[a5,h6];rfl,λ_=>by rw[a4];exact r.w0 eB,r.s1,r.w1,by rw[aB];exact r.q0,rfl,.inl z2,vP⟩
  ·have V:pB S.s0 S.w0 false=(9,1,[]):=by unfold pB;rw[af ik,af eB,ai eB]
   rw[V];exact⟨by rw[a5,h8];rfl,λh=>absurd rfl h,r.s1,r.w1,by rw[aB];exact r.q0,rfl,.inl z2,vP⟩
theorem aeJ {X:Marks} (Q:uh a)(hN:Norm a)(h:rK X t a)(ht:∀x,t x<=127)(hc:c<a.nc)(hd:d<2)(hF:a.F c d=x::l)(J:k<a.nc) {S:Sp} (V:PQ (kf a k 0) (kf a k 1) (a.F k 0) (a.F k 1) S):∃T,(T=S \/T∈S.Tt++S.Gg)/\PQ (kf (a.pop c d x l) k 0) (kf (a.pop c d x l) k 1) ((a.pop c d x l).F k 0) ((a.pop c d x l).F k 1) T:=by
 have Ha:d=0 \/d=1:=eB;cases IZ Q hN h hc hd hF with
 |other hx hL xM=>
  obtain⟨e0,a0,b0⟩:=xM k 0 J eF;obtain⟨e1,E,b1⟩:=xM k 1 J eF;refine⟨S,.inl rfl,?_⟩;rw[hL,hL,a0,E];by_cases e:k=c
  ·subst e;rcases Ha with rfl|rfl
   {rw[ai ⟨rfl,rfl⟩,af eB];rw[hF]at V;exact(V.symm.skip hx).symm.more b0 b1};{rw[af eB,ai ⟨rfl,rfl⟩];rw[hF]at V;exact(V.skip hx).more b0 b1}
  ·rw[af (λz=>e z.1),af (λz=>e z.1)];exact V.more b0 b1
 |link q hq hl hf H=>
  by_cases e:k=c
  ·subst e;have hi:=h.zw hc hd (x:=x) (by rw[hF];simp);have pr:=(h.uu hc hd hi).symm;have gd:=rY Q hc hd;have U:=rY Q hc (show 1-d<2 by omega);have jx:=abP Q hc hd (show 1-d<2 by omega) eB;have Nq:t (a.e k 0)+t (a.e k 1)<=255:=by have:=ht (a.e k 0);have:=ht (a.e k 1);omega
   obtain⟨o1,o2⟩:=H k d hc hd eB;rw[ai ⟨rfl,rfl⟩]at o2;rw[hF]at pr;rcases Ha with rfl|rfl
   {rw[hF]at V;obtain⟨T,u,A⟩:=PQ.pop U gd jx Nq pr V.symm hq;refine⟨T.swap,.inr (av.2 (.inl (Xo S u))),?_⟩;have:=A.symm;rw[show(1:Nat)-0=1 from rfl]at hl hf;rw[o1,o2,hl,hf];exact this};{rw[hF]at V;obtain⟨T,u,A⟩:=PQ.pop U gd jx Nq pr V hq;refine⟨T,.inr (av.2 (.inr u)),?_⟩;rw[show(1:Nat)-1=0 from rfl]at hl hf;rw[o1,o2,hl,hf];exact A}
  ·refine⟨S,.inl rfl,?_⟩;obtain⟨E,a2⟩:=H k 0 J eF (λz=>e z.1);obtain⟨b1,b2⟩:=H k 1 J eF (λz=>e z.1);rw[E,a2,b1,b2,af (λz=>e z.1),af (λz=>e z.1)];exact V
theorem wk.PQ {P:Sp->Bool} {a b:AN} (h:wk a b) {N k:Nat} (u:Inv N (λ_=>k) a)(hl:N<1000000)(hk:k<=126) {c:Nat} (hc:c<a.nc) {S:Sp} {j:Nat} (hS:PQ (kf a c 0) (kf a c 1) (a.F c 0) (a.F c 1) S)(hP:vT P j S=true):∃T i,Rt.PQ (kf b c 0) (kf b c 1) (b.F c 0) (b.F c 1) T/\vT P i T=true:=by
 induction h with
 |nil=>exact⟨S,j,hS,hP⟩
 |snoc c' d x l p H E A ih=>
  obtain⟨T,i,hT,hi⟩:=ih;have V:=u.pps p hl hk;obtain⟨X,hX⟩:=V.lk;obtain⟨U,J,Q⟩:=aeJ V.rD V.nrm hX (λ_=>eB) H E A (k:=c) (by rw[p.path.same.2.1];exact hc) hT;rcases J with rfl|J
  {exact⟨U,i,Q,hi⟩};{obtain⟨i',ll⟩:=Tx hi J;exact⟨U,i',Q,ll⟩}
theorem ym.at {T:List (Nat×Nat)} {a b:AN} (h:ym T a b)(u:T.Nodup)(A:uh a)(J:Norm a) {c d:Nat} (hc:c<a.nc)(hd:d<2):(a.e c d∉T->kf b c d=kf a c d/\b.F c d=a.F c d)/\(a.e c d∈T->kf b c d=(jq (kf a c d)).1/\∃m,b.F c d=a.F c d++((jq (kf a c d)).2.flatMap oJ++A3 m (a.e c d).2)):=by
 induction h with
 |nil=>exact⟨λ_=>⟨rfl,rfl⟩,λh=>by simp at h⟩
 | @snoc T a b i p tk hi hp ih=>
   have Q:=bG.1 u;obtain⟨i1,i2⟩:=ih Q.1 A J hc;have H:=tk.path.same;obtain⟨t1,t2⟩:=QB (tk.path.norm J) i p c d;rw[H.2.2.1]at t1 t2;refine⟨λE=> ?_,λld=> ?_⟩;{have U:a.e c d∉T:=λz=>E (av.2 (.inl z));have V:a.e c d≠(i,p):=λz=>E (av.2 (.inr (ar.2 z)));rw[(t1 V).1,(t1 V).2];exact i1 U}
   ·rcases av.1 ld with g|g
    {have V:a.e c d≠(i,p):=λz=>Q.2.2 _ g _ (ar.2 rfl) z;rw[(t1 V).1,(t1 V).2];exact i2 g};{have g:=ar.1 g;have U:a.e c d∉T:=λz=>Q.2.2 _ z _ (ar.2 rfl) g;obtain⟨z1,z2⟩:=t2 g (by rw[H.2.1];exact hc) hd;obtain⟨y1,y2⟩:=i1 U;rw[z1,z2,y1,y2];exact⟨rfl,b.R i,by rw[g]⟩}
theorem Kg(J:1<=g/\g<=255)(h:LI g L)(h6:6<=L.st)(hb:L.ow+1<=255):∃s w:Nat,(L.st=(s:Int)/\(s≠9->L.wt=(w:Int)))/\(s,w)∈Tv/\∃u∈uD s w,(jq L).1.st=(u.1:Int)/\(u.1≠9->(jq L).1.wt=(u.2.1:Int))/\I0 ((jq L).2.flatMap oJ)=u.2.2/\ids 2 ((jq L).2.flatMap oJ)=[] /\(ids 1 ((jq L).2.flatMap oJ)=[] \/ids 1 ((jq L).2.flatMap oJ)=[(jq L).1.ow]):=by
 obtain⟨o1,o2,o3,o4,o5,o6,o7,o8⟩:=(tj _ _ _).1 h.k.ok;have ho:=h.k.o1;obtain⟨li,V|V⟩:=J9 J h
 ·obtain⟨V,A,U,h4,Q⟩:=V;have H:(jq L).2.flatMap oJ=[] :=by rw[V];rfl
  rw[H];by_cases h9:L.st=9;{refine⟨9,1,⟨h9,λh=>absurd rfl h⟩,eF,(9,1,[]),eF,?_,λh=>absurd rfl h,rfl,rfl,.inl rfl⟩;rw[U,h9];rfl}
  ·have hw:=Q (by have:=h.st;omega);refine⟨L.st.toNat,L.wt.toNat,⟨eB,λ_=>eB⟩,?_,(L.st.toNat,L.wt.toNat-1,[]),?_,by rw[U];simp only;omega,λ_=>by rw[hw.2];simp only;omega,rfl,rfl,.inl rfl⟩
   ·have:L.st=6 \/L.st=7 \/L.st=8:=by have:=h.st;omega
    have wi:L.wt=2 \/L.wt=3:=eB;rcases this with e|e|e<;>rcases wi with f|f<;>rw[e,f] <;>decide
   ·unfold uD;rw[af eB,af eB];simp
 ·obtain⟨V,A,U,h4,Q,h6'⟩:=V;have hi:0<=L.ow+1/\L.ow+1<=255:=⟨eB,hb⟩
  have em:(L.ow+1) %256=L.ow+1:=eB;rw[em]at U h4;have H:(jq L).2.flatMap oJ=[mY g (L.ow+1)] :=by
   rw[U];show oJ _++ [] =_;rw[F8 (.inl rfl) hi J];rfl
  obtain⟨q1,q2,_,_⟩:=tL J hi;have p1:I0 [mY g (L.ow+1)] =[true] :=by unfold I0;rw[br,(O5 J hi).1];rfl
  have p2:ids 2 [mY g (L.ow+1)] =[] :=by rw[j3 _ q2];rfl
  have p3:ids 1 [mY g (L.ow+1)] =[L.ow+1] :=by rw[jU _ q1];rfl
  rw[H,p1,p2,p3,h4];rcases h6' with g6|⟨g8,E⟩
  {refine⟨L.st.toNat,1,⟨eB,λ_=>A⟩,?_,(6,3,[true]),?_,g6,λ_=>Q,rfl,rfl,.inr rfl⟩;{have:L.st=6 \/L.st=7 \/L.st=8:=eB;rcases this with e|e|e<;>rw[e] <;>decide};{have:L.st=6 \/L.st=7 \/L.st=8:=eB;rcases this with e|e|e<;>rw[e] <;>decide}};{exact⟨8,1,⟨g8,λ_=>A⟩,eF,(8,3,[true]),eF,E,λ_=>Q,rfl,rfl,.inr rfl⟩}
def Rel(L:LS)(s w:Nat):Prop:=L.st=(s:Int)/\(s≠9->L.wt=(w:Int))/\(s,w)∈Tv
theorem I1 {w:Nat} (h:(9,w)∈Tv):w=1:=by
 unfold Tv at h;simpa using h
theorem Rel.uniq {s w s' w':Nat} (h:Rel L s w)(g:Rel L s' w'):s'=s/\w'=w:=by
 have e:s'=s:=by have:=h.1;have:=g.1;omega
 subst e;refine⟨rfl,?_⟩;by_cases V:s'=9;{subst V;rw[I1 h.2.2,I1 g.2.2]};{have:=h.2.1 V;have:=g.2.1 V;omega}
theorem Kh(J:1<=g/\g<=255)(h:LI g L)(Q:6<=L.st)(hb:L.ow+1<=255):∃s w,Rel L s w:=by
 obtain⟨s,w,V,U,_⟩:=Kg J h Q hb;exact⟨s,w,V.1,V.2,U⟩
def O6(a:AN)(c j:Nat):Prop:=∃s0 w0 s1 w1,Rel (kf a c 0) s0 w0/\Rel (kf a c 1) s1 w1/\uE j ⟨s0,w0,[],s1,w1,[]⟩=true
theorem Xp(j:Nat) {s0 w0 v0 s1 w1 v1:Nat} (Q:s0=9 \/w0=v0)(J:s1=9 \/w1=v1):uE j ⟨s0,w0,[],s1,w1,[]⟩=uE j ⟨s0,v0,[],s1,v1,[]⟩:=by
 have V:uD s0 w0=uD s0 v0:=by
  rcases Q with h|h
  {rw[h];rfl};{rw[h]}
 have U:uD s1 w1=uD s1 v1:=by
  rcases J with h|h
  {rw[h];rfl};{rw[h]}
 cases j with
 |zero=>rfl
 |succ k=>unfold uE;simp only[V,U];rfl
theorem O7 {n:Nat} (hT:ym (m9 n) a m)(hP:wk m b)(V:Inv N (λ_=>k) a)(hl:N+8*(m9 n).length<1000000)(hk:k+1<=126)(h0:∀c d,c<a.nc->d<2->a.F c d=[])(h1:∀c d,c<a.nc->d<2->b.F c d=[])(hn:n=a.n)(hc:c<a.nc)(hi:a.jc c=true)(hG:O6 a c (j+1)):O6 b c j:=by
 obtain⟨s0,w0,s1,w1,r0,r1,U⟩:=hG;obtain⟨nd,_,_⟩:=pU n;obtain⟨X,hX⟩:=V.lk;have g0:=rY V.rD hc (show 0<2 by decide);have g1:=rY V.rD hc (show 1<2 by decide);have p0:=hX.uu hc (show 0<2 by decide) hi;have p1:=hX.uu hc (show 1<2 by decide) hi;have bd:∀d,d<2->(kf a c d).ow+1<=255:=λd hd=>by
  have:=(hX.uu hc hd hi).d.Kd;have e:(λ_:Nat×Nat=>k) (a.e c 0)+(λ_:Nat×Nat=>k) (a.e c 1)=k+k:=rfl;omega
 obtain⟨a0,b0,ra0,in0,u,hu,us,uw,uq,ui2,ui1⟩:=Kg g0 p0.l p0.lu (bd 0 eF);obtain⟨a1,b1,ra1,in1,v,hv,vs,vw,vq,vi2,vi1⟩:=Kg g1 p1.l p1.lu (bd 1 eF);obtain⟨z0,z0'⟩:=r0.uniq ⟨ra0.1,ra0.2,in0⟩;obtain⟨z1,z1'⟩:=r1.uniq ⟨ra1.1,ra1.2,in1⟩;subst z0 z0' z1 z1';have sy:∀d,d<2->a.e c d∈m9 n:=λd hd=>by
  obtain⟨e1,e2⟩:=V.rD.en c d hc hd;unfold m9;refine aT.2 ⟨(a.e c d).1,aN.2 eB,?_⟩;unfold Te;have:(a.e c d).2=0 \/(a.e c d).2=1 \/(a.e c d).2=2:=eB;rcases this with e|e|e
  {rw[show a.e c d=((a.e c d).1,0)from aU rfl e];simp};{rw[show a.e c d=((a.e c d).1,1)from aU rfl e];simp};{rw[show a.e c d=((a.e c d).1,2)from aU rfl e];simp}
 obtain⟨m0,x0,f0⟩:=(hT.at nd V.rD V.nrm hc (show 0<2 by decide)).2 (sy 0 eF);obtain⟨m1,x1,f1⟩:=(hT.at nd V.rD V.nrm hc (show 1<2 by decide)).2 (sy 1 eF);rw[h0 c 0 hc eF,bU]at f0;rw[h0 c 1 hc eF,bU]at f1;have base:PQ (kf m c 0) (kf m c 1) ((jq (kf a c 0)).2.flatMap oJ) ((jq (kf a c 1)).2.flatMap oJ) ⟨u.1,u.2.1,u.2.2,v.1,v.2.1,v.2.2⟩:=by
  rw[m0,m1];exact⟨us,uw,vs,vw,uq,vq,by rw[vi2,bU];exact ui1,by rw[ui2,bU];exact vi1⟩
 have hm:=base.more (xD x0 (a.e c 0).2) (xD x1 (a.e c 1).2);rw[<-f0,<-f1]at hm;have oa:vT (uE j) 12 ⟨u.1,u.2.1,u.2.2,v.1,v.2.1,v.2.2⟩=true:=by
  unfold uE at U;rw[Bool.or_eq_true]at U;rcases U with U|U
  ·unfold Kf at U;simp only[Bool.and_eq_true,beq_iff_eq]at U;obtain⟨y0,y1⟩:=U;subst y0 y1;have G8:u=(9,1,[]):=by simpa[uD]using hu
   have hv':v=(9,1,[]):=by simpa[uD]using hv
   rw[G8,hv'];exact MK j rfl
  ·exact aZ.1 (aZ.1 U u hu) v hv
 have hlen:=hT.path.same;have hIm:Inv (N+8*(m9 n).length) (λ_=>k+1) m:=(V.path hT.path hl λx=>Nat.le_trans (nY nd k x) hk).mono (Nat.le_refl _) (nY nd k);obtain⟨S,i,H,hSi⟩:=hP.PQ hIm hl hk (c:=c) (by rw[hlen.2.1];exact hc) hm oa;have Ns:=hP.path.same;have hIb:=hIm.pps hP hl hk;have e0:S.q0=[] :=by rw[<-H.q0,h1 c 0 hc eF];rfl
 have e1:S.q1=[] :=by rw[<-H.q1,h1 c 1 hc eF];rfl
 have aif:=Tw hSi e0 e1;obtain⟨Y,hY⟩:=hIb.lk;have vr:c<b.nc:=by rw[Ns.2.1,hlen.2.1];exact hc
 have heb:b.e=a.e:=Ns.2.2.1.trans hlen.2.2.1;have Q:b.jc c=true:=by
  cases Q:b.jc c;{have:=(hY.dn c vr Q 0 eF).2.1;have h6:=H.s0;have ip:=wk.jc hP;have it:=ym.jc hT;rw[ip,it,hi]at Q;exact absurd Q ik};{rfl}
 have q0:=hY.uu vr (show 0<2 by decide) Q;have q1:=hY.uu vr (show 1<2 by decide) Q;rw[heb]at q0 q1;have bd':∀d,d<2->(kf b c d).ow+1<=255:=λd hd=>by
  have:=(hY.uu vr hd Q).d.Kd;have e:(λ_:Nat×Nat=>k+1) (b.e c 0)+(λ_:Nat×Nat=>k+1) (b.e c 1)=k+1+(k+1):=rfl;omega
 obtain⟨E,w0',R0⟩:=Kh g0 q0.l q0.lu (bd' 0 eF);obtain⟨A,w1',R1⟩:=Kh g1 q1.l q1.lu (bd' 1 eF);refine⟨E,w0',A,w1',R0,R1,?_⟩;have t0:S.s0=E:=by have:=H.s0;have:=R0.1;omega
 have t1:S.s1=A:=by have:=H.s1;have:=R1.1;omega
 rw[Xp j (v0:=S.w0) (v1:=S.w1) (by
  by_cases J:E=9;{exact .inl J}
  ·right;have:=H.w0 (by rw[t0];exact J);have:=R0.2.1 J;omega) (by
  by_cases J:A=9;{exact .inl J}
  ·right;have:=H.w1 (by rw[t1];exact J);have:=R1.2.1 J;omega),<-t0,<-t1]
 have:S=⟨S.s0,S.w0,[],S.s1,S.w1,[]⟩:=by
  cases S;simp only at e0 e1;subst e0 e1;rfl
 rw[<-this];exact aif
where
 wk.jc {a b:AN} (h:wk a b):b.jc=a.jc:=by
  induction h with
  |nil=>rfl
  |snoc c d x l _ _ _ _ ih=>exact ih
 ym.jc {T:List (Nat×Nat)} {a b:AN} (h:ym T a b):b.jc=a.jc:=by
  induction h with
  |nil=>rfl
  |snoc i p _ _ _ ih=>exact ih
def abV(a:AN):Prop:=∀c d,c<a.nc->d<2->a.jc c=true->(kf a c d).st=9
theorem O6.open(h:O6 a c 0)(hd:d<2):(kf a c d).st=9:=by
 obtain⟨s0,w0,s1,w1,Q,r1,U⟩:=h;have V:(s0==9&&s1==9)=true:=U;simp only[Bool.and_eq_true,beq_iff_eq]at V;have:d=0 \/d=1:=eB;rcases this with rfl|rfl
 {rw[Q.1,V.1];rfl};{rw[r1.1,V.2];rfl}
theorem rK.aih {X:Marks} (A:Norm a)(h:rK X t a)(u:abV a)(i p:Nat):rK X t (a.op i ((a.R i).jj p))/\(∀c d,c<a.nc->d<2->kf (a.op i ((a.R i).jj p)) c d=kf a c d/\(a.op i ((a.R i).jj p)).F c d=a.F c d++(if a.e c d=(i,p)then A3 (a.R i) p else [])):=by
 have U:∀c d,c<a.nc->d<2->kf (a.op i ((a.R i).jj p)) c d=kf a c d/\(a.op i ((a.R i).jj p)).F c d=a.F c d++(if a.e c d=(i,p)then A3 (a.R i) p else []):=λc d hc hd=>by
  obtain⟨t1,t2⟩:=QB A i p c d;by_cases e:a.e c d=(i,p)
  ·obtain⟨z1,z2⟩:=t2 e hc hd;have kC:(kf a c d).st=1 \/(kf a c d).st=9:=by
    cases hi:a.jc c;{exact .inl (h.dn c hc hi d hd).2.1};{exact .inr (u c d hc hd hi)}
   have kJ:jq (kf a c d)=(kf a c d,[]):=by
    have hb:(decide (4<=(kf a c d).st)&&decide ((kf a c d).st<=8))=false:=by
     rcases kC with g|g<;>rw[g] <;>rfl
    unfold jq kI l9;rw[ai hb,ai hb,af (show¬(kf a c d).st=3 by omega)]
   rw[z1,z2,kJ,ai e];exact⟨rfl,rfl⟩
  ·rw[(t1 e).1,(t1 e).2,af e,aB];exact⟨rfl,rfl⟩
 have J:∀c d,∀y∈(if a.e c d=(i,p)then A3 (a.R i) p else []),rW y:=λc d y hy=>by
  split at hy;{exact xD _ _ y hy};{simp at hy}
 refine⟨⟨λc hc hi=> ?_,λc hc hi d hd=> ?_⟩,U⟩;{obtain⟨Q,V⟩:=U c 0 hc eF;obtain⟨b1,b2⟩:=U c 1 hc eF;rw[Q,V,b1,b2];exact(((h.up c hc hi).more (J c 0)).symm.more (J c 1)).symm}
 ·obtain⟨Q,V,H,E⟩:=h.dn c hc hi d hd;obtain⟨b1,b2⟩:=U c d hc hd;rw[b1,b2,E];refine⟨Q,V,H,?_⟩;split
  ·rename_i e
   have pV:kf a c d=((a.R i).P p).L:=by unfold kf;rw[e]
   unfold A3;rw[<-pV];have hb:(decide (4<=(kf a c d).st)&&decide ((kf a c d).st<=8))=false:=by rw[V];rfl
   have:(jq (kf a c d)).1.st=1:=by
    unfold jq kI l9;rw[ai hb,af (show¬(kf a c d).st=3 by omega)];exact V
   rw[this,af eF];rfl
  ·rfl
structure St(D N k:Nat)(y:ja):Prop where
 ok:ki y D 0
 g:GN y
 f:jN y
 i:Inv N (λ_=>k) (iT y)
theorem St.act {D N k:Nat} {y:ja} (h:St D N k y)(V:D<=800000000)(U:N+144<1000000)(Q:k+1<=126)(v:AV):St (D+1300000) (N+144) (k+1) (tT y v):=
 ⟨h.ok.act V v,(h.g.act h.ok V v).1,h.f.act h.g h.ok V v,Inv.act h.f h.g h.ok V h.i U Q v⟩
theorem St.round {D N k:Nat} {y:ja} (h:St D N k y)(V:D<=800000000)(hN:N+144<1000000)(U:k+1<=126):St (D+1300000) (N+144) (k+1) y.round:=by
 have n6:=h.ok.n6;obtain⟨a,b,_⟩:=pU y.n;refine⟨h.ok.round V,h.g.round h.ok V,h.f.round h.ok V,?_⟩;exact(h.i.path (zu h.f h.ok V) (by rw[b];omega) λx=>Nat.le_trans (nY a k x) U).mono (by rw[b];omega) (nY a k)
theorem St.mono {D N k D' N' k':Nat} {y:ja} (h:St D N k y)(V:D<=D')(U:N<=N')(Q:k<=k'):St D' N' k' y:=⟨h.ok.mono V (Nat.le_refl _),h.g,h.f,h.i.mono U λ_=>Q⟩
def mK(y:ja):Nat->ja
 |0=>y
 |k+1=>(mK y k).round
theorem yb(y:ja):∀k,(mK y k).n=y.n/\(mK y k).nc=y.nc/\(mK y k).ms=y.ms/\∀x,((mK y k).C x).e=(y.C x).e/\((mK y k).C x).jc=(y.C x).jc
 |0=>⟨rfl,rfl,rfl,λ_=>⟨rfl,rfl⟩⟩
 |k+1=>by
  obtain⟨a,b,c,d⟩:=yb y k;obtain⟨a',b',c',d'⟩:=kX (mK y k);exact⟨a'.trans a,b'.trans b,c'.trans c,λx=>⟨(d' x).1.trans (d x).1,(d' x).2.trans (d x).2⟩⟩
theorem St.light(h:St D N k y)(V:Still y)(U:D<=800000000)(Q:N+144<1000000)(H:k+1<=126):∃m,ym (m9 y.n) (iT y) m/\wk m (iT y.round)/\Still y.round:=by
 obtain⟨X,J⟩:=h.i.lk;exact MJ h.f h.ok U h.i Q H V.aeG J (V.zero X).1 (V.zero X).2
theorem St.pair(h:St D N k y)(V:Still y)(E:D<=800000000)(u:N+144<1000000)(U:k+1<=126)(hc:c<y.nc)(hi:(y.C c).jc=true)(A:O6 (iT y) c (j+1)):O6 (iT y.round) c j:=by
 have n6:=h.ok.n6;obtain⟨m,Q,J,H⟩:=h.light V E u U;obtain⟨_,b,_⟩:=pU y.n;exact O7 Q J h.i (by rw[b];omega) U V.f (λc d hc hd=>H.f c d (by rw[(kX y).2.1];exact hc) hd) rfl hc hi A
theorem St.opens {D N k:Nat} {y:ja} (h:St D N k y)(hD:D<=790000000)(hN:N+8*144<1000000)(hk:k+8<=126):∀j,j<=6->St (D+1300000*(j+1)) (N+144*(j+1)) (k+(j+1)) (mK y (j+1))/\Still (mK y (j+1))/\∀c,c<y.nc->(y.C c).jc=true->O6 (iT (mK y (j+1))) c (6-j)
 |0,_=>by
  have V:=h.round eB eB eB;have hs:=CW h.f h.ok eB h.i eB eB;refine⟨V,hs,λc hc hi=> ?_⟩;obtain⟨X,Q⟩:=V.i.lk;have U:c<(iT y.round).nc:=by show c<y.round.nc;rw[(kX y).2.1];exact hc
  have J:(iT y.round).jc c=true:=by show(y.round.C c).jc=true;rw[((kX y).2.2.2 c).2];exact hi
  have H:=Q.uu U (show 0<2 by decide) J;have E:=Q.uu U (show 1<2 by decide) J;have bd:∀d,d<2->(kf (iT y.round) c d).ow+1<=255:=λd hd=>by
   have:=(Q.uu U hd J).d.Kd;have e:(λ_:Nat×Nat=>k+1) ((iT y.round).e c 0)+(λ_:Nat×Nat=>k+1) ((iT y.round).e c 1)=k+1+(k+1):=rfl;omega
  obtain⟨s0,w0,A⟩:=Kh (rY V.i.rD U eF) H.l H.lu (bd 0 eF);obtain⟨s1,w1,r1⟩:=Kh (rY V.i.rD U eF) E.l E.lu (bd 1 eF);exact⟨s0,w0,s1,w1,A,r1,aZ.1 (aZ.1 aeI (s0,w0) A.2.2) (s1,w1) r1.2.2⟩
 |j+1,hj=>by
  obtain⟨V,s1,g1⟩:=St.opens h hD hN hk j eB;obtain⟨e1,u,_,e4⟩:=yb y (j+1);have h2:=V.round eB eB eB;obtain⟨m,_,_,s2⟩:=V.light s1 eB eB eB;refine⟨h2.mono eB eB eB,s2,λc hc hi=> ?_⟩;have:=g1 c hc hi;rw[show 6-j=(6-(j+1))+1 by omega]at this;exact V.pair s1 eB eB eB (by rw[u];exact hc) (by rw[(e4 c).2];exact hi) this
structure Env(N k:Nat)(a:AN):Prop where
 i:Inv N (λ_=>k) a
 o:abV a
 nl:∀c d,c<a.nc->d<2->∀x∈a.F c d,rW x
theorem Env.tick {N k:Nat} {a:AN} (h:Env N k a)(U:N<1000000) {i p:Nat} (hi:i<a.n)(J:p<3):Env (N+8) k (a.op i ((a.R i).jj p))/\∀c d,c<a.nc->d<2->kf (a.op i ((a.R i).jj p)) c d=kf a c d/\(a.op i ((a.R i).jj p)).F c d=a.F c d++(if a.e c d=(i,p)then A3 (a.R i) p else []):=by
 obtain⟨X,Q⟩:=h.i.lk;obtain⟨B,V⟩:=h.i.own;obtain⟨l1,l2⟩:=Q.aih h.i.nrm h.o i p;have s:=ni.tick (a:=a) i p hi J;obtain⟨C,hC⟩:=s.own h.i.rD h.i.nrm V U;refine⟨⟨⟨h.i.rD.same rfl rfl rfl,s.norm h.i.nrm,⟨C,hC⟩,⟨X,l1⟩,s.abT h.i.rD h.i.nrm V U Q h.i.fl⟩,λc d hc hd H=> ?_,λc d hc hd x hx=> ?_⟩,l2⟩;{rw[(l2 c d hc hd).1];exact h.o c d hc hd H}
 ·rw[(l2 c d hc hd).2]at hx;rcases av.1 hx with g|g
  {exact h.nl c d hc hd x g};{split at g;{exact xD _ _ x g};{simp at g}}
theorem Env.pop {N k:Nat} {a:AN} (h:Env N k a)(u:N<1000000)(hk:k<=126) {c d:Nat} {x:lD} {l:List lD} (hc:c<a.nc)(hd:d<2)(hF:a.F c d=x::l):Env N k (a.pop c d x l)/\(∀c' d',kf (a.pop c d x l) c' d'=kf a c' d')/\∀c' d',c'<a.nc->d'<2->∃em,(a.pop c d x l).F c' d'=(if c'=c/\d'=d then l else a.F c' d')++em:=by
 obtain⟨X,hX⟩:=h.i.lk;have hx:=h.nl c d hc hd x (by rw[hF];simp);have A:=h.i.pps ((wk.nil a).snoc c d x l hc hd hF) u hk;cases IZ h.i.rD h.i.nrm hX hc hd hF with
 |link q hq _ _ _=>
  rcases hq with⟨id,_,_,e,_⟩|⟨id,_,_,e,_⟩<;>exact absurd rfl (hx _ _ e)
 |other _ J H=>
  refine⟨⟨A,λc' d' V U ld=> ?_,λc' d' V U y hy=> ?_⟩,J,λc' d' V U=> ?_⟩;{rw[J];exact h.o c' d' V U ld}
  ·obtain⟨em,Q,E⟩:=H c' d' V U;rw[Q]at hy;rcases av.1 hy with g|g
   {split at g;{exact h.nl c d hc hd y (by rw[hF];simp[g])};{exact h.nl c' d' V U y g}};{exact E y g}
  ·obtain⟨em,Q,_⟩:=H c' d' V U;exact⟨em,Q⟩
theorem ym.len(h:ym T a b):b.jc=a.jc:=by
 induction h with
 |nil=>rfl
 |snoc i p _ _ _ ih=>exact ih
theorem AQ(r:iW)(p q:Nat):((r.jj p).P q).pe=if q=p then(if(jq (r.P p).L).1.st=9 then iV (r.P p).pe else nobody)else(r.P q).pe:=by
 have Q:((jo r p).P p).L.st=(jq (r.P p).L).1.st:=by unfold jo;rw[k9,ai rfl,tJ]
 have U:=λj=>(mB r p j).2;rw[lA,Q];by_cases V:(jq (r.P p).L).1.st=9;{rw[af (by rw[V];simp),ai V,((qe _ _).2.2.2.2 _).2.1,(kB _ _ _ _).2.2.2,U,U]};{rw[ai V,af V,(kB _ _ _ _).2.2.2,U]}
theorem D3 {c:UInt8} (s:List UInt8)(hc:c≠76)(Q:(r.P i).L.st=9)(q:Nat):((r.take i c s).P q).pe=if q=i/\c=72/\(kT s).2.2=0 then ju r.id (kT s).1 (kT s).2.1 else(r.P q).pe:=by
 rw[l7,uX i s hc,af (by rw[Q];simp)];unfold mO;split
 ·rename_i V
  by_cases U:(kT s).2.2=0;{rw[ai U,(kB _ _ _ _).2.2.2];by_cases e:q=i;{rw[ai e,ai ⟨e,V,U⟩]};{rw[af e,af (λz=>e z.1)]}};{rw[af U,af (λz=>U z.2.2)]}
 ·rename_i V
  have J:¬(q=i/\c=72/\(kT s).2.2=0):=λz=>V z.2.1;rw[af J];split;{exact(kG.state r i s q).2};{split;{unfold kQ;simp only;split<;>rfl};{split;{unfold rS;split;{exact((nJ r _).2.2.2.2 q).2.1};{rfl}};{rfl}}}
theorem Ki {i w:Int} (hi:1<=i/\i<=6)(hw:0<=w/\w<=6):kT [kc i,kc w] =(i,w,0):=by
 have V:=nU i eB eB;have U:=nU w eB eB;unfold kT;show(if [kc i,kc w].length=2/\uQ (((kc i).toNat:Nat):Int) (((kc w).toNat:Nat):Int)=true then((((kc i).toNat:Nat):Int),(((kc w).toNat:Nat):Int),0)else(0,0,4))=_;rw[V,U,ai];refine⟨rfl,?_⟩;unfold uQ;simp;omega
def Lc(i w:Int):lD:=72::[kc i,kc w]
def isH(x:lD):Prop:=∃s,x=72::s
theorem aam(hx:x∈A3 r p)(h:isH x):x=Lc r.id (iV (r.P p).pe).who:=by
 obtain⟨s,rfl⟩:=h;unfold A3 at hx;split at hx
 ·rcases aP.1 hx with g|g
  {exact g};{split at g;{obtain⟨q,_,V⟩:=aT.1 g;unfold DW at V;split at V;{have:=ar.1 V;exact absurd (aC this).1 eF};{simp at V}};{simp at g}}
 ·simp at hx
theorem aeK(h:ym T a b)(hT:T.Nodup)(E:Env N k a)(hl:N+8*T.length<1000000):Env (N+8*T.length) k b/\(∀c d,c<a.nc->d<2->kf b c d=kf a c d)/\(∀c d,c<a.nc->d<2->(a.e c d∉T->mZ b c d=mZ a c d/\b.F c d=a.F c d)/\(a.e c d∈T->a.jc c=true->mZ b c d=iV (mZ a c d)/\∃m:iW,m.id=((a.e c d).1:Int)+1/\(m.P (a.e c d).2).pe=mZ a c d/\(m.P (a.e c d).2).L=kf a c d/\b.F c d=a.F c d++A3 m (a.e c d).2)):=by
 induction h with
 |nil=>exact⟨E,λ_ _ _ _=>rfl,λc d _ _=>⟨λ_=>⟨rfl,rfl⟩,λh=>by simp at h⟩⟩
 | @snoc T a b i p tk hi hp ih=>
   rw[aA]at hl⊢;have Jd:[(i,p)].length=1:=rfl;have A:=bG.1 hT;obtain⟨e1,l1,f1⟩:=ih A.1 E eB;have V:=tk.path.same;obtain⟨e2,l2⟩:=e1.tick eB hi hp;obtain⟨B,hB⟩:=e1.i.own;refine⟨by rw[show N+8*(T.length+ [(i,p)].length)=N+8*T.length+8 by omega];exact e2,λc d hc hd=> ?_,λc d hc hd=>⟨λlL=> ?_,λld u=> ?_⟩⟩;{rw[(l2 c d (by rw[V.2.1];exact hc) hd).1];exact l1 c d hc hd}
   ·have H:a.e c d∉T:=λz=>lL (av.2 (.inl z));have Q:a.e c d≠(i,p):=λz=>lL (av.2 (.inr (ar.2 z)));obtain⟨g1,U⟩:=(f1 c d hc hd).1 H;have hF:=(l2 c d (by rw[V.2.1];exact hc) hd).2;rw[V.2.2.1,af Q,aB]at hF;refine⟨?_,hF.trans U⟩;rw[AO,V.2.2.1];split
    ·rename_i e
     rw[AQ,af (λz=>Q (aU e z)),<-g1];unfold mZ;rw[V.2.2.1,e]
    ·exact g1
   ·have hF:=(l2 c d (by rw[V.2.1];exact hc) hd).2;rw[V.2.2.1]at hF;rcases av.1 ld with g|g
    ·have Q:a.e c d≠(i,p):=λz=>A.2.2 _ g _ (ar.2 rfl) z;obtain⟨g1,m,U,g3,g4,g5⟩:=(f1 c d hc hd).2 g u;rw[af Q,aB]at hF;refine⟨?_,m,U,g3,g4,hF.trans g5⟩;rw[AO,V.2.2.1];split
     ·rename_i e
      rw[AQ,af (λz=>Q (aU e z)),<-g1];unfold mZ;rw[V.2.2.1,e]
     ·exact g1
    ·have g:=ar.1 g;have H:a.e c d∉T:=λz=>A.2.2 _ z _ (ar.2 rfl) g;obtain⟨g1,U⟩:=(f1 c d hc hd).1 H;have pV:((b.R i).P p).L=kf a c d:=by
      rw[<-l1 c d hc hd];unfold kf;rw[V.2.2.1,g]
     have oQ:((b.R i).P p).pe=mZ a c d:=by
      rw[<-g1];unfold mZ;rw[V.2.2.1,g]
     rw[ai g,U]at hF;have J:(jq ((b.R i).P p).L).1.st=9:=by
      have J:(kf a c d).st=9:=E.o c d hc hd u;have hb:(decide (4<=(kf a c d).st)&&decide ((kf a c d).st<=8))=false:=by rw[J];rfl
      rw[pV];unfold jq kI l9;rw[ai hb,af (show¬(kf a c d).st=3 by omega)];exact J
     refine⟨?_,b.R i,?_,?_,?_,?_⟩;{rw[AO,V.2.2.1,g,ai rfl,AQ,ai rfl,ai J,oQ]};{rw[g];exact(hB.r i hi).2.2.2.1};{rw[g];exact oQ};{rw[g];exact pV};{rw[g];exact hF}
theorem Xq(h:Env N k a)(hc:c<a.nc)(hd:d<2)(hF:a.F c d=x::l)(c' d':Nat)(A:c'<a.nc)(u:d'<2):(c'=c/\d'=1-d->∀s,x=72::s->(kT s).2.2=0->mZ (a.pop c d x l) c' d'=ju ((a.e c (1-d)).1+1) (kT s).1 (kT s).2.1)/\(¬(c'=c/\d'=1-d/\isH x)->mZ (a.pop c d x l) c' d'=mZ a c' d'):=by
 obtain⟨X,J⟩:=h.i.lk;obtain⟨B,Q⟩:=h.i.own;have ld:=J.zw hc hd (x:=x) (by rw[hF];simp);have U:=h.i.rD.en c (1-d) hc eB;have pS:=(Q.r _ U.1).2.2.2.1;have V:((a.R (a.e c (1-d)).1).P (a.e c (1-d)).2).L.st=9:=h.o c (1-d) hc eB ld;unfold AN.pop;rw[AO,zq];refine⟨λe s hs E=> ?_,λlL=> ?_⟩;{rw[e.1,e.2,ai rfl,hs];show((iW.take _ _ 72 s).P _).pe=_;rw[D3 s eF V,ai ⟨rfl,rfl,E⟩,pS]}
 ·by_cases e:(a.e c' d').1=(a.e c (1-d)).1
  ·rw[ai e];cases x with
   |nil=>unfold mZ;rw[e];rfl
   |cons k s=>
    show((iW.take _ _ k s).P _).pe=_;have H:k≠76:=h.nl c d hc hd (k::s) (by rw[hF];simp) k s rfl;rw[D3 s H V,af];{unfold mZ;rw[e]};{intro g;have:=h.i.rD.ds c' d' c (1-d) A u hc eB (aU e g.1);exact lL ⟨this.1,this.2,s,by rw[g.2.1]⟩}
  ·rw[af e];rfl
theorem CZ(hT:ym (m9 a.n) a m)(hP:wk m b)(U:Env N k a)(hl:N+8*(m9 a.n).length<1000000)(hk:k<=126)(h0:∀c d,c<a.nc->d<2->a.F c d=[])(h1:∀c d,c<a.nc->d<2->b.F c d=[]):Env (N+8*(m9 a.n).length) k b/\∀c d,c<a.nc->d<2->a.jc c=true->mZ b c d=ju ((a.e c d).1+1) ((a.e c (1-d)).1+1) (iV (mZ a c (1-d))).who:=by
 obtain⟨nd,_,_⟩:=pU a.n;obtain⟨e1,l1,f1⟩:=aeK hT nd U hl;have hn:=hT.path.same;have hnb:=hP.path.same;have sy:∀c d,c<a.nc->d<2->a.e c d∈m9 a.n:=λc d hc hd=>by
  obtain⟨e1,e2⟩:=U.i.rD.en c d hc hd;unfold m9;refine aT.2 ⟨(a.e c d).1,aN.2 eB,?_⟩;unfold Te;have:(a.e c d).2=0 \/(a.e c d).2=1 \/(a.e c d).2=2:=eB;rcases this with e|e|e
  {rw[show a.e c d=((a.e c d).1,0)from aU rfl e];simp};{rw[show a.e c d=((a.e c d).1,1)from aU rfl e];simp};{rw[show a.e c d=((a.e c d).1,2)from aU rfl e];simp}
 have key:∀b',wk m b'->Env (N+8*(m9 a.n).length) k b'/\∀c d,c<a.nc->d<2->a.jc c=true->(∀x∈b'.F c (1-d),isH x->x=Lc ((a.e c (1-d)).1+1) (iV (mZ a c (1-d))).who)/\((∃x∈b'.F c (1-d),isH x) \/mZ b' c d=ju ((a.e c d).1+1) ((a.e c (1-d)).1+1) (iV (mZ a c (1-d))).who):=λb' hP'=>by
  induction hP' with
  |nil=>
   refine⟨e1,λc d hc hd Q=> ?_⟩;obtain⟨_,x,x1,x2,x3,x4⟩:=(f1 c (1-d) hc eB).2 (sy c (1-d) hc eB) Q;rw[h0 c (1-d) hc eB,bU]at x4;rw[x4];refine⟨λy hy hh=> ?_,.inl ?_⟩;{rw[aam hy hh,x1,x2]}
   ·have H:(jq (x.P (a.e c (1-d)).2).L).1.st=9:=by
     have H:(kf a c (1-d)).st=9:=U.o c (1-d) hc eB Q;have hb:(decide (4<=(kf a c (1-d)).st)&&decide ((kf a c (1-d)).st<=8))=false:=by rw[H];rfl
     rw[x3];unfold jq kI l9;rw[ai hb,af (show¬(kf a c (1-d)).st=3 by omega)];exact H
    unfold A3;rw[ai H];exact⟨_,List.mem_cons_self,_,rfl⟩
  |snoc c' d' x l p j9 kF hF ih=>
   obtain⟨ie,ih⟩:=ih;have hs:=p.path.same;obtain⟨z1,z2,z3⟩:=ie.pop eB hk j9 kF hF;refine⟨z1,λc d hc hd Q=> ?_⟩;obtain⟨i1,i2⟩:=ih c d hc hd Q
   rename_i b'
   have vr:c<b'.nc:=by rw[hs.2.1,hn.2.1];exact hc
   have heb:b'.e=a.e:=hs.2.2.1.trans hn.2.2.1;obtain⟨em,g1⟩:=z3 c (1-d) vr eB;have aeL:∀y∈(b'.pop c' d' x l).F c (1-d),isH y->y∈b'.F c (1-d):=λy hy hh=>by
    obtain⟨s,rfl⟩:=hh;obtain⟨m1,_⟩:=qM (ie.i.nrm.emp (b'.e c' (1-d')).1) (b'.e c' (1-d')).2 x;unfold AN.pop at hy;rw[vZ]at hy;have C2:∀z,z∈(b'.lR c' d' l).F c (1-d)->z∈b'.F c (1-d):=λz E=>by
     rw[tK]at E;split at E;{rename_i e;rw[e.1,e.2,hF];simp[E]};{exact E}
    split at hy
    ·rcases av.1 hy with u|u
     ·exact C2 _ u
     ·exfalso;cases m1 ((b'.lR c' d' l).e c (1-d)).2 with
      |none h=>rw[h]at u;simp at u
      |link s' _ _ _ h=>rw[h]at u;obtain⟨v,hv⟩:=sD u;exact absurd (aC hv).1 eF
      |heard s' _ _ _ _ _ _ _ h=>rw[h]at u;exact absurd (aC (ar.1 u)).1 eF
      |J4 k1 k2 s' _ _ _ _ h=>rw[h]at u;exact absurd (aC (ar.1 u)).1 eF
    ·exact C2 _ hy
   refine⟨λy hy hh=>i1 y (aeL y hy hh) hh,?_⟩;have M6:0<=(iV (mZ a c (1-d))).who/\(iV (mZ a c (1-d))).who<=6:=by
    obtain⟨B0,xJ⟩:=U.i.own;have A:=U.i.rD.en c (1-d) hc eB;have jb:=(xJ.r _ A.1).2.1;exact(oI.tick jb.id.1 (jb.pe (a.e c (1-d)).2 (by rw[(xJ.r _ A.1).2.2.2.2];exact A.2))).who
   have J:1<=((a.e c (1-d)).1:Int)+1/\((a.e c (1-d)).1:Int)+1<=6:=by
    have:=U.i.rD.en c (1-d) hc eB;have:=U.i.rD.n6;omega
   obtain⟨v1,v2⟩:=Xq ie j9 kF hF c d vr hd;by_cases V:c=c'/\d=1-d'/\isH x;{right;have Hl:1-d=d':=eB;have hx:=i1 x (by rw[V.1,Hl,hF];simp) V.2.2;rw[v1 ⟨V.1,V.2.1⟩ _ hx (by rw[Ki J M6]),Ki J M6,heb,<-V.1,<-V.2.1]}
   ·rw[v2 V];rcases i2 with⟨y,y1,y2⟩|i2
    ·left;by_cases e:c=c'/\1-d=d'
     ·rw[e.1,e.2,hF]at y1;rcases aP.1 y1 with v|v
      {exact absurd ⟨e.1,eB,by rw[<-v];exact y2⟩ V};{refine⟨y,?_,y2⟩;rw[g1,ai e];simp[v]}
     ·refine⟨y,?_,y2⟩;rw[g1,af e];simp[y1]
    ·exact .inr i2
 obtain⟨k1,k2⟩:=key b hP;refine⟨k1,λc d hc hd Q=> ?_⟩;rcases(k2 c d hc hd Q).2 with⟨x,hx,_⟩|g
 {rw[h1 c (1-d) hc eB]at hx;simp at hx};{exact g}
