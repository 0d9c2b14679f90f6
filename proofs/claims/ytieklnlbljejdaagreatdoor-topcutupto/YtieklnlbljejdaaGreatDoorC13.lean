import Derived.Test.YtieklnlbljejdaaGreatDoorC12
open Option renaming none → ν, some → μ
open List renaming sublist_nil → iy, flatMap → iz, take_sublist → iA, length_cons → eQ
namespace Go.Proofs.YtieklnlbljejdaaGreatDoor
open Go.RowKit St
namespace Rt
variable {B N c d d' i k p t:Nat} {F Fi Fo G em l ps:List la} {K:Int->Option PS} {L L' M:LS} {S:List (Int×List UInt8)} {T:List (Nat×Nat)} {X Y:Int->Bool} {a b:AN} {code g h id ow own seq y:Int} {es:List jJ} {q:PS} {r:iN} {x:la}
def Cu(code:Int):la->Option Int
 |76::s=>if(iY s).2.2.2=0/\(iY s).1=code then some (iY s).2.1 else none
 |_=>none
theorem xH(code:Int) {c:UInt8} (s:List UInt8)(h:c≠76):Cu code (c::s)=ν:=by
 unfold Cu;split;{rename_i e;exact absurd (aC e).1 h};{rfl}
theorem Qf {k:Int} (V:k=1 \/k=2)(hi:0<=id/\id<=255)(Z:1<=g/\g<=255):Cu code (76::mG k id (nZ g))=if k=code then μ id else ν:=by
 show(if(iY (mG k id (nZ g))).2.2.2=0/\(iY (mG k id (nZ g))).1=code then μ (iY (mG k id (nZ g))).2.1 else ν)=_;rw[Ad V hi Z];by_cases e:k=code;{rw[ai ⟨rfl,e⟩,ai e]};{rw[af (λh=>e h.2),af e]}
def ids(code:Int)(l:List la):List Int:=l.filterMap (Cu code)
theorem ku(code:Int)(l m:List la):ids code (l++m)=ids code l++ids code m:=by unfold ids;rw[bG]
theorem Ae(h:∀x∈l,Cu code x=ν):ids code l=[] :=by
 unfold ids;rw[cV];exact h
theorem jR(l:List la)(h:Cu code x=ν):ids code (x::l)=ids code l:=by unfold ids;rw[bh,h]
theorem jH {i:Int} (l:List la)(h:Cu code x=μ i):ids code (x::l)=i::ids code l:=by unfold ids;rw[bh,h]
theorem ZB {i:Int} (h:i∈ids code l):∃x∈l,Cu code x=μ i:=by
 unfold ids at h;obtain⟨x,Z,V⟩:=cE.1 h;exact⟨x,Z,V⟩
theorem JT {i:Int} (Z:x∈l)(V:Cu code x=μ i):i∈ids code l:=by
 unfold ids;exact cE.2 ⟨x,Z,V⟩
def Ml(go gi:Int)(x:la):Prop:=(∀c s,x=c::s->c≠76) \/(∃id,0<=id/\id<=255/\x=mL go id) \/(∃id,0<=id/\id<=255/\x=oa gi id)
def rD(x:la):Prop:=∀c s,x=c::s->c≠76
theorem rD.lk(h:rD x)(code:Int):Cu code x=ν:=by
 cases x with
 |nil=>rfl
 |cons c s=>exact xH code s (h c s rfl)
def JU(X:Int->Bool)(ow:Int)(x y:la):Prop:=∀j id,Cu 2 x=μ j->Cu 1 y=μ id->X id=true->j<ow
structure oK(X:Int->Bool)(L:LS)(Fo Fi:List la)(t:Nat):Prop where
 inc:(ids 2 Fi++ids 1 Fo).Pairwise (· < ·)
 le:∀i∈ids 2 Fi++ids 1 Fo,i<=L.ow
 emp:L.st=7 \/L.st=9->ids 2 Fi++ids 1 Fo=[] /\∀i∈ids 1 Fi,X i=false
 lim:Fi.Pairwise (JU X L.ow)
 JV:L.ow+(((ids 1 Fi).filter λi=> !X i).length:Nat)<=t
structure Pair(X Y:Int->Bool)(t:Nat)(g h:Int)(L M:LS)(F G:List la):Prop where
 l:LI g L
 m:LI h M
 lu:6<=L.st
 mu:6<=M.st
 f:∀x∈F,Ml g h x
 g:∀x∈G,Ml h g x
 d:oK Y L F G t
 e:oK X M G F t
theorem Pair.symm(p:Pair X Y t g h L M F G):Pair Y X t h g M L G F:=⟨p.m,p.l,p.mu,p.lu,p.g,p.f,p.e,p.d⟩
theorem oK.mono {u:Nat} (p:oK X L Fo Fi t)(h:t<=u):oK X L Fo Fi u:=⟨p.inc,p.le,p.emp,p.lim,by have:=p.JV;omega⟩
theorem Pair.mono {X Y:Int->Bool} {t u:Nat} {g h:Int} {L M:LS} {F G:List la} (p:Pair X Y t g h L M F G)(k:t<=u):Pair X Y u g h L M F G:=⟨p.l,p.m,p.lu,p.mu,p.f,p.g,p.d.mono k,p.e.mono k⟩
theorem oK.congr(p:oK X L Fo Fi t)(V:L'.st=L.st)(Z:L'.ow=L.ow):oK X L' Fo Fi t:=⟨p.inc,by rw[Z];exact p.le,by rw[V];exact p.emp,by rw[Z];exact p.lim,by rw[Z];exact p.JV⟩
theorem oK.sub {Fo' Fi':List la} (p:oK X L Fo Fi t)(U:Fo'.Sublist Fo)(Z:Fi'.Sublist Fi):oK X L Fo' Fi' t:=by
 have s1:(ids 2 Fi'++ids 1 Fo').Sublist (ids 2 Fi++ids 1 Fo):=List.Sublist.append (Z.filterMap _) (U.filterMap _);have V:(ids 1 Fi').Sublist (ids 1 Fi):=Z.filterMap _;refine⟨p.inc.sublist s1,λi hi=>p.le i (s1.mem hi),λh=> ?_,p.lim.sublist Z,?_⟩;{obtain⟨a,b⟩:=p.emp h;refine⟨?_,λi hi=>b i (V.mem hi)⟩;rw[a]at s1;exact iy.1 s1};{have:=p.JV;have:=(V.filter λi=> !X i).length_le;omega}
theorem Pair.sub {X Y:Int->Bool} {t:Nat} {g h:Int} {L M:LS} {F G F' G':List la} (p:Pair X Y t g h L M F G)(Z:F'.Sublist F)(V:G'.Sublist G):Pair X Y t g h L M F' G':=
 ⟨p.l,p.m,p.lu,p.mu,λx hx=>p.f x (Z.mem hx),λx hx=>p.g x (V.mem hx),p.d.sub Z V,p.e.sub V Z⟩
theorem oK.ahv(p:oK X L Fo Fi t)(h:∀x∈ps,rD x):oK X L Fo (Fi++ps) t:=by
 have Z:∀c,ids c (Fi++ps)=ids c Fi:=λc=>by rw[ku,Ae λx hx=>(h x hx).lk c,aB]
 refine⟨by rw[Z];exact p.inc,by rw[Z];exact p.le,by rw[Z,Z];exact p.emp,?_,by rw[Z];exact p.JV⟩;refine bu.2 ⟨p.lim,?_,λx _ y hy j id _ U=>by rw[(h y hy).lk]at U;exact absurd U gU⟩;exact dH (R:=λ_ _=>True) (λ{x y} hx _ _ j id V=>by rw[(h x hx).lk]at V;exact absurd V gU) (List.pairwise_of_forall λ_ _=>trivial)
theorem oK.ahw(p:oK X L Fo Fi t)(h:∀x∈ps,rD x):oK X L (Fo++ps) Fi t:=by
 have Z:ids 1 (Fo++ps)=ids 1 Fo:=by rw[ku,Ae λx hx=>(h x hx).lk 1,aB]
 exact⟨by rw[Z];exact p.inc,by rw[Z];exact p.le,by rw[Z];exact p.emp,p.lim,p.JV⟩
theorem Pair.more(p:Pair X Y t g h L M F G)(Z:∀x∈ps,rD x):Pair X Y t g h L M (F++ps) G:=
 ⟨p.l,p.m,p.lu,p.mu,λx hx=>(av.1 hx).elim (p.f x) λe=>.inl (Z x e),p.g,p.d.ahw Z,p.e.ahv Z⟩
theorem sS(Z:1<=g/\g<=255)(hi:0<=id/\id<=255):Cu 1 (mL g id)=μ id/\Cu 2 (mL g id)=ν/\Cu 1 (oa g id)=ν/\Cu 2 (oa g id)=μ id:=by
 unfold mL oa;rw[Qf (.inl rfl) hi Z,Qf (.inl rfl) hi Z,Qf (.inr rfl) hi Z,Qf (.inr rfl) hi Z];exact⟨gU,gU,gU,gU⟩
def mark(X:Int->Bool)(i:Int)(b:Bool):Int->Bool:=λk=>if k=i then b else X k
theorem Mm {i:Int} {b:Bool} {l:List Int} (h:∀k∈l,k<i):(l.filter λk=> !mark X i b k)=l.filter λk=> !X k:=by
 refine List.filter_congr λk Z=> ?_;have:=h k Z;unfold mark;rw[af dZ]
theorem Mn {i:Int} {b:Bool} (h:∀k∈ids 1 F,k<i)(p:F.Pairwise (JU X ow)):F.Pairwise (JU (mark X i b) ow):=by
 refine dH (λ{x y} _ hy Q j id U V Z=>Q j id U V ?_) p;have:=h id (JT hy V);unfold mark at Z;rw[af dZ]at Z;exact Z
theorem WG {Cv:Int} (h:ow<=Cv)(p:F.Pairwise (JU X ow)):F.Pairwise (JU X Cv):=
 p.imp λ{x y} Q j id Z V U=>by have:=Q j id Z V U;omega
theorem Pair.ask(D:1<=g/\g<=255)(p:Pair X Y t g h L M F G)(ht:t+1<=255)(hl:LI g L')(J:L'.ow=L.ow+1)(hs:L'.st=6 \/L'.st=8):Pair (mark X (L.ow+1) false) Y (t+1) g h L' M (F++ [mL g (L.ow+1)]) G:=by
 have hb:=p.d.JV;have hi:0<=L.ow+1/\L.ow+1<=255:=by have:=p.l.k.o1;omega
 obtain⟨r1,u,_,_⟩:=sS D hi;have Z:ids 1 (F++ [mL g (L.ow+1)])=ids 1 F++ [L.ow+1] :=by rw[ku,jH [] r1];rfl
 have U:ids 2 (F++ [mL g (L.ow+1)])=ids 2 F:=by rw[ku,jR [] u];simp[ids]
 have H:∀k∈ids 1 F,k<L.ow+1:=λk A=>by have:=p.d.le k (av.2 (.inr A));omega
 refine⟨hl,p.m,dZ,p.mu,λx hx=> ?_,p.g,⟨?_,?_,λh=>dZ,by rw[J];exact WG dZ p.d.lim,by rw[J];omega⟩,⟨?_,?_,λh=> ?_,?_,?_⟩⟩
 ·rcases av.1 hx with e|e
  {exact p.f x e};{exact .inr (.inl ⟨_,hi.1,hi.2,ar.1 e⟩)}
 ·rw[Z,<-aD];refine bu.2 ⟨p.d.inc,gU,λa E b hb=> ?_⟩;rw[ar.1 hb];have:=p.d.le a E;omega
 ·rw[Z,<-aD,J];intro i hi;rcases av.1 hi with e|e
  {have:=p.d.le i e;omega};{rw[ar.1 e];exact Int.le_refl _}
 {rw[U];exact p.e.inc};{rw[U];exact p.e.le}
 ·rw[Z,U];obtain⟨a,b⟩:=p.e.emp h;refine⟨a,λi hi=> ?_⟩;unfold mark;rcases av.1 hi with e|e
  {rw[af (by have:=H i e;omega)];exact b i e};{rw[ai (ar.1 e)]}
 ·refine bu.2 ⟨Mn H p.e.lim,gU,λx _ y hy j id _ V Q=> ?_⟩;rw[ar.1 hy,r1]at V;injection V with V
  unfold mark at Q;rw[ai V.symm]at Q;exact absurd Q gU
 ·rw[Z,cB,Mm H,az];have:=p.e.JV;have:((([L.ow+1] :List Int).filter λi=> !mark X (L.ow+1) false i).length)<=1:=cK _ _;omega
theorem Pair.tick(U:1<=g/\g<=255)(p:Pair X Y t g h L M F G)(E:t+1<=255):∃X',Pair X' Y (t+1) g h (jd L).1 M (F++(jd L).2.flatMap oo) G/\(∀k∈ids 1 F,X' k=X k)/\((jd L).2.flatMap oo=[] \/(jd L).2.flatMap oo=[mL g (L.ow+1)]):=by
 obtain⟨li,Z|Z⟩:=JR U p.l
 ·obtain⟨Z,J,V,_⟩:=Z;refine⟨X,?_,λ_ _=>rfl,.inl (by rw[Z];rfl)⟩;rw[Z];have q:Pair X Y t g h (jd L).1 M F G:=⟨li,p.m,by rw[V];exact p.lu,p.mu,p.f,p.g,p.d.congr V J,p.e⟩
  simpa using q.mono (Nat.le_succ t)
 ·obtain⟨_,_,V,Q,_,h6⟩:=Z;have hb:=p.d.JV;have hi:0<=L.ow+1/\L.ow+1<=255:=by have:=p.l.k.o1;omega
  have em:(L.ow+1) %256=L.ow+1:=dZ;rw[em]at V Q;have e:(jd L).2.flatMap oo=[mL g (L.ow+1)] :=by
   rw[V];show oo _++ [] =_;rw[FA (.inl rfl) hi U];rfl
  refine⟨mark X (L.ow+1) false,?_,λk H=> ?_,.inr e⟩;{rw[e];exact p.ask U E li Q dZ};{have:=p.d.le k (av.2 (.inr H));unfold mark;rw[af dZ]}
def xS(X:Int->Bool)(x:la):Nat:=match Cu 1 x with
 |some i=>if X i=true then 2 else 3
 |none=>match x with
  |83::_=>2
  |77::_::b::_=>b.toNat+1
  |_=>1
def oQ(X:Int->Bool)(x:la):Nat:=match Cu 1 x with
 |some i=>if X i=true then 2 else 4
 |none=>match x with
  |83::_=>2
  |77::_=>0
  |_=>1
theorem Af(Z:1<=g/\g<=255)(hi:0<=id/\id<=255)(X:Int->Bool):xS X (oa g id)=1/\oQ X (oa g id)=1:=by
 unfold xS oQ;rw[(sS Z hi).2.2.1];exact⟨rfl,rfl⟩
theorem Ag(Z:1<=g/\g<=255)(hi:0<=id/\id<=255)(X:Int->Bool):xS X (mL g id)=(if X id=true then 2 else 3)/\oQ X (mL g id)=if X id=true then 2 else 4:=by
 unfold xS oQ;rw[(sS Z hi).1];exact⟨rfl,rfl⟩
theorem oK.abj {X':Int->Bool} (hh:1<=h/\h<=255)(hi:0<=id/\id<=255)(p:oK X M (mL h id::G) F t)(Z:ids 2 em=[id])(V:(F++em).Pairwise (JU X' M.ow))(U:M.ow+(((ids 1 (F++em)).filter λi=> !X' i).length:Nat)<=t):oK X' M G (F++em) t:=by
 have r1:=(sS hh hi).1;have e:ids 2 (F++em)++ids 1 G=ids 2 F++ids 1 (mL h id::G):=by
  rw[ku,Z,jH G r1,aD];rfl
 refine⟨by rw[e];exact p.inc,by rw[e];exact p.le,λhs=> ?_,V,U⟩;have:=(p.emp hs).1;rw[jH G r1]at this;simp at this
theorem Qg(Z:F.Pairwise (JU X ow))(V:em.Pairwise (JU X ow))(U:∀y∈em,∀id,Cu 1 y=μ id->X id=true->∀j∈ids 2 F,j<ow):(F++em).Pairwise (JU X ow):=
 bu.2 ⟨Z,V,λ_ hx y hy j id a b c=>U y hy id b c j (JT hx a)⟩
structure ZD(X X' Y:Int->Bool)(t:Nat)(g h:Int)(L' M:LS)(F l em:List la)(x:la):Prop where
 p:Pair X' Y t g h L' M (F++em) l
 old:∀k∈ids 1 F,X' k=X k
 dp:∀y∈em,xS X' y+1<=xS Y x
 wg:sm (oQ X') em+1<=oQ Y x
 st:6<=L'.st
theorem Pair.ahx(hh:1<=h/\h<=255)(hi:0<=id/\id<=255)(p:Pair X Y t g h L M F (mL h id::l))(li:LI g L')(Z:L'.ow=L.ow)(Q:6<=L'.st)(A:L'.st=7 \/L'.st=9->L.st=7):ZD X X Y t g h L' M F l [oa h id] (mL h id):=by
 obtain⟨r1,u,E,j⟩:=sS hh hi;have U:=jH l r1;have V:=jR l u;have i1:ids 1 [oa h id] =[] :=by rw[jR _ E];rfl
 have D:ids 2 [oa h id] =[id] :=by rw[jH _ j];rfl
 have H:=Ag hh hi Y;refine⟨⟨li,p.m,Q,p.mu,λx hx=> ?_,λy hy=>p.g y (by simp[hy]),⟨?_,?_,λhs=> ?_,?_,?_⟩,?_⟩,λk _=>rfl,λy hy=> ?_,?_,Q⟩
 ·rcases av.1 hx with z|z
  {exact p.f x z};{rw[ar.1 z];exact .inr (.inr ⟨id,hi.1,hi.2,rfl⟩)}
 {rw[ku,i1,aB,<-V];exact p.d.inc};{rw[ku,i1,aB,<-V,Z];exact p.d.le};{rw[ku,i1,aB,<-V];obtain⟨a,b⟩:=p.d.emp (.inl (A hs));exact⟨a,λi hi=>b i (by rw[U];simp[hi])⟩};{rw[Z];exact p.d.lim.sublist (bP _ _)};{rw[Z];have:=p.d.JV;rw[U]at this;have h2:((ids 1 l).filter λi=> !Y i).length<=((id::ids 1 l).filter λi=> !Y i).length:=((bP id (ids 1 l)).filter _).length_le;omega};{refine oK.abj hh hi p.e D (Qg p.e.lim gU λy hy i J _=>by rw[ar.1 hy,E]at J;exact absurd J gU) ?_;rw[ku,i1,aB];exact p.e.JV};{rw[ar.1 hy,(Af hh hi _).1,H.1];split<;>omega};{show oQ _ (oa h id)+0+1<=_;rw[(Af hh hi _).2,H.2];split<;>omega}
theorem Pair.req(E:1<=g/\g<=255)(hh:1<=h/\h<=255)(jt:h≠g)(ht:t<=255)(hi:0<=id/\id<=255)(p:Pair X Y t g h L M F (mL h id::l)):∃X',ZD X X' Y t g h (jK L (1,id,nZ h)).1 M F l ((jK L (1,id,nZ h)).2.1.flatMap oo) (mL h id):=by
 obtain⟨r1,r2,r3,r4⟩:=sS hh hi;have hb:=p.d.JV;have ho:=p.l.k.o1;have A:=jH l r1;have Qh:=jR l r2;have hf:∀y∈l,Ml h g y:=λy hy=>p.g y (by simp[hy]);have hack:Ml g h (oa h id):=.inr (.inr ⟨id,hi.1,hi.2,rfl⟩);have Q:oo (2,id,nZ h)=[oa h id] :=FA (.inr rfl) hi hh;have hM:∀j∈ids 2 F,j<M.ow:=λj hj=>by
  have h1:=p.e.inc;have h2:=p.e.le id (by rw[A];simp);rw[A]at h1;have:=(bu.1 h1).2.2 j hj id gU;omega
 obtain⟨li,h9|h7|h68⟩:=WB E hh jt hi p.l p.lu
 ·obtain⟨s9,out,s8,Z,_⟩:=h9;obtain⟨WI,adR⟩:=p.d.emp (.inr s9);have hX:Y id=false:=adR id (by rw[A];simp);have amg:((ids 1 (mL h id::l)).filter λi=> !Y i).length=((ids 1 l).filter λi=> !Y i).length+1:=by
   rw[A,List.filter_cons,hX];rfl
  have em:(L.ow+1) %256=L.ow+1:=dZ;have H:0<=L.ow+1/\L.ow+1<=255:=dZ;obtain⟨q1,q2,q3,q4⟩:=sS E H;rw[em]at out Z;have e:(jK L (1,id,nZ h)).2.1.flatMap oo=[mL g (L.ow+1),oa h id] :=by
   rw[out];show oo _++(oo _++ [])=_;rw[FA (.inl rfl) H E,Q];rfl
  have J:ids 2 l=[] /\ids 1 F=[] :=by
   rw[Qh]at WI;exact dP.1 WI
  have i1:ids 1 [mL g (L.ow+1),oa h id] =[L.ow+1] :=by rw[jH _ q1,jR _ r3];rfl
  have i2:ids 2 [mL g (L.ow+1),oa h id] =[id] :=by rw[jR _ q2,jH _ r4];rfl
  refine⟨mark X (L.ow+1) true,?_⟩;rw[e];refine⟨⟨li,p.m,dZ,p.mu,λx hx=> ?_,hf,⟨?_,?_,λh=>dZ,?_,?_⟩,?_⟩,λk D=>by rw[J.2]at D;simp at D,λy hy=> ?_,?_,dZ⟩
  ·rcases av.1 hx with z|z
   ·exact p.f x z
   ·rcases aO.1 z with z|z
    {exact .inr (.inl ⟨_,H.1,H.2,z⟩)};{rw[ar.1 z];exact hack}
  {rw[J.1,ku,J.2,i1];simp};{rw[J.1,ku,J.2,i1,Z];simp};{rw[Z];exact WG dZ (p.d.lim.sublist (bP _ _))};{rw[Z];omega}
  ·refine oK.abj hh hi p.e i2 (Qg (Mn (λk D=>by rw[J.2]at D;simp at D) p.e.lim) ?_ λy hy i h1 h2=>hM) ?_;{refine cD.2 ⟨λy hy j i a=>by rw[q2]at a;exact absurd a gU,gU⟩}
   ·rw[ku,J.2,i1];have:(([] ++ [L.ow+1] :List Int).filter λi=> !mark X (L.ow+1) true i)=[] :=by simp[mark]
    rw[this];have:=p.e.JV;have e0:(([] :List Int).length:Nat)=0:=rfl;omega
  ·have hY:xS Y (mL h id)=3:=by rw[(Ag hh hi Y).1,hX];rfl
   rw[hY];rcases aO.1 hy with z|z
   {rw[z,(Ag E H _).1];simp[mark]};{rw[ar.1 z,(Af hh hi _).1];omega}
  ·have hY:oQ Y (mL h id)=4:=by rw[(Ag hh hi Y).2,hX];rfl
   rw[hY];show oQ _ (mL g (L.ow+1))+(oQ _ (oa h id)+0)+1<=4;rw[(Ag E H _).2,(Af hh hi _).2];simp[mark]
 ·have u:∃L',(jK L (1,id,nZ h)).1=L'/\LI g L'/\L'.ow=L.ow/\6<=L'.st/\(L'.st=7 \/L'.st=9->L.st=7)/\(jK L (1,id,nZ h)).2.1.flatMap oo=[oa h id] :=by
   obtain⟨s7,out,s9,Z⟩:=h7;refine⟨_,rfl,li,Z,dZ,λ_=>s7,?_⟩;rw[out];show oo _++ [] =_;rw[Q];rfl
  obtain⟨L',V,U,Z,Tt,kd,e⟩:=u;refine⟨X,?_⟩;rw[V,e];exact Pair.ahx hh hi p U Z Tt kd
 ·have u:∃L',(jK L (1,id,nZ h)).1=L'/\LI g L'/\L'.ow=L.ow/\6<=L'.st/\(L'.st=7 \/L'.st=9->L.st=7)/\(jK L (1,id,nZ h)).2.1.flatMap oo=[oa h id] :=by
   obtain⟨s7,out,s8,Z,_⟩:=h68;refine⟨_,rfl,li,Z,dZ,λh=>dZ,?_⟩;rw[out];show oo _++ [] =_;rw[Q];rfl
  obtain⟨L',V,U,Z,Tt,kd,e⟩:=u;refine⟨X,?_⟩;rw[V,e];exact Pair.ahx hh hi p U Z Tt kd
theorem Pair.ack(E:1<=g/\g<=255)(hi:0<=id/\id<=255)(p:Pair X Y t g h L M F (oa g id::l)):ZD X X Y t g h (jK L (2,id,nZ g)).1 M F l ((jK L (2,id,nZ g)).2.1.flatMap oo) (oa g id):=by
 obtain⟨r1,r2,r3,r4⟩:=sS E hi;have H:=jR l r3;have Qh:=jH l r4;have V:ids 2 (oa g id::l)++ids 1 F=id::(ids 2 l++ids 1 F):=by rw[Qh];rfl
 have ll:¬(L.st=7 \/L.st=9):=λh=>by
  have:=(p.d.emp h).1;rw[V]at this;simp at this
 have U:=p.d.inc;have Z:=p.d.le;rw[V]at U Z;have Q:=cD.1 U;have he:oK X M l F t:=⟨by have:=p.e.inc;rw[H]at this;exact this,by have:=p.e.le;rw[H]at this;exact this,by have:=p.e.emp;rw[H]at this;exact this,p.e.lim,p.e.JV⟩
 have ZC:L.ow+(((ids 1 l).filter λi=> !Y i).length:Nat)<=t:=by have:=p.d.JV;rw[H]at this;exact this
 have D:=p.d.lim;have hf:∀y∈l,Ml h g y:=λy hy=>p.g y (by simp[hy]);have J:sm (oQ X) [] +1<=oQ Y (oa g id):=by rw[(Af E hi Y).2];exact Nat.le_refl _
 by_cases hw:id=L.ow
 ·have A:L.st=6 \/L.st=8:=by
   have:=p.lu;have:=p.l.st;omega
  obtain⟨a1,a2,a3,_,a5⟩:=WC E p.l A;subst hw;rw[a2];have j:ids 2 l++ids 1 F=[] :=by
   cases hl:ids 2 l++ids 1 F with
   |nil=>rfl
   |cons z zs=>
    have h1:=Q.1 z (by rw[hl];simp);have h2:=Z z (by rw[hl];simp);omega
  refine⟨⟨a1,p.m,by rw[a5];omega,p.mu,?_,hf,⟨?_,?_,λ_=>⟨?_,λi kT=> ?_⟩,?_,?_⟩,?_⟩,λ_ _=>rfl,λy hy=>by simp at hy,J,by rw[a5];omega⟩;{simpa using p.f};{rw[show F++iz oo [] =F by simp,j];exact List.Pairwise.nil};{rw[show F++iz oo [] =F by simp,j];exact λ_ h=>by simp at h};{rw[show F++iz oo [] =F by simp];exact j};{obtain⟨y,hy,u⟩:=ZB kT;cases hX:Y i;{rfl};{have:=(cD.1 D).1 y hy L.ow i r4 u hX;omega}}
  {rw[a3];exact D.sublist (bP _ _)};{rw[a3];exact ZC};{rw[show F++iz oo [] =F by simp];exact he}
 ·rw[adP E hi hw];refine⟨⟨p.l,p.m,p.lu,p.mu,?_,hf,⟨?_,?_,λh=>absurd h ll,D.sublist (bP _ _),ZC⟩,?_⟩,λ_ _=>rfl,λy hy=>by simp at hy,J,p.lu⟩;{simpa using p.f};{rw[show F++iz oo [] =F by simp];exact Q.2};{rw[show F++iz oo [] =F by simp];exact λi hi=>Z i (by simp[hi])};{rw[show F++iz oo [] =F by simp];exact he}
theorem Pair.new(U:1<=g/\g<=255)(hh:1<=h/\h<=255)(l:LI g L)(m:LI h M)(s1:L.st=6)(s2:M.st=6)(w1:L.ow+1<=t)(w2:M.ow+1<=t):Pair (λ_=>false) (λ_=>false) t g h L M [mL g L.ow] [mL h M.ow] :=by
 obtain⟨q1,q2,_,_⟩:=sS U ⟨l.k.o1,l.k.o2⟩;obtain⟨r1,Q,_,_⟩:=sS hh ⟨m.k.o1,m.k.o2⟩;have Z:ids 1 [mL g L.ow] =[L.ow] :=by rw[jH _ q1];rfl
 have V:ids 2 [mL g L.ow] =[] :=by rw[jR _ q2];rfl
 have b1:ids 1 [mL h M.ow] =[M.ow] :=by rw[jH _ r1];rfl
 have b2:ids 2 [mL h M.ow] =[] :=by rw[jR _ Q];rfl
 refine⟨l,m,dZ,dZ,λx hx=> ?_,λx hx=> ?_,⟨?_,?_,λh=>dZ,gU,?_⟩,⟨?_,?_,λh=>dZ,gU,?_⟩⟩;{exact .inr (.inl ⟨_,l.k.o1,l.k.o2,ar.1 hx⟩)};{exact .inr (.inl ⟨_,m.k.o1,m.k.o2,ar.1 hx⟩)};{rw[Z,b2];simp};{rw[Z,b2];simp};{rw[b1];show L.ow+((1:Nat):Int)<=t;omega};{rw[b1,V];simp};{rw[b1,V];simp};{rw[Z];show M.ow+((1:Nat):Int)<=t;omega}
def j0(a:AN)(c d:Nat):LS:=((a.R (a.e c d).1).P (a.e c d).2).L
def gP(x:Nat×Nat):Int:=8*((x.1:Int)+1)+(x.2:Int)+1
theorem rE(Z:tI a)(hc:c<a.nc)(hd:d<2):1<=gP (a.e c d)/\gP (a.e c d)<=255:=by
 have:=Z.en c d hc hd;have:=Z.n6;unfold gP;omega
theorem abl(Z:tI a)(hc:c<a.nc)(hd:d<2)(V:d'<2)(h:d≠d'):gP (a.e c d)≠gP (a.e c d'):=by
 have h1:=Z.en c d hc hd;have h2:=Z.en c d' hc V;intro e;unfold gP at e;have:a.e c d=a.e c d':=aV dZ dZ;exact h (Z.ds _ _ _ _ hc hd hc V this).2
abbrev Marks:=Nat->Nat->Int->Bool
structure qY(X:Marks)(t:Nat×Nat->Nat)(a:AN):Prop where
 up:∀c,c<a.nc->a.iQ c=true->Pair (X c 0) (X c 1) (t (a.e c 0)+t (a.e c 1)) (gP (a.e c 0)) (gP (a.e c 1)) (j0 a c 0) (j0 a c 1) (a.F c 0) (a.F c 1)
 dn:∀c,c<a.nc->a.iQ c=false->∀d,d<2->LI (gP (a.e c d)) (j0 a c d)/\(j0 a c d).st=1/\(j0 a c d).ow<=((t (a.e c 0)+t (a.e c 1):Nat):Int)/\a.F c d=[]
theorem qY.tM {X:Marks} {t:Nat×Nat->Nat} (h:qY X t a)(hc:c<a.nc)(hd:d<2)(hi:a.iQ c=true):Pair (X c d) (X c (1-d)) (t (a.e c 0)+t (a.e c 1)) (gP (a.e c d)) (gP (a.e c (1-d))) (j0 a c d) (j0 a c (1-d)) (a.F c d) (a.F c (1-d)):=by
 have:d=0 \/d=1:=dZ;rcases this with rfl|rfl
 {exact h.up c hc hi};{exact(h.up c hc hi).symm}
theorem qY.yX {X:Marks} {t:Nat×Nat->Nat} (h:qY X t a)(hc:c<a.nc)(hd:d<2)(hx:x∈a.F c d):a.iQ c=true:=by
 cases hi:a.iQ c;{have:=(h.dn c hc hi d hd).2.2.2;rw[this]at hx;simp at hx};{rfl}
theorem Mp {X:Marks} {g:Nat->Int} {L:Nat->LS} {F:Nat->List la} (hd:d<2)(h:Pair (X 0 d) (X 0 (1-d)) t (g d) (g (1-d)) (L d) (L (1-d)) (F d) (F (1-d))):Pair (X 0 0) (X 0 1) t (g 0) (g 1) (L 0) (L 1) (F 0) (F 1):=by
 have:d=0 \/d=1:=dZ;rcases this with rfl|rfl
 {exact h};{exact h.symm}
theorem qY.PX {X X':Marks} {t u:Nat×Nat->Nat} (h:qY X t a)(V:∀x,t x<=u x)(U:b.e=a.e)(hc:c<a.nc)(hi:b.iQ c=a.iQ c)(Q:∀d,d<2->X' c d=X c d)(Z:∀d,d<2->j0 b c d=j0 a c d)(hF:∀d,d<2->b.F c d=a.F c d):(b.iQ c=true->Pair (X' c 0) (X' c 1) (u (b.e c 0)+u (b.e c 1)) (gP (b.e c 0)) (gP (b.e c 1)) (j0 b c 0) (j0 b c 1) (b.F c 0) (b.F c 1))/\(b.iQ c=false->∀d,d<2->LI (gP (b.e c d)) (j0 b c d)/\(j0 b c d).st=1/\(j0 b c d).ow<=((u (b.e c 0)+u (b.e c 1):Nat):Int)/\b.F c d=[]):=by
 have t0:=V (a.e c 0);have t1:=V (a.e c 1);refine⟨λhb=> ?_,λhb d hd=> ?_⟩;{rw[U,Q 0 ew,Q 1 ew,Z 0 ew,Z 1 ew,hF 0 ew,hF 1 ew];exact(h.up c hc (by rw[<-hi];exact hb)).mono dZ};{rw[U,Z d hd,hF d hd];obtain⟨J,H,a3,E⟩:=h.dn c hc (by rw[<-hi];exact hb) d hd;exact⟨J,H,dZ,E⟩}
theorem Ix(a:AN)(i:Nat)(s:iN)(c d:Nat):j0 (a.op i s) c d=if(a.e c d).1=i then(s.P (a.e c d).2).L else j0 a c d:=by
 unfold j0;show((jU a.R i s.core (a.e c d).1).P (a.e c d).2).L=_;by_cases e:(a.e c d).1=i;{rw[e,iE,ai rfl];rfl};{rw[iC _ _ e,af e]}
theorem Iy(h:∀k∈ids 1 F,Y k=X k):∀y∈F,xS Y y=xS X y/\oQ Y y=oQ X y:=λy hy=>by
 unfold xS oQ;cases e:Cu 1 y with
 |none=>exact⟨rfl,rfl⟩
 |some i=>constructor<;>simp only[h i (JT hy e)]
theorem qY.quiet {X:Marks} {t:Nat×Nat->Nat} (h:qY X t a)(i:Nat)(s:iN)(U:∀p,(s.P p).L=((a.R i).P p).L)(u:∀p,jl (s.P p)=[] \/((s.P p).L.st=9/\∀y∈jl (s.P p),rD y)):qY X t (a.op i s):=by
 have l1:∀c d,j0 (a.op i s) c d=j0 a c d:=λc d=>by
  rw[Ix];split;{rename_i e;rw[U,<-e];rfl};{rfl}
 have f1:∀c d,∃em,(a.op i s).F c d=a.F c d++em/\(em=[] \/((j0 a c d).st=9/\∀y∈em,rD y)):=λc d=>by
  rw[vF];split
  ·rename_i e
   refine⟨_,rfl,?_⟩;rcases u (a.e c d).2 with g|⟨g1,V⟩
   {exact .inl g};{right;rw[U]at g1;unfold j0;rw[e.2];exact⟨g1,V⟩}
  ·exact⟨[],gU,.inl rfl⟩
 refine⟨λc hc hi=> ?_,λc hc hi d hd=> ?_⟩
 ·have p:=h.up c hc hi;rw[l1,l1];obtain⟨D,Q,b0⟩:=f1 c 0;obtain⟨A,Z,b1⟩:=f1 c 1;rw[Q,Z];have j:∀y∈D,rD y:=by
   rcases b0 with b|b;· rw[b];exact λ_ h=>by simp at h
   ·exact b.2
  have n1:∀y∈A,rD y:=by
   rcases b1 with b|b;· rw[b];exact λ_ h=>by simp at h
   ·exact b.2
  exact((p.more j).symm.more n1).symm
 ·obtain⟨Z,J,H,E⟩:=h.dn c hc hi d hd;rw[l1];obtain⟨em,g1,V⟩:=f1 c d;refine⟨Z,J,H,?_⟩;rw[g1,E];rcases V with g|g
  {rw[g];rfl};{have:=g.1;omega}
theorem wV(i p:Nat)(s:iN)(h:∀q,q≠p->(s.P q).L=((a.R i).P q).L/\jl (s.P q)=[])(c d:Nat):(a.e c d≠(i,p)->j0 (a.op i s) c d=j0 a c d/\(a.op i s).F c d=a.F c d)/\(a.e c d=(i,p)->c<a.nc->d<2->j0 (a.op i s) c d=(s.P p).L/\(a.op i s).F c d=a.F c d++jl (s.P p)):=by
 refine⟨λJ=> ?_,λU hc hd=> ?_⟩;{rw[Ix,vF];by_cases e:(a.e c d).1=i;{have Q:(a.e c d).2≠p:=λZ=>J (aV e Z);obtain⟨g1,V⟩:=h _ Q;rw[ai e,g1,V,aB];refine⟨?_,by split<;>rfl⟩;unfold j0;rw[e]};{rw[af e,af (λz=>e z.2)];exact⟨rfl,rfl⟩}};{rw[Ix,vF,U,ai rfl,ai ⟨⟨hc,hd⟩,rfl⟩];exact⟨rfl,rfl⟩}
def qw(t:Nat×Nat->Nat)(T:List (Nat×Nat))(x:Nat×Nat):Nat:=t x+T.count x
def Gb(X:Marks)(c d:Nat)(Y:Int->Bool):Marks:=λc' d'=>if c'=c/\d'=d then Y else X c' d'
theorem rF(X:Marks)(c d:Nat)(Y:Int->Bool):Gb X c d Y c d=Y:=ai ⟨rfl,rfl⟩
theorem mD(X:Marks) {c':Nat} (Y:Int->Bool)(h:¬(c'=c/\d'=d)):Gb X c d Y c' d'=X c' d':=af h
theorem Ah(c:UInt8)(s:List UInt8)(h:c≠76):rD (c::s):=λk u e=>by rw[<-(aC e).1];exact h
def Ay(r:iN)(p:Nat):List la:=if(jd (r.P p).L).1.st=9 then(72::[jY r.id,jY (iJ (r.P p).pe).who])::(if(iJ (r.P p).pe).both=true then(lE (((jb r p).meet p (iJ (r.P p).pe)).O p)).flatMap DC else [])else []
theorem wW(r:iN)(p:Nat):∀y∈Ay r p,rD y:=λy hy=>by
 unfold Ay at hy;split at hy
 ·rcases aO.1 hy with g|g
  {rw[g];exact Ah 72 _ ew};{split at g;{obtain⟨q,_,Z⟩:=aT.1 g;unfold DC at Z;split at Z;{rw[ar.1 Z];exact Ah 83 _ ew};{simp at Z}};{simp at g}}
 ·simp at hy
theorem BF(r:iN)(p q:Nat):((r.iW p).P q).L=if q=p then(jd (r.P p).L).1 else(r.P q).L:=by
 have Z:((jb r p).P q).L=if q=p then(jd (r.P p).L).1 else(r.P q).L:=by
  unfold jb;rw[kO];split;{rename_i e;rw[sP]};{rfl}
 rw[k7];split;{rw[(kc _ _ _ _).2.1];exact Z};{rw[((pG _ _).2.2.2.2 q).2.2,(kc _ _ _ _).2.1];exact Z}
structure Mq(X Y:Marks)(a b:AN)(c d:Nat)(l em:List la):Prop where
 f:b.F c d=l++em
 o:∀y∈l,xS (Y c d) y=xS (X c d) y/\oQ (Y c d) y=oQ (X c d) y
theorem qY.tick {X:Marks} {t:Nat×Nat->Nat} {a:AN} (hB:tI a)(hN:Norm a)(h:qY X t a) {i p:Nat} (ht:∀x,t x<=126):∃Y,qY Y (qw t [(i,p)]) (a.op i ((a.R i).iW p))/\∀c d,c<a.nc->d<2->(a.e c d≠(i,p)->Mq X Y a (a.op i ((a.R i).iW p)) c d (a.F c d) [])/\(a.e c d=(i,p)->∃em,(em=[] \/em=[mL (gP (a.e c d)) ((j0 a c d).ow+1)])/\Mq X Y a (a.op i ((a.R i).iW p)) c d (a.F c d) (em++Ay (a.R i) p)):=by
 obtain⟨e1,e2⟩:=xF (hN.emp i) p;have Q:=wV (a:=a) i p ((a.R i).iW p) λq hq=>⟨by rw[BF,af hq],e1 q hq⟩
 have ZF:(((a.R i).iW p).P p).L=(jd ((a.R i).P p).L).1:=by rw[BF,ai rfl]
 have A:∀x,t x<=qw t [(i,p)] x:=λx=>Nat.le_add_right _ _;by_cases hex:∃c d,c<a.nc/\d<2/\a.e c d=(i,p)
 ·obtain⟨c,d,hc,hd,u⟩:=hex;have pA:j0 a c d=((a.R i).P p).L:=by unfold j0;rw[u]
  have hu:∀c' d',c'<a.nc->d'<2->¬(c'=c/\d'=d)->a.e c' d'≠(i,p):=λc' d' U V j e=>j (hB.ds _ _ _ _ U V hc hd (e.trans u.symm));cases hi:a.iQ c
  ·obtain⟨l1,l2,l3,l4⟩:=h.dn c hc hi d hd;have zc:=JR (rE hB hc hd) l1;have kr:jd (j0 a c d)=(j0 a c d,[]):=by
    rcases zc.or with g|g
    {exact aV (g.2.2.2.1 (.inl l2)) g.1};{omega}
   rw[pA]at kr l2;have em0:jl (((a.R i).iW p).P p)=[] :=by
    rw[e2,kr,af (by rw[l2];decide)];rfl
   have tk0:Ay (a.R i) p=[] :=by unfold Ay;rw[kr,af (by rw[l2];decide)]
   have nN:∀c' d',j0 (a.op i ((a.R i).iW p)) c' d'=j0 a c' d'/\(a.op i ((a.R i).iW p)).F c' d'=a.F c' d':=λc' d'=>by
    by_cases E:a.e c' d'=(i,p)
    {rw[Ix,vF,E,ai rfl,ZF,kr];refine⟨by unfold j0;rw[E],?_⟩;split;{rw[em0,aB]};{rfl}};{exact(Q c' d').1 E}
   refine⟨X,⟨λc' U H=> ?_,λc' U H=> ?_⟩,λc' d' U V=>⟨λ_=>⟨by rw[(nN c' d').2];simp,λ_ _=>⟨rfl,rfl⟩⟩,λ_=>⟨[],.inl rfl,by rw[(nN c' d').2,tk0];simp,λ_ _=>⟨rfl,rfl⟩⟩⟩⟩;{exact(h.PX (X':=X) (b:=a.op i ((a.R i).iW p)) A rfl U rfl (λ_ _=>rfl) (λd _=>(nN c' d).1) (λd _=>(nN c' d).2)).1 H};{exact(h.PX (X':=X) (b:=a.op i ((a.R i).iW p)) A rfl U rfl (λ_ _=>rfl) (λd _=>(nN c' d).1) (λd _=>(nN c' d).2)).2 H}
  ·have pr:=h.tM hc hd hi;have MT:t (a.e c 0)+t (a.e c 1)+1<=255:=by have:=ht (a.e c 0);have:=ht (a.e c 1);omega
   obtain⟨Z,q1,q2,q3⟩:=pr.tick (rE hB hc hd) MT;have q1:=q1.more (wW (a.R i) p);obtain⟨f1,f2⟩:=(Q c d).2 u hc hd;rw[e2]at f2;have f2:(a.op i ((a.R i).iW p)).F c d=a.F c d++(jd (j0 a c d)).2.flatMap oo++Ay (a.R i) p:=by
    rw[f2,pA,aD];rfl
   rw[ZF,<-pA]at f1;have GD:a.e c (1-d)≠(i,p):=hu c (1-d) hc dZ dZ;obtain⟨k1,k2⟩:=(Q c (1-d)).1 GD;have ami:qw t [(i,p)] (a.e c 0)+qw t [(i,p)] (a.e c 1)=t (a.e c 0)+t (a.e c 1)+1:=by
    have c1:([(i,p)] :List (Nat×Nat)).count (a.e c d)=1:=by rw[u];simp
    have c2:([(i,p)] :List (Nat×Nat)).count (a.e c (1-d))=0:=List.count_eq_zero.2 (by simp[GD]);have:d=0 \/d=1:=dZ;unfold qw;rcases this with rfl|rfl
    {rw[c1,show([(i,p)] :List (Nat×Nat)).count (a.e c 1)=0 from c2];omega};{rw[c1,show([(i,p)] :List (Nat×Nat)).count (a.e c 0)=0 from c2];omega}
   refine⟨Gb X c d Z,⟨λc' U H=> ?_,λc' U H=> ?_⟩,λc' d' U V=>⟨λj=> ?_,λE=> ?_⟩⟩;{by_cases hcc:c'=c;{subst hcc;show Pair _ _ (qw t [(i,p)] (a.e c' 0)+qw t [(i,p)] (a.e c' 1)) (gP (a.e c' 0)) (gP (a.e c' 1)) _ _ _ _;rw[ami];refine Mp (X:=λ_ d'=>Gb X c' d Z c' d') (g:=λd'=>gP (a.e c' d')) (L:=λd'=>j0 (a.op i ((a.R i).iW p)) c' d') (F:=λd'=>(a.op i ((a.R i).iW p)).F c' d') hd ?_;show Pair (Gb X c' d Z c' d) (Gb X c' d Z c' (1-d)) _ _ _ _ _ _ _;rw[rF,mD X Z dZ,f1,f2,k1,k2];exact q1};{have J:∀d',d'<2->a.e c' d'≠(i,p):=λd' V=>hu c' d' U V λz=>hcc z.1;exact(h.PX (X':=Gb X c d Z) (b:=a.op i ((a.R i).iW p)) A rfl U rfl (λd' _=>mD X Z λz=>hcc z.1) (λd' V=>((Q c' d').1 (J d' V)).1) (λd' V=>((Q c' d').1 (J d' V)).2)).1 H}}
   ·have hcc:c'≠c:=λz=>by subst z;have:a.iQ c'=false:=H;rw[hi]at this;exact absurd this gU
    have J:∀d',d'<2->a.e c' d'≠(i,p):=λd' V=>hu c' d' U V λz=>hcc z.1;exact(h.PX (X':=Gb X c d Z) (b:=a.op i ((a.R i).iW p)) A rfl U rfl (λd' _=>mD X Z λz=>hcc z.1) (λd' V=>((Q c' d').1 (J d' V)).1) (λd' V=>((Q c' d').1 (J d' V)).2)).2 H
   {have D:¬(c'=c/\d'=d):=λz=>j (by rw[z.1,z.2];exact u);exact⟨by rw[((Q c' d').1 j).2];simp,λ_ _=>by rw[mD X Z D];exact⟨rfl,rfl⟩⟩};{have D:=hB.ds _ _ _ _ U V hc hd (E.trans u.symm);obtain⟨z1,z2⟩:=D;subst z1 z2;exact⟨_,q3,by rw[f2,aD],λy hy=>by rw[rF];exact Iy q2 y hy⟩}
 ·have J:∀c d,c<a.nc->d<2->a.e c d≠(i,p):=λc d hc hd e=>hex ⟨c,d,hc,hd,e⟩;refine⟨X,⟨λc hc hi=> ?_,λc hc hi=> ?_⟩,λc d hc hd=>⟨λj=>⟨by rw[((Q c d).1 j).2];simp,λ_ _=>⟨rfl,rfl⟩⟩,λE=>absurd E (J c d hc hd)⟩⟩;{exact(h.PX (X':=X) (b:=a.op i ((a.R i).iW p)) A rfl hc rfl (λ_ _=>rfl) (λd hd=>((Q c d).1 (J c d hc hd)).1) (λd hd=>((Q c d).1 (J c d hc hd)).2)).1 hi};{exact(h.PX (X':=X) (b:=a.op i ((a.R i).iW p)) A rfl hc rfl (λ_ _=>rfl) (λd hd=>((Q c d).1 (J c d hc hd)).1) (λd hd=>((Q c d).1 (J c d hc hd)).2)).2 hi}
theorem uX(r:iN)(i:Nat) {c:UInt8} (s:List UInt8)(hc:c≠76)(p:Nat):((r.take i c s).P p).L=(r.P p).L:=by
 rw[lJ,uA i s hc];split;{exact(kc _ _ _ _).2.1};{exact(Ou r i c s p).1}
theorem tJ(r:iN)(i:Nat)(s:List UInt8)(p:Nat):((r.take i 76 s).P p).L=((j1 r i 76 s).P p).L/\((r.take i 76 s).P p).out=((j1 r i 76 s).P p).out:=by
 rw[lJ];split;{exact⟨(kc _ _ _ _).2.1,(kc _ _ _ _).1⟩};{unfold mB;rw[af ew,af ew,af ew,af ew];exact⟨rfl,rfl⟩}
theorem xI(h:Fu r i x p l)(hx:rD x)(X Y:Int->Bool):(l=[] \/((r.P p).L.st=9/\∀y∈l,rD y))/\(∀y∈l,xS Y y+1<=xS X x)/\(sm (oQ Y) l<=(if p=i then oQ X x else 0)):=by
 have Z:∀(c:UInt8) (s:List UInt8),c≠76->Cu 1 (c::s)=ν:=λc s h=>xH 1 s h;cases h with
 |none h=>rw[h];exact⟨.inl rfl,λ_ h=>by simp at h,Nat.zero_le _⟩
 |link s h _ _ _=>exact absurd rfl (hx 76 s h)
 |heard s hs U V _ _ _ _ h=>
  have d1:xS X x=2/\oQ X x=2:=by rw[hs];unfold xS oQ;rw[Z 83 s ew];exact⟨rfl,rfl⟩
  have d2:∀u,xS Y (65::u)=1/\oQ Y (65::u)=1:=λu=>by unfold xS oQ;rw[Z 65 u ew];exact⟨rfl,rfl⟩
  rw[h];refine⟨.inr ⟨by rw[U];exact V,λy hy=>by rw[ar.1 hy];exact Ah 65 _ ew⟩,λy hy=>by rw[ar.1 hy,(d2 _).1,d1.1];exact Nat.le_refl _,?_⟩;rw[ai U,d1.2];show oQ Y _+0<=2;rw[(d2 _).2];decide
 |JL a b s hs V h1 _ h=>
  have d1:xS X x=b.toNat+1:=by rw[hs];unfold xS;rw[Z 77 _ ew];rfl
  have d2:xS Y (77::a::jY ((b.toNat:Int)-1)::s)=b.toNat:=by
   unfold xS;rw[Z 77 _ ew];show(jY ((b.toNat:Int)-1)).toNat+1=_;have:=nF ((b.toNat:Int)-1) dZ (by have:=b.toNat_lt;omega);omega
  have Q:oQ Y (77::a::jY ((b.toNat:Int)-1)::s)=0:=by unfold oQ;rw[Z 77 _ ew];rfl
  rw[h];refine⟨.inr ⟨V,λy hy=>by rw[ar.1 hy];exact Ah 77 _ ew⟩,λy hy=>by rw[ar.1 hy,d2,d1];exact Nat.le_refl _,?_⟩;show oQ Y _+0<=_;rw[Q];exact Nat.zero_le _
def wc(X:Marks)(a:AN)(c:Nat):Nat:=sm (oQ (X c 0)) (a.F c 0)+sm (oQ (X c 1)) (a.F c 1)
theorem sT {α:Type} {f g:α->Nat} {l:List α} (h:∀x∈l,f x=g x):sm f l=sm g l:=by
 refine Nat.le_antisymm (vv λx hx=>Nat.le_of_eq (h x hx)) (vv λx hx=>Nat.le_of_eq (h x hx).symm)
theorem Mq.w {X Y:Marks} (h:Mq X Y a b c d l em):sm (oQ (Y c d)) (b.F c d)=sm (oQ (X c d)) l+sm (oQ (Y c d)) em:=by
 rw[h.f,pP,sT λy hy=>(h.o y hy).2]
theorem ZG {X:Marks} {t:Nat×Nat->Nat} (h:qY X t a)(hc:c<a.nc)(hd:d<2)(hF:a.F c d=x::l):qY X t (a.lv c d l):=by
 refine⟨λc' V hi=> ?_,λc' V hi d' H=> ?_⟩
 ·have p:=h.up c' V hi;have hs:∀d',((a.lv c d l).F c' d').Sublist (a.F c' d'):=λd'=>by
   rw[sQ];split;{rename_i e;rw[e.1,e.2,hF];exact bP _ _};{exact List.Sublist.refl _}
  exact p.sub (hs 0) (hs 1)
 ·obtain⟨U,Q,J,Z⟩:=h.dn c' V hi d' H;refine⟨U,Q,J,?_⟩;rw[sQ,af];{exact Z};{rintro⟨rfl,rfl⟩;rw[hF]at Z;exact absurd Z gU}
theorem Qi {P:Prop} [Decidable P] (hd:d<2) {s e f:Nat->Nat} (Q:∀d',d'<2->e d'<=if P/\d'=1-d then k else 0)(hs:∀d',d'<2->s d'+(if P/\d'=d then k else 0)<=f d'):s 0+e 0+(s 1+e 1)<=f 0+f 1:=by
 have Z:=Q 0 ew;have V:=Q 1 ew;have b0:=hs 0 ew;have b1:=hs 1 ew;have J:d=0 \/d=1:=dZ;by_cases U:P;{rcases J with rfl|rfl<;>simp[U]at Z V b0 b1<;>omega};{simp[U]at Z V b0 b1;omega}
structure adS(X Y:Marks)(a b:AN)(c d:Nat)(x:la)(l:List la):Prop where
 fl:∀c' d',c'<a.nc->d'<2->∃em,Mq X Y a b c' d' (if c'=c/\d'=d then l else a.F c' d') em/\(∀y∈em,xS (Y c' d') y+1<=xS (X c d) x)
 w:∀c',c'<a.nc->wc Y b c'<=wc X a c'
theorem qY.pop {X:Marks} {t:Nat×Nat->Nat} {a:AN} (hB:tI a)(hN:Norm a)(h:qY X t a)(ht:∀x,t x<=127) {c d:Nat} {x:la} {l:List la} (hc:c<a.nc)(hd:d<2)(hF:a.F c d=x::l):∃Y,qY Y t (a.pop c d x l)/\adS X Y a (a.pop c d x l) c d x l:=by
 have hi:=h.yX hc hd (x:=x) (by rw[hF];simp);have pr:=(h.tM hc hd hi).symm;have hs0:=ZG h hc hd hF;obtain⟨r,hr⟩:=gg (a.R (a.e c (1-d)).1);obtain⟨i,E⟩:=gg ((a.e c (1-d)).1);obtain⟨p,oS⟩:=gg ((a.e c (1-d)).2);have Tv:a.e c (1-d)=(i,p):=aV E oS;have Q:a.pop c d x l=(a.lv c d l).op i (jN r p x):=by unfold AN.pop;rw[hr,E,oS]
 have Gs:a.R i=r:=by rw[<-E];exact hr
 have XP:Ke r:=by rw[<-Gs];exact hN.emp i
 obtain⟨D,_⟩:=qq XP p x;have pA:j0 a c (1-d)=(r.P p).L:=by unfold j0;rw[Tv,Gs]
 have hif:∀c' d',(a.lv c d l).F c' d'=if c'=c/\d'=d then l else a.F c' d':=λ_ _=>rfl
 by_cases hx:rD x
 ·
  have hL:∀q,((jN r p x).P q).L=(r.P q).L:=λq=>by
   cases x with
   |nil=>rfl
   |cons k s=>exact uX r p s (hx k s rfl) q
  have hq:=λq=>xI (D q) hx (X c d) (λ_=>false);have hl:=hs0.quiet i (jN r p x) (λq=>by rw[hL];show(r.P q).L=((a.R i).P q).L;rw[Gs]) λq=>by
   rcases(hq q).1 with g|⟨g1,g2⟩
   {exact .inl g};{exact .inr ⟨by rw[hL];exact g1,g2⟩}
  have xk:∀c' d',c'<a.nc->d'<2->Mq X X a (a.pop c d x l) c' d' (if c'=c/\d'=d then l else a.F c' d') (if(a.e c' d').1=i then jl ((jN r p x).P (a.e c' d').2)else []):=λc' d' V U=>by
   refine⟨?_,λ_ _=>⟨rfl,rfl⟩⟩;rw[Q,vF,yS,Dz,hif];by_cases e:(a.e c' d').1=i;{rw[ai ⟨⟨V,U⟩,e⟩,ai e]};{rw[af (λz=>e z.2),af e,aB]}
  refine⟨X,by rw[Q];exact hl,λc' d' V U=>⟨_,xk c' d' V U,λy hy=> ?_⟩,λc' V=> ?_⟩;{split at hy;{exact(xI (D (a.e c' d').2) hx (X c d) (X c' d')).2.1 y hy};{simp at hy}}
  ·have w0:=(xk c' 0 V ew).w;have w1:=(xk c' 1 V ew).w;have hE:∀d',d'<2->sm (oQ (X c' d')) (if(a.e c' d').1=i then jl ((jN r p x).P (a.e c' d').2)else [])<=if c'=c/\d'=1-d then oQ (X c d) x else 0:=λd' U=>by
    by_cases e:(a.e c' d').1=i;{rw[ai e];have:=(xI (D (a.e c' d').2) hx (X c d) (X c' d')).2.2;by_cases e2:(a.e c' d').2=p;{rw[ai e2]at this;have:=hB.ds c' d' c (1-d) V U hc dZ (by rw[Tv];exact aV e e2);rw[ai this];assumption};{rw[af e2]at this;omega}};{rw[af e];exact Nat.zero_le _}
   have hI:∀d',d'<2->sm (oQ (X c' d')) (if c'=c/\d'=d then l else a.F c' d')+(if c'=c/\d'=d then oQ (X c d) x else 0)<=sm (oQ (X c' d')) (a.F c' d'):=λd' U=>by
    by_cases e:c'=c/\d'=d;{rw[ai e,ai e,e.1,e.2,hF];show _<=oQ (X c d) x+sm (oQ (X c d)) l;omega};{rw[af e,af e];exact Nat.le_refl _}
   unfold wc;rw[w0,w1];exact Qi hd (s:=λd'=>sm (oQ (X c' d')) (if c'=c/\d'=d then l else a.F c' d')) (f:=λd'=>sm (oQ (X c' d')) (a.F c' d')) hE hI
 ·
  have WJ:(∃id,0<=id/\id<=255/\x=mL (gP (a.e c d)) id) \/(∃id,0<=id/\id<=255/\x=oa (gP (a.e c (1-d))) id):=by
   rcases pr.g x (by rw[hF];simp)with g|g|g
   {exact absurd g hx};{exact .inl g};{exact .inr g}
  have gd:=rE hB hc hd;have J:=rE hB hc (show 1-d<2 by omega);obtain⟨q,s,TH,uF,hPL⟩:∃(q:kN) (s:List UInt8),x=76::s/\iY s=(q.1,q.2.1,q.2.2,0)/\∃Z,ZD (X c (1-d)) Z (X c d) (t (a.e c 0)+t (a.e c 1)) (gP (a.e c (1-d))) (gP (a.e c d)) (jK (j0 a c (1-d)) q).1 (j0 a c d) (a.F c (1-d)) l ((jK (j0 a c (1-d)) q).2.1.flatMap oo) x:=by
   rw[hF]at pr;rcases WJ with⟨id,i1,i2,j⟩|⟨id,i1,i2,j⟩
   {rw[j]at pr;obtain⟨Z,hZ⟩:=pr.req J gd (abl hB hc hd dZ dZ) (by have:=ht (a.e c 0);have:=ht (a.e c 1);omega) ⟨i1,i2⟩;exact⟨(1,id,nZ (gP (a.e c d))),_,j,Ad (.inl rfl) ⟨i1,i2⟩ gd,Z,by rw[j];exact hZ⟩};{rw[j]at pr;have hZ:=pr.ack J ⟨i1,i2⟩;exact⟨(2,id,nZ (gP (a.e c (1-d)))),_,j,Ad (.inr rfl) ⟨i1,i2⟩ J,X c (1-d),by rw[j];exact hZ⟩}
  obtain⟨Z,pp⟩:=hPL;obtain⟨k1,_,k3,_⟩:=z9 XP p 76 s;rw[uF]at k1 k3;have o9:=wV (a:=a.lv c d l) i p (jN r p x) λu hu=>by
   rw[TH];show((r.take p 76 s).P u).L=((a.R i).P u).L/\jl ((r.take p 76 s).P u)=[]
   rw[(tJ r p s u).1,nJ (tJ r p s u).2,k1,af (λz=>hu z.1),(k3 u).2.2,af (λz=>hu z.1),Gs];exact⟨rfl,rfl⟩
  have ZF:((jN r p x).P p).L=(jK (j0 a c (1-d)) q).1/\jl ((jN r p x).P p)=(jK (j0 a c (1-d)) q).2.1.flatMap oo:=by
   rw[TH,pA];show((r.take p 76 s).P p).L=_/\jl ((r.take p 76 s).P p)=_;rw[(tJ r p s p).1,nJ (tJ r p s p).2,k1,ai ⟨rfl,rfl,rfl⟩,(k3 p).2.2,ai ⟨rfl,rfl,rfl⟩];exact⟨rfl,rfl⟩
  obtain⟨em,amj⟩:=gg ((jK (j0 a c (1-d)) q).2.1.flatMap oo);obtain⟨L',hL'⟩:∃L',(jK (j0 a c (1-d)) q).1=L':=⟨_,rfl⟩
  rw[amj,hL']at pp ZF;have hu:∀c' d',c'<a.nc->d'<2->¬(c'=c/\d'=1-d)->a.e c' d'≠(i,p):=λc' d' V U jt e=>jt (hB.ds _ _ _ _ V U hc dZ (e.trans Tv.symm));have hb:∀c' d',c'<a.nc->d'<2->¬(c'=c/\d'=1-d)->j0 (a.pop c d x l) c' d'=j0 a c' d'/\(a.pop c d x l).F c' d'=if c'=c/\d'=d then l else a.F c' d':=λc' d' V U jt=>by
   rw[Q];exact(o9 c' d').1 (hu c' d' V U jt)
  have kE:j0 (a.pop c d x l) c (1-d)=L'/\(a.pop c d x l).F c (1-d)=a.F c (1-d)++em:=by
   rw[Q];obtain⟨z1,z2⟩:=(o9 c (1-d)).2 Tv hc (by show 1-d<2;omega);rw[z1,z2,ZF.1,ZF.2,hif,af dZ];exact⟨rfl,rfl⟩
  have XG:=hb c d hc hd dZ;rw[ai ⟨rfl,rfl⟩]at XG;have tY:(a.pop c d x l).nc=a.nc:=by rw[Q];rfl
  have H:(a.pop c d x l).e=a.e:=by rw[Q];rfl
  have kL:(a.pop c d x l).iQ=a.iQ:=by rw[Q];rfl
  have xk:∀c' d',c'<a.nc->d'<2->Mq X (Gb X c (1-d) Z) a (a.pop c d x l) c' d' (if c'=c/\d'=d then l else a.F c' d') (if c'=c/\d'=1-d then em else []):=λc' d' V U=>by
   by_cases e:c'=c/\d'=1-d;{rw[ai e,af dZ];obtain⟨e1,e2⟩:=e;subst e1 e2;exact⟨kE.2,λy hy=>by rw[rF];exact Iy pp.old y hy⟩};{rw[af e];exact⟨by rw[(hb c' d' V U e).2,aB],λy hy=>by rw[mD X Z e];exact⟨rfl,rfl⟩⟩}
  refine⟨Gb X c (1-d) Z,⟨λc' V kT=> ?_,λc' V kT=> ?_⟩,λc' d' V U=>⟨_,xk c' d' V U,λy hy=> ?_⟩,λc' V=> ?_⟩;{rw[tY]at V;by_cases hcc:c'=c;{subst hcc;rw[H];refine Mp (X:=λ_ d'=>Gb X c' (1-d) Z c' d') (g:=λd'=>gP (a.e c' d')) (L:=λd'=>j0 (a.pop c' d x l) c' d') (F:=λd'=>(a.pop c' d x l).F c' d') (d:=1-d) dZ ?_;show Pair (Gb X c' (1-d) Z c' (1-d)) (Gb X c' (1-d) Z c' (1-(1-d))) _ _ _ _ _ _ _;rw[show 1-(1-d)=d by omega,rF,mD X Z dZ,kE.1,kE.2,XG.1,XG.2];exact pp.p};{rw[kL]at kT;have A:∀d',¬(c'=c/\d'=1-d):=λ_ z=>hcc z.1;refine(h.PX (X':=Gb X c (1-d) Z) (b:=a.pop c d x l) (u:=t) (λ_=>Nat.le_refl _) H V (by rw[kL]) (λd' _=>mD X Z (A d')) (λd' U=>(hb c' d' V U (A d')).1) (λd' U=> ?_)).1 (by rw[kL];exact kT);rw[(hb c' d' V U (A d')).2,af (λz=>hcc z.1)]}}
  ·rw[tY]at V;have hcc:c'≠c:=λz=>by subst z;rw[kL,hi]at kT;exact absurd kT gU
   have A:∀d',¬(c'=c/\d'=1-d):=λ_ z=>hcc z.1;refine(h.PX (X':=Gb X c (1-d) Z) (b:=a.pop c d x l) (u:=t) (λ_=>Nat.le_refl _) H V (by rw[kL]) (λd' _=>mD X Z (A d')) (λd' U=>(hb c' d' V U (A d')).1) (λd' U=> ?_)).2 kT;rw[(hb c' d' V U (A d')).2,af (λz=>hcc z.1)]
  ·split at hy
   ·rename_i e
    rw[e.1,e.2,rF];exact pp.dp y hy
   ·simp at hy
  ·have w0:=(xk c' 0 V ew).w;have w1:=(xk c' 1 V ew).w;have arb:=pp.wg;unfold wc;rw[w0,w1];refine Qi (P:=c'=c) (k:=oQ (X c d) x) hd (s:=λd'=>sm (oQ (X c' d')) (if c'=c/\d'=d then l else a.F c' d')) (e:=λd'=>sm (oQ (Gb X c (1-d) Z c' d')) (if c'=c/\d'=1-d then em else [])) (f:=λd'=>sm (oQ (X c' d')) (a.F c' d')) (λd' _=> ?_) λd' _=> ?_;{by_cases e:c'=c/\d'=1-d;{simp only[if_pos e];rw[e.1,e.2,rF];omega};{simp only[if_neg e];exact Nat.le_refl _}};{by_cases e:c'=c/\d'=d;{simp only[if_pos e];rw[e.1,e.2,hF];show _<=oQ (X c d) x+sm (oQ (X c d)) l;omega};{simp only[if_neg e];exact Nat.le_refl _}}
theorem wX(A:tI a)(u:Norm a)(hc:c<a.nc)(hd:d<2)(up:Bool)(h:(kY (j0 a c d) (if up=true then 0 else 1)).2.2=0):∀c' d',c'<a.nc->d'<2->(¬(c'=c/\d'=d)->j0 (a.nI c d up) c' d'=j0 a c' d'/\(a.nI c d up).F c' d'=a.F c' d')/\(c'=c/\d'=d->j0 (a.nI c d up) c' d'=(kY (j0 a c d) (if up=true then 0 else 1)).1/\(a.nI c d up).F c' d'=a.F c d++(kY (j0 a c d) (if up=true then 0 else 1)).2.1.flatMap oo):=λc' d' U Q=>by
 obtain⟨H,E,D⟩:=JM (u.emp (a.e c d).1) (a.e c d).2 up h;have Z:∀q,(((a.R (a.e c d).1).iH (a.e c d).2 up).1.P q).L=if q=(a.e c d).2 then(kY (j0 a c d) (if up=true then 0 else 1)).1 else((a.R (a.e c d).1).P q).L:=λq=>by
  rw[D,(kc _ _ _ _).2.1,kO];split;{rw[E9];rfl};{rfl}
 have J:=wV (a:=a) (a.e c d).1 (a.e c d).2 _ (λq V=>⟨by rw[Z,af V],H q V⟩) c' d';refine⟨λjt=>J.1 λe=>jt (A.ds _ _ _ _ U Q hc hd e),λj=> ?_⟩;obtain⟨z1,z2⟩:=j;subst z1 z2;have:=J.2 rfl U Q;rw[Z,ai rfl,E]at this;exact this
theorem FC(hB:tI a)(hN:Norm a)(hc:c<a.nc)(up:Bool)(h:∀d,d<2->(kY (j0 a c d) (if up=true then 0 else 1)).2.2=0):(∀c' d',c'<a.nc->d'<2->c'≠c->j0 (a.iH c up) c' d'=j0 a c' d'/\(a.iH c up).F c' d'=a.F c' d')/\∀d,d<2->j0 (a.iH c up) c d=(kY (j0 a c d) (if up=true then 0 else 1)).1/\(a.iH c up).F c d=(kY (j0 a c d) (if up=true then 0 else 1)).2.1.flatMap oo:=by
 obtain⟨b,hb⟩:=gg ((({a with iQ:=jU a.iQ c up}:AN).lv c 0 []).lv c 1 []);have D:tI b:=hB.same (by rw[<-hb];rfl) (by rw[<-hb];rfl) (by rw[<-hb];rfl);have A:Norm b:=by rw[<-hb];exact hN
 have U:c<b.nc:=by rw[<-hb];exact hc
 have Q:∀c' d',j0 b c' d'=j0 a c' d':=λc' d'=>by rw[<-hb];rfl
 have Z:∀c' d',b.F c' d'=if c'=c/\d'=1 then []else if c'=c/\d'=0 then []else a.F c' d':=λc' d'=>by rw[<-hb];rfl
 have hp:a.iH c up=(b.nI c 0 up).nI c 1 up:=by unfold AN.iH;rw[hb]
 have f0:=wX D A U (by decide:0<2) up (by rw[Q];exact h 0 ew);have rK:tI (b.nI c 0 up):=D.same rfl rfl rfl;have V:=(f0 c 1 U ew).1 dZ;have f1:=wX (a:=b.nI c 0 up) rK (qW A _ _) U (by decide:1<2) up (by rw[V.1,Q];exact h 1 ew);have J:b.nc=a.nc:=by rw[<-hb];rfl
 rw[hp];refine⟨λc' d' u j H=> ?_,λd hd=> ?_⟩;{have g0:=(f0 c' d' (by rw[J];exact u) j).1 (λz=>H z.1);have g1:=(f1 c' d' (by show c'<b.nc;rw[J];exact u) j).1 (λz=>H z.1);rw[g1.1,g1.2,g0.1,g0.2,Q,Z,af (λz=>H z.1),af (λz=>H z.1)];exact⟨rfl,rfl⟩}
 ·have:d=0 \/d=1:=dZ;rcases this with rfl|rfl
  ·have g1:=(f1 c 0 U ew).1 dZ;have g0:=(f0 c 0 U ew).2 ⟨rfl,rfl⟩;have E:b.F c 0=[] :=by rw[Z];simp
   rw[g1.1,g1.2,g0.1,g0.2,Q,E];exact⟨rfl,rfl⟩
  ·have g1:=(f1 c 1 U ew).2 ⟨rfl,rfl⟩;have E:b.F c 1=[] :=by rw[Z];simp
   rw[g1.1,g1.2,V.1,V.2,Q,E];exact⟨rfl,rfl⟩
theorem uB(a:AN)(c:Nat)(up:Bool)(c':Nat):(a.iH c up).iQ c'=if c'=c then up else a.iQ c':=rfl
theorem qY.iH {X:Marks} {t:Nat×Nat->Nat} {a:AN} (U:tI a)(hN:Norm a)(h:qY X t a)(D:∀x,t x<=126) {c:Nat} (hc:c<a.nc)(hi:a.iQ c=false):qY (Gb (Gb X c 0 λ_=>false) c 1 λ_=>false) (qw t [a.e c 0,a.e c 1]) (a.iH c true):=by
 have Z:=h.dn c hc hi;have hu:=λd hd=>abf (rE U hc hd) (Z d hd).1 (Z d hd).2.1;obtain⟨f1,f2⟩:=FC U hN hc true λd hd=>(Ee (Z d hd).2.1).1;have H:∀x,t x<=qw t [a.e c 0,a.e c 1] x:=λx=>Nat.le_add_right _ _;have A:a.e c 0≠a.e c 1:=λe=>by have:=(U.ds _ _ _ _ hc ew hc ew e).2;omega
 refine⟨λc' V Q=> ?_,λc' V Q=> ?_⟩
 ·by_cases e:c'=c
  ·subst e;have E:∀d,d<2->Gb (Gb X c' 0 λ_=>false) c' 1 (λ_=>false) c' d=λ_=>false:=λd hd=>by
    have:d=0 \/d=1:=dZ;rcases this with rfl|rfl
    {rw[mD _ _ dZ,rF]};{rw[rF]}
   have hF:∀d,d<2->(a.iH c' true).F c' d=[mL (gP (a.e c' d)) (j0 (a.iH c' true) c' d).ow] /\LI (gP (a.e c' d)) (j0 (a.iH c' true) c' d)/\(j0 (a.iH c' true) c' d).st=6/\(j0 (a.iH c' true) c' d).ow=(j0 a c' d).ow+1:=λd hd=>by
    obtain⟨u1,u2,u3,u4,u5⟩:=hu d hd;obtain⟨g1,g2⟩:=f2 d hd;have hw:=(Z d hd).2.2.1;have ho:=(Z d hd).1.k.o1;have hb:(j0 a c' d).ow+1<=255:=by have:=D (a.e c' 0);have:=D (a.e c' 1);omega
    have em:((j0 a c' d).ow+1) %256=(j0 a c' d).ow+1:=dZ;rw[em]at u2 u3;rw[g1,g2];simp only[if_true];refine⟨?_,u1,u4,u3⟩;rw[u2,u3];show oo _++ [] =_;rw[FA (.inl rfl) ⟨dZ,hb⟩ (rE U hc hd)];rfl
   obtain⟨u,j,a3,a4⟩:=hF 0 ew;obtain⟨b1,b2,b3,b4⟩:=hF 1 ew;show Pair _ _ (qw t [a.e c' 0,a.e c' 1] (a.e c' 0)+qw t [a.e c' 0,a.e c' 1] (a.e c' 1)) (gP (a.e c' 0)) (gP (a.e c' 1)) _ _ _ _;rw[E 0 ew,E 1 ew,u,b1];have c0:qw t [a.e c' 0,a.e c' 1] (a.e c' 0)=t (a.e c' 0)+1:=by unfold qw;simp[Ne.symm A]
   have c1:qw t [a.e c' 0,a.e c' 1] (a.e c' 1)=t (a.e c' 1)+1:=by unfold qw;simp[A]
   have w0:=(Z 0 ew).2.2.1;have w1:=(Z 1 ew).2.2.1;refine Pair.new (rE U hc ew) (rE U hc ew) j b2 a3 b3 ?_ ?_;{rw[a4,c0,c1];omega};{rw[b4,c0,c1];omega}
  ·have J:(a.iH c true).iQ c'=a.iQ c':=by rw[uB,af e]
   exact(h.PX (b:=a.iH c true) H rfl V J (λd _=>by rw[mD _ _ (λz=>e z.1),mD _ _ (λz=>e z.1)]) (λd hd=>(f1 c' d V hd e).1) (λd hd=>(f1 c' d V hd e).2)).1 Q
 ·have e:c'≠c:=λz=>by rw[uB,ai z]at Q;exact absurd Q gU
  have J:(a.iH c true).iQ c'=a.iQ c':=by rw[uB,af e]
  exact(h.PX (X':=Gb (Gb X c 0 λ_=>false) c 1 λ_=>false) (b:=a.iH c true) H rfl V J (λd _=>by rw[mD _ _ (λz=>e z.1),mD _ _ (λz=>e z.1)]) (λd hd=>(f1 c' d V hd e).1) (λd hd=>(f1 c' d V hd e).2)).2 Q
theorem qY.draw {X:Marks} {t:Nat×Nat->Nat} (E:tI a)(D:Norm a)(h:qY X t a)(hc:c<a.nc)(hi:a.iQ c=true):qY X t (a.iH c false):=by
 have J:∀d,d<2->ux (j0 a c d).st=true:=λd hd=>by
  have p:=h.tM hc hd hi;have:=p.lu;have:=p.l.st;unfold ux;simp only[Bool.or_eq_true,beq_iff_eq,Bool.and_eq_true,decide_eq_true_eq];omega
 obtain⟨f1,f2⟩:=FC E D hc false λd hd=>(tH (J d hd)).1;refine⟨λc' Z V=> ?_,λc' Z V=> ?_⟩
 ·have e:c'≠c:=λz=>by rw[uB,ai z]at V;exact absurd V gU
  have U:(a.iH c false).iQ c'=a.iQ c':=by rw[uB,af e]
  exact(h.PX (X':=X) (b:=a.iH c false) (u:=t) (λ_=>Nat.le_refl _) rfl Z U (λd _=>rfl) (λd hd=>(f1 c' d Z hd e).1) (λd hd=>(f1 c' d Z hd e).2)).1 V
 ·by_cases e:c'=c
  ·subst e;intro d hd;have p:=h.tM hc hd hi;obtain⟨d1,d2,H⟩:=Zy p.l p.lu;obtain⟨g1,Q⟩:=f2 d hd;simp only[Bool.false_eq_true,if_false]at g1 Q;rw[g1,Q,Md (J d hd),H];refine⟨d1,d2,?_,rfl⟩;have:=p.d.JV;show _<=((t (a.e c' 0)+t (a.e c' 1):Nat):Int)
   omega
  ·have U:(a.iH c false).iQ c'=a.iQ c':=by rw[uB,af e]
   exact(h.PX (X':=X) (b:=a.iH c false) (u:=t) (λ_=>Nat.le_refl _) rfl Z U (λd _=>rfl) (λd hd=>(f1 c' d Z hd e).1) (λd hd=>(f1 c' d Z hd e).2)).2 V
theorem Mr(hi:i<6)(hp:p<3)(m:Nat->Int):LI (gP (i,p)) (Hu ((i:Int)+1) m p).L/\(Hu ((i:Int)+1) m p).L.st=1/\(Hu ((i:Int)+1) m p).L.ow=0:=by
 have e:gP (i,p)=8*((i:Int)+1)+(p:Int)+1:=rfl;have hb:0<=gP (i,p)/\gP (i,p)<=255:=by rw[e];omega
 refine⟨⟨rfl,rfl,rfl,rfl,λh=>absurd h (by show¬(6:Int)<=1;decide),.inl rfl,⟨by show xP 1 0 0=true;decide,by show(0:Int)<=0;decide,by show(0:Int)<=255;decide,hb.1,hb.2,hb.1,hb.2⟩⟩,rfl,rfl⟩
theorem qY.lost {X:Marks} {t:Nat×Nat->Nat} (h:qY X t a)(hl:wQ a b):qY X t b:=by
 have hs:∀c d,(b.F c d).Sublist (a.F c d):=λc d=>by
  obtain⟨m,A⟩:=hl.2 c d;rw[A];exact iA _ _
 have V:b.nc=a.nc:=by rw[hl.1]
 have U:b.iQ=a.iQ:=by rw[hl.1]
 have Q:b.e=a.e:=by rw[hl.1]
 have Z:∀c d,j0 b c d=j0 a c d:=λc d=>by rw[hl.1];rfl
 refine⟨λc hc hi=> ?_,λc hc hi d hd=> ?_⟩;{rw[Q,Z,Z];exact(h.up c (by rw[<-V];exact hc) (by rw[<-U];exact hi)).sub (hs c 0) (hs c 1)};{obtain⟨J,H,E,D⟩:=h.dn c (by rw[<-V];exact hc) (by rw[<-U];exact hi) d hd;rw[Q,Z];refine⟨J,H,E,?_⟩;have:=hs c d;rw[D]at this;exact iy.1 this}
theorem qY.send {X:Marks} {t:Nat×Nat->Nat} {a:AN} (U:Norm a)(h:qY X t a)(i:Nat)(m:zb):qY X t (a.op i ((a.R i).send m)):=by
 obtain⟨_,_,_,_,Z⟩:=np (a.R i) m;obtain⟨j,g1,V⟩:=DE (U.emp i) m;refine h.quiet i _ (λp=>(Z p).2.2) λp=> ?_;by_cases e:p=j
 ·subst e;rcases V with g|⟨g,f⟩
  {exact .inl g};{exact .inr ⟨by rw[(Z p).2.2];exact g.1,λy hy=>by rw[f]at hy;rw[ar.1 hy];exact Ah 77 _ ew⟩}
 ·exact .inl (g1 p e)
theorem qY.anew {X:Marks} {t:Nat×Nat->Nat} (D:tI a)(h:qY X t a)(i m:Nat)(hd:∀c d,c<a.nc->d<2->(a.e c d).1=i->a.iQ c=false/\a.F c 0=[] /\a.F c 1=[]):qY X t {a with R:=jU a.R i (jO ((i:Int)+1) 3 (a.ms i)),ib:=jU a.ib i ((a.ib i).take m)}:=by
 obtain⟨b,hb⟩:=gg (({a with R:=jU a.R i (jO ((i:Int)+1) 3 (a.ms i)),ib:=jU a.ib i ((a.ib i).take m)}:AN));have V:∀c d,(a.e c d).1≠i->j0 b c d=j0 a c d:=λc d e=>by
  rw[<-hb];show((jU a.R i _ (a.e c d).1).P _).L=_;rw[iC _ _ e];rfl
 rw[hb];have Q:b.nc=a.nc:=by rw[<-hb]
 have J:b.iQ=a.iQ:=by rw[<-hb]
 have H:b.e=a.e:=by rw[<-hb]
 have E:b.F=a.F:=by rw[<-hb]
 refine⟨λc hc hi=> ?_,λc hc hi d Z=> ?_⟩
 ·rw[Q]at hc;rw[J]at hi;have A:∀d,d<2->(a.e c d).1≠i:=λd Z e=>by rw[(hd c d hc Z e).1]at hi;exact absurd hi gU
  rw[H,E,V c 0 (A 0 ew),V c 1 (A 1 ew)];exact h.up c hc hi
 ·rw[Q]at hc;rw[J]at hi;obtain⟨u,j,a3,U⟩:=h.dn c hc hi d Z;rw[H,E];by_cases e:(a.e c d).1=i
  ·have hp:=D.en c d hc Z;have hl:j0 b c d=(Hu ((i:Int)+1) (a.ms i) (a.e c d).2).L:=by
    rw[<-hb];show((jU a.R i _ (a.e c d).1).P _).L=_;rw[e,iE];rfl
   obtain⟨z1,z2,z3⟩:=Mr (i:=i) (p:=(a.e c d).2) (by have:=D.n6;omega) hp.2 (a.ms i);rw[hl];have he:a.e c d=(i,(a.e c d).2):=aV e rfl;rw[he];exact⟨z1,z2,by rw[z3];omega,U⟩
  ·rw[V c d e];exact⟨u,j,a3,U⟩
theorem pq(t:Nat×Nat->Nat):qw t [] =t:=by funext x;simp[qw]
theorem Cw(t:Nat×Nat->Nat)(T U:List (Nat×Nat)):qw t (T++U)=qw (qw t T) U:=by
 funext x;unfold qw;rw[List.count_append];omega
theorem mR.links(s:mR a T S b)(Z:tI a)(V:Norm a) {X:Marks} {t:Nat×Nat->Nat} (h:qY X t a)(Q:∀x,t x<=126):∃Y,qY Y (qw t T) b:=by
 cases s with
 |lost hl=>exact⟨X,by rw[pq];exact h.lost hl⟩
 |tick i p _ _=>obtain⟨Y,U,_⟩:=h.tick Z V (i:=i) (p:=p) Q;exact⟨Y,U⟩
 |pop c d x l hc hd hF=>obtain⟨Y,U,_⟩:=h.pop Z V (λx=>by have:=Q x;omega) hc hd hF;exact⟨Y,by rw[pq];exact U⟩
 |send i m tx _ _ _ _=>exact⟨X,by rw[pq];exact h.send V i _⟩
 |iH c hc hi _ _=>exact⟨_,h.iH Z V Q hc hi⟩
 |draw c hc hi=>exact⟨X,by rw[pq];exact h.draw Z V hc hi⟩
 |anew i m hi hd=>exact⟨X,by rw[pq];exact h.anew Z i m hd⟩
theorem qY.mono {X:Marks} {t u:Nat×Nat->Nat} {a:AN} (h:qY X t a)(Z:∀x,t x<=u x):qY X u a:=
 ⟨λc hc hi=>(h.up c hc hi).mono (by have:=Z (a.e c 0);have:=Z (a.e c 1);omega),λc hc hi d hd=>by
  obtain⟨V,U,a3,Q⟩:=h.dn c hc hi d hd;exact⟨V,U,by have:=Z (a.e c 0);have:=Z (a.e c 1);omega,Q⟩⟩
theorem nK(h:T.Nodup)(k:Nat)(x:Nat×Nat):qw (λ_=>k) T x<=k+1:=by
 have:=List.nodup_iff_count.1 h x;show k+T.count x<=k+1;omega
def yg(K:Int->Option PS)(y seq:Int)(es:List jJ):Prop:=∃q,K y=μ q/\0<=lT q.1 q.2 seq es
theorem n8(s:Int)(e:List jJ):lT s e s e=0:=AB.2 ⟨rfl,rfl⟩
theorem uC(h:K y=μ q):yg K y q.1 q.2:=⟨q,h,by rw[n8];exact Int.le_refl _⟩
def pv(K K':Int->Option PS):Prop:=∀y q,K y=μ q->yg K' y q.1 q.2
theorem pv.refl(K:Int->Option PS):pv K K:=λ_ _ h=>uC h
theorem yg.mono {K':Int->Option PS} (h:pv K K')(g:yg K y seq es):yg K' y seq es:=by
 obtain⟨q,Z,V⟩:=g;obtain⟨u,U,Q⟩:=h y q Z;exact⟨u,U,(yq Q V).1⟩
theorem yg.trans {s1 s2:Int} {e1 e2:List jJ} (g:yg K y s1 e1)(h:0<=lT s1 e1 s2 e2):yg K y s2 e2:=by
 obtain⟨q,Z,V⟩:=g;exact⟨q,Z,(yq V h).1⟩
theorem pv.trans {L M:Int->Option PS} (h:pv K L)(g:pv L M):pv K M:=λy q Z=>(h y q Z).mono g
def ahC(x:Option la)(y:Int)(q:PS):Prop:=∃s,(x=μ (83::s) \/x=μ (65::s))/\(ij s).2.2.2=0/\(ij s).1=y/\0<=lT (ij s).2.1 (ij s).2.2.1 q.1 q.2
def Hi(x:Option la)(w:Int):Prop:=∃s,x=μ (72::s)/\(kG s).2.2=0/\(kG s).1=w
structure vH(r r':iN)(p:Nat)(x:Option la):Prop where
 k:pv r.K r'.K
 o:∀j,(r'.P j).pe.both=true->∀y q,r'.K y=μ q->r'.O j y=ν->((r.P j).pe.both=true/\r.K y=μ q/\r.O j y=ν) \/(j=p/\ahC x y q)
 w:∀j,(r'.P j).pe.who≠0->(r'.P j).pe.who=(r.P j).pe.who \/(j=p/\Hi x (r'.P j).pe.who)
theorem vH.refl(r:iN)(p:Nat)(x:Option la):vH r r p x:=⟨pv.refl _,λ_ h _ _ Z V=>.inl ⟨h,Z,V⟩,λ_ _=>.inl rfl⟩
theorem vH.alike {s:iN} (p:Nat)(x:Option la)(Z:s.K=r.K)(J:s.O=r.O)(V:∀j,(s.P j).pe=(r.P j).pe):vH r s p x:=
 ⟨by rw[Z];exact pv.refl _,λj h y q U Q=>.inl ⟨by rw[<-V];exact h,by rw[<-Z];exact U,by rw[<-J];exact Q⟩,λj _=>.inl (by rw[V])⟩
theorem vH.trans {a b c:iN} {p:Nat} {x:Option la} (h:vH a b p x)(g:vH b c p x):vH a c p x:=by
 refine⟨h.k.trans g.k,λj hb y q V U=> ?_,λj Z=> ?_⟩
 ·rcases g.o j hb y q V U with⟨Q,J,H⟩|z
  {exact h.o j Q y q J H};{exact .inr z}
 ·rcases g.w j Z with z|z
  ·rcases h.w j (by rw[<-z];exact Z)with u|u
   {exact .inl (z.trans u)};{exact .inr (by rw[z];exact u)}
  ·exact .inr z
theorem FD(H:ln r) {q:Int} (U:A5 r.K r.id<=q)(p:Nat)(x:Option la):vH r (r.behind q) p x:=by
 unfold iN.behind;split
 ·obtain⟨u,hu,_⟩:=H.own;have Z:∀y,(r.Et (q+1) (jx r)).K y=if y=r.id then μ (q+1,jx r)else r.K y:=λy=>rfl
  refine⟨λy v hv=> ?_,λj hb y v Q J=> ?_,λj _=>.inl rfl⟩
  ·by_cases e:y=r.id
   ·refine⟨(q+1,jx r),by rw[Z,ai e],?_⟩;have hsq:v.1<=q:=by
     rw[e]at hv;unfold A5 at U;rw[hv]at U;exact U
    unfold lT;have:lZ (q+1) v.1=1:=by unfold lZ;rw[af dZ,ai dZ]
    rw[ai (by rw[this];decide),this];decide
   ·exact⟨v,by rw[Z,af e];exact hv,by rw[n8];exact Int.le_refl _⟩
  ·have V:(if y=r.id then μ (q+1,jx r)else r.O j y)=ν:=J;by_cases e:y=r.id;{rw[ai e]at V;exact absurd V gU};{rw[af e]at V;rw[Z,af e]at Q;exact .inl ⟨hb,Q,V⟩}
 ·exact vH.refl r p x
theorem OG(Z:ln r)(p:Nat)(x:Option la):vH r r.change p x:=by
 unfold iN.change;split;{exact vH.refl r p x};{exact FD Z (Int.le_refl _) p x}
theorem wY(iO:ln r) {q:lD} (hq:oj r.id q)(x:Option la)(hw:q.who≠0->q.who=(r.P i).pe.who \/Hi x q.who):vH r (r.meet i q) i x:=by
 have H:=λj=>(kc r i q j).2.2.2;have hW:∀j,((r.meet i q).P j).pe.who≠0->((r.meet i q).P j).pe.who=(r.P j).pe.who \/(j=i/\Hi x ((r.meet i q).P j).pe.who):=λj h=>by
  rw[H]at h⊢;by_cases e:j=i
  ·subst e;rw[ai rfl]at h⊢;rcases hw h with z|z
   {exact .inl z};{exact .inr ⟨rfl,z⟩}
  ·rw[af e];exact .inl rfl
 by_cases kr:q.who=(r.P i).pe.who/\q.both=(r.P i).pe.both
 ·have e:r.meet i q=r.iU i {r.P i with pe:=q}:=by unfold iN.meet;simp only;rw[ai kr]
  refine⟨by rw[e];exact pv.refl _,λj hb y v U V=> ?_,hW⟩;rw[H]at hb;rw[e]at U V;refine .inl ⟨?_,U,V⟩;by_cases Z:j=i;{rw[ai Z]at hb;rw[Z,<-kr.2];exact hb};{rw[af Z]at hb;exact hb}
 ·obtain⟨z,J⟩:∃z:iN,({r.iU i {r.P i with pe:=q}with O:=λx=>if x=i then λ_=>ν else(r.iU i {r.P i with pe:=q}).O x}:iN)=z:=⟨_,rfl⟩
  have okz:ln z:=by rw[<-J];exact(iO.iU i {r.P i with pe:=q} rfl λ_=>hq).yH _
  have ev:=OG okz i x;have zK:z.K=r.K:=by rw[<-J];rfl
  have e:r.meet i q=if q.both=true then {z.change with O:=λx=>if x=i then qz (z.change.O i) z.change.K else z.change.O x}else z.change:=by
   unfold iN.meet;simp only;rw[af kr,J]
  have eK:(r.meet i q).K=z.change.K:=by rw[e];split<;>rfl
  have D:∀j,j≠i->z.O j=r.O j:=λj E=>by
   rw[<-J];show(if j=i then λ_=>ν else r.O j)=_;rw[af E]
  have A:∀j,j≠i->(z.P j).pe=(r.P j).pe:=λj E=>by
   rw[<-J];show((r.iU i {r.P i with pe:=q}).P j).pe=_;rw[kO,af E]
  refine⟨by rw[eK,<-zK];exact ev.k,λj hb y v U V=> ?_,hW⟩;rw[eK]at U;by_cases Z:j=i;{subst Z;rw[H,ai rfl]at hb;rw[e,ai hb]at V;have Q:(if j=j then qz (z.change.O j) z.change.K else z.change.O j) y=ν:=V;rw[ai rfl]at Q;unfold qz at Q;rw[ai (by rw[U];rfl),U]at Q;exact absurd Q gU}
  ·have Q:z.change.O j y=ν:=by
    rw[e]at V;split at V;{have h3:(if j=i then qz (z.change.O i) z.change.K else z.change.O j) y=ν:=V;rw[af Z]at h3;exact h3};{exact V}
   rw[H,af Z]at hb;have hzb:(z.change.P j).pe.both=true:=by rw[(wG z).2.2.2,A j Z];exact hb
   rcases ev.o j hzb y v U Q with⟨u1,u2,u3⟩|u
   {exact .inl ⟨hb,by rw[<-zK];exact u2,by rw[<-D j Z];exact u3⟩};{exact absurd u.1 Z}
theorem n9(h:K own=μ q):newF K own seq es=lT seq es q.1 q.2:=by unfold newF;rw[h]
theorem xJ(iO:ln r)(i:Nat)(s:List UInt8):vH r (jj r i s) i (μ (83::s))/\∀y∈jl ((jj r i s).P i),jl ((jj r i s).P i)=[65::rh (ij s).1 (ij s).2.1 (ij s).2.2.1]->(ij s).2.2.2=0->0<=newF r.K (ij s).1 (ij s).2.1 (ij s).2.2.1->¬((ij s).1=r.id/\0<newF r.K (ij s).1 (ij s).2.1 (ij s).2.2.1)->(r.P i).pe.both=true->yg (jj r i s).K (ij s).1 (ij s).2.1 (ij s).2.2.1:=by
 unfold jj;simp only;split
 ·rename_i h
  refine⟨vH.refl _ _ _,λy _ _ hz _ _ hb=> ?_⟩;rcases h with h|h
  {exact absurd hz h};{rw[hb]at h;exact absurd h gU}
 ·rename_i h
  have hz:(ij s).2.2.2=0:=dZ;split
  ·rename_i D
   refine⟨FD iO ?_ _ _,λy _ _ _ _ ll _=>absurd D ll⟩;obtain⟨u,hu,_⟩:=iO.own;have J:=D.2;rw[D.1,n9 hu]at J;unfold A5;rw[hu];show u.1<=_;unfold lT at J;by_cases hc:lZ (ij s).2.1 u.1=0;{rw[nD.1 hc];exact Int.le_refl _};{rw[ai hc]at J;have:=ub.1 J;omega}
  ·rename_i D
   have H:∀q:PS,0<=lT (ij s).2.1 (ij s).2.2.1 q.1 q.2->ahC (μ (83::s)) (ij s).1 q:=λq Q=>⟨s,.inl rfl,hz,rfl,Q⟩
   generalize (ij s).1=own,(ij s).2.1=seq,(ij s).2.2.1=es at*;have hm:vH r {r with K:=lr r.K own seq es,O:=oT r.K r.O i own seq es} i (μ (83::s)):=by
    refine⟨λy q Q=> ?_,λj hb y q h1 J=> ?_,λj _=>.inl rfl⟩;{show yg (lr r.K own seq es) y q.1 q.2;unfold lr;by_cases g:0<newF r.K own seq es;{rw[ai g];by_cases e:y=own;{subst e;rw[n9 Q]at g;exact⟨(seq,es),by show(if y=y then _ else _)=_;rw[ai rfl],by show 0<=lT seq es q.1 q.2;omega⟩};{exact⟨q,by show(if y=own then _ else _)=_;rw[af e];exact Q,by rw[n8];exact Int.le_refl _⟩}};{rw[af g];exact uC Q}}
    ·have V:lr r.K own seq es y=μ q:=h1;have Z:oT r.K r.O i own seq es j y=ν:=J;unfold lr at V;unfold oT at Z;by_cases g:0<newF r.K own seq es
     ·rw[ai g]at V Z;have V:(if y=own then μ (seq,es)else r.K y)=μ q:=V;by_cases e:y=own
      ·subst e;rw[ai rfl]at V;injection V with V
       by_cases U:j=i;{refine .inr ⟨U,H q ?_⟩;rw[<-V];show 0<=lT seq es seq es;rw[n8];exact Int.le_refl _};{rw[af U]at Z;have Z:(if y=y then μ (seq,es)else r.O j y)=ν:=Z;rw[ai rfl]at Z;exact absurd Z gU}
      ·rw[af e]at V;refine .inl ⟨hb,V,?_⟩;by_cases U:j=i;{rw[ai U]at Z;have Z:(if y=own then ν else if y=own then μ (seq,es)else r.O i y)=ν:=Z;rw[af e,af e]at Z;rw[U];exact Z};{rw[af U]at Z;have Z:(if y=own then μ (seq,es)else r.O j y)=ν:=Z;rw[af e]at Z;exact Z}
     ·rw[af g]at V Z;by_cases g2:newF r.K own seq es<0
      ·rw[ai g2]at Z;by_cases U:j=i
       ·rw[ai U]at Z;cases A:r.K own with
        |none=>rw[A]at Z;exact .inl ⟨hb,V,by rw[U];exact Z⟩
        |some u=>
         rw[A]at Z;have Z:(if y=own then μ u else r.O i y)=ν:=Z;by_cases e:y=own;{rw[ai e]at Z;exact absurd Z gU};{rw[af e]at Z;exact .inl ⟨hb,V,by rw[U];exact Z⟩}
       ·rw[af U]at Z;exact .inl ⟨hb,V,Z⟩
      ·rw[af g2]at Z;by_cases U:j=i;{rw[ai U]at Z;have Z:(if y=own then ν else r.O i y)=ν:=Z;by_cases e:y=own;{subst e;rw[n9 V]at g2;exact .inr ⟨U,H q dZ⟩};{rw[af e]at Z;exact .inl ⟨hb,V,by rw[U];exact Z⟩}};{rw[af U]at Z;exact .inl ⟨hb,V,Z⟩}
   have A:0<=newF r.K own seq es->yg (lr r.K own seq es) own seq es:=λE=>by
    unfold lr;by_cases g:0<newF r.K own seq es;{rw[ai g];exact⟨(seq,es),by show(if own=own then _ else _)=_;rw[ai rfl],by show 0<=lT seq es seq es;rw[n8];exact Int.le_refl _⟩}
    ·rw[af g];cases Q:r.K own with
     |none=>unfold newF at g;rw[Q]at g;exact absurd (by decide:(0:Int)<1) g
     |some q=>
      rw[n9 Q]at g E;refine⟨q,Q,?_⟩;rw[ud];omega
   split;{refine⟨hm.trans (vH.alike _ _ rfl rfl λj=> ?_),λy _ _ _ E _ _=>A E⟩;rw[kO];split;{rename_i e;rw[e,(sd _ _ _).2]};{rfl}}
   ·rename_i amn
    exact⟨hm,λy _ _ _ E _ _=>absurd E amn⟩
theorem SS(r:iN)(i:Nat)(s:List UInt8):vH r (kC r i s) i (μ (65::s)):=by
 unfold kC;simp only;split
 ·rename_i E
  refine⟨pv.refl _,λj hb y q J H=> ?_,λj _=>.inl rfl⟩;have Z:(if j=i/\0<=newF r.K (ij s).1 (ij s).2.1 (ij s).2.2.1 then yD (r.O i) (ij s).1 else r.O j) y=ν:=H;have U:r.K y=μ q:=J;by_cases e:j=i/\0<=newF r.K (ij s).1 (ij s).2.1 (ij s).2.2.1;{rw[ai e]at Z;have Q:(if y=(ij s).1 then ν else r.O i y)=ν:=Z;by_cases V:y=(ij s).1;{refine .inr ⟨e.1,s,.inr rfl,E,V.symm,?_⟩;have:=e.2;rw[<-V,n9 U]at this;exact this};{rw[af V]at Q;exact .inl ⟨hb,U,by rw[e.1];exact Q⟩}};{rw[af e]at Z;exact .inl ⟨hb,U,Z⟩}
 ·exact vH.refl _ _ _
def yh(r:iN)(x:la):Prop:=(∀s,(x=83::s \/x=65::s)->(ij s).2.2.2=0->yg r.K (ij s).1 (ij s).2.1 (ij s).2.2.1)/\∀s,x=72::s->(kG s).2.2=0->(kG s).1=r.id
theorem rG(r:iN) {c:UInt8} (s:List UInt8)(Z:c≠83)(V:c≠65)(U:c≠72):yh r (c::s):=
 ⟨λ_ e=>e.elim (λe=>absurd (aC e).1 Z) λe=>absurd (aC e).1 V,λ_ e=>absurd (aC e).1 U⟩
theorem SU(J:Ke r)(H:ln r)(i:Nat)(x:la):vH r (jN r i x) i (μ x)/\∀p,∀y∈jl ((jN r i x).P p),yh (jN r i x) y:=by
 obtain⟨m1,_⟩:=qq J i x;have vZ:vH r (jN r i x) i (μ x):=by
  cases x with
  |nil=>exact vH.refl _ _ _
  |cons c s=>
   show vH r (r.take i c s) i _;obtain⟨_,_,k3,k4,k5,_,_,_⟩:=z9 J i c s;have Z:vH r (j1 r i c s) i (μ (c::s)):=vH.alike _ _ k4 k5 λj=>(k3 j).1;have V:=H.link i c s;rw[lJ];obtain⟨r1,k8⟩:=gg (j1 r i c s);rw[k8]at Z V⊢;split;{exact Z.trans (wY V (oj.nobody V.id.1) _ λh=>absurd rfl h)}
   ·unfold mB;split
    ·rename_i hc
     split
     ·rename_i U
      refine Z.trans (wY V (oj.YL (s:=(kG s).2.1) V.id.1 (EO U)) _ λQ=>.inr ⟨s,by rw[hc],U,?_⟩);unfold jg at Q⊢;split at Q;{exact absurd rfl Q};{rename_i g;rw[af g]}
     ·exact Z
    ·split;{rename_i hc;rw[hc]at Z⊢;exact Z.trans (xJ V i s).1};{split;{rename_i hc;rw[hc]at Z⊢;exact Z.trans (SS r1 i s)};{split;{unfold ry;split;{obtain⟨a,b,_,_,e⟩:=np r1 (((s.getD 0 0).toNat:Int),((s.getD 1 0).toNat:Int),s.drop 2);exact Z.trans (vH.alike _ _ a b λj=>(e j).2.1)};{exact Z}};{exact Z}}}
 refine⟨vZ,λp y hy=> ?_⟩;cases m1 p with
 |none h=>rw[h]at hy;simp at hy
 |link s _ _ _ h=>
  rw[h]at hy;obtain⟨u,rfl⟩:=rQ hy;exact rG _ u ew ew ew
 |JL a b s _ _ _ _ h=>
  rw[h]at hy;rw[ar.1 hy];exact rG _ _ ew ew ew
 |heard s hx A D U hb ll E h=>
  rw[h]at hy;rw[ar.1 hy];have hv:oA (ij s).1 (ij s).2.1 (ij s).2.2.1=0:=pO (by rw[<-U]);refine⟨λu e _=> ?_,λu e=>absurd (aC e).1 ew⟩;have hu:u=rh (ij s).1 (ij s).2.1 (ij s).2.2.1:=by
   rcases e with e|e
   {exact absurd (aC e).1 ew};{exact(aC e).2.symm}
  rw[hu,nP _ _ _ hv];have ht:jN r i x=jj r i s:=by
   rw[hx];show r.take i 83 s=_;rw[lJ,uA i s ew,af (by rw[D];simp)];unfold mB;rw[af ew,ai rfl]
  rw[ht]at h⊢;rw[A]at h;exact(xJ H i s).2 _ (by rw[h];exact ar.2 rfl) h U E ll hb
theorem SW(hE:Ke r)(h:Own r)(H:ln r)(hs:l8 B r)(hB:B<1000000)(hi:i<3)(hn:r.n=3):vH r (r.iW i) i ν/\∀p,∀y∈jl ((r.iW i).P p),yh (r.iW i) y:=by
 have ha:=lS r i;have E:vH r (jb r i) i ν:=vH.alike _ _ rfl rfl λj=>(ha j).2;have V:=H.jb i;have Cd:(iJ ((jb r i).P i).pe).who≠0->(iJ ((jb r i).P i).pe).who=((jb r i).P i).pe.who:=λZ=>by
  unfold iJ at Z⊢;split at Z;{exact absurd rfl Z};{rename_i g;rw[af g]}
 have vZ:vH r (r.iW i) i ν:=by
  rw[k7];split;{exact E.trans (wY V (oj.nobody V.id.1) _ λh=>absurd rfl h)};{have hp:=oj.tick V.id.1 (V.pe i (by show i<r.n;omega));obtain⟨t1,t2,_,_,t5⟩:=pG ((jb r i).meet i (iJ ((jb r i).P i).pe)) i;exact(E.trans (wY V hp _ λZ=>.inl (Cd Z))).trans (vH.alike _ _ t1 t2 λj=>(t5 j).2.1)}
 refine⟨vZ,λp y hy=> ?_⟩;obtain⟨C,c1,c2,_⟩:=BA h H hs hB hi hn;obtain⟨e1,e2⟩:=xF hE i;by_cases D:p=i
 ·subst D;rw[e2]at hy;rcases av.1 hy with g|g
  ·obtain⟨u,rfl⟩:=rQ g;exact rG _ u ew ew ew
  ·split at g
   ·rename_i h9
    rcases aO.1 g with g|g
    ·rw[g];refine⟨λu e=> ?_,λu e Q=> ?_⟩;{rcases e with e|e<;>exact absurd (aC e).1 ew}
     ·rw[<-(aC e).2]at Q⊢;have pU:=H.id;have J:(r.iW p).id=r.id:=(jG.iW r p).id;rw[J];unfold kG at Q⊢;split at Q
      ·rename_i hh
       rw[ai hh];show((jY r.id).toNat:Int)=_;exact nF _ dZ dZ
      ·exact absurd Q gU
    ·split at g
     ·obtain⟨q,hq,U⟩:=aT.1 g;unfold DC at U;split at U
      ·rw[ar.1 U];have hO:(r.iW p).O p q.1=μ q.2:=by
        have kd:((jb r p).P p).L.st=9:=by
         unfold jb;rw[kO,ai rfl,sP];exact h9
        rw[k7,af (by rw[kd];simp),(ha p).2];exact xG hq
       have A:=c1.tie p q.1 q.2 hO;refine⟨λu e _=> ?_,λu e=>absurd (aC e).1 ew⟩;have hu:u=rh q.1 q.2.1 q.2.2:=by
        rcases e with e|e
        {exact(aC e).2.symm};{exact absurd (aC e).1 ew}
       rw[hu,nP _ _ _ (c1.val _ _ A)];exact uC A
      ·simp at U
     ·simp at g
   ·simp at g
 ·rw[e1 p D]at hy;simp at hy
theorem WK(Z:ln r)(i:Nat)(up:Bool):vH r (r.iH i up).1 i ν/\(((r.P i).iH up).2=0->((r.iH i up).1.P i).pe=nobody):=by
 unfold iN.iH;simp only;split;{rename_i h;exact⟨vH.refl _ _ _,λU=>absurd U h⟩}
 ·have e:((r.P i).iH up).1.m=(r.P i).m/\((r.P i).iH up).1.pe=(r.P i).pe:=by
   unfold jv.iH;generalize kY (r.P i).L (if up=true then 0 else 1)=E;simp only;split;{exact⟨rfl,rfl⟩};{rw[(wF _ _).1,(wF _ _).2];exact⟨rfl,rfl⟩}
  have k1:ln (r.iU i ((r.P i).iH up).1):=Z.iU i _ e.1 λhi=>by rw[e.2];exact Z.pe i hi
  have V:vH r (r.iU i ((r.P i).iH up).1) i ν:=vH.alike _ _ rfl rfl λj=>by
   rw[kO];split;{rename_i g;rw[g];exact e.2};{rfl}
  refine⟨V.trans (wY k1 (oj.nobody k1.id.1) _ λh=>absurd rfl h),λ_=> ?_⟩;rw[(kc _ _ _ _).2.2.2,ai rfl]
def mM(a:AN)(c d:Nat):lD:=((a.R (a.e c d).1).P (a.e c d).2).pe
def Cx(x:la):Prop:=x.length<=23/\∀k b s,x=77::k::b::s->b.toNat<=7
theorem tK {c:UInt8} {s:List UInt8} (h:s.length<=22)(hc:c≠77):Cx (c::s):=⟨by simp only[eQ];omega,λ_ _ _ e=>absurd (aC e).1 hc⟩
structure DF(a:AN):Prop where
 gate:∀c d,c<a.nc->d<2->(mM a c d).who≠0->(j0 a c d).st=9
 far:∀c d,c<a.nc->d<2->(mM a c d).who≠0->(mM a c d).who=((a.e c (1-d)).1:Int)+1
 kn:∀c d,c<a.nc->d<2->∀x∈a.F c d,yh (a.R (a.e c d).1) x/\Cx x
 o:∀c d,c<a.nc->d<2->(mM a c d).both=true->∀y q,(a.R (a.e c d).1).K y=μ q->(a.R (a.e c d).1).O (a.e c d).2 y=ν->yg (a.R (a.e c (1-d)).1).K y q.1 q.2
theorem yh.mono {r s:iN} (h:pv r.K s.K)(V:s.id=r.id) {x:la} (g:yh r x):yh s x:=⟨λu e Z=>(g.1 u e Z).mono h,λu e Z=>by rw[V];exact g.2 u e Z⟩
theorem JW(a:AN)(i:Nat)(s:iN)(j:Nat):(a.op i s).R j=if j=i then s.core else a.R j:=rfl
theorem Ai(a:AN)(i:Nat)(s:iN)(c d:Nat):mM (a.op i s) c d=if(a.e c d).1=i then(s.P (a.e c d).2).pe else mM a c d:=by
 unfold mM;rw[SC,JW];by_cases e:(a.e c d).1=i;{rw[ai e,ai e];rfl};{rw[af e,af e]}
theorem DF.op {a:AN} (hB:tI a)(h:DF a) {i:Nat} {s:iN} (pU:s.id=(a.R i).id)(OE:∀j,j<a.n->(a.R j).id=(j:Int)+1) {p:Nat} {x:Option la} (ev:vH (a.R i) s p x)(XP:∀q,∀y∈jl (s.P q),yh s y/\Cx y)
 (hx:∀y,x=μ y->∃c d,c<a.nc/\d<2/\a.e c (1-d)=(i,p)/\yh (a.R (a.e c d).1) y)
 (hg:∀c d,c<a.nc->d<2->(a.e c d).1=i->(s.P (a.e c d).2).pe.who≠0->(s.P (a.e c d).2).L.st=9):DF (a.op i s):=by
 have u:∀j,pv (a.R j).K ((a.op i s).R j).K:=λj=>by
  rw[JW];by_cases e:j=i;{rw[ai e,e];exact ev.k};{rw[af e];exact pv.refl _}
 have H:∀j,((a.op i s).R j).id=(a.R j).id:=λj=>by
  rw[JW];by_cases e:j=i;{rw[ai e,e];exact pU};{rw[af e]}
 have U:∀c d,c<a.nc->d<2->a.e c d=(i,p)->∀y,x=μ y->yh (a.R (a.e c (1-d)).1) y:=λc d hc hd he y hy=>by
  obtain⟨c',d',jX,kg,BP,A⟩:=hx y hy;have:=hB.ds c' (1-d') c d jX dZ hc hd (BP.trans he.symm);have G0:d'=1-d:=dZ;rw[this.1,G0]at A;exact A
 refine⟨λc d hc hd Z=> ?_,λc d hc hd Z=> ?_,λc d hc hd y hy=> ?_,λc d hc hd hb y q E D=> ?_⟩;{rw[Ai]at Z;rw[Ix];by_cases e:(a.e c d).1=i;{rw[ai e]at Z⊢;exact hg c d hc hd e Z};{rw[af e]at Z⊢;exact h.gate c d hc hd Z}}
 ·rw[Ai]at Z⊢;rw[SC];by_cases e:(a.e c d).1=i
  ·rw[ai e]at Z⊢;rcases ev.w _ Z with z|⟨Q,s',V,J,z4⟩
   {rw[z]at Z⊢;have:=h.far c d hc hd;unfold mM at this;rw[e]at this;exact this Z};{have:=(U c d hc hd (aV e Q) _ V).2 s' rfl J;rw[<-z4,this];exact OE _ (hB.en c (1-d) hc dZ).1}
  ·rw[af e]at Z⊢;exact h.far c d hc hd Z
 ·rw[SC];rw[vF]at hy;by_cases e:(a.e c d).1=i
  ·rw[ai ⟨⟨hc,hd⟩,e⟩]at hy;rcases av.1 hy with g|g
   {exact⟨(h.kn c d hc hd y g).1.mono (u _) (H _),(h.kn c d hc hd y g).2⟩};{rw[JW,ai e];exact XP _ y g}
  ·rw[af (λz=>e z.2)]at hy;exact⟨(h.kn c d hc hd y hy).1.mono (u _) (H _),(h.kn c d hc hd y hy).2⟩
 ·rw[SC];rw[SC]at E D;rw[Ai]at hb;by_cases e:(a.e c d).1=i
  ·rw[ai e]at hb;rw[JW,ai e]at E D;rcases ev.o _ hb y q E D with⟨Q,V,J⟩|⟨Q,s',V,J,z4,z5⟩
   ·have:=h.o c d hc hd;unfold mM at this;rw[e]at this;exact(this Q y q V J).mono (u _)
   ·have A:yg (a.R (a.e c (1-d)).1).K (ij s').1 (ij s').2.1 (ij s').2.2.1:=by
     rcases V with V|V
     {exact(U c d hc hd (aV e Q) _ V).1 s' (.inl rfl) J};{exact(U c d hc hd (aV e Q) _ V).1 s' (.inr rfl) J}
    rw[z4]at A;exact(A.trans z5).mono (u _)
  ·rw[af e]at hb;rw[JW,af e]at E D;exact(h.o c d hc hd hb y q E D).mono (u _)
theorem DF.lost(h:DF a)(hl:wQ a b):DF b:=by
 have hs:∀c d,(b.F c d).Sublist (a.F c d):=λc d=>by
  obtain⟨m,H⟩:=hl.2 c d;rw[H];exact iA _ _
 have V:b.nc=a.nc:=by rw[hl.1]
 have Z:b.e=a.e:=by rw[hl.1]
 have U:b.R=a.R:=by rw[hl.1]
 have Q:∀c d,mM b c d=mM a c d:=λc d=>by unfold mM;rw[Z,U]
 have J:∀c d,j0 b c d=j0 a c d:=λc d=>by unfold j0;rw[Z,U]
 refine⟨λc d=> ?_,λc d=> ?_,λc d hc hd x hx=> ?_,λc d=> ?_⟩;{rw[V,Q,J];exact h.gate c d};{rw[V,Q,Z];exact h.far c d};{rw[Z,U];exact h.kn c d (by rw[<-V];exact hc) hd x ((hs c d).mem hx)};{rw[V,Q,Z,U];exact h.o c d}
theorem DF.less(h:DF a)(V:b.nc=a.nc)(Z:b.e=a.e)(U:b.R=a.R)(hs:∀c d,∀x∈b.F c d,x∈a.F c d):DF b:=by
 have Q:∀c d,mM b c d=mM a c d:=λc d=>by unfold mM;rw[Z,U]
 have J:∀c d,j0 b c d=j0 a c d:=λc d=>by unfold j0;rw[Z,U]
 refine⟨λc d=> ?_,λc d=> ?_,λc d hc hd x hx=> ?_,λc d=> ?_⟩;{rw[V,Q,J];exact h.gate c d};{rw[V,Q,Z];exact h.far c d};{rw[Z,U];exact h.kn c d (by rw[<-V];exact hc) hd x (hs c d x hx)};{rw[V,Q,Z,U];exact h.o c d}
theorem SX {os:List jJ} (h:jS code id os=0):os.length<=8:=by
 unfold jS at h;split at h;{simp at h};{split at h;{simp at h};{omega}}
theorem DG(h:oA own seq es=0):(rh own seq es).length<=16:=by
 have:=(ju h).2.2.1;unfold rh;simp only[eQ,yn];omega
theorem ZH(q:kN):∀x∈oo q,Cx x:=λx hx=>by
 unfold oo at hx;split at hx
 ·rename_i g
  rw[ar.1 hx];have:=SX g.1;refine tK ?_ ew;unfold mG;simp only[eQ,rY];omega
 ·simp at hx
theorem FF {l:List kN} (h:x∈l.flatMap oo):Cx x:=by
 obtain⟨q,_,hx⟩:=aT.1 h;exact ZH q x hx
theorem ZI(h:Fu r i x p l)(hx:Cx x):∀y∈l,Cx y:=λy hy=>by
 cases h with
 |none h=>rw[h]at hy;simp at hy
 |link s _ _ _ h=>rw[h]at hy;exact FF hy
 |heard s _ _ _ V _ _ _ h=>
  rw[h]at hy;rw[ar.1 hy];have hv:oA (ij s).1 (ij s).2.1 (ij s).2.2.1=0:=pO (by rw[<-V]);have:=DG hv;exact tK dZ ew
 |JL a b s hs h9 h1 hl h=>
  rw[h]at hy;rw[ar.1 hy];refine⟨by simp only[eQ];omega,λk c u e=> ?_⟩;have Z:=(aC (aC (aC e).2).2).1;have hb:=hx.2 a b s hs;rw[<-Z];have:=nF ((b.toNat:Int)-1) dZ (by have:=b.toNat_lt;omega);omega
theorem ZJ(D:Ke r)(Q:Own (r.iW i)):∀p,∀y∈jl ((r.iW i).P p),Cx y:=λp y hy=>by
 obtain⟨J,H⟩:=xF D i;by_cases U:p=i
 ·subst U;rw[H]at hy;rcases av.1 hy with g|g
  ·exact FF g
  ·split at g
   ·rename_i E
    rcases aO.1 g with g|g
    ·rw[g];exact tK gU ew
    ·split at g
     ·obtain⟨q,A,Z⟩:=aT.1 g;unfold DC at Z;split at Z
      ·rw[ar.1 Z];have u:((jb r p).P p).L.st=9:=by
        unfold jb;rw[kO,ai rfl,sP];exact E
       have V:(r.iW p).O p q.1=μ q.2:=by
        rw[k7,af (by rw[u];simp),(lS r p p).2];exact xG A
       have:=DG (Q.val _ _ (Q.tie p q.1 q.2 V));exact tK dZ ew
      ·simp at Z
     ·simp at g
   ·simp at g
 ·rw[J p U]at hy;simp at hy
theorem DF.nI {a:AN} (H:tI a)(E:Norm a)(h:DF a) {B N:Nat} (D:vG B N a) {c d:Nat} (hc:c<a.nc)(hd:d<2)(up:Bool)(U:(kY (j0 a c d) (if up=true then 0 else 1)).2.2=0):DF (a.nI c d up):=by
 obtain⟨hi,hp⟩:=H.en c d hc hd;obtain⟨a1,A,a3,a4,a5⟩:=D.r _ hi;obtain⟨ev,oS⟩:=WK A (a.e c d).2 up;obtain⟨e1,e2,J⟩:=JM (E.emp (a.e c d).1) (a.e c d).2 up U;have Q:=Qd (E.emp (a.e c d).1) (a.e c d).2 up;have Z:∀q,(((a.R (a.e c d).1).iH (a.e c d).2 up).1.P q).pe=if q=(a.e c d).2 then nobody else((a.R (a.e c d).1).P q).pe:=λq=>by
  rw[J,(kc _ _ _ _).2.2.2];by_cases g:q=(a.e c d).2;{rw[ai g,ai g]};{rw[af g,af g,kO,af g]}
 have hL:∀q,q≠(a.e c d).2->(((a.R (a.e c d).1).iH (a.e c d).2 up).1.P q).L=((a.R (a.e c d).1).P q).L:=λq Q=>by
  rw[J,(kc _ _ _ _).2.1,kO,af Q]
 refine h.op H (JN _ _ _).1 (λj hj=>(D.r j hj).2.2.2.1) ev (λq y hy=> ?_) (λy hy=>absurd hy gU) λc' d' jX kg he V=> ?_;{obtain⟨u,rfl⟩:=Q q y hy;refine⟨rG _ u ew ew ew,?_⟩;by_cases g:q=(a.e c d).2;{rw[g,e2]at hy;exact FF hy};{rw[e1 q g]at hy;simp at hy}};{by_cases g:(a.e c' d').2=(a.e c d).2;{rw[g,Z,ai rfl]at V;exact absurd rfl V};{rw[Z,af g]at V;rw[hL _ g];have:=h.gate c' d' jX kg;unfold mM j0 at this;rw[he]at this;exact this V}}
theorem DF.iH {a:AN} (hB:tI a)(hN:Norm a)(h:DF a) {B N:Nat} (Q:vG B N a)(hl:N<1000000) {c:Nat} (hc:c<a.nc)(up:Bool)(U:∀d,d<2->(kY (j0 a c d) (if up=true then 0 else 1)).2.2=0):DF (a.iH c up):=by
 obtain⟨b,hb⟩:=gg ((({a with iQ:=jU a.iQ c up}:AN).lv c 0 []).lv c 1 []);have H:tI b:=hB.same (by rw[<-hb];rfl) (by rw[<-hb];rfl) (by rw[<-hb];rfl);have E:Norm b:=by rw[<-hb];exact hN
 have J:c<b.nc:=by rw[<-hb];exact hc
 have A:∀c' d',j0 b c' d'=j0 a c' d':=λc' d'=>by rw[<-hb];rfl
 have xk:DF b:=h.less (by rw[<-hb];rfl) (by rw[<-hb];rfl) (by rw[<-hb];rfl) λx f y hy=>by
  rw[<-hb]at hy;have Z:y∈(if x=c/\f=1 then []else if x=c/\f=0 then []else a.F x f):=hy;split at Z;{simp at Z};{split at Z;{simp at Z};{exact Z}}
 have V:∃C,vG C N b:=by
  have w1:=DB {a with iQ:=jU a.iQ c up} sw c 0;have w2:=DB (({a with iQ:=jU a.iQ c up}:AN).lv c 0 []) sw c 1;have w3:=Q.b;rw[hb]at w2;have e1:({a with iQ:=jU a.iQ c up}:AN).W sw=a.W sw:=rfl;refine⟨B,by rw[<-hb];exact Q.r,λx f hx hf y hy=> ?_,?_,Q.one,by rw[<-hb];exact Q.ms⟩;{rw[<-hb]at hy hx;have Z:y∈(if x=c/\f=1 then []else if x=c/\f=0 then []else a.F x f):=hy;split at Z;{simp at Z};{split at Z;{simp at Z};{exact Q.f x f hx hf y Z}}}
  ·have Z:sm (λi=>qX (b.R i)) (List.range b.n)=sm (λi=>qX (a.R i)) (List.range a.n):=by rw[<-hb];rfl
   omega
 obtain⟨C,V⟩:=V;have f0:=wX H E J (by decide:0<2) up (by rw[A];exact U 0 ew);have h1:=xk.nI H E V J (by decide:0<2) up (by rw[A];exact U 0 ew);obtain⟨D,u⟩:=BD H E V hl J (by decide:0<2) up;have j:=(f0 c 1 J ew).1 dZ;have h2:=h1.nI (a:=b.nI c 0 up) (H.same rfl rfl rfl) (qW E _ _) u J (by decide:1<2) up (by rw[j.1,A];exact U 1 ew);unfold AN.iH;rw[hb];exact h2
theorem mR.abp(s:mR a T S b)(H:tI a)(E:Norm a)(U:vG B N a)(hl:N<1000000) {X:Marks} {t:Nat×Nat->Nat} (hX:qY X t a)(h:DF a):DF b:=by
 have OE:∀j,j<a.n->(a.R j).id=(j:Int)+1:=λj hj=>(U.r j hj).2.2.2.1;have hBl:=U.b;have J:∀c d,c<a.nc->d<2->a.iQ c=true->Ov ((a.R (a.e c d).1).P (a.e c d).2):=λc d hc hd hi=>by
  have p:=hX.tM hc hd hi;have h6:=p.lu;have h9:=p.l.st;refine⟨?_,h.gate c d hc hd⟩;show ux (j0 a c d).st=true;unfold ux;simp only[Bool.or_eq_true,beq_iff_eq,Bool.and_eq_true,decide_eq_true_eq];omega
 have tT:∀c d,c<a.nc->d<2->pj (a.iQ c) ((a.R (a.e c d).1).P (a.e c d).2):=λc d hc hd=>by
  cases hi:a.iQ c;{exact⟨by rw[af gU];exact(hX.dn c hc hi d hd).2.1,h.gate c d hc hd⟩};{exact pj.up.2 (J c d hc hd hi)}
 cases s with
 |lost hl=>exact h.lost hl
 |tick i p hi hp=>
  obtain⟨a1,A,a3,a4,a5⟩:=U.r i hi;obtain⟨ev,hk⟩:=SW (E.emp i) a1 A a3 dZ hp a5;obtain⟨C,c1,_⟩:=BA a1 A a3 dZ hp a5;have iO:=ZJ (E.emp i) c1;refine h.op H (jG.iW (a.R i) p).id OE ev (λq y hy=>⟨hk q y hy,iO q y hy⟩) (λy hy=>absurd hy gU) λc d hc hd D Z=> ?_;have hE:=tT c d hc hd;rw[D]at hE;by_cases e:(a.e c d).2=p;{rw[e]at hE Z⊢;exact(Ii p hE).1.gate Z}
  ·have hLq:(((a.R i).iW p).P (a.e c d).2).L=((a.R i).P (a.e c d).2).L:=by rw[BF,af e]
   have hPq:(((a.R i).iW p).P (a.e c d).2).pe=((a.R i).P (a.e c d).2).pe:=by
    rw[k7];split;{rw[(kc _ _ _ _).2.2.2,af e];exact(lS _ _ _).2};{rw[((pG _ _).2.2.2.2 _).2.1,(kc _ _ _ _).2.2.2,af e];exact(lS _ _ _).2}
   rw[hLq];rw[hPq]at Z;exact hE.gate Z
 |pop c d x l hc hd hF=>
  obtain⟨hi,hp⟩:=H.en c (1-d) hc dZ;obtain⟨a1,A,a3,a4,a5⟩:=U.r _ hi;have WL:x∈a.F c d:=by rw[hF];simp
  have kL:=hX.yX hc hd WL;obtain⟨ev,hk⟩:=SU (E.emp (a.e c (1-d)).1) A (a.e c (1-d)).2 x;obtain⟨m1,_⟩:=qq (E.emp (a.e c (1-d)).1) (a.e c (1-d)).2 x;have vQ:DF (a.lv c d l):=h.less rfl rfl rfl λy f z hz=>by
   rw[sQ]at hz;split at hz;{rename_i e;rw[e.1,e.2,hF];simp[hz]};{exact hz}
  unfold AN.pop;refine vQ.op (a:=a.lv c d l) (H.same rfl rfl rfl) (Mh A _ x).2.1 OE ev (λq y hy=>⟨hk q y hy,ZI (m1 q) (h.kn c d hc hd x WL).2 y hy⟩) (λy hy=>⟨c,d,hc,hd,rfl,?_⟩) λc' d' jX V D Z=> ?_;{injection hy with hy;rw[<-hy];exact(h.kn c d hc hd x WL).1}
  ·have hG:=Ih (r:=a.R (a.e c (1-d)).1) (a.e c (1-d)).2;cases x with
   |nil=>
    have:=h.gate c' d' jX V;unfold mM j0 at this;rw[show(a.e c' d').1=(a.e c (1-d)).1 from D]at this;exact this Z
   |cons k u=>
    obtain⟨g1,g2⟩:=hG k u (J c (1-d) hc dZ kL);by_cases e:(a.e c' d').2=(a.e c (1-d)).2;{have e':((a.lv c d l).e c' d').2=(a.e c (1-d)).2:=e;rw[e']at Z⊢;exact g1.2 Z}
    ·obtain⟨z1,z2⟩:=g2 _ e;have:=h.gate c' d' jX V;unfold mM j0 at this;rw[show(a.e c' d').1=(a.e c (1-d)).1 from D]at this;have hw':(((a.R (a.e c (1-d)).1).take (a.e c (1-d)).2 k u).P (a.e c' d').2).pe.who≠0:=Z;rw[z2]at hw';show(((a.R (a.e c (1-d)).1).take (a.e c (1-d)).2 k u).P (a.e c' d').2).L.st=9;rw[z1];exact this hw'
 |send i t tx hi ht1 ht6 hlen=>
  obtain⟨s1,s2,s3,s4,s5⟩:=np (a.R i) (t,8,tx);obtain⟨j,g1,g2⟩:=DE (E.emp i) (t,8,tx);refine h.op H s3 OE (vH.alike 0 ν s1 s2 λj=>(s5 j).2.1) (λq y hy=> ?_) (λy hy=>absurd hy gU) λc d hc hd D Z=> ?_
  ·by_cases e:q=j
   ·subst e;rcases g2 with g|⟨_,g⟩
    {rw[g]at hy;simp at hy};{rw[g]at hy;rw[ar.1 hy];refine⟨rG _ _ ew ew ew,by simp only[eQ];omega,λk b u e=> ?_⟩;rw[<-(aC (aC (aC e).2).2).1];show(jY ((8:Int)-1)).toNat<=7;decide}
   ·rw[g1 q e]at hy;simp at hy
  ·rw[(s5 _).2.1]at Z;rw[(s5 _).2.2];have:=h.gate c d hc hd;unfold mM j0 at this;rw[D]at this;exact this Z
 |iH c hc hi _ _=>exact h.iH H E U hl hc true λd hd=>(Ee (hX.dn c hc hi d hd).2.1).1
 |draw c hc hi=>exact h.iH H E U hl hc false λd hd=>(tH (J c d hc hd hi).1).1
 |anew i m hi hd=>
  obtain⟨b,hb⟩:=gg (({a with R:=jU a.R i (jO ((i:Int)+1) 3 (a.ms i)),ib:=jU a.ib i ((a.ib i).take m)}:AN));rw[hb];have e1:b.nc=a.nc:=by rw[<-hb]
  have e3:b.e=a.e:=by rw[<-hb]
  have e4:b.F=a.F:=by rw[<-hb]
  have hR:∀j,b.R j=if j=i then jO ((i:Int)+1) 3 (a.ms i)else a.R j:=λj=>by rw[<-hb];rfl
  have oS:∀c d,mM b c d=if(a.e c d).1=i then nobody else mM a c d:=λc d=>by
   unfold mM;rw[e3,hR];by_cases e:(a.e c d).1=i;{rw[ai e,ai e];rfl};{rw[af e,af e]}
  have pA:∀c d,(a.e c d).1≠i->j0 b c d=j0 a c d:=λc d e=>by unfold j0;rw[e3,hR,af e]
  have ll:∀c d,c<a.nc->d<2->(a.e c (1-d)).1=i->(mM a c d).both=false:=λc d hc V e=>by
   have kL:=(hd c (1-d) hc dZ e).1;have kd:=(hX.dn c hc kL d V).2.1;have Z:(mM a c d).who=0:=by
    by_cases g:(mM a c d).who=0;{exact g};{have:=h.gate c d hc V g;omega}
   have hx:=H.en c d hc V;have hp:=(U.r _ hx.1).2.1.pe (a.e c d).2 (by rw[(U.r _ hx.1).2.2.2.2];exact hx.2);cases hb:(mM a c d).both;{rfl};{have:=hp.both hb;unfold mM at Z;omega}
  refine⟨λc d hc V Z=> ?_,λc d hc V Z=> ?_,λc d hc V x hx=> ?_,λc d hc V Q y q h1 h2=> ?_⟩;{rw[e1]at hc;rw[oS]at Z;by_cases e:(a.e c d).1=i;{rw[ai e]at Z;exact absurd rfl Z};{rw[af e]at Z;rw[pA c d e];exact h.gate c d hc V Z}};{rw[e1]at hc;rw[oS]at Z⊢;rw[e3];by_cases e:(a.e c d).1=i;{rw[ai e]at Z;exact absurd rfl Z};{rw[af e]at Z⊢;exact h.far c d hc V Z}}
  ·rw[e1]at hc;rw[e4]at hx;rw[e3];by_cases e:(a.e c d).1=i
   ·obtain⟨_,f0,f1⟩:=hd c d hc V e;have:d=0 \/d=1:=dZ;rcases this with rfl|rfl
    {rw[f0]at hx;simp at hx};{rw[f1]at hx;simp at hx}
   ·rw[hR,af e];exact h.kn c d hc V x hx
  ·rw[e1]at hc;rw[oS]at Q;rw[e3]at h1 h2⊢;by_cases e:(a.e c d).1=i;{rw[ai e]at Q;exact absurd Q (by simp[nobody])};{rw[af e]at Q;rw[hR,af e]at h1 h2;by_cases e2:(a.e c (1-d)).1=i;{rw[ll c d hc V e2]at Q;exact absurd Q gU};{rw[hR,af e2];exact h.o c d hc V Q y q h1 h2}}
structure Inv(N:Nat)(t:Nat×Nat->Nat)(a:AN):Prop where
 qQ:tI a
 nrm:Norm a
 own:∃B,vG B N a
 lk:∃X,qY X t a
 fl:DF a
theorem Inv.step(s:mR a T S b) {t:Nat×Nat->Nat} (h:Inv N t a)(hl:N<1000000)(U:∀x,t x<=126):Inv (N+8*T.length) (qw t T) b:=by
 obtain⟨B,Z⟩:=h.own;obtain⟨X,V⟩:=h.lk;exact⟨h.qQ.same s.same.1 s.same.2.1 s.same.2.2.1,s.norm h.nrm,s.own h.qQ h.nrm Z hl,s.links h.qQ h.nrm V U,s.abp h.qQ h.nrm Z hl V h.fl⟩
theorem Inv.path(s:jT a T S b) {t:Nat×Nat->Nat} (h:Inv N t a)(hl:N+8*T.length<1000000)(Z:∀x,qw t T x<=126):Inv (N+8*T.length) (qw t T) b:=by
 induction s with
 |nil=>rw[pq];exact h
 |snoc p s ih=>
  rw[Cw]at Z⊢;rw[az]at hl⊢;have V:=ih dZ λx=>Nat.le_trans (Nat.le_add_right _ _) (Z x);have U:=V.step s dZ λx=>Nat.le_trans (Nat.le_add_right _ _) (Z x);have e:∀x y:Nat,N+8*(x+y)=N+8*x+8*y:=λx y=>dZ;rw[e];exact U
theorem vG.mono {M:Nat} (h:vG B N a)(Z:N<=M):vG B M a:=⟨h.r,h.f,Nat.le_trans h.b Z,h.one,h.ms⟩
theorem Inv.mono {N M:Nat} {t u:Nat×Nat->Nat} {a:AN} (h:Inv N t a)(V:N<=M)(Z:∀x,t x<=u x):Inv M u a:=by
 obtain⟨B,U⟩:=h.own;obtain⟨X,Q⟩:=h.lk;exact⟨h.qQ,h.nrm,⟨B,U.mono V⟩,⟨X,Q.mono Z⟩,h.fl⟩
theorem Inv.act {y:iM} {D:Nat} (hF:jA y)(U:GN y)(H:j3 y D 0)(V:D<=800000000)(h:Inv N (λ_=>k) (iI y))(hl:N+144<1000000)(Q:k+1<=126)(v:AV):Inv (N+144) (λ_=>k+1) (iI (rB y v)):=by
 obtain⟨T,Z,J⟩:=Mf hF U H V v;have hlen:=Z.len;exact(h.path J dZ λx=>Nat.le_trans (nK Z.nd k x) Q).mono dZ (nK Z.nd k)
