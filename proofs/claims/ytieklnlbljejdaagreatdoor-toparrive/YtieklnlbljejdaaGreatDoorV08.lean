import Derived.Test.YtieklnlbljejdaaGreatDoorV07
open Option renaming none → ν, some → μ
open List renaming sublist_nil → jE, filter_cons → jF, flatMap → jG, take_sublist → jI, count_append → jJ, nodup_iff_count → jK, length_cons → fU, filterMap → jL
open Bool renaming or_eq_true → gq, and_eq_true → jo
set_option maxRecDepth 100000
set_option linter.defProp false
namespace Go.Proofs.YtieklnlbljejdaaGreatDoor
open Go.RowKit St
namespace Rt
variable {B D N W Z c d d' i j k p:Nat} {F Fi Fo G em l ps:List mK} {K:Int->Option PS} {L L' M:LS} {S:List (Int×List UInt8)} {T:List (Nat×Nat)} {X Y:Int->Bool} {a b m:AN} {code g h id ow own seq:Int} {es:List kS} {q:PS} {r:jO} {t:Nat×Nat->Nat} {x:mK} {y:jQ}
def DP(code:Int):mK->Option Int
 |76::s=>if(j3 s).2.2.2=0/\(j3 s).1=code then some (j3 s).2.1 else none
 |_=>none
def zo(code:Int) {c:UInt8} (s:List UInt8)(h:c≠76):DP code (c::s)=ν:=by
 unfold DP;split;{rename_i e;exact absurd (aH e).1 h};rfl
def RY {k:Int} (U:k=1 \/k=2)(hi:0<=id/\id<=255)(V:1<=g/\g<=255):DP code (76::oj k id (pQ g))=if k=code then μ id else ν:=by
 show(if(j3 (oj k id (pQ g))).2.2.2=0/\(j3 (oj k id (pQ g))).1=code then μ (j3 (oj k id (pQ g))).2.1 else ν)=_;rw[BK U hi V];by_cases e:k=code;{rw[ag ⟨rfl,e⟩,ag e]};rw[af (λh=>e h.2),af e]
def ids(code:Int)(l:List mK):List Int:=l.filterMap (DP code)
def lW(code:Int)(l m:List mK):ids code (l++m)=ids code l++ids code m:=by unfold ids;rw[bW]
def BQ(h:∀x∈l,DP code x=ν):ids code l=[] :=by
 unfold ids;rw[du];exact h
def ld(l:List mK)(h:DP code x=ν):ids code (x::l)=ids code l:=by unfold ids;rw[bG,h]
def kT {i:Int} (l:List mK)(h:DP code x=μ i):ids code (x::l)=i::ids code l:=by unfold ids;rw[bG,h]
def abL {i:Int} (h:i∈ids code l):∃x∈l,DP code x=μ i:=by
 unfold ids at h;obtain⟨x,V,U⟩:=cD.1 h;exact⟨x,V,U⟩
def Lh {i:Int} (V:x∈l)(U:DP code x=μ i):i∈ids code l:=by
 unfold ids;exact cD.2 ⟨x,V,U⟩
def NK(go gi:Int)(x:mK):Prop:=(∀c s,x=c::s->c≠76) \/(∃id,0<=id/\id<=255/\x=ox go id) \/(∃id,0<=id/\id<=255/\x=pU gi id)
def tf(x:mK):Prop:=∀c s,x=c::s->c≠76
def tf.lk(h:tf x)(code:Int):DP code x=ν:=by
 cases x with|nil=>rfl|cons c s=>exact zo code s (h c s rfl)
def Li(X:Int->Bool)(ow:Int)(x y:mK):Prop:=∀j id,DP 2 x=μ j->DP 1 y=μ id->X id=true->j<ow
structure qB(X:Int->Bool)(L:LS)(Fo Fi:List mK)(t:Nat):Prop where
 inc:(ids 2 Fi++ids 1 Fo).Pairwise (· < ·)
 le:∀i∈ids 2 Fi++ids 1 Fo,i<=L.ow
 emp:L.st=7 \/L.st=9->ids 2 Fi++ids 1 Fo=[] /\∀i∈ids 1 Fi,X i=false
 lim:Fi.Pairwise (Li X L.ow)
 Lj:L.ow+(((ids 1 Fi).filter λi=> !X i).length:Nat)<=t
structure Pair(X Y:Int->Bool)(t:Nat)(g h:Int)(L M:LS)(F G:List mK):Prop where
 l:LI g L
 m:LI h M
 lu:6<=L.st
 mu:6<=M.st
 f:∀x∈F,NK g h x
 g:∀x∈G,NK h g x
 d:qB Y L F G t
 e:qB X M G F t
def Pair.symm {t:Nat} (p:Pair X Y t g h L M F G):Pair Y X t h g M L G F:=⟨p.m,p.l,p.mu,p.lu,p.g,p.f,p.e,p.d⟩
def qB.mono {t u:Nat} (p:qB X L Fo Fi t)(h:t<=u):qB X L Fo Fi u:=⟨p.inc,p.le,p.emp,p.lim,by have:=p.Lj;omega⟩
def Pair.mono {X Y:Int->Bool} {t u:Nat} {g h:Int} {L M:LS} {F G:List mK} (p:Pair X Y t g h L M F G)(k:t<=u):Pair X Y u g h L M F G:=⟨p.l,p.m,p.lu,p.mu,p.f,p.g,p.d.mono k,p.e.mono k⟩
def qB.congr {t:Nat} (p:qB X L Fo Fi t)(U:L'.st=L.st)(V:L'.ow=L.ow):qB X L' Fo Fi t:=⟨p.inc,by rw[V];exact p.le,by rw[U];exact p.emp,by rw[V];exact p.lim,by rw[V];exact p.Lj⟩
def qB.sub {Fo' Fi':List mK} {t:Nat} (p:qB X L Fo Fi t)(Q:Fo'.Sublist Fo)(V:Fi'.Sublist Fi):qB X L Fo' Fi' t:=by
 have s1:(ids 2 Fi'++ids 1 Fo').Sublist (ids 2 Fi++ids 1 Fo):=List.Sublist.append (V.filterMap _) (Q.filterMap _);have U:(ids 1 Fi').Sublist (ids 1 Fi):=V.filterMap _;refine⟨p.inc.sublist s1,λi hi=>p.le i (s1.mem hi),λh=> ?_,p.lim.sublist V,?_⟩;{obtain⟨a,b⟩:=p.emp h;refine⟨?_,λi hi=>b i (U.mem hi)⟩;rw[a]at s1;exact jE.1 s1};have:=p.Lj;have:=(U.filter λi=> !X i).length_le;omega
def Pair.sub {X Y:Int->Bool} {t:Nat} {g h:Int} {L M:LS} {F G F' G':List mK} (p:Pair X Y t g h L M F G)(V:F'.Sublist F)(U:G'.Sublist G):Pair X Y t g h L M F' G':=
 ⟨p.l,p.m,p.lu,p.mu,λx hx=>p.f x (V.mem hx),λx hx=>p.g x (U.mem hx),p.d.sub V U,p.e.sub U V⟩
def qB.ajn {t:Nat} (p:qB X L Fo Fi t)(h:∀x∈ps,tf x):qB X L Fo (Fi++ps) t:=by
 have V:∀c,ids c (Fi++ps)=ids c Fi:=λc=>by rw[lW,BQ λx hx=>(h x hx).lk c,aF]
 refine⟨by rw[V];exact p.inc,by rw[V];exact p.le,by rw[V,V];exact p.emp,?_,by rw[V];exact p.Lj⟩;refine bJ.2 ⟨p.lim,?_,λx _ y hy j id _ Q=>by rw[(h y hy).lk]at Q;exact absurd Q gZ⟩;exact eM (R:=λ_ _=>True) (λ{x y} hx _ _ j id U=>by rw[(h x hx).lk]at U;exact absurd U gZ) (List.pairwise_of_forall λ_ _=>trivial)
def qB.ajo {t:Nat} (p:qB X L Fo Fi t)(h:∀x∈ps,tf x):qB X L (Fo++ps) Fi t:=by
 have V:ids 1 (Fo++ps)=ids 1 Fo:=by rw[lW,BQ λx hx=>(h x hx).lk 1,aF]
 exact⟨by rw[V];exact p.inc,by rw[V];exact p.le,by rw[V];exact p.emp,p.lim,p.Lj⟩
def Pair.more {t:Nat} (p:Pair X Y t g h L M F G)(V:∀x∈ps,tf x):Pair X Y t g h L M (F++ps) G:=
 ⟨p.l,p.m,p.lu,p.mu,λx hx=>(aA.1 hx).elim (p.f x) λe=>.inl (V x e),p.g,p.d.ajo V,p.e.ajn V⟩
def uY(V:1<=g/\g<=255)(hi:0<=id/\id<=255):DP 1 (ox g id)=μ id/\DP 2 (ox g id)=ν/\DP 1 (pU g id)=ν/\DP 2 (pU g id)=μ id:=by
 unfold ox pU;rw[RY (.inl rfl) hi V,RY (.inl rfl) hi V,RY (.inr rfl) hi V,RY (.inr rfl) hi V];exact⟨gZ,gZ,gZ,gZ⟩
def mark(X:Int->Bool)(i:Int)(b:Bool):Int->Bool:=λk=>if k=i then b else X k
def NL {i:Int} {b:Bool} {l:List Int} (h:∀k∈l,k<i):(l.filter λk=> !mark X i b k)=l.filter λk=> !X k:=by
 refine List.filter_congr λk V=> ?_;have:=h k V;unfold mark;rw[af fC]
def NM {i:Int} {b:Bool} (h:∀k∈ids 1 F,k<i)(p:F.Pairwise (Li X ow)):F.Pairwise (Li (mark X i b) ow):=by
 refine eM (λ{x y} _ hy J j id Q U V=>J j id Q U ?_) p;have:=h id (Lh hy U);unfold mark at V;rw[af fC]at V;exact V
def YJ {DQ:Int} (h:ow<=DQ)(p:F.Pairwise (Li X ow)):F.Pairwise (Li X DQ):=
 p.imp λ{x y} J j id V U Q=>by have:=J j id V U Q;omega
def Pair.ask {t:Nat} (u:1<=g/\g<=255)(p:Pair X Y t g h L M F G)(ht:t+1<=255)(hl:LI g L')(hw:L'.ow=L.ow+1)(hs:L'.st=6 \/L'.st=8):Pair (mark X (L.ow+1) false) Y (t+1) g h L' M (F++ [ox g (L.ow+1)]) G:=by
 have E:=p.d.Lj;have hi:0<=L.ow+1/\L.ow+1<=255:=by have:=p.l.k.o1;omega
 obtain⟨r1,r2,_,_⟩:=uY u hi;have V:ids 1 (F++ [ox g (L.ow+1)])=ids 1 F++ [L.ow+1] :=by rw[lW,kT [] r1];rfl
 have Q:ids 2 (F++ [ox g (L.ow+1)])=ids 2 F:=by rw[lW,ld [] r2];simp[ids]
 have H:∀k∈ids 1 F,k<L.ow+1:=λk hk=>by have:=p.d.le k (aA.2 (.inr hk));omega
 refine⟨hl,p.m,fC,p.mu,λx hx=> ?_,p.g,⟨?_,?_,λh=>fC,by rw[hw];exact YJ fC p.d.lim,by rw[hw];omega⟩,⟨?_,?_,λh=> ?_,?_,?_⟩⟩;{obtain e|e:=aA.1 hx;{exact p.f x e};exact .inr (.inl ⟨_,hi.1,hi.2,az.1 e⟩)};{rw[V,<-aK];refine bJ.2 ⟨p.d.inc,gZ,λa A b E=> ?_⟩;rw[az.1 E];have:=p.d.le a A;omega};{rw[V,<-aK,hw];intro i hi;obtain e|e:=aA.1 hi;{have:=p.d.le i e;omega};rw[az.1 e];exact aZ _};{rw[Q];exact p.e.inc};{rw[Q];exact p.e.le};{rw[V,Q];obtain⟨a,b⟩:=p.e.emp h;refine⟨a,λi hi=> ?_⟩;unfold mark;obtain e|e:=aA.1 hi;{rw[af (by have:=H i e;omega)];exact b i e};rw[ag (az.1 e)]};{refine bJ.2 ⟨NM H p.e.lim,gZ,λx _ y hy j id _ U J=> ?_⟩;rw[az.1 hy,r1]at U;injection U with U;unfold mark at J;rw[ag U.symm]at J;exact absurd J gZ};rw[V,cS,NL H,aG];have:=p.e.Lj;have:((([L.ow+1] :List Int).filter λi=> !mark X (L.ow+1) false i).length)<=1:=cZ _ _;omega
def Pair.tick {t:Nat} (Q:1<=g/\g<=255)(p:Pair X Y t g h L M F G)(A:t+1<=255):∃X',Pair X' Y (t+1) g h (j8 L).1 M (F++(j8 L).2.flatMap qg) G/\(∀k∈ids 1 F,X' k=X k)/\((j8 L).2.flatMap qg=[] \/(j8 L).2.flatMap qg=[ox g (L.ow+1)]):=by
 obtain⟨li,V|V⟩:=La Q p.l
 ·obtain⟨V,H,U,_⟩:=V;refine⟨X,?_,λ_ _=>rfl,.inl (by rw[V];rfl)⟩;rw[V];have q:Pair X Y t g h (j8 L).1 M F G:=⟨li,p.m,by rw[U];exact p.lu,p.mu,p.f,p.g,p.d.congr U H,p.e⟩
  simpa using q.mono (bK t)
 obtain⟨_,_,U,J,_,h6⟩:=V;have hb:=p.d.Lj;have hi:0<=L.ow+1/\L.ow+1<=255:=by have:=p.l.k.o1;omega
 have em:(L.ow+1) %256=L.ow+1:=fC;rw[em]at U J
 have e:(j8 L).2.flatMap qg=[ox g (L.ow+1)] :=by
  rw[U];show qg _++ [] =_;rw[Hc (.inl rfl) hi Q];rfl
 refine⟨mark X (L.ow+1) false,?_,λk E=> ?_,.inr e⟩;{rw[e];exact p.ask Q A li J fC};have:=p.d.le k (aA.2 (.inr E));unfold mark;rw[af fC]
def zC(X:Int->Bool)(x:mK):Nat:=match DP 1 x with
 |some i=>if X i=true then 2 else 3
 |none=>match x with
  |83::_=>2
  |77::_::b::_=>b.toNat+1
  |_=>1
def qh(X:Int->Bool)(x:mK):Nat:=match DP 1 x with
 |some i=>if X i=true then 2 else 4
 |none=>match x with
  |83::_=>2
  |77::_=>0
  |_=>1
def BS(V:1<=g/\g<=255)(hi:0<=id/\id<=255)(X:Int->Bool):zC X (pU g id)=1/\qh X (pU g id)=1:=by
 unfold zC qh;rw[(uY V hi).2.2.1];exact⟨rfl,rfl⟩
def BU(V:1<=g/\g<=255)(hi:0<=id/\id<=255)(X:Int->Bool):zC X (ox g id)=(if X id=true then 2 else 3)/\qh X (ox g id)=if X id=true then 2 else 4:=by
 unfold zC qh;rw[(uY V hi).1];exact⟨rfl,rfl⟩
def qB.adn {X':Int->Bool} {t:Nat} (hh:1<=h/\h<=255)(hi:0<=id/\id<=255)(p:qB X M (ox h id::G) F t)(U:ids 2 em=[id])(Q:(F++em).Pairwise (Li X' M.ow))(V:M.ow+(((ids 1 (F++em)).filter λi=> !X' i).length:Nat)<=t):qB X' M G (F++em) t:=by
 have r1:=(uY hh hi).1
 have e:ids 2 (F++em)++ids 1 G=ids 2 F++ids 1 (ox h id::G):=by
  rw[lW,U,kT G r1,aK];rfl
 refine⟨by rw[e];exact p.inc,by rw[e];exact p.le,λhs=> ?_,Q,V⟩;have:=(p.emp hs).1;rw[kT G r1]at this;simp at this
def RZ(V:F.Pairwise (Li X ow))(U:em.Pairwise (Li X ow))(Q:∀y∈em,∀id,DP 1 y=μ id->X id=true->∀j∈ids 2 F,j<ow):(F++em).Pairwise (Li X ow):=
 bJ.2 ⟨V,U,λ_ hx y hy j id a b c=>Q y hy id b c j (Lh hx a)⟩
structure abN(X X' Y:Int->Bool)(t:Nat)(g h:Int)(L' M:LS)(F l em:List mK)(x:mK):Prop where
 p:Pair X' Y t g h L' M (F++em) l
 old:∀k∈ids 1 F,X' k=X k
 dp:∀y∈em,zC X' y+1<=zC Y x
 wg:sm (qh X') em+1<=qh Y x
 st:6<=L'.st
def Pair.ajp {t:Nat} (hh:1<=h/\h<=255)(hi:0<=id/\id<=255)(p:Pair X Y t g h L M F (ox h id::l))(li:LI g L')(V:L'.ow=L.ow)(J:6<=L'.st)(lz:L'.st=7 \/L'.st=9->L.st=7):abN X X Y t g h L' M F l [pU h id] (ox h id):=by
 obtain⟨r1,r2,A,r4⟩:=uY hh hi;have Q:=kT l r1;have U:=ld l r2;have i1:ids 1 [pU h id] =[] :=by rw[ld _ A];rfl
 have u:ids 2 [pU h id] =[id] :=by rw[kT _ r4];rfl
 have E:=BU hh hi Y;refine⟨⟨li,p.m,J,p.mu,λx hx=> ?_,λy hy=>p.g y (by simp[hy]),⟨?_,?_,λhs=> ?_,?_,?_⟩,?_⟩,λk _=>rfl,λy hy=> ?_,?_,J⟩;{obtain z|z:=aA.1 hx;{exact p.f x z};rw[az.1 z];exact .inr (.inr ⟨id,hi.1,hi.2,rfl⟩)};{rw[lW,i1,aF,<-U];exact p.d.inc};{rw[lW,i1,aF,<-U,V];exact p.d.le};{rw[lW,i1,aF,<-U];obtain⟨a,b⟩:=p.d.emp (.inl (lz hs));exact⟨a,λi hi=>b i (by rw[Q];simp[hi])⟩};{rw[V];exact p.d.lim.sublist (cr _ _)};{rw[V];have:=p.d.Lj;rw[Q]at this;have h2:((ids 1 l).filter λi=> !Y i).length<=((id::ids 1 l).filter λi=> !Y i).length:=((cr id (ids 1 l)).filter _).length_le;omega};{refine qB.adn hh hi p.e u (RZ p.e.lim gZ λy hy i H _=>by rw[az.1 hy,A]at H;exact absurd H gZ) ?_;rw[lW,i1,aF];exact p.e.Lj};{rw[az.1 hy,(BS hh hi _).1,E.1];split<;>omega};show qh _ (pU h id)+0+1<=_;rw[(BS hh hi _).2,E.2];split<;>omega
def Pair.req {t:Nat} (A:1<=g/\g<=255)(hh:1<=h/\h<=255)(kf:h≠g)(ht:t<=255)(hi:0<=id/\id<=255)(p:Pair X Y t g h L M F (ox h id::l)):∃X',abN X X' Y t g h (kV L (1,id,pQ h)).1 M F l ((kV L (1,id,pQ h)).2.1.flatMap qg) (ox h id):=by
 obtain⟨r1,r2,r3,r4⟩:=uY hh hi;have hb:=p.d.Lj;have ho:=p.l.k.o1;have LD:=kT l r1;have R6:=ld l r2;have hf:∀y∈l,NK h g y:=λy hy=>p.g y (by simp[hy]);have hack:NK g h (pU h id):=.inr (.inr ⟨id,hi.1,hi.2,rfl⟩);have J:qg (2,id,pQ h)=[pU h id] :=Hc (.inr rfl) hi hh
 have hM:∀j∈ids 2 F,j<M.ow:=λj hj=>by
  have h1:=p.e.inc;have h2:=p.e.le id (by rw[LD];simp);rw[LD]at h1;have:=(bJ.1 h1).2.2 j hj id gZ;omega
 obtain⟨li,h9|h7|h68⟩:=YA A hh kf hi p.l p.lu
 ·obtain⟨s9,out,s8,V,_⟩:=h9;obtain⟨YL,afH⟩:=p.d.emp (.inr s9);have hX:Y id=false:=afH id (by rw[LD];simp)
  have aon:((ids 1 (ox h id::l)).filter λi=> !Y i).length=((ids 1 l).filter λi=> !Y i).length+1:=by
   rw[LD,jF,hX];rfl
  have em:(L.ow+1) %256=L.ow+1:=fC;have E:0<=L.ow+1/\L.ow+1<=255:=fC;obtain⟨q1,q2,q3,q4⟩:=uY A E;rw[em]at out V
  have e:(kV L (1,id,pQ h)).2.1.flatMap qg=[ox g (L.ow+1),pU h id] :=by
   rw[out];show qg _++(qg _++ [])=_;rw[Hc (.inl rfl) E A,J];rfl
  have H:ids 2 l=[] /\ids 1 F=[] :=by
   rw[R6]at YL;exact eX.1 YL
  have i1:ids 1 [ox g (L.ow+1),pU h id] =[L.ow+1] :=by rw[kT _ q1,ld _ r3];rfl
  have i2:ids 2 [ox g (L.ow+1),pU h id] =[id] :=by rw[ld _ q2,kT _ r4];rfl
  refine⟨mark X (L.ow+1) true,?_⟩;rw[e];refine⟨⟨li,p.m,fC,p.mu,λx hx=> ?_,hf,⟨?_,?_,λh=>fC,?_,?_⟩,?_⟩,λk u=>by rw[H.2]at u;simp at u,λy hy=> ?_,?_,fC⟩;{obtain z|z:=aA.1 hx;{exact p.f x z};obtain z|z:=aS.1 z;{exact .inr (.inl ⟨_,E.1,E.2,z⟩)};rw[az.1 z];exact hack};{rw[H.1,lW,H.2,i1];simp};{rw[H.1,lW,H.2,i1,V];simp};{rw[V];exact YJ fC (p.d.lim.sublist (cr _ _))};{rw[V];omega}
  ·refine qB.adn hh hi p.e i2 (RZ (NM (λk u=>by rw[H.2]at u;simp at u) p.e.lim) ?_ λy hy i h1 h2=>hM) ?_;{refine cU.2 ⟨λy hy j i a=>by rw[q2]at a;exact absurd a gZ,gZ⟩};rw[lW,H.2,i1];have:(([] ++ [L.ow+1] :List Int).filter λi=> !mark X (L.ow+1) true i)=[] :=by simp[mark]
   rw[this];have:=p.e.Lj;have e0:(([] :List Int).length:Nat)=0:=rfl;omega
  ·have hY:zC Y (ox h id)=3:=by rw[(BU hh hi Y).1,hX];rfl
   rw[hY];obtain z|z:=aS.1 hy;{rw[z,(BU A E _).1];simp[mark]};rw[az.1 z,(BS hh hi _).1];omega
  have hY:qh Y (ox h id)=4:=by rw[(BU hh hi Y).2,hX];rfl
  rw[hY];show qh _ (ox g (L.ow+1))+(qh _ (pU h id)+0)+1<=4;rw[(BU A E _).2,(BS hh hi _).2];simp[mark]
 ·have JV:∃L',(kV L (1,id,pQ h)).1=L'/\LI g L'/\L'.ow=L.ow/\6<=L'.st/\(L'.st=7 \/L'.st=9->L.st=7)/\(kV L (1,id,pQ h)).2.1.flatMap qg=[pU h id] :=by
   obtain⟨s7,out,s9,V⟩:=h7;refine⟨_,rfl,li,V,fC,λ_=>s7,?_⟩;rw[out];show qg _++ [] =_;rw[J];rfl
  obtain⟨L',U,Q,V,Vi,lz,e⟩:=JV;refine⟨X,?_⟩;rw[U,e];exact Pair.ajp hh hi p Q V Vi lz
 have JV:∃L',(kV L (1,id,pQ h)).1=L'/\LI g L'/\L'.ow=L.ow/\6<=L'.st/\(L'.st=7 \/L'.st=9->L.st=7)/\(kV L (1,id,pQ h)).2.1.flatMap qg=[pU h id] :=by
  obtain⟨s7,out,s8,V,_⟩:=h68;refine⟨_,rfl,li,V,fC,λh=>fC,?_⟩;rw[out];show qg _++ [] =_;rw[J];rfl
 obtain⟨L',U,Q,V,Vi,lz,e⟩:=JV;refine⟨X,?_⟩;rw[U,e];exact Pair.ajp hh hi p Q V Vi lz
def Pair.ack {t:Nat} (u:1<=g/\g<=255)(hi:0<=id/\id<=255)(p:Pair X Y t g h L M F (pU g id::l)):abN X X Y t g h (kV L (2,id,pQ g)).1 M F l ((kV L (2,id,pQ g)).2.1.flatMap qg) (pU g id):=by
 obtain⟨r1,r2,r3,r4⟩:=uY u hi;have A:=ld l r3;have R6:=kT l r4;have Q:ids 2 (pU g id::l)++ids 1 F=id::(ids 2 l++ids 1 F):=by rw[R6];rfl
 have mT:¬(L.st=7 \/L.st=9):=λh=>by
  have:=(p.d.emp h).1;rw[Q]at this;simp at this
 have J:=p.d.inc;have V:=p.d.le;rw[Q]at J V;have H:=cU.1 J;have he:qB X M l F t:=⟨by have:=p.e.inc;rw[A]at this;exact this,by have:=p.e.le;rw[A]at this;exact this,by have:=p.e.emp;rw[A]at this;exact this,p.e.lim,p.e.Lj⟩
 have U:L.ow+(((ids 1 l).filter λi=> !Y i).length:Nat)<=t:=by have:=p.d.Lj;rw[A]at this;exact this
 have YK:=p.d.lim;have hf:∀y∈l,NK h g y:=λy hy=>p.g y (by simp[hy]);have E:sm (qh X) [] +1<=qh Y (pU g id):=by rw[(BS u hi Y).2];exact aj _
 by_cases hw:id=L.ow
 ·have h68:L.st=6 \/L.st=8:=by
   have:=p.lu;have:=p.l.st;omega
  obtain⟨a1,a2,a3,_,a5⟩:=YB u p.l h68;subst hw;rw[a2]
  have lR:ids 2 l++ids 1 F=[] :=by
   cases hl:ids 2 l++ids 1 F with|nil=>rfl|cons z zs=>have h1:=H.1 z (by rw[hl];simp);have h2:=V z (by rw[hl];simp);omega
  refine⟨⟨a1,p.m,by rw[a5];omega,p.mu,?_,hf,⟨?_,?_,λ_=>⟨?_,λi mR=> ?_⟩,?_,?_⟩,?_⟩,λ_ _=>rfl,λy hy=>by simp at hy,E,by rw[a5];omega⟩;{simpa using p.f};{rw[show F++jG qg [] =F by simp,lR];exact List.Pairwise.nil};{rw[show F++jG qg [] =F by simp,lR];exact λ_ h=>by simp at h};{rw[show F++jG qg [] =F by simp];exact lR};{obtain⟨y,hy,VA⟩:=abL mR;cases hX:Y i;{rfl};have:=(cU.1 YK).1 y hy L.ow i r4 VA hX;omega};{rw[a3];exact YK.sublist (cr _ _)};{rw[a3];exact U};rw[show F++jG qg [] =F by simp];exact he
 rw[afx u hi hw];refine⟨⟨p.l,p.m,p.lu,p.mu,?_,hf,⟨?_,?_,λh=>absurd h mT,YK.sublist (cr _ _),U⟩,?_⟩,λ_ _=>rfl,λy hy=>by simp at hy,E,p.lu⟩;{simpa using p.f};{rw[show F++jG qg [] =F by simp];exact H.2};{rw[show F++jG qg [] =F by simp];exact λi hi=>V i (by simp[hi])};rw[show F++jG qg [] =F by simp];exact he
def Pair.new {t:Nat} (Q:1<=g/\g<=255)(hh:1<=h/\h<=255)(l:LI g L)(m:LI h M)(s1:L.st=6)(s2:M.st=6)(w1:L.ow+1<=t)(w2:M.ow+1<=t):Pair (λ_=>false) (λ_=>false) t g h L M [ox g L.ow] [ox h M.ow] :=by
 obtain⟨q1,q2,_,_⟩:=uY Q ⟨l.k.o1,l.k.o2⟩;obtain⟨r1,J,_,_⟩:=uY hh ⟨m.k.o1,m.k.o2⟩;have V:ids 1 [ox g L.ow] =[L.ow] :=by rw[kT _ q1];rfl
 have U:ids 2 [ox g L.ow] =[] :=by rw[ld _ q2];rfl
 have b1:ids 1 [ox h M.ow] =[M.ow] :=by rw[kT _ r1];rfl
 have b2:ids 2 [ox h M.ow] =[] :=by rw[ld _ J];rfl
 refine⟨l,m,fC,fC,λx hx=> ?_,λx hx=> ?_,⟨?_,?_,λh=>fC,gZ,?_⟩,⟨?_,?_,λh=>fC,gZ,?_⟩⟩;{exact .inr (.inl ⟨_,l.k.o1,l.k.o2,az.1 hx⟩)};{exact .inr (.inl ⟨_,m.k.o1,m.k.o2,az.1 hx⟩)};{rw[V,b2];simp};{rw[V,b2];simp};{rw[b1];show L.ow+((1:Nat):Int)<=t;omega};{rw[b1,U];simp};{rw[b1,U];simp};rw[V];show M.ow+((1:Nat):Int)<=t;omega
def lr(a:AN)(c d:Nat):LS:=((a.R (a.e c d).1).P (a.e c d).2).L
def gP(x:Nat×Nat):Int:=8*((x.1:Int)+1)+(x.2:Int)+1
def tP(V:uU a)(hc:c<a.nc)(hd:d<2):1<=gP (a.e c d)/\gP (a.e c d)<=255:=by
 have:=V.en c d hc hd;have:=V.n6;unfold gP;omega
def adp(V:uU a)(hc:c<a.nc)(hd:d<2)(U:d'<2)(h:d≠d'):gP (a.e c d)≠gP (a.e c d'):=by
 have h1:=V.en c d hc hd;have h2:=V.en c d' hc U;intro e;unfold gP at e;have:a.e c d=a.e c d':=bq fC fC;exact h (V.ds _ _ _ _ hc hd hc U this).2
abbrev Marks:=Nat->Nat->Int->Bool
structure tF(X:Marks)(t:Nat×Nat->Nat)(a:AN):Prop where
 up:∀c<a.nc,a.jU c=true->Pair (X c 0) (X c 1) (t (a.e c 0)+t (a.e c 1)) (gP (a.e c 0)) (gP (a.e c 1)) (lr a c 0) (lr a c 1) (a.F c 0) (a.F c 1)
 dn:∀c<a.nc,a.jU c=false->∀d<2,LI (gP (a.e c d)) (lr a c d)/\(lr a c d).st=1/\(lr a c d).ow<=((t (a.e c 0)+t (a.e c 1):Nat):Int)/\a.F c d=[]
def tF.vN {X:Marks} (h:tF X t a)(hc:c<a.nc)(hd:d<2)(hi:a.jU c=true):Pair (X c d) (X c (1-d)) (t (a.e c 0)+t (a.e c 1)) (gP (a.e c d)) (gP (a.e c (1-d))) (lr a c d) (lr a c (1-d)) (a.F c d) (a.F c (1-d)):=by
 have:d=0 \/d=1:=fC;obtain rfl|rfl:=this;{exact h.up c hc hi};exact(h.up c hc hi).symm
def tF.AF {X:Marks} (h:tF X t a)(hc:c<a.nc)(hd:d<2)(hx:x∈a.F c d):a.jU c=true:=by
 cases hi:a.jU c;{have:=(h.dn c hc hi d hd).2.2.2;rw[this]at hx;simp at hx};rfl
def NN {X:Marks} {t:Nat} {g:Nat->Int} {L:Nat->LS} {F:Nat->List mK} (hd:d<2)(h:Pair (X 0 d) (X 0 (1-d)) t (g d) (g (1-d)) (L d) (L (1-d)) (F d) (F (1-d))):Pair (X 0 0) (X 0 1) t (g 0) (g 1) (L 0) (L 1) (F 0) (F 1):=by
 have:d=0 \/d=1:=fC;obtain rfl|rfl:=this;{exact h};exact h.symm
def tF.Rw {X X':Marks} {u:Nat×Nat->Nat} (h:tF X t a)(V:∀x,t x<=u x)(J:b.e=a.e)(hc:c<a.nc)(hi:b.jU c=a.jU c)(H:∀d<2,X' c d=X c d)(U:∀d<2,lr b c d=lr a c d)(hF:∀d<2,b.F c d=a.F c d):(b.jU c=true->Pair (X' c 0) (X' c 1) (u (b.e c 0)+u (b.e c 1)) (gP (b.e c 0)) (gP (b.e c 1)) (lr b c 0) (lr b c 1) (b.F c 0) (b.F c 1))/\(b.jU c=false->∀d<2,LI (gP (b.e c d)) (lr b c d)/\(lr b c d).st=1/\(lr b c d).ow<=((u (b.e c 0)+u (b.e c 1):Nat):Int)/\b.F c d=[]):=by
 have t0:=V (a.e c 0);have t1:=V (a.e c 1);refine⟨λQ=> ?_,λQ d hd=> ?_⟩;{rw[J,H 0 fF,H 1 fF,U 0 fF,U 1 fF,hF 0 fF,hF 1 fF];exact(h.up c hc (by rw[<-hi];exact Q)).mono fC};rw[J,U d hd,hF d hd];obtain⟨E,A,a3,a4⟩:=h.dn c hc (by rw[<-hi];exact Q) d hd;exact⟨E,A,fC,a4⟩
def JW(a:AN)(i:Nat)(s:jO)(c d:Nat):lr (a.op i s) c d=if(a.e c d).1=i then(s.P (a.e c d).2).L else lr a c d:=by
 unfold lr;show((kK a.R i s.core (a.e c d).1).P (a.e c d).2).L=_;by_cases e:(a.e c d).1=i;{rw[e,jd,ag rfl];rfl};rw[iw _ _ e,af e]
def JX(h:∀k∈ids 1 F,Y k=X k):∀y∈F,zC Y y=zC X y/\qh Y y=qh X y:=λy hy=>by
 unfold zC qh;cases e:DP 1 y with
 |none=>exact⟨rfl,rfl⟩
 |some i=>constructor<;>simp only[h i (Lh hy e)]
def tF.quiet {X:Marks} (h:tF X t a)(i:Nat)(s:jO)(Q:∀p,(s.P p).L=((a.R i).P p).L)(hq:∀p,kh (s.P p)=[] \/((s.P p).L.st=9/\∀y∈kh (s.P p),tf y)):tF X t (a.op i s):=by
 have l1:∀c d,lr (a.op i s) c d=lr a c d:=λc d=>by
  rw[JW];split;{rename_i e;rw[Q,<-e];rfl};rfl
 have f1:∀c d,∃em,(a.op i s).F c d=a.F c d++em/\(em=[] \/((lr a c d).st=9/\∀y∈em,tf y)):=λc d=>by
  rw[uy];split;{rename_i e;refine⟨_,rfl,?_⟩;obtain g|⟨g1,U⟩:=hq (a.e c d).2;{exact .inl g};right;rw[Q]at g1;unfold lr;rw[e.2];exact⟨g1,U⟩};exact⟨[],gZ,.inl rfl⟩
 refine⟨λc hc hi=> ?_,λc hc hi d hd=> ?_⟩
 ·have p:=h.up c hc hi;rw[l1,l1];obtain⟨e0,J,u⟩:=f1 c 0;obtain⟨e1,V,b1⟩:=f1 c 1;rw[J,V]
  have n0:∀y∈e0,tf y:=by
   obtain b|b:=u;· rw[b];exact λ_ h=>by simp at h
   exact b.2
  have n1:∀y∈e1,tf y:=by
   obtain b|b:=b1;· rw[b];exact λ_ h=>by simp at h
   exact b.2
  exact((p.more n0).symm.more n1).symm
 obtain⟨V,H,E,A⟩:=h.dn c hc hi d hd;rw[l1];obtain⟨em,g1,U⟩:=f1 c d;refine⟨V,H,E,?_⟩;rw[g1,A];obtain g|g:=U;{rw[g];rfl};have:=g.1;omega
def yK(i p:Nat)(s:jO)(h:∀q,q≠p->(s.P q).L=((a.R i).P q).L/\kh (s.P q)=[])(c d:Nat):(a.e c d≠(i,p)->lr (a.op i s) c d=lr a c d/\(a.op i s).F c d=a.F c d)/\(a.e c d=(i,p)->c<a.nc->d<2->lr (a.op i s) c d=(s.P p).L/\(a.op i s).F c d=a.F c d++kh (s.P p)):=by
 refine⟨λH=> ?_,λQ hc hd=> ?_⟩;{rw[JW,uy];by_cases e:(a.e c d).1=i;{have J:(a.e c d).2≠p:=λV=>H (bq e V);obtain⟨g1,U⟩:=h _ J;rw[ag e,g1,U,aF];refine⟨?_,by split<;>rfl⟩;unfold lr;rw[e]};rw[af e,af (λz=>e z.2)];exact⟨rfl,rfl⟩};rw[JW,uy,Q,ag rfl,ag ⟨⟨hc,hd⟩,rfl⟩];exact⟨rfl,rfl⟩
def su(t:Nat×Nat->Nat)(T:List (Nat×Nat))(x:Nat×Nat):Nat:=t x+T.count x
def H6(X:Marks)(c d:Nat)(Y:Int->Bool):Marks:=λc' d'=>if c'=c/\d'=d then Y else X c' d'
def tQ(X:Marks)(c d:Nat)(Y:Int->Bool):H6 X c d Y c d=Y:=ag ⟨rfl,rfl⟩
def od(X:Marks) {c':Nat} (Y:Int->Bool)(h:¬(c'=c/\d'=d)):H6 X c d Y c' d'=X c' d':=af h
def BV(c:UInt8)(s:List UInt8)(h:c≠76):tf (c::s):=λk u e=>by rw[<-(aH e).1];exact h
def B8(r:jO)(p:Nat):List mK:=if(j8 (r.P p).L).1.st=9 then(72::[kI r.id,kI (jP (r.P p).pe).who])::(if(jP (r.P p).pe).both=true then(nu (((j6 r p).meet p (jP (r.P p).pe)).O p)).flatMap ET else [])else []
def yL(r:jO)(p:Nat):∀y∈B8 r p,tf y:=λy hy=>by
 unfold B8 at hy;split at hy;{obtain g|g:=aS.1 hy;{rw[g];exact BV 72 _ fF};{split at g;{obtain⟨q,_,V⟩:=bh.1 g;unfold ET at V;split at V;{rw[az.1 V];exact BV 83 _ fF};{simp at V}};{simp at g}}};{simp at hy}
def C4(r:jO)(p q:Nat):((r.jZ p).P q).L=if q=p then(j8 (r.P p).L).1 else(r.P q).L:=by
 have V:((j6 r p).P q).L=if q=p then(j8 (r.P p).L).1 else(r.P q).L:=by
  unfold j6;rw[mD];split;{rename_i e;rw[uT]};rfl
 rw[mO];split;{rw[(lP _ _ _ _).2.1];exact V};rw[((rD _ _).2.2.2.2 q).2.2,(lP _ _ _ _).2.1];exact V
structure NP(X Y:Marks)(a b:AN)(c d:Nat)(l em:List mK):Prop where
 f:b.F c d=l++em
 o:∀y∈l,zC (Y c d) y=zC (X c d) y/\qh (Y c d) y=qh (X c d) y
def tF.tick {X:Marks} {t:Nat×Nat->Nat} {a:AN} (hB:uU a)(hN:Norm a)(h:tF X t a) {i p:Nat} (ht:∀x,t x<=126):∃Y,tF Y (su t [(i,p)]) (a.op i ((a.R i).jZ p))/\∀c d,c<a.nc->d<2->(a.e c d≠(i,p)->NP X Y a (a.op i ((a.R i).jZ p)) c d (a.F c d) [])/\(a.e c d=(i,p)->∃em,(em=[] \/em=[ox (gP (a.e c d)) ((lr a c d).ow+1)])/\NP X Y a (a.op i ((a.R i).jZ p)) c d (a.F c d) (em++B8 (a.R i) p)):=by
 obtain⟨e1,e2⟩:=zk (hN.emp i) p;have Q:=yK (a:=a) i p ((a.R i).jZ p) λq hq=>⟨by rw[C4,af hq],e1 q hq⟩
 have hLp:(((a.R i).jZ p).P p).L=(j8 ((a.R i).P p).L).1:=by rw[C4,ag rfl]
 have A:∀x,t x<=su t [(i,p)] x:=λx=>ct _ _;by_cases hex:∃c d,c<a.nc/\d<2/\a.e c d=(i,p)
 ·obtain⟨c,d,hc,hd,u⟩:=hex;have qV:lr a c d=((a.R i).P p).L:=by unfold lr;rw[u]
  have hu:∀c' d',c'<a.nc->d'<2->¬(c'=c/\d'=d)->a.e c' d'≠(i,p):=λc' d' U V kf e=>kf (hB.ds _ _ _ _ U V hc hd (e.trans u.symm));cases hi:a.jU c
  ·obtain⟨l1,l2,l3,l4⟩:=h.dn c hc hi d hd;have AQ:=La (tP hB hc hd) l1
   have lA:j8 (lr a c d)=(lr a c d,[]):=by
    obtain g|g:=AQ.or;{exact bq (g.2.2.2.1 (.inl l2)) g.1};omega
   rw[qV]at lA l2
   have em0:kh (((a.R i).jZ p).P p)=[] :=by
    rw[e2,lA,af (by rw[l2];decide)];rfl
   have tk0:B8 (a.R i) p=[] :=by unfold B8;rw[lA,af (by rw[l2];decide)]
   have py:∀c' d',lr (a.op i ((a.R i).jZ p)) c' d'=lr a c' d'/\(a.op i ((a.R i).jZ p)).F c' d'=a.F c' d':=λc' d'=>by
    by_cases E:a.e c' d'=(i,p)
    {rw[JW,uy,E,ag rfl,hLp,lA];refine⟨by unfold lr;rw[E],?_⟩;split;{rw[em0,aF]};rfl};exact(Q c' d').1 E
   refine⟨X,⟨λc' U H=> ?_,λc' U H=> ?_⟩,λc' d' U V=>⟨λ_=>⟨by rw[(py c' d').2];simp,λ_ _=>⟨rfl,rfl⟩⟩,λ_=>⟨[],.inl rfl,by rw[(py c' d').2,tk0];simp,λ_ _=>⟨rfl,rfl⟩⟩⟩⟩;{exact(h.Rw (X':=X) (b:=a.op i ((a.R i).jZ p)) A rfl U rfl (λ_ _=>rfl) (λd _=>(py c' d).1) (λd _=>(py c' d).2)).1 H};exact(h.Rw (X':=X) (b:=a.op i ((a.R i).jZ p)) A rfl U rfl (λ_ _=>rfl) (λd _=>(py c' d).1) (λd _=>(py c' d).2)).2 H
  have pr:=h.vN hc hd hi;have Ox:t (a.e c 0)+t (a.e c 1)+1<=255:=by have:=ht (a.e c 0);have:=ht (a.e c 1);omega
  obtain⟨Z,q1,q2,q3⟩:=pr.tick (tP hB hc hd) Ox;have q1:=q1.more (yL (a.R i) p);obtain⟨f1,f2⟩:=(Q c d).2 u hc hd;rw[e2]at f2
  have f2:(a.op i ((a.R i).jZ p)).F c d=a.F c d++(j8 (lr a c d)).2.flatMap qg++B8 (a.R i) p:=by
   rw[f2,qV,aK];rfl
  rw[hLp,<-qV]at f1;have IB:a.e c (1-d)≠(i,p):=hu c (1-d) hc fC fC;obtain⟨k1,k2⟩:=(Q c (1-d)).1 IB
  have aop:su t [(i,p)] (a.e c 0)+su t [(i,p)] (a.e c 1)=t (a.e c 0)+t (a.e c 1)+1:=by
   have c1:([(i,p)] :List (Nat×Nat)).count (a.e c d)=1:=by rw[u];simp
   have c2:([(i,p)] :List (Nat×Nat)).count (a.e c (1-d))=0:=List.count_eq_zero.2 (by simp[IB]);have:d=0 \/d=1:=fC;unfold su;obtain rfl|rfl:=this;{rw[c1,show([(i,p)] :List (Nat×Nat)).count (a.e c 1)=0 from c2];omega};rw[c1,show([(i,p)] :List (Nat×Nat)).count (a.e c 0)=0 from c2];omega
  refine⟨H6 X c d Z,⟨λc' U H=> ?_,λc' U H=> ?_⟩,λc' d' U V=>⟨λkf=> ?_,λE=> ?_⟩⟩;{by_cases hcc:c'=c;{subst hcc;show Pair _ _ (su t [(i,p)] (a.e c' 0)+su t [(i,p)] (a.e c' 1)) (gP (a.e c' 0)) (gP (a.e c' 1)) _ _ _ _;rw[aop];refine NN (X:=λ_ d'=>H6 X c' d Z c' d') (g:=λd'=>gP (a.e c' d')) (L:=λd'=>lr (a.op i ((a.R i).jZ p)) c' d') (F:=λd'=>(a.op i ((a.R i).jZ p)).F c' d') hd ?_;show Pair (H6 X c' d Z c' d) (H6 X c' d Z c' (1-d)) _ _ _ _ _ _ _;rw[tQ,od X Z fC,f1,f2,k1,k2];exact q1};have J:∀d'<2,a.e c' d'≠(i,p):=λd' V=>hu c' d' U V λz=>hcc z.1;exact(h.Rw (X':=H6 X c d Z) (b:=a.op i ((a.R i).jZ p)) A rfl U rfl (λd' _=>od X Z λz=>hcc z.1) (λd' V=>((Q c' d').1 (J d' V)).1) (λd' V=>((Q c' d').1 (J d' V)).2)).1 H}
  ·have hcc:c'≠c:=λz=>by subst z;have:a.jU c'=false:=H;rw[hi]at this;exact absurd this gZ
   have J:∀d'<2,a.e c' d'≠(i,p):=λd' V=>hu c' d' U V λz=>hcc z.1;exact(h.Rw (X':=H6 X c d Z) (b:=a.op i ((a.R i).jZ p)) A rfl U rfl (λd' _=>od X Z λz=>hcc z.1) (λd' V=>((Q c' d').1 (J d' V)).1) (λd' V=>((Q c' d').1 (J d' V)).2)).2 H
  {have Yq:¬(c'=c/\d'=d):=λz=>kf (by rw[z.1,z.2];exact u);exact⟨by rw[((Q c' d').1 kf).2];simp,λ_ _=>by rw[od X Z Yq];exact⟨rfl,rfl⟩⟩};have Yq:=hB.ds _ _ _ _ U V hc hd (E.trans u.symm);obtain⟨z1,z2⟩:=Yq;subst z1 z2;exact⟨_,q3,by rw[f2,aK],λy hy=>by rw[tQ];exact JX q2 y hy⟩
 have J:∀c d,c<a.nc->d<2->a.e c d≠(i,p):=λc d hc hd e=>hex ⟨c,d,hc,hd,e⟩;refine⟨X,⟨λc hc hi=> ?_,λc hc hi=> ?_⟩,λc d hc hd=>⟨λkf=>⟨by rw[((Q c d).1 kf).2];simp,λ_ _=>⟨rfl,rfl⟩⟩,λE=>absurd E (J c d hc hd)⟩⟩;{exact(h.Rw (X':=X) (b:=a.op i ((a.R i).jZ p)) A rfl hc rfl (λ_ _=>rfl) (λd hd=>((Q c d).1 (J c d hc hd)).1) (λd hd=>((Q c d).1 (J c d hc hd)).2)).1 hi};exact(h.Rw (X':=X) (b:=a.op i ((a.R i).jZ p)) A rfl hc rfl (λ_ _=>rfl) (λd hd=>((Q c d).1 (J c d hc hd)).1) (λd hd=>((Q c d).1 (J c d hc hd)).2)).2 hi
def xi(r:jO)(i:Nat) {c:UInt8} (s:List UInt8)(hc:c≠76)(p:Nat):((r.take i c s).P p).L=(r.P p).L:=by
 rw[mZ,uW i s hc];split;{exact(lP _ _ _ _).2.1};exact(P6 r i c s p).1
def vH(r:jO)(i:Nat)(s:List UInt8)(p:Nat):((r.take i 76 s).P p).L=((lE r i 76 s).P p).L/\((r.take i 76 s).P p).out=((lE r i 76 s).P p).out:=by
 rw[mZ];split;{exact⟨(lP _ _ _ _).2.1,(lP _ _ _ _).1⟩};unfold nL;rw[af fF,af fF,af fF,af fF];exact⟨rfl,rfl⟩
def zp(h:G5 r i x p l)(hx:tf x)(X Y:Int->Bool):(l=[] \/((r.P p).L.st=9/\∀y∈l,tf y))/\(∀y∈l,zC Y y+1<=zC X x)/\(sm (qh Y) l<=(if p=i then qh X x else 0)):=by
 have V:∀(c:UInt8) (s:List UInt8),c≠76->DP 1 (c::s)=ν:=λc s h=>zo 1 s h;cases h with
 |none h=>rw[h];exact⟨.inl rfl,λ_ h=>by simp at h,aw _⟩
 |link s h _ _ _=>exact absurd rfl (hx 76 s h)
 |heard s hs Q U _ _ _ _ h=>
  have d1:zC X x=2/\qh X x=2:=by rw[hs];unfold zC qh;rw[V 83 s fF];exact⟨rfl,rfl⟩
  have d2:∀u,zC Y (65::u)=1/\qh Y (65::u)=1:=λu=>by unfold zC qh;rw[V 65 u fF];exact⟨rfl,rfl⟩
  rw[h];refine⟨.inr ⟨by rw[Q];exact U,λy hy=>by rw[az.1 hy];exact BV 65 _ fF⟩,λy hy=>by rw[az.1 hy,(d2 _).1,d1.1];exact aj _,?_⟩;rw[ag Q,d1.2];show qh Y _+0<=2;rw[(d2 _).2];decide
 |K5 a b s hs U h1 _ h=>
  have d1:zC X x=b.toNat+1:=by rw[hs];unfold zC;rw[V 77 _ fF];rfl
  have d2:zC Y (77::a::kI ((b.toNat:Int)-1)::s)=b.toNat:=by
   unfold zC;rw[V 77 _ fF];show(kI ((b.toNat:Int)-1)).toNat+1=_;have:=nT ((b.toNat:Int)-1) fC (by have:=b.toNat_lt;omega);omega
  have J:qh Y (77::a::kI ((b.toNat:Int)-1)::s)=0:=by unfold qh;rw[V 77 _ fF];rfl
  rw[h];refine⟨.inr ⟨U,λy hy=>by rw[az.1 hy];exact BV 77 _ fF⟩,λy hy=>by rw[az.1 hy,d2,d1];exact aj _,?_⟩;show qh Y _+0<=_;rw[J];exact aw _
def wc(X:Marks)(a:AN)(c:Nat):Nat:=sm (qh (X c 0)) (a.F c 0)+sm (qh (X c 1)) (a.F c 1)
def uZ {α:Type} {f g:α->Nat} {l:List α} (h:∀x∈l,f x=g x):sm f l=sm g l:=by
 refine Nat.le_antisymm (xy λx hx=>dB (h x hx)) (xy λx hx=>dB (h x hx).symm)
def NP.w {X Y:Marks} (h:NP X Y a b c d l em):sm (qh (Y c d)) (b.F c d)=sm (qh (X c d)) l+sm (qh (Y c d)) em:=by
 rw[h.f,rM,uZ λy hy=>(h.o y hy).2]
def abQ {X:Marks} (h:tF X t a)(hc:c<a.nc)(hd:d<2)(hF:a.F c d=x::l):tF X t (a.mN c d l):=by
 refine⟨λc' U hi=> ?_,λc' U hi d' E=> ?_⟩
 ·have p:=h.up c' U hi
  have hs:∀d',((a.mN c d l).F c' d').Sublist (a.F c' d'):=λd'=>by
   rw[td];split;{rename_i e;rw[e.1,e.2,hF];exact cr _ _};exact List.Sublist.refl _
  exact p.sub (hs 0) (hs 1)
 obtain⟨Q,J,H,V⟩:=h.dn c' U hi d' E;refine⟨Q,J,H,?_⟩;rw[td,af];{exact V};rintro⟨rfl,rfl⟩;rw[hF]at V;exact absurd V gZ
def R7 {P:Prop} [Decidable P] (hd:d<2) {s e f:Nat->Nat} (H:∀d'<2,e d'<=if P/\d'=1-d then k else 0)(hs:∀d'<2,s d'+(if P/\d'=d then k else 0)<=f d'):s 0+e 0+(s 1+e 1)<=f 0+f 1:=by
 have V:=H 0 fF;have U:=H 1 fF;have Q:=hs 0 fF;have b1:=hs 1 fF;have E:d=0 \/d=1:=fC;by_cases J:P;{obtain rfl|rfl:=E<;>simp[J]at V U Q b1<;>omega};simp[J]at V U Q b1;omega
structure afI(X Y:Marks)(a b:AN)(c d:Nat)(x:mK)(l:List mK):Prop where
 fl:∀c' d',c'<a.nc->d'<2->∃em,NP X Y a b c' d' (if c'=c/\d'=d then l else a.F c' d') em/\(∀y∈em,zC (Y c' d') y+1<=zC (X c d) x)
 w:∀c'<a.nc,wc Y b c'<=wc X a c'
def tF.pop {X:Marks} {t:Nat×Nat->Nat} {a:AN} (hB:uU a)(hN:Norm a)(h:tF X t a)(ht:∀x,t x<=127) {c d:Nat} {x:mK} {l:List mK} (hc:c<a.nc)(hd:d<2)(hF:a.F c d=x::l):∃Y,tF Y t (a.pop c d x l)/\afI X Y a (a.pop c d x l) c d x l:=by
 have hi:=h.AF hc hd (x:=x) (by rw[hF];simp);have pr:=(h.vN hc hd hi).symm;have hs0:=abQ h hc hd hF;obtain⟨r,hr⟩:=fH (a.R (a.e c (1-d)).1);obtain⟨i,E⟩:=fH ((a.e c (1-d)).1);obtain⟨p,pX⟩:=fH ((a.e c (1-d)).2);have Vk:a.e c (1-d)=(i,p):=bq E pX;have xI:a.pop c d x l=(a.mN c d l).op i (kP r p x):=by unfold AN.pop;rw[hr,E,pX]
 have Dj:a.R i=r:=by rw[<-E];exact hr
 have UG:JR r:=by rw[<-Dj];exact hN.emp i
 obtain⟨A,_⟩:=r8 UG p x;have qV:lr a c (1-d)=(r.P p).L:=by unfold lr;rw[Vk,Dj]
 have hif:∀c' d',(a.mN c d l).F c' d'=if c'=c/\d'=d then l else a.F c' d':=λ_ _=>rfl
 by_cases hx:tf x
 ·
  have hL:∀q,((kP r p x).P q).L=(r.P q).L:=λq=>by
   cases x with
   |nil=>rfl
   |cons k s=>exact xi r p s (hx k s rfl) q
  have hq:=λq=>zp (A q) hx (X c d) (λ_=>false);have hl:=hs0.quiet i (kP r p x) (λq=>by rw[hL];show(r.P q).L=((a.R i).P q).L;rw[Dj]) λq=>by
   obtain g|⟨g1,g2⟩:=(hq q).1;{exact .inl g};{exact .inr ⟨by rw[hL];exact g1,g2⟩}
  have yW:∀c' d',c'<a.nc->d'<2->NP X X a (a.pop c d x l) c' d' (if c'=c/\d'=d then l else a.F c' d') (if(a.e c' d').1=i then kh ((kP r p x).P (a.e c' d').2)else []):=λc' d' V U=>by
   refine⟨?_,λ_ _=>⟨rfl,rfl⟩⟩;rw[xI,uy,yE,EP,hif];by_cases e:(a.e c' d').1=i;{rw[ag ⟨⟨V,U⟩,e⟩,ag e]};{rw[af (λz=>e z.2),af e,aF]}
  refine⟨X,by rw[xI];exact hl,λc' d' V U=>⟨_,yW c' d' V U,λy hy=> ?_⟩,λc' V=> ?_⟩;{split at hy;{exact(zp (A (a.e c' d').2) hx (X c d) (X c' d')).2.1 y hy};{simp at hy}}
  ·have w0:=(yW c' 0 V fF).w;have w1:=(yW c' 1 V fF).w;have hE:∀d'<2,sm (qh (X c' d')) (if(a.e c' d').1=i then kh ((kP r p x).P (a.e c' d').2)else [])<=if c'=c/\d'=1-d then qh (X c d) x else 0:=λd' U=>by
    by_cases e:(a.e c' d').1=i;{rw[ag e];have:=(zp (A (a.e c' d').2) hx (X c d) (X c' d')).2.2;by_cases e2:(a.e c' d').2=p;{rw[ag e2]at this;have:=hB.ds c' d' c (1-d) V U hc fC (by rw[Vk];exact bq e e2);rw[ag this];assumption};{rw[af e2]at this;omega}};{rw[af e];exact aw _}
   have hI:∀d'<2,sm (qh (X c' d')) (if c'=c/\d'=d then l else a.F c' d')+(if c'=c/\d'=d then qh (X c d) x else 0)<=sm (qh (X c' d')) (a.F c' d'):=λd' U=>by
    by_cases e:c'=c/\d'=d;{rw[ag e,ag e,e.1,e.2,hF];show _<=qh (X c d) x+sm (qh (X c d)) l;omega};{rw[af e,af e];exact aj _}
   unfold wc;rw[w0,w1];exact R7 hd (s:=λd'=>sm (qh (X c' d')) (if c'=c/\d'=d then l else a.F c' d')) (f:=λd'=>sm (qh (X c' d')) (a.F c' d')) hE hI
 ·
  have YM:(∃id,0<=id/\id<=255/\x=ox (gP (a.e c d)) id) \/(∃id,0<=id/\id<=255/\x=pU (gP (a.e c (1-d))) id):=by
   obtain g|g|g:=pr.g x (by rw[hF];simp);{exact absurd g hx};{exact .inl g};{exact .inr g}
  have gd:=tP hB hc hd;have Q:=tP hB hc (show 1-d<2 by omega);obtain⟨q,s,VD,wL,hPL⟩:∃(q:mH) (s:List UInt8),x=76::s/\j3 s=(q.1,q.2.1,q.2.2,0)/\∃Z,abN (X c (1-d)) Z (X c d) (t (a.e c 0)+t (a.e c 1)) (gP (a.e c (1-d))) (gP (a.e c d)) (kV (lr a c (1-d)) q).1 (lr a c d) (a.F c (1-d)) l ((kV (lr a c (1-d)) q).2.1.flatMap qg) x:=by
   rw[hF]at pr;obtain⟨id,i1,i2,qo⟩|⟨id,i1,i2,qo⟩:=YM;{rw[qo]at pr;obtain⟨Z,hZ⟩:=pr.req Q gd (adp hB hc hd fC fC) (by have:=ht (a.e c 0);have:=ht (a.e c 1);omega) ⟨i1,i2⟩;exact⟨(1,id,pQ (gP (a.e c d))),_,qo,BK (.inl rfl) ⟨i1,i2⟩ gd,Z,by rw[qo];exact hZ⟩};{rw[qo]at pr;have hZ:=pr.ack Q ⟨i1,i2⟩;exact⟨(2,id,pQ (gP (a.e c (1-d)))),_,qo,BK (.inr rfl) ⟨i1,i2⟩ Q,X c (1-d),by rw[qo];exact hZ⟩}
  obtain⟨Z,pp⟩:=hPL;obtain⟨k1,_,k3,_⟩:=zi UG p 76 s;rw[wL]at k1 k3;have qX:=yK (a:=a.mN c d l) i p (kP r p x) λu hu=>by
   rw[VD];show((r.take p 76 s).P u).L=((a.R i).P u).L/\kh ((r.take p 76 s).P u)=[]
   rw[(vH r p s u).1,pw (vH r p s u).2,k1,af (λz=>hu z.1),(k3 u).2.2,af (λz=>hu z.1),Dj];exact⟨rfl,rfl⟩
  have J:((kP r p x).P p).L=(kV (lr a c (1-d)) q).1/\kh ((kP r p x).P p)=(kV (lr a c (1-d)) q).2.1.flatMap qg:=by
   rw[VD,qV];show((r.take p 76 s).P p).L=_/\kh ((r.take p 76 s).P p)=_;rw[(vH r p s p).1,pw (vH r p s p).2,k1,ag ⟨rfl,rfl,rfl⟩,(k3 p).2.2,ag ⟨rfl,rfl,rfl⟩];exact⟨rfl,rfl⟩
  obtain⟨em,aoq⟩:=fH ((kV (lr a c (1-d)) q).2.1.flatMap qg);obtain⟨L',hL'⟩:∃L',(kV (lr a c (1-d)) q).1=L':=⟨_,rfl⟩
  rw[aoq,hL']at pp J;have hu:∀c' d',c'<a.nc->d'<2->¬(c'=c/\d'=1-d)->a.e c' d'≠(i,p):=λc' d' V U kf e=>kf (hB.ds _ _ _ _ V U hc fC (e.trans Vk.symm));have hb:∀c' d',c'<a.nc->d'<2->¬(c'=c/\d'=1-d)->lr (a.pop c d x l) c' d'=lr a c' d'/\(a.pop c d x l).F c' d'=if c'=c/\d'=d then l else a.F c' d':=λc' d' V U kf=>by
   rw[xI];exact(qX c' d').1 (hu c' d' V U kf)
  have lU:lr (a.pop c d x l) c (1-d)=L'/\(a.pop c d x l).F c (1-d)=a.F c (1-d)++em:=by
   rw[xI];obtain⟨z1,z2⟩:=(qX c (1-d)).2 Vk hc (by show 1-d<2;omega);rw[z1,z2,J.1,J.2,hif,af fC];exact⟨rfl,rfl⟩
  have ZM:=hb c d hc hd fC;rw[ag ⟨rfl,rfl⟩]at ZM;have vt:(a.pop c d x l).nc=a.nc:=by rw[xI];rfl
  have H:(a.pop c d x l).e=a.e:=by rw[xI];rfl
  have mF:(a.pop c d x l).jU=a.jU:=by rw[xI];rfl
  have yW:∀c' d',c'<a.nc->d'<2->NP X (H6 X c (1-d) Z) a (a.pop c d x l) c' d' (if c'=c/\d'=d then l else a.F c' d') (if c'=c/\d'=1-d then em else []):=λc' d' V U=>by
   by_cases e:c'=c/\d'=1-d;{rw[ag e,af fC];obtain⟨e1,e2⟩:=e;subst e1 e2;exact⟨lU.2,λy hy=>by rw[tQ];exact JX pp.old y hy⟩};{rw[af e];exact⟨by rw[(hb c' d' V U e).2,aF],λy hy=>by rw[od X Z e];exact⟨rfl,rfl⟩⟩}
  refine⟨H6 X c (1-d) Z,⟨λc' V mR=> ?_,λc' V mR=> ?_⟩,λc' d' V U=>⟨_,yW c' d' V U,λy hy=> ?_⟩,λc' V=> ?_⟩;{rw[vt]at V;by_cases hcc:c'=c;{subst hcc;rw[H];refine NN (X:=λ_ d'=>H6 X c' (1-d) Z c' d') (g:=λd'=>gP (a.e c' d')) (L:=λd'=>lr (a.pop c' d x l) c' d') (F:=λd'=>(a.pop c' d x l).F c' d') (d:=1-d) fC ?_;show Pair (H6 X c' (1-d) Z c' (1-d)) (H6 X c' (1-d) Z c' (1-(1-d))) _ _ _ _ _ _ _;rw[show 1-(1-d)=d by omega,tQ,od X Z fC,lU.1,lU.2,ZM.1,ZM.2];exact pp.p};{rw[mF]at mR;have mT:∀d',¬(c'=c/\d'=1-d):=λ_ z=>hcc z.1;refine(h.Rw (X':=H6 X c (1-d) Z) (b:=a.pop c d x l) (u:=t) (λ_=>aj _) H V (by rw[mF]) (λd' _=>od X Z (mT d')) (λd' U=>(hb c' d' V U (mT d')).1) (λd' U=> ?_)).1 (by rw[mF];exact mR);rw[(hb c' d' V U (mT d')).2,af (λz=>hcc z.1)]}}
  ·rw[vt]at V;have hcc:c'≠c:=λz=>by subst z;rw[mF,hi]at mR;exact absurd mR gZ
   have mT:∀d',¬(c'=c/\d'=1-d):=λ_ z=>hcc z.1;refine(h.Rw (X':=H6 X c (1-d) Z) (b:=a.pop c d x l) (u:=t) (λ_=>aj _) H V (by rw[mF]) (λd' _=>od X Z (mT d')) (λd' U=>(hb c' d' V U (mT d')).1) (λd' U=> ?_)).2 mR;rw[(hb c' d' V U (mT d')).2,af (λz=>hcc z.1)]
  ·split at hy
   ·rename_i e
    rw[e.1,e.2,tQ];exact pp.dp y hy
   ·simp at hy
  ·have w0:=(yW c' 0 V fF).w;have w1:=(yW c' 1 V fF).w;have atA:=pp.wg;unfold wc;rw[w0,w1];refine R7 (P:=c'=c) (k:=qh (X c d) x) hd (s:=λd'=>sm (qh (X c' d')) (if c'=c/\d'=d then l else a.F c' d')) (e:=λd'=>sm (qh (H6 X c (1-d) Z c' d')) (if c'=c/\d'=1-d then em else [])) (f:=λd'=>sm (qh (X c' d')) (a.F c' d')) (λd' _=> ?_) λd' _=> ?_;{by_cases e:c'=c/\d'=1-d;{simp only[if_pos e];rw[e.1,e.2,tQ];omega};{simp only[if_neg e];exact aj _}};{by_cases e:c'=c/\d'=d;{simp only[if_pos e];rw[e.1,e.2,hF];show _<=qh (X c d) x+sm (qh (X c d)) l;omega};{simp only[if_neg e];exact aj _}}
def yM(hB:uU a)(hN:Norm a)(hc:c<a.nc)(hd:d<2)(up:Bool)(h:(mV (lr a c d) (if up=true then 0 else 1)).2.2=0):∀c' d',c'<a.nc->d'<2->(¬(c'=c/\d'=d)->lr (a.pv c d up) c' d'=lr a c' d'/\(a.pv c d up).F c' d'=a.F c' d')/\(c'=c/\d'=d->lr (a.pv c d up) c' d'=(mV (lr a c d) (if up=true then 0 else 1)).1/\(a.pv c d up).F c' d'=a.F c d++(mV (lr a c d) (if up=true then 0 else 1)).2.1.flatMap qg):=λc' d' Q J=>by
 obtain⟨E,A,u⟩:=K6 (hN.emp (a.e c d).1) (a.e c d).2 up h;have V:∀q,(((a.R (a.e c d).1).jT (a.e c d).2 up).1.P q).L=if q=(a.e c d).2 then(mV (lr a c d) (if up=true then 0 else 1)).1 else((a.R (a.e c d).1).P q).L:=λq=>by
  rw[u,(lP _ _ _ _).2.1,mD];split;{rw[GJ];rfl};{rfl}
 have H:=yK (a:=a) (a.e c d).1 (a.e c d).2 _ (λq U=>⟨by rw[V,af U],E q U⟩) c' d';refine⟨λkf=>H.1 λe=>kf (hB.ds _ _ _ _ Q J hc hd e),λhe=> ?_⟩;obtain⟨z1,z2⟩:=he;subst z1 z2;have:=H.2 rfl Q J;rw[V,ag rfl,A]at this;exact this
def Hh(hB:uU a)(hN:Norm a)(hc:c<a.nc)(up:Bool)(h:∀d<2,(mV (lr a c d) (if up=true then 0 else 1)).2.2=0):(∀c' d',c'<a.nc->d'<2->c'≠c->lr (a.jT c up) c' d'=lr a c' d'/\(a.jT c up).F c' d'=a.F c' d')/\∀d<2,lr (a.jT c up) c d=(mV (lr a c d) (if up=true then 0 else 1)).1/\(a.jT c up).F c d=(mV (lr a c d) (if up=true then 0 else 1)).2.1.flatMap qg:=by
 obtain⟨b,V⟩:=fH ((({a with jU:=kK a.jU c up}:AN).mN c 0 []).mN c 1 []);have KP:uU b:=hB.same (by rw[<-V];rfl) (by rw[<-V];rfl) (by rw[<-V];rfl);have Od:Norm b:=by rw[<-V];exact hN
 have J:c<b.nc:=by rw[<-V];exact hc
 have H:∀c' d',lr b c' d'=lr a c' d':=λc' d'=>by rw[<-V];rfl
 have U:∀c' d',b.F c' d'=if c'=c/\d'=1 then []else if c'=c/\d'=0 then []else a.F c' d':=λc' d'=>by rw[<-V];rfl
 have hp:a.jT c up=(b.pv c 0 up).pv c 1 up:=by unfold AN.jT;rw[V]
 have f0:=yM KP Od J (by decide:0<2) up (by rw[H];exact h 0 fF);have tT:uU (b.pv c 0 up):=KP.same rfl rfl rfl;have Q:=(f0 c 1 J fF).1 fC;have f1:=yM (a:=b.pv c 0 up) tT (tD Od _ _) J (by decide:1<2) up (by rw[Q.1,H];exact h 1 fF);have E:b.nc=a.nc:=by rw[<-V];rfl
 rw[hp];refine⟨λc' d' kY lL A=> ?_,λd hd=> ?_⟩;{have g0:=(f0 c' d' (by rw[E];exact kY) lL).1 (λz=>A z.1);have g1:=(f1 c' d' (by show c'<b.nc;rw[E];exact kY) lL).1 (λz=>A z.1);rw[g1.1,g1.2,g0.1,g0.2,H,U,af (λz=>A z.1),af (λz=>A z.1)];exact⟨rfl,rfl⟩};have:d=0 \/d=1:=fC;obtain rfl|rfl:=this
 ·have g1:=(f1 c 0 J fF).1 fC;have g0:=(f0 c 0 J fF).2 ⟨rfl,rfl⟩;have u:b.F c 0=[] :=by rw[U];simp
  rw[g1.1,g1.2,g0.1,g0.2,H,u];exact⟨rfl,rfl⟩
 have g1:=(f1 c 1 J fF).2 ⟨rfl,rfl⟩;have u:b.F c 1=[] :=by rw[U];simp
 rw[g1.1,g1.2,Q.1,Q.2,H,u];exact⟨rfl,rfl⟩
def wH(a:AN)(c:Nat)(up:Bool)(c':Nat):(a.jT c up).jU c'=if c'=c then up else a.jU c':=rfl
def tF.jT {X:Marks} {t:Nat×Nat->Nat} {a:AN} (Q:uU a)(hN:Norm a)(h:tF X t a)(u:∀x,t x<=126) {c:Nat} (hc:c<a.nc)(hi:a.jU c=false):tF (H6 (H6 X c 0 λ_=>false) c 1 λ_=>false) (su t [a.e c 0,a.e c 1]) (a.jT c true):=by
 have V:=h.dn c hc hi;have hu:=λd hd=>ade (tP Q hc hd) (V d hd).1 (V d hd).2.1;obtain⟨f1,f2⟩:=Hh Q hN hc true λd hd=>(FY (V d hd).2.1).1;have E:∀x,t x<=su t [a.e c 0,a.e c 1] x:=λx=>ct _ _;have kf:a.e c 0≠a.e c 1:=λe=>by have:=(Q.ds _ _ _ _ hc fF hc fF e).2;omega
 refine⟨λc' U J=> ?_,λc' U J=> ?_⟩
 ·by_cases e:c'=c
  ·subst e
   have A:∀d<2,H6 (H6 X c' 0 λ_=>false) c' 1 (λ_=>false) c' d=λ_=>false:=λd hd=>by
    have:d=0 \/d=1:=fC;obtain rfl|rfl:=this;{rw[od _ _ fC,tQ]};rw[tQ]
   have hF:∀d<2,(a.jT c' true).F c' d=[ox (gP (a.e c' d)) (lr (a.jT c' true) c' d).ow] /\LI (gP (a.e c' d)) (lr (a.jT c' true) c' d)/\(lr (a.jT c' true) c' d).st=6/\(lr (a.jT c' true) c' d).ow=(lr a c' d).ow+1:=λd hd=>by
    obtain⟨u1,u2,u3,u4,u5⟩:=hu d hd;obtain⟨g1,g2⟩:=f2 d hd;have hw:=(V d hd).2.2.1;have ho:=(V d hd).1.k.o1;have hb:(lr a c' d).ow+1<=255:=by have:=u (a.e c' 0);have:=u (a.e c' 1);omega
    have em:((lr a c' d).ow+1) %256=(lr a c' d).ow+1:=fC;rw[em]at u2 u3;rw[g1,g2];simp only[if_true];refine⟨?_,u1,u4,u3⟩;rw[u2,u3];show qg _++ [] =_;rw[Hc (.inl rfl) ⟨fC,hb⟩ (tP Q hc hd)];rfl
   obtain⟨a1,a2,a3,a4⟩:=hF 0 fF;obtain⟨b1,b2,b3,b4⟩:=hF 1 fF;show Pair _ _ (su t [a.e c' 0,a.e c' 1] (a.e c' 0)+su t [a.e c' 0,a.e c' 1] (a.e c' 1)) (gP (a.e c' 0)) (gP (a.e c' 1)) _ _ _ _;rw[A 0 fF,A 1 fF,a1,b1];have c0:su t [a.e c' 0,a.e c' 1] (a.e c' 0)=t (a.e c' 0)+1:=by unfold su;simp[Ne.symm kf]
   have c1:su t [a.e c' 0,a.e c' 1] (a.e c' 1)=t (a.e c' 1)+1:=by unfold su;simp[kf]
   have w0:=(V 0 fF).2.2.1;have w1:=(V 1 fF).2.2.1;refine Pair.new (tP Q hc fF) (tP Q hc fF) a2 b2 a3 b3 ?_ ?_;{rw[a4,c0,c1];omega};rw[b4,c0,c1];omega
  have H:(a.jT c true).jU c'=a.jU c':=by rw[wH,af e]
  exact(h.Rw (b:=a.jT c true) E rfl U H (λd _=>by rw[od _ _ (λz=>e z.1),od _ _ (λz=>e z.1)]) (λd hd=>(f1 c' d U hd e).1) (λd hd=>(f1 c' d U hd e).2)).1 J
 have e:c'≠c:=λz=>by rw[wH,ag z]at J;exact absurd J gZ
 have H:(a.jT c true).jU c'=a.jU c':=by rw[wH,af e]
 exact(h.Rw (X':=H6 (H6 X c 0 λ_=>false) c 1 λ_=>false) (b:=a.jT c true) E rfl U H (λd _=>by rw[od _ _ (λz=>e z.1),od _ _ (λz=>e z.1)]) (λd hd=>(f1 c' d U hd e).1) (λd hd=>(f1 c' d U hd e).2)).2 J
def tF.draw {X:Marks} (A:uU a)(hN:Norm a)(h:tF X t a)(hc:c<a.nc)(hi:a.jU c=true):tF X t (a.jT c false):=by
 have H:∀d<2,wE (lr a c d).st=true:=λd hd=>by
  have p:=h.vN hc hd hi;have:=p.lu;have:=p.l.st;unfold wE;simp only[gq,beq_iff_eq,jo,decide_eq_true_eq];omega
 obtain⟨f1,f2⟩:=Hh A hN hc false λd hd=>(vG (H d hd)).1;refine⟨λc' V U=> ?_,λc' V U=> ?_⟩
 ·have e:c'≠c:=λz=>by rw[wH,ag z]at U;exact absurd U gZ
  have Q:(a.jT c false).jU c'=a.jU c':=by rw[wH,af e]
  exact(h.Rw (X':=X) (b:=a.jT c false) (u:=t) (λ_=>aj _) rfl V Q (λd _=>rfl) (λd hd=>(f1 c' d V hd e).1) (λd hd=>(f1 c' d V hd e).2)).1 U
 by_cases e:c'=c;{subst e;intro d hd;have p:=h.vN hc hd hi;obtain⟨d1,d2,E⟩:=abx p.l p.lu;obtain⟨g1,J⟩:=f2 d hd;simp only[Bool.false_eq_true,if_false]at g1 J;rw[g1,J,Ny (H d hd),E];refine⟨d1,d2,?_,rfl⟩;have:=p.d.Lj;(show _<=((t (a.e c' 0)+t (a.e c' 1):Nat):Int));omega};have Q:(a.jT c false).jU c'=a.jU c':=by rw[wH,af e]
 exact(h.Rw (X':=X) (b:=a.jT c false) (u:=t) (λ_=>aj _) rfl V Q (λd _=>rfl) (λd hd=>(f1 c' d V hd e).1) (λd hd=>(f1 c' d V hd e).2)).2 U
def NQ(hi:i<6)(hp:p<3)(m:Nat->Int):LI (gP (i,p)) (Jk ((i:Int)+1) m p).L/\(Jk ((i:Int)+1) m p).L.st=1/\(Jk ((i:Int)+1) m p).L.ow=0:=by
 have e:gP (i,p)=8*((i:Int)+1)+(p:Int)+1:=rfl;have V:0<=gP (i,p)/\gP (i,p)<=255:=by rw[e];omega
 refine⟨⟨rfl,rfl,rfl,rfl,λh=>absurd h (by show¬(6:Int)<=1;decide),.inl rfl,⟨by show zw 1 0 0=true;decide,by show(0:Int)<=0;decide,by show(0:Int)<=255;decide,V.1,V.2,V.1,V.2⟩⟩,rfl,rfl⟩
def tF.lost {X:Marks} (h:tF X t a)(hl:yD a b):tF X t b:=by
 have hs:∀c d,(b.F c d).Sublist (a.F c d):=λc d=>by
  obtain⟨m,hm⟩:=hl.2 c d;rw[hm];exact jI _ _
 have U:b.nc=a.nc:=by rw[hl.1]
 have Q:b.jU=a.jU:=by rw[hl.1]
 have J:b.e=a.e:=by rw[hl.1]
 have V:∀c d,lr b c d=lr a c d:=λc d=>by rw[hl.1];rfl
 refine⟨λc hc hi=> ?_,λc hc hi d hd=> ?_⟩;{rw[J,V,V];exact(h.up c (by rw[<-U];exact hc) (by rw[<-Q];exact hi)).sub (hs c 0) (hs c 1)};obtain⟨H,E,A,u⟩:=h.dn c (by rw[<-U];exact hc) (by rw[<-Q];exact hi) d hd;rw[J,V];refine⟨H,E,A,?_⟩;have:=hs c d;rw[u]at this;exact jE.1 this
def tF.send {X:Marks} {t:Nat×Nat->Nat} {a:AN} (Q:Norm a)(h:tF X t a)(i:Nat)(m:wK):tF X t (a.op i ((a.R i).send m)):=by
 obtain⟨_,_,_,_,V⟩:=nR (a.R i) m;obtain⟨j,g1,U⟩:=zj (Q.emp i) m;refine h.quiet i _ (λp=>(V p).2.2) λp=> ?_;by_cases e:p=j;{subst e;obtain g|⟨g,f⟩:=U;{exact .inl g};exact .inr ⟨by rw[(V p).2.2];exact g.1,λy hy=>by rw[f]at hy;rw[az.1 hy];exact BV 77 _ fF⟩};exact .inl (g1 p e)
def tF.anew {X:Marks} (hB:uU a)(h:tF X t a)(i m:Nat)(hd:∀c d,c<a.nc->d<2->(a.e c d).1=i->a.jU c=false/\a.F c 0=[] /\a.F c 1=[]):tF X t {a with R:=kK a.R i (kZ ((i:Int)+1) 3 (a.ms i)),ib:=kK a.ib i ((a.ib i).take m)}:=by
 obtain⟨b,V⟩:=fH (({a with R:=kK a.R i (kZ ((i:Int)+1) 3 (a.ms i)),ib:=kK a.ib i ((a.ib i).take m)}:AN))
 have Q:∀c d,(a.e c d).1≠i->lr b c d=lr a c d:=λc d e=>by
  rw[<-V];show((kK a.R i _ (a.e c d).1).P _).L=_;rw[iw _ _ e];rfl
 rw[V];have H:b.nc=a.nc:=by rw[<-V]
 have E:b.jU=a.jU:=by rw[<-V]
 have A:b.e=a.e:=by rw[<-V]
 have u:b.F=a.F:=by rw[<-V]
 refine⟨λc hc hi=> ?_,λc hc hi d U=> ?_⟩
 ·rw[H]at hc;rw[E]at hi;have mT:∀d<2,(a.e c d).1≠i:=λd U e=>by rw[(hd c d hc U e).1]at hi;exact absurd hi gZ
  rw[A,u,Q c 0 (mT 0 fF),Q c 1 (mT 1 fF)];exact h.up c hc hi
 rw[H]at hc;rw[E]at hi;obtain⟨a1,a2,a3,J⟩:=h.dn c hc hi d U;rw[A,u];by_cases e:(a.e c d).1=i
 ·have hp:=hB.en c d hc U
  have hl:lr b c d=(Jk ((i:Int)+1) (a.ms i) (a.e c d).2).L:=by
   rw[<-V];show((kK a.R i _ (a.e c d).1).P _).L=_;rw[e,jd];rfl
  obtain⟨z1,z2,z3⟩:=NQ (i:=i) (p:=(a.e c d).2) (by have:=hB.n6;omega) hp.2 (a.ms i);rw[hl];have he:a.e c d=(i,(a.e c d).2):=bq e rfl;rw[he];exact⟨z1,z2,by rw[z3];omega,J⟩
 rw[Q c d e];exact⟨a1,a2,a3,J⟩
def qC(t:Nat×Nat->Nat):su t [] =t:=by funext x;simp[su]
def DR(t:Nat×Nat->Nat)(T U:List (Nat×Nat)):su t (T++U)=su (su t T) U:=by
 funext x;unfold su;rw[jJ];omega
def ot.aju(s:ot a T S b)(V:uU a)(U:Norm a) {X:Marks} (h:tF X t a)(J:∀x,t x<=126):∃Y,tF Y (su t T) b:=by
 cases s with|lost hl=>exact⟨X,by rw[qC];exact h.lost hl⟩|tick i p _ _=>obtain⟨Y,Q,_⟩:=h.tick V U (i:=i) (p:=p) J;exact⟨Y,Q⟩|pop c d x l hc hd hF=>obtain⟨Y,Q,_⟩:=h.pop V U (λx=>by have:=J x;omega) hc hd hF;exact⟨Y,by rw[qC];exact Q⟩|send i m tx _ _ _ _=>exact⟨X,by rw[qC];exact h.send U i _⟩|jT c hc hi _ _=>exact⟨_,h.jT V U J hc hi⟩|draw c hc hi=>exact⟨X,by rw[qC];exact h.draw V U hc hi⟩|anew i m hi hd=>exact⟨X,by rw[qC];exact h.anew V i m hd⟩
def tF.mono {X:Marks} {t u:Nat×Nat->Nat} {a:AN} (h:tF X t a)(V:∀x,t x<=u x):tF X u a:=
 ⟨λc hc hi=>(h.up c hc hi).mono (by have:=V (a.e c 0);have:=V (a.e c 1);omega),λc hc hi d hd=>by
  obtain⟨U,Q,a3,J⟩:=h.dn c hc hi d hd;exact⟨U,Q,by have:=V (a.e c 0);have:=V (a.e c 1);omega,J⟩⟩
def oy(h:T.Nodup)(k:Nat)(x:Nat×Nat):su (λ_=>k) T x<=k+1:=by
 have:=jK.1 h x;show k+T.count x<=k+1;omega
def zP(K:Int->Option PS)(y seq:Int)(es:List kS):Prop:=∃q,K y=μ q/\0<=nI q.1 q.2 seq es
def pR(s:Int)(e:List kS):nI s e s e=0:=Cf.2 ⟨rfl,rfl⟩
def wI {y:Int} (h:K y=μ q):zP K y q.1 q.2:=⟨q,h,by rw[pR];exact aZ _⟩
def rh(K K':Int->Option PS):Prop:=∀y q,K y=μ q->zP K' y q.1 q.2
def rh.refl(K:Int->Option PS):rh K K:=λ_ _ h=>wI h
def zP.mono {K':Int->Option PS} (h:rh K K') {y:Int} (g:zP K y seq es):zP K' y seq es:=by
 obtain⟨q,V,U⟩:=g;obtain⟨u,Q,J⟩:=h y q V;exact⟨u,Q,(z8 J U).1⟩
def zP.trans {y s1 s2:Int} {e1 e2:List kS} (g:zP K y s1 e1)(h:0<=nI s1 e1 s2 e2):zP K y s2 e2:=by
 obtain⟨q,V,U⟩:=g;exact⟨q,V,(z8 U h).1⟩
def rh.trans {L M:Int->Option PS} (h:rh K L)(g:rh L M):rh K M:=λy q V=>(h y q V).mono g
def ajv(x:Option mK)(y:Int)(q:PS):Prop:=∃s,(x=μ (83::s) \/x=μ (65::s))/\(ig s).2.2.2=0/\(ig s).1=y/\0<=nI (ig s).2.1 (ig s).2.2.1 q.1 q.2
def Hi(x:Option mK)(w:Int):Prop:=∃s,x=μ (72::s)/\(mr s).2.2=0/\(mr s).1=w
structure xJ(r r':jO)(p:Nat)(x:Option mK):Prop where
 k:rh r.K r'.K
 o:∀j,(r'.P j).pe.both=true->∀y q,r'.K y=μ q->r'.O j y=ν->((r.P j).pe.both=true/\r.K y=μ q/\r.O j y=ν) \/(j=p/\ajv x y q)
 w:∀j,(r'.P j).pe.who≠0->(r'.P j).pe.who=(r.P j).pe.who \/(j=p/\Hi x (r'.P j).pe.who)
def xJ.refl(r:jO)(p:Nat)(x:Option mK):xJ r r p x:=⟨rh.refl _,λ_ h _ _ V U=>.inl ⟨h,V,U⟩,λ_ _=>.inl rfl⟩
def xJ.alike {s:jO} (p:Nat)(x:Option mK)(V:s.K=r.K)(H:s.O=r.O)(U:∀j,(s.P j).pe=(r.P j).pe):xJ r s p x:=
 ⟨by rw[V];exact rh.refl _,λj h y q Q J=>.inl ⟨by rw[<-U];exact h,by rw[<-V];exact Q,by rw[<-H];exact J⟩,λj _=>.inl (by rw[U])⟩
def xJ.trans {a b c:jO} {p:Nat} {x:Option mK} (h:xJ a b p x)(g:xJ b c p x):xJ a c p x:=by
 refine⟨h.k.trans g.k,λj Q y q V U=> ?_,λj hw=> ?_⟩;{obtain⟨J,H,E⟩|z:=g.o j Q y q V U;{exact h.o j J y q H E};exact .inr z};obtain z|z:=g.w j hw;{obtain u|u:=h.w j (by rw[<-z];exact hw);{exact .inl (z.trans u)};exact .inr (by rw[z];exact u)};exact .inr z
def Hj(A:nh r) {q:Int} (Q:Cx r.K r.id<=q)(p:Nat)(x:Option mK):xJ r (r.behind q) p x:=by
 unfold jO.behind;split
 ·obtain⟨u,hu,_⟩:=A.own;have V:∀y,(r.Ag (q+1) (kH r)).K y=if y=r.id then μ (q+1,kH r)else r.K y:=λy=>rfl
  refine⟨λy v hv=> ?_,λj E y v J H=> ?_,λj _=>.inl rfl⟩
  ·by_cases e:y=r.id
   ·refine⟨(q+1,kH r),by rw[V,ag e],?_⟩
    have hsq:v.1<=q:=by
     rw[e]at hv;unfold Cx at Q;rw[hv]at Q;exact Q
    unfold nI;have:nQ (q+1) v.1=1:=by unfold nQ;rw[af fC,ag fC]
    rw[ag (by rw[this];decide),this];decide
   exact⟨v,by rw[V,af e];exact hv,by rw[pR];exact aZ _⟩
  have U:(if y=r.id then μ (q+1,kH r)else r.O j y)=ν:=H;by_cases e:y=r.id;{rw[ag e]at U;exact absurd U gZ};rw[af e]at U;rw[V,af e]at J;exact .inl ⟨E,J,U⟩
 exact xJ.refl r p x
def Qo(V:nh r)(p:Nat)(x:Option mK):xJ r r.change p x:=by
 unfold jO.change;split;{exact xJ.refl r p x};exact Hj V (aZ _) p x
def yN(jR:nh r) {q:mX} (hq:qe r.id q)(x:Option mK)(hw:q.who≠0->q.who=(r.P i).pe.who \/Hi x q.who):xJ r (r.meet i q) i x:=by
 have A:=λj=>(lP r i q j).2.2.2
 have hW:∀j,((r.meet i q).P j).pe.who≠0->((r.meet i q).P j).pe.who=(r.P j).pe.who \/(j=i/\Hi x ((r.meet i q).P j).pe.who):=λj h=>by
  rw[A]at h⊢;by_cases e:j=i;{subst e;rw[ag rfl]at h⊢;obtain z|z:=hw h;{exact .inl z};exact .inr ⟨rfl,z⟩};rw[af e];exact .inl rfl
 by_cases lA:q.who=(r.P i).pe.who/\q.both=(r.P i).pe.both
 ·have e:r.meet i q=r.jW i {r.P i with pe:=q}:=by unfold jO.meet;simp only;rw[ag lA]
  refine⟨by rw[e];exact rh.refl _,λj V y v J Q=> ?_,hW⟩;rw[A]at V;rw[e]at J Q;refine .inl ⟨?_,J,Q⟩;by_cases U:j=i;{rw[ag U]at V;rw[U,<-lA.2];exact V};rw[af U]at V;exact V
 obtain⟨z,E⟩:∃z:jO,({r.jW i {r.P i with pe:=q}with O:=λx=>if x=i then λ_=>ν else(r.jW i {r.P i with pe:=q}).O x}:jO)=z:=⟨_,rfl⟩
 have okz:nh z:=by rw[<-E];exact(jR.jW i {r.P i with pe:=q} rfl λ_=>hq).Ak _
 have ev:=Qo okz i x;have zK:z.K=r.K:=by rw[<-E];rfl
 have e:r.meet i q=if q.both=true then {z.change with O:=λx=>if x=i then sA (z.change.O i) z.change.K else z.change.O x}else z.change:=by
  unfold jO.meet;simp only;rw[af lA,E]
 have eK:(r.meet i q).K=z.change.K:=by rw[e];split<;>rfl
 have hzO:∀j,j≠i->z.O j=r.O j:=λj hj=>by
  rw[<-E];show(if j=i then λ_=>ν else r.O j)=_;rw[af hj]
 have hzP:∀j,j≠i->(z.P j).pe=(r.P j).pe:=λj hj=>by
  rw[<-E];show((r.jW i {r.P i with pe:=q}).P j).pe=_;rw[mD,af hj]
 refine⟨by rw[eK,<-zK];exact ev.k,λj V y v J Q=> ?_,hW⟩;rw[eK]at J;by_cases U:j=i;{subst U;rw[A,ag rfl]at V;rw[e,ag V]at Q;have H:(if j=j then sA (z.change.O j) z.change.K else z.change.O j) y=ν:=Q;rw[ag rfl]at H;unfold sA at H;rw[ag (by rw[J];rfl),J]at H;exact absurd H gZ}
 have H:z.change.O j y=ν:=by
  rw[e]at Q;split at Q;{have h3:(if j=i then sA (z.change.O i) z.change.K else z.change.O j) y=ν:=Q;rw[af U]at h3;exact h3};exact Q
 rw[A,af U]at V;have hzb:(z.change.P j).pe.both=true:=by rw[(yt z).2.2.2,hzP j U];exact V
 obtain⟨u1,u2,u3⟩|u:=ev.o j hzb y v J H;{exact .inl ⟨V,by rw[<-zK];exact u2,by rw[<-hzO j U];exact u3⟩};exact absurd u.1 U
def pS(h:K own=μ q):newF K own seq es=nI seq es q.1 q.2:=by unfold newF;rw[h]
def zq(jR:nh r)(i:Nat)(s:List UInt8):xJ r (kj r i s) i (μ (83::s))/\∀y∈kh ((kj r i s).P i),kh ((kj r i s).P i)=[65::tI (ig s).1 (ig s).2.1 (ig s).2.2.1]->(ig s).2.2.2=0->0<=newF r.K (ig s).1 (ig s).2.1 (ig s).2.2.1->¬((ig s).1=r.id/\0<newF r.K (ig s).1 (ig s).2.1 (ig s).2.2.1)->(r.P i).pe.both=true->zP (kj r i s).K (ig s).1 (ig s).2.1 (ig s).2.2.1:=by
 unfold kj;simp only;split;{rename_i h;refine⟨xJ.refl _ _ _,λy _ _ hz _ _ H=> ?_⟩;obtain h|h:=h;{exact absurd hz h};rw[H]at h;exact absurd h gZ};rename_i h;have hz:(ig s).2.2.2=0:=fC;split;{rename_i h2;refine⟨Hj jR ?_ _ _,λy _ _ _ _ mT _=>absurd h2 mT⟩;obtain⟨u,hu,_⟩:=jR.own;have E:=h2.2;rw[h2.1,pS hu]at E;unfold Cx;rw[hu];show u.1<=_;unfold nI at E;by_cases hc:nQ (ig s).2.1 u.1=0;{rw[pg.1 hc];exact aZ _};rw[ag hc]at E;have:=wk.1 E;omega};rename_i h2;have A:∀q:PS,0<=nI (ig s).2.1 (ig s).2.2.1 q.1 q.2->ajv (μ (83::s)) (ig s).1 q:=λq J=>⟨s,.inl rfl,hz,rfl,J⟩
 generalize (ig s).1=own,(ig s).2.1=seq,(ig s).2.2.1=es at*
 have hm:xJ r {r with K:=np r.K own seq es,O:=qL r.K r.O i own seq es} i (μ (83::s)):=by
  refine⟨λy q J=> ?_,λj H y q h1 E=> ?_,λj _=>.inl rfl⟩;{show zP (np r.K own seq es) y q.1 q.2;unfold np;by_cases g:0<newF r.K own seq es;{rw[ag g];by_cases e:y=own;{subst e;rw[pS J]at g;exact⟨(seq,es),by show(if y=y then _ else _)=_;rw[ag rfl],by show 0<=nI seq es q.1 q.2;omega⟩};exact⟨q,by show(if y=own then _ else _)=_;rw[af e];exact J,by rw[pR];exact aZ _⟩};rw[af g];exact wI J};have U:np r.K own seq es y=μ q:=h1;have V:qL r.K r.O i own seq es j y=ν:=E;unfold np at U;unfold qL at V;by_cases g:0<newF r.K own seq es;{rw[ag g]at U V;have U:(if y=own then μ (seq,es)else r.K y)=μ q:=U;by_cases e:y=own;{subst e;rw[ag rfl]at U;injection U with U;by_cases Q:j=i;{refine .inr ⟨Q,A q ?_⟩;rw[<-U];show 0<=nI seq es seq es;rw[pR];exact aZ _};rw[af Q]at V;have V:(if y=y then μ (seq,es)else r.O j y)=ν:=V;rw[ag rfl]at V;exact absurd V gZ};rw[af e]at U;refine .inl ⟨H,U,?_⟩;by_cases Q:j=i;{rw[ag Q]at V;have V:(if y=own then ν else if y=own then μ (seq,es)else r.O i y)=ν:=V;rw[af e,af e]at V;rw[Q];exact V};rw[af Q]at V;have V:(if y=own then μ (seq,es)else r.O j y)=ν:=V;rw[af e]at V;exact V};rw[af g]at U V;by_cases g2:newF r.K own seq es<0;{rw[ag g2]at V;by_cases Q:j=i;{rw[ag Q]at V;cases hk:r.K own with|none=>rw[hk]at V;exact .inl ⟨H,U,by rw[Q];exact V⟩|some u=>rw[hk]at V;have V:(if y=own then μ u else r.O i y)=ν:=V;by_cases e:y=own;{rw[ag e]at V;exact absurd V gZ};{rw[af e]at V;exact .inl ⟨H,U,by rw[Q];exact V⟩}};rw[af Q]at V;exact .inl ⟨H,U,V⟩};rw[af g2]at V;by_cases Q:j=i;{rw[ag Q]at V;have V:(if y=own then ν else r.O i y)=ν:=V;by_cases e:y=own;{subst e;rw[pS U]at g2;exact .inr ⟨Q,A q fC⟩};rw[af e]at V;exact .inl ⟨H,U,by rw[Q];exact V⟩};rw[af Q]at V;exact .inl ⟨H,U,V⟩
 have hk:0<=newF r.K own seq es->zP (np r.K own seq es) own seq es:=λh0=>by
  unfold np;by_cases g:0<newF r.K own seq es;{rw[ag g];exact⟨(seq,es),by show(if own=own then _ else _)=_;rw[ag rfl],by show 0<=nI seq es seq es;rw[pR];exact aZ _⟩};rw[af g];cases J:r.K own with|none=>unfold newF at g;rw[J]at g;exact absurd (by decide:(0:Int)<1) g|some q=>rw[pS J]at g h0;refine⟨q,J,?_⟩;rw[wm];omega
 split;{refine⟨hm.trans (xJ.alike _ _ rfl rfl λj=> ?_),λy _ _ _ h0 _ _=>hk h0⟩;rw[mD];split;{rename_i e;rw[e,(uz _ _ _).2]};rfl};rename_i aou;exact⟨hm,λy _ _ _ h0 _ _=>absurd h0 aou⟩
def UQ(r:jO)(i:Nat)(s:List UInt8):xJ r (lV r i s) i (μ (65::s)):=by
 unfold lV;simp only;split;{rename_i u;refine⟨rh.refl _,λj H y q E A=> ?_,λj _=>.inl rfl⟩;have V:(if j=i/\0<=newF r.K (ig s).1 (ig s).2.1 (ig s).2.2.1 then Ac (r.O i) (ig s).1 else r.O j) y=ν:=A;have U:r.K y=μ q:=E;by_cases e:j=i/\0<=newF r.K (ig s).1 (ig s).2.1 (ig s).2.2.1;{rw[ag e]at V;have J:(if y=(ig s).1 then ν else r.O i y)=ν:=V;by_cases Q:y=(ig s).1;{refine .inr ⟨e.1,s,.inr rfl,u,Q.symm,?_⟩;have:=e.2;rw[<-Q,pS U]at this;exact this};rw[af Q]at J;exact .inl ⟨H,U,by rw[e.1];exact J⟩};rw[af e]at V;exact .inl ⟨H,U,V⟩};exact xJ.refl _ _ _
def zQ(r:jO)(x:mK):Prop:=(∀s,(x=83::s \/x=65::s)->(ig s).2.2.2=0->zP r.K (ig s).1 (ig s).2.1 (ig s).2.2.1)/\∀s,x=72::s->(mr s).2.2=0->(mr s).1=r.id
def tR(r:jO) {c:UInt8} (s:List UInt8)(V:c≠83)(U:c≠65)(Q:c≠72):zQ r (c::s):=
 ⟨λ_ e=>e.elim (λe=>absurd (aH e).1 V) λe=>absurd (aH e).1 U,λ_ e=>absurd (aH e).1 Q⟩
def UR(J:JR r)(H:nh r)(i:Nat)(x:mK):xJ r (kP r i x) i (μ x)/\∀p,∀y∈kh ((kP r i x).P p),zQ (kP r i x) y:=by
 obtain⟨m1,_⟩:=r8 J i x
 have xQ:xJ r (kP r i x) i (μ x):=by
  cases x with|nil=>exact xJ.refl _ _ _|cons c s=>show xJ r (r.take i c s) i _;obtain⟨_,_,k3,k4,k5,_,_,_⟩:=zi J i c s;have V:xJ r (lE r i c s) i (μ (c::s)):=xJ.alike _ _ k4 k5 λj=>(k3 j).1;have U:=H.link i c s;rw[mZ];obtain⟨r1,mQ⟩:=fH (lE r i c s);rw[mQ]at V U⊢;split;{exact V.trans (yN U (qe.nobody U.id.1) _ λh=>absurd rfl h)};{unfold nL;split;{rename_i hc;split;{rename_i Q;refine V.trans (yN U (qe.aaO (s:=(mr s).2.1) U.id.1 (Gp Q)) _ λhw=>.inr ⟨s,by rw[hc],Q,?_⟩);unfold kg at hw⊢;split at hw;{exact absurd rfl hw};rename_i g;rw[af g]};exact V};split;{rename_i hc;rw[hc]at V⊢;exact V.trans (zq U i s).1};split;{rename_i hc;rw[hc]at V⊢;exact V.trans (UQ r1 i s)};split;{unfold sT;split;{obtain⟨a,b,_,_,e⟩:=nR r1 (((s.getD 0 0).toNat:Int),((s.getD 1 0).toNat:Int),s.drop 2);exact V.trans (xJ.alike _ _ a b λj=>(e j).2.1)};exact V};exact V}
 refine⟨xQ,λp y hy=> ?_⟩;cases m1 p with
 |none h=>rw[h]at hy;simp at hy
 |link s _ _ _ h=>
  rw[h]at hy;obtain⟨u,rfl⟩:=tZ hy;exact tR _ u fF fF fF
 |K5 a b s _ _ _ _ h=>
  rw[h]at hy;rw[az.1 hy];exact tR _ _ fF fF fF
 |heard s hx hp A Q hb mT E h=>
  rw[h]at hy;rw[az.1 hy];have hv:qq (ig s).1 (ig s).2.1 (ig s).2.2.1=0:=rK (by rw[<-Q]);refine⟨λu e _=> ?_,λu e=>absurd (aH e).1 fF⟩;have hu:u=tI (ig s).1 (ig s).2.1 (ig s).2.2.1:=by
   obtain e|e:=e;{exact absurd (aH e).1 fF};{exact(aH e).2.symm}
  rw[hu,pC _ _ _ hv];have ht:kP r i x=kj r i s:=by
   rw[hx];show r.take i 83 s=_;rw[mZ,uW i s fF,af (by rw[A];simp)];unfold nL;rw[af fF,ag rfl]
  rw[ht]at h⊢;rw[hp]at h;exact(zq H i s).2 _ (by rw[h];exact az.2 rfl) h Q E mT hb
def US(hE:JR r)(h:Own r)(H:nh r)(hs:nU B r)(hB:B<1000000)(hi:i<3)(hn:r.n=3):xJ r (r.jZ i) i ν/\∀p,∀y∈kh ((r.jZ i).P p),zQ (r.jZ i) y:=by
 have ha:=nH r i;have E:xJ r (j6 r i) i ν:=xJ.alike _ _ rfl rfl λj=>(ha j).2;have V:=H.j6 i
 have Dz:(jP ((j6 r i).P i).pe).who≠0->(jP ((j6 r i).P i).pe).who=((j6 r i).P i).pe.who:=λhw=>by
  unfold jP at hw⊢;split at hw;{exact absurd rfl hw};rename_i g;rw[af g]
 have xQ:xJ r (r.jZ i) i ν:=by
  rw[mO];split;{exact E.trans (yN V (qe.nobody V.id.1) _ λh=>absurd rfl h)};have hp:=qe.tick V.id.1 (V.pe i (by show i<r.n;omega));obtain⟨t1,t2,_,_,t5⟩:=rD ((j6 r i).meet i (jP ((j6 r i).P i).pe)) i;exact(E.trans (yN V hp _ λhw=>.inl (Dz hw))).trans (xJ.alike _ _ t1 t2 λj=>(t5 j).2.1)
 refine⟨xQ,λp y hy=> ?_⟩;obtain⟨C,c1,c2,_⟩:=CX h H hs hB hi hn;obtain⟨e1,e2⟩:=zk hE i;by_cases A:p=i
 ·subst A;rw[e2]at hy;obtain g|g:=aA.1 hy;{obtain⟨u,rfl⟩:=tZ g;exact tR _ u fF fF fF};split at g
  ·rename_i h9;obtain g|g:=aS.1 g;{rw[g];refine⟨λu e=> ?_,λu e Q=> ?_⟩;{obtain e|e:=e<;>exact absurd (aH e).1 fF};rw[<-(aH e).2]at Q⊢;have qo:=H.id;have J:(r.jZ p).id=r.id:=(kR.jZ r p).id;rw[J];unfold mr at Q⊢;split at Q;{rename_i hh;rw[ag hh];show((kI r.id).toNat:Int)=_;exact nT _ fC fC};exact absurd Q gZ};split at g
   ·obtain⟨q,hq,U⟩:=bh.1 g;unfold ET at U;split at U
    ·rw[az.1 U]
     have hO:(r.jZ p).O p q.1=μ q.2:=by
      have lz:((j6 r p).P p).L.st=9:=by
       unfold j6;rw[mD,ag rfl,uT];exact h9
      rw[mO,af (by rw[lz];simp),(ha p).2];exact zm hq
     have hK:=c1.tie p q.1 q.2 hO;refine⟨λu e _=> ?_,λu e=>absurd (aH e).1 fF⟩
     have hu:u=tI q.1 q.2.1 q.2.2:=by
      obtain e|e:=e;{exact(aH e).2.symm};exact absurd (aH e).1 fF
     rw[hu,pC _ _ _ (c1.val _ _ hK)];exact wI hK
    simp at U
   simp at g
  simp at g
 rw[e1 p A]at hy;simp at hy
def YO(V:nh r)(i:Nat)(up:Bool):xJ r (r.jT i up).1 i ν/\(((r.P i).jT up).2=0->((r.jT i up).1.P i).pe=nobody):=by
 unfold jO.jT;simp only;split;{rename_i h;exact⟨xJ.refl _ _ _,λQ=>absurd Q h⟩}
 have e:((r.P i).jT up).1.m=(r.P i).m/\((r.P i).jT up).1.pe=(r.P i).pe:=by
  unfold kB.jT;generalize mV (r.P i).L (if up=true then 0 else 1)=E;simp only;split;{exact⟨rfl,rfl⟩};rw[(yr _ _).1,(yr _ _).2];exact⟨rfl,rfl⟩
 have k1:nh (r.jW i ((r.P i).jT up).1):=V.jW i _ e.1 λhi=>by rw[e.2];exact V.pe i hi
 have U:xJ r (r.jW i ((r.P i).jT up).1) i ν:=xJ.alike _ _ rfl rfl λj=>by
  rw[mD];split;{rename_i g;rw[g];exact e.2};rfl
 refine⟨U.trans (yN k1 (qe.nobody k1.id.1) _ λh=>absurd rfl h),λ_=> ?_⟩;rw[(lP _ _ _ _).2.2.2,ag rfl]
def nV(a:AN)(c d:Nat):mX:=((a.R (a.e c d).1).P (a.e c d).2).pe
def DS(x:mK):Prop:=x.length<=23/\∀k b s,x=77::k::b::s->b.toNat<=7
def vI {c:UInt8} {s:List UInt8} (h:s.length<=22)(hc:c≠77):DS (c::s):=⟨by simp only[fU];omega,λ_ _ _ e=>absurd (aH e).1 hc⟩
structure EX(a:AN):Prop where
 gate:∀c d,c<a.nc->d<2->(nV a c d).who≠0->(lr a c d).st=9
 far:∀c d,c<a.nc->d<2->(nV a c d).who≠0->(nV a c d).who=((a.e c (1-d)).1:Int)+1
 kn:∀c d,c<a.nc->d<2->∀x∈a.F c d,zQ (a.R (a.e c d).1) x/\DS x
 o:∀c d,c<a.nc->d<2->(nV a c d).both=true->∀y q,(a.R (a.e c d).1).K y=μ q->(a.R (a.e c d).1).O (a.e c d).2 y=ν->zP (a.R (a.e c (1-d)).1).K y q.1 q.2
def zQ.mono {r s:jO} (h:rh r.K s.K)(U:s.id=r.id) {x:mK} (g:zQ r x):zQ s x:=⟨λu e V=>(g.1 u e V).mono h,λu e V=>by rw[U];exact g.2 u e V⟩
def C5(a:AN)(i:Nat)(s:jO)(j:Nat):(a.op i s).R j=if j=i then s.core else a.R j:=rfl
def zR(a:AN)(i:Nat)(s:jO)(c d:Nat):nV (a.op i s) c d=if(a.e c d).1=i then(s.P (a.e c d).2).pe else nV a c d:=by
 unfold nV;rw[Qc,C5];by_cases e:(a.e c d).1=i;{rw[ag e,ag e];rfl};rw[af e,af e]
def EX.op {a:AN} (hB:uU a)(h:EX a) {i:Nat} {s:jO} (qo:s.id=(a.R i).id)(Qn:∀j<a.n,(a.R j).id=(j:Int)+1) {p:Nat} {x:Option mK} (ev:xJ (a.R i) s p x)(UG:∀q,∀y∈kh (s.P q),zQ s y/\DS y)
 (hx:∀y,x=μ y->∃c d,c<a.nc/\d<2/\a.e c (1-d)=(i,p)/\zQ (a.R (a.e c d).1) y)
 (hg:∀c d,c<a.nc->d<2->(a.e c d).1=i->(s.P (a.e c d).2).pe.who≠0->(s.P (a.e c d).2).L.st=9):EX (a.op i s):=by
  have hm:∀j,rh (a.R j).K ((a.op i s).R j).K:=λj=>by
   rw[C5];by_cases e:j=i;{rw[ag e,e];exact ev.k};rw[af e];exact rh.refl _
  have H:∀j,((a.op i s).R j).id=(a.R j).id:=λj=>by
   rw[C5];by_cases e:j=i;{rw[ag e,e];exact qo};rw[af e]
  have U:∀c d,c<a.nc->d<2->a.e c d=(i,p)->∀y,x=μ y->zQ (a.R (a.e c (1-d)).1) y:=λc d hc hd he y hy=>by
   obtain⟨c',d',kY,lL,AO,hk⟩:=hx y hy;have:=hB.ds c' (1-d') c d kY fC hc hd (AO.trans he.symm);have IW:d'=1-d:=fC;rw[this.1,IW]at hk;exact hk
  refine⟨λc d hc hd hw=> ?_,λc d hc hd hw=> ?_,λc d hc hd y hy=> ?_,λc d hc hd u y q E A=> ?_⟩;{rw[zR]at hw;rw[JW];by_cases e:(a.e c d).1=i;{rw[ag e]at hw⊢;exact hg c d hc hd e hw};rw[af e]at hw⊢;exact h.gate c d hc hd hw};{rw[zR]at hw⊢;rw[Qc];by_cases e:(a.e c d).1=i;{rw[ag e]at hw⊢;obtain z|⟨Q,s',V,J,z4⟩:=ev.w _ hw;{rw[z]at hw⊢;have:=h.far c d hc hd;unfold nV at this;rw[e]at this;exact this hw};have:=(U c d hc hd (bq e Q) _ V).2 s' rfl J;rw[<-z4,this];exact Qn _ (hB.en c (1-d) hc fC).1};rw[af e]at hw⊢;exact h.far c d hc hd hw};{rw[Qc];rw[uy]at hy;by_cases e:(a.e c d).1=i;{rw[ag ⟨⟨hc,hd⟩,e⟩]at hy;obtain g|g:=aA.1 hy;{exact⟨(h.kn c d hc hd y g).1.mono (hm _) (H _),(h.kn c d hc hd y g).2⟩};rw[C5,ag e];exact UG _ y g};rw[af (λz=>e z.2)]at hy;exact⟨(h.kn c d hc hd y hy).1.mono (hm _) (H _),(h.kn c d hc hd y hy).2⟩};rw[Qc];rw[Qc]at E A;rw[zR]at u;by_cases e:(a.e c d).1=i
  ·rw[ag e]at u;rw[C5,ag e]at E A;obtain⟨Q,V,J⟩|⟨Q,s',V,J,z4,z5⟩:=ev.o _ u y q E A;{have:=h.o c d hc hd;unfold nV at this;rw[e]at this;exact(this Q y q V J).mono (hm _)}
   have hk:zP (a.R (a.e c (1-d)).1).K (ig s').1 (ig s').2.1 (ig s').2.2.1:=by
    obtain V|V:=V;{exact(U c d hc hd (bq e Q) _ V).1 s' (.inl rfl) J};exact(U c d hc hd (bq e Q) _ V).1 s' (.inr rfl) J
   rw[z4]at hk;exact(hk.trans z5).mono (hm _)
  rw[af e]at u;rw[C5,af e]at E A;exact(h.o c d hc hd u y q E A).mono (hm _)
def EX.lost(h:EX a)(hl:yD a b):EX b:=by
 have hs:∀c d,(b.F c d).Sublist (a.F c d):=λc d=>by
  obtain⟨m,E⟩:=hl.2 c d;rw[E];exact jI _ _
 have U:b.nc=a.nc:=by rw[hl.1]
 have V:b.e=a.e:=by rw[hl.1]
 have Q:b.R=a.R:=by rw[hl.1]
 have J:∀c d,nV b c d=nV a c d:=λc d=>by unfold nV;rw[V,Q]
 have H:∀c d,lr b c d=lr a c d:=λc d=>by unfold lr;rw[V,Q]
 refine⟨λc d=> ?_,λc d=> ?_,λc d hc hd x hx=> ?_,λc d=> ?_⟩;{rw[U,J,H];exact h.gate c d};{rw[U,J,V];exact h.far c d};{rw[V,Q];exact h.kn c d (by rw[<-U];exact hc) hd x ((hs c d).mem hx)};rw[U,J,V,Q];exact h.o c d
def EX.less(h:EX a)(U:b.nc=a.nc)(V:b.e=a.e)(Q:b.R=a.R)(hs:∀c d,∀x∈b.F c d,x∈a.F c d):EX b:=by
 have J:∀c d,nV b c d=nV a c d:=λc d=>by unfold nV;rw[V,Q]
 have H:∀c d,lr b c d=lr a c d:=λc d=>by unfold lr;rw[V,Q]
 refine⟨λc d=> ?_,λc d=> ?_,λc d hc hd x hx=> ?_,λc d=> ?_⟩;{rw[U,J,H];exact h.gate c d};{rw[U,J,V];exact h.far c d};{rw[V,Q];exact h.kn c d (by rw[<-U];exact hc) hd x (hs c d x hx)};rw[U,J,V,Q];exact h.o c d
def UT {os:List kS} (h:lg code id os=0):os.length<=8:=by
 unfold lg at h;split at h;{simp at h};split at h;{simp at h};omega
def EY(h:qq own seq es=0):(tI own seq es).length<=16:=by
 have:=(kD h).2.2.1;unfold tI;simp only[fU,zY];omega
def abR(q:mH):∀x∈qg q,DS x:=λx hx=>by
 unfold qg at hx;split at hx
 ·rename_i g
  rw[az.1 hx];have:=UT g.1;refine vI ?_ fF;unfold oj;simp only[fU,uk];omega
 ·simp at hx
def Hk {l:List mH} (h:x∈l.flatMap qg):DS x:=by
 obtain⟨q,_,hx⟩:=bh.1 h;exact abR q x hx
def abS(h:G5 r i x p l)(hx:DS x):∀y∈l,DS y:=λy hy=>by
 cases h with
 |none h=>rw[h]at hy;simp at hy
 |link s _ _ _ h=>rw[h]at hy;exact Hk hy
 |heard s _ _ _ U _ _ _ h=>
  rw[h]at hy;rw[az.1 hy];have hv:qq (ig s).1 (ig s).2.1 (ig s).2.2.1=0:=rK (by rw[<-U]);have:=EY hv;exact vI fC fF
 |K5 a b s hs h9 h1 hl h=>
  rw[h]at hy;rw[az.1 hy];refine⟨by simp only[fU];omega,λk c u e=> ?_⟩;have V:=(aH (aH (aH e).2).2).1;have hb:=hx.2 a b s hs;rw[<-V];have:=nT ((b.toNat:Int)-1) fC (by have:=b.toNat_lt;omega);omega
def abT(u:JR r)(J:Own (r.jZ i)):∀p,∀y∈kh ((r.jZ i).P p),DS y:=λp y hy=>by
 obtain⟨H,E⟩:=zk u i;by_cases Q:p=i
 ·subst Q;rw[E]at hy;obtain g|g:=aA.1 hy;{exact Hk g}
  ·split at g
   ·rename_i A
    obtain g|g:=aS.1 g;{rw[g];exact vI gZ fF}
    ·split at g
     ·obtain⟨q,hq,V⟩:=bh.1 g;unfold ET at V;split at V
      ·rw[az.1 V];have lz:((j6 r p).P p).L.st=9:=by
        unfold j6;rw[mD,ag rfl,uT];exact A
       have U:(r.jZ p).O p q.1=μ q.2:=by
        rw[mO,af (by rw[lz];simp),(nH r p p).2];exact zm hq
       have:=EY (J.val _ _ (J.tie p q.1 q.2 U));exact vI fC fF
      ·simp at V
     ·simp at g
   ·simp at g
 ·rw[H p Q]at hy;simp at hy
def EX.pv {a:AN} (H:uU a)(E:Norm a)(h:EX a) {B N:Nat} (A:xH B N a) {c d:Nat} (hc:c<a.nc)(hd:d<2)(up:Bool)(U:(mV (lr a c d) (if up=true then 0 else 1)).2.2=0):EX (a.pv c d up):=by
 obtain⟨hi,hp⟩:=H.en c d hc hd;obtain⟨a1,a2,a3,a4,a5⟩:=A.r _ hi;obtain⟨ev,pX⟩:=YO a2 (a.e c d).2 up;obtain⟨e1,e2,J⟩:=K6 (E.emp (a.e c d).1) (a.e c d).2 up U;have Q:=RP (E.emp (a.e c d).1) (a.e c d).2 up
 have V:∀q,(((a.R (a.e c d).1).jT (a.e c d).2 up).1.P q).pe=if q=(a.e c d).2 then nobody else((a.R (a.e c d).1).P q).pe:=λq=>by
  rw[J,(lP _ _ _ _).2.2.2];by_cases g:q=(a.e c d).2;{rw[ag g,ag g]};rw[af g,af g,mD,af g]
 have hL:∀q,q≠(a.e c d).2->(((a.R (a.e c d).1).jT (a.e c d).2 up).1.P q).L=((a.R (a.e c d).1).P q).L:=λq Q=>by
  rw[J,(lP _ _ _ _).2.1,mD,af Q]
 refine h.op H (K7 _ _ _).1 (λj hj=>(A.r j hj).2.2.2.1) ev (λq y hy=> ?_) (λy hy=>absurd hy gZ) λc' d' kY lL he hw=> ?_;{obtain⟨u,rfl⟩:=Q q y hy;refine⟨tR _ u fF fF fF,?_⟩;by_cases g:q=(a.e c d).2;{rw[g,e2]at hy;exact Hk hy};rw[e1 q g]at hy;simp at hy};by_cases g:(a.e c' d').2=(a.e c d).2;{rw[g,V,ag rfl]at hw;exact absurd rfl hw};rw[V,af g]at hw;rw[hL _ g];have:=h.gate c' d' kY lL;unfold nV lr at this;rw[he]at this;exact this hw
def EX.jT {a:AN} (hB:uU a)(hN:Norm a)(h:EX a) {B N:Nat} (H:xH B N a)(hl:N<1000000) {c:Nat} (hc:c<a.nc)(up:Bool)(J:∀d<2,(mV (lr a c d) (if up=true then 0 else 1)).2.2=0):EX (a.jT c up):=by
 obtain⟨b,V⟩:=fH ((({a with jU:=kK a.jU c up}:AN).mN c 0 []).mN c 1 []);have A:uU b:=hB.same (by rw[<-V];rfl) (by rw[<-V];rfl) (by rw[<-V];rfl);have u:Norm b:=by rw[<-V];exact hN
 have E:c<b.nc:=by rw[<-V];exact hc
 have SQ:∀c' d',lr b c' d'=lr a c' d':=λc' d'=>by rw[<-V];rfl
 have yW:EX b:=h.less (by rw[<-V];rfl) (by rw[<-V];rfl) (by rw[<-V];rfl) λx f y hy=>by
  rw[<-V]at hy;have U:y∈(if x=c/\f=1 then []else if x=c/\f=0 then []else a.F x f):=hy;split at U;{simp at U};split at U;{simp at U};exact U
 have Q:∃C,xH C N b:=by
  have w1:=ES {a with jU:=kK a.jU c up} sw c 0;have w2:=ES (({a with jU:=kK a.jU c up}:AN).mN c 0 []) sw c 1;have w3:=H.b;rw[V]at w2;have e1:({a with jU:=kK a.jU c up}:AN).W sw=a.W sw:=rfl;refine⟨B,by rw[<-V];exact H.r,λx f hx hf y hy=> ?_,?_,H.one,by rw[<-V];exact H.ms⟩;{rw[<-V]at hy hx;have U:y∈(if x=c/\f=1 then []else if x=c/\f=0 then []else a.F x f):=hy;split at U;{simp at U};split at U;{simp at U};exact H.f x f hx hf y U};have U:sm (λi=>tE (b.R i)) (List.range b.n)=sm (λi=>tE (a.R i)) (List.range a.n):=by rw[<-V];rfl
  omega
 obtain⟨C,Q⟩:=Q;have f0:=yM A u E (by decide:0<2) up (by rw[SQ];exact J 0 fF);have h1:=yW.pv A u Q E (by decide:0<2) up (by rw[SQ];exact J 0 fF);obtain⟨D,hO1⟩:=CY A u Q hl E (by decide:0<2) up;have k01:=(f0 c 1 E fF).1 fC;have h2:=h1.pv (a:=b.pv c 0 up) (A.same rfl rfl rfl) (tD u _ _) hO1 E (by decide:1<2) up (by rw[k01.1,SQ];exact J 1 fF);unfold AN.jT;rw[V];exact h2
def ot.adt(s:ot a T S b)(H:uU a)(E:Norm a)(U:xH B N a)(hl:N<1000000) {X:Marks} (hX:tF X t a)(h:EX a):EX b:=by
 have Qn:∀j<a.n,(a.R j).id=(j:Int)+1:=λj hj=>(U.r j hj).2.2.2.1;have hBl:=U.b
 have J:∀c d,c<a.nc->d<2->a.jU c=true->P7 ((a.R (a.e c d).1).P (a.e c d).2):=λc d hc hd hi=>by
  have p:=hX.vN hc hd hi;have h6:=p.lu;have h9:=p.l.st;refine⟨?_,h.gate c d hc hd⟩;show wE (lr a c d).st=true;unfold wE;simp only[gq,beq_iff_eq,jo,decide_eq_true_eq];omega
 have sS:∀c d,c<a.nc->d<2->rb (a.jU c) ((a.R (a.e c d).1).P (a.e c d).2):=λc d hc hd=>by
  cases hi:a.jU c;{exact⟨by rw[af gZ];exact(hX.dn c hc hi d hd).2.1,h.gate c d hc hd⟩};exact rb.up.2 (J c d hc hd hi)
 cases s with
 |lost hl=>exact h.lost hl
 |tick i p hi hp=>
  obtain⟨a1,a2,a3,a4,a5⟩:=U.r i hi;obtain⟨ev,hk⟩:=US (E.emp i) a1 a2 a3 fC hp a5;obtain⟨C,c1,_⟩:=CX a1 a2 a3 fC hp a5;have jR:=abT (E.emp i) c1;refine h.op H (kR.jZ (a.R i) p).id Qn ev (λq y hy=>⟨hk q y hy,jR q y hy⟩) (λy hy=>absurd hy gZ) λc d hc hd he hw=> ?_;have hE:=sS c d hc hd;rw[he]at hE;by_cases e:(a.e c d).2=p;{rw[e]at hE hw⊢;exact(JG p hE).1.gate hw}
  ·have hLq:(((a.R i).jZ p).P (a.e c d).2).L=((a.R i).P (a.e c d).2).L:=by rw[C4,af e]
   have hPq:(((a.R i).jZ p).P (a.e c d).2).pe=((a.R i).P (a.e c d).2).pe:=by
    rw[mO];split;{rw[(lP _ _ _ _).2.2.2,af e];exact(nH _ _ _).2};{rw[((rD _ _).2.2.2.2 _).2.1,(lP _ _ _ _).2.2.2,af e];exact(nH _ _ _).2}
   rw[hLq];rw[hPq]at hw;exact hE.gate hw
 |pop c d x l hc hd hF=>
  obtain⟨hi,hp⟩:=H.en c (1-d) hc fC;obtain⟨a1,a2,a3,a4,a5⟩:=U.r _ hi;have YP:x∈a.F c d:=by rw[hF];simp
  have mF:=hX.AF hc hd YP;obtain⟨ev,hk⟩:=UR (E.emp (a.e c (1-d)).1) a2 (a.e c (1-d)).2 x;obtain⟨m1,_⟩:=r8 (E.emp (a.e c (1-d)).1) (a.e c (1-d)).2 x;have xR:EX (a.mN c d l):=h.less rfl rfl rfl λy f z hz=>by
   rw[td]at hz;split at hz;{rename_i e;rw[e.1,e.2,hF];simp[hz]};{exact hz}
  unfold AN.pop;refine xR.op (a:=a.mN c d l) (H.same rfl rfl rfl) (NC a2 _ x).2.1 Qn ev (λq y hy=>⟨hk q y hy,abS (m1 q) (h.kn c d hc hd x YP).2 y hy⟩) (λy hy=>⟨c,d,hc,hd,rfl,?_⟩) λc' d' kY V he hw=> ?_;{injection hy with hy;rw[<-hy];exact(h.kn c d hc hd x YP).1}
  ·have hG:=JF (r:=a.R (a.e c (1-d)).1) (a.e c (1-d)).2;cases x with
   |nil=>
    have:=h.gate c' d' kY V;unfold nV lr at this;rw[show(a.e c' d').1=(a.e c (1-d)).1 from he]at this;exact this hw
   |cons k u=>
    obtain⟨g1,g2⟩:=hG k u (J c (1-d) hc fC mF);by_cases e:(a.e c' d').2=(a.e c (1-d)).2;{have e':((a.mN c d l).e c' d').2=(a.e c (1-d)).2:=e;rw[e']at hw⊢;exact g1.2 hw}
    ·obtain⟨z1,z2⟩:=g2 _ e;have:=h.gate c' d' kY V;unfold nV lr at this;rw[show(a.e c' d').1=(a.e c (1-d)).1 from he]at this;have Xq:(((a.R (a.e c (1-d)).1).take (a.e c (1-d)).2 k u).P (a.e c' d').2).pe.who≠0:=hw;rw[z2]at Xq;show(((a.R (a.e c (1-d)).1).take (a.e c (1-d)).2 k u).P (a.e c' d').2).L.st=9;rw[z1];exact this Xq
 |send i t tx hi ht1 ht6 hlen=>
  obtain⟨s1,s2,s3,s4,s5⟩:=nR (a.R i) (t,8,tx);obtain⟨j,g1,g2⟩:=zj (E.emp i) (t,8,tx);refine h.op H s3 Qn (xJ.alike 0 ν s1 s2 λj=>(s5 j).2.1) (λq y hy=> ?_) (λy hy=>absurd hy gZ) λc d hc hd he hw=> ?_;{by_cases e:q=j;{subst e;obtain g|⟨_,g⟩:=g2;{rw[g]at hy;simp at hy};{rw[g]at hy;rw[az.1 hy];refine⟨tR _ _ fF fF fF,by simp only[fU];omega,λk b u e=> ?_⟩;rw[<-(aH (aH (aH e).2).2).1];show(kI ((8:Int)-1)).toNat<=7;decide}};{rw[g1 q e]at hy;simp at hy}}
  ·rw[(s5 _).2.1]at hw;rw[(s5 _).2.2];have:=h.gate c d hc hd;unfold nV lr at this;rw[he]at this;exact this hw
 |jT c hc hi _ _=>exact h.jT H E U hl hc true λd hd=>(FY (hX.dn c hc hi d hd).2.1).1
 |draw c hc hi=>exact h.jT H E U hl hc false λd hd=>(vG (J c d hc hd hi).1).1
 |anew i m hi hd=>
  obtain⟨b,A⟩:=fH (({a with R:=kK a.R i (kZ ((i:Int)+1) 3 (a.ms i)),ib:=kK a.ib i ((a.ib i).take m)}:AN));rw[A];have e1:b.nc=a.nc:=by rw[<-A]
  have e3:b.e=a.e:=by rw[<-A]
  have e4:b.F=a.F:=by rw[<-A]
  have hR:∀j,b.R j=if j=i then kZ ((i:Int)+1) 3 (a.ms i)else a.R j:=λj=>by rw[<-A];rfl
  have pX:∀c d,nV b c d=if(a.e c d).1=i then nobody else nV a c d:=λc d=>by
   unfold nV;rw[e3,hR];by_cases e:(a.e c d).1=i;{rw[ag e,ag e];rfl};{rw[af e,af e]}
  have qV:∀c d,(a.e c d).1≠i->lr b c d=lr a c d:=λc d e=>by unfold lr;rw[e3,hR,af e]
  have mT:∀c d,c<a.nc->d<2->(a.e c (1-d)).1=i->(nV a c d).both=false:=λc d hc V e=>by
   have mF:=(hd c (1-d) hc fC e).1;have lz:=(hX.dn c hc mF d V).2.1;have hw:(nV a c d).who=0:=by
    by_cases g:(nV a c d).who=0;{exact g};{have:=h.gate c d hc V g;omega}
   have hx:=H.en c d hc V;have hp:=(U.r _ hx.1).2.1.pe (a.e c d).2 (by rw[(U.r _ hx.1).2.2.2.2];exact hx.2);cases A:(nV a c d).both;{rfl};{have:=hp.both A;unfold nV at hw;omega}
  refine⟨λc d hc V hw=> ?_,λc d hc V hw=> ?_,λc d hc V x hx=> ?_,λc d hc V Q y q h1 h2=> ?_⟩;{rw[e1]at hc;rw[pX]at hw;by_cases e:(a.e c d).1=i;{rw[ag e]at hw;exact absurd rfl hw};{rw[af e]at hw;rw[qV c d e];exact h.gate c d hc V hw}};{rw[e1]at hc;rw[pX]at hw⊢;rw[e3];by_cases e:(a.e c d).1=i;{rw[ag e]at hw;exact absurd rfl hw};{rw[af e]at hw⊢;exact h.far c d hc V hw}};{rw[e1]at hc;rw[e4]at hx;rw[e3];by_cases e:(a.e c d).1=i;{obtain⟨_,f0,f1⟩:=hd c d hc V e;have:d=0 \/d=1:=fC;obtain rfl|rfl:=this;{rw[f0]at hx;simp at hx};{rw[f1]at hx;simp at hx}};{rw[hR,af e];exact h.kn c d hc V x hx}};{rw[e1]at hc;rw[pX]at Q;rw[e3]at h1 h2⊢;by_cases e:(a.e c d).1=i;{rw[ag e]at Q;exact absurd Q (by simp[nobody])};{rw[af e]at Q;rw[hR,af e]at h1 h2;by_cases e2:(a.e c (1-d)).1=i;{rw[mT c d hc V e2]at Q;exact absurd Q gZ};{rw[hR,af e2];exact h.o c d hc V Q y q h1 h2}}}
structure Inv(N:Nat)(t:Nat×Nat->Nat)(a:AN):Prop where
 rN:uU a
 nrm:Norm a
 own:∃B,xH B N a
 lk:∃X,tF X t a
 fl:EX a
def Inv.step(s:ot a T S b)(h:Inv N t a)(hl:N<1000000)(Q:∀x,t x<=126):Inv (N+8*T.length) (su t T) b:=by
 obtain⟨B,V⟩:=h.own;obtain⟨X,U⟩:=h.lk;exact⟨h.rN.same s.same.1 s.same.2.1 s.same.2.2.1,s.norm h.nrm,s.own h.rN h.nrm V hl,s.aju h.rN h.nrm U Q,s.adt h.rN h.nrm V hl U h.fl⟩
def Inv.path(s:lh a T S b)(h:Inv N t a)(hl:N+8*T.length<1000000)(V:∀x,su t T x<=126):Inv (N+8*T.length) (su t T) b:=by
 induction s with|nil=>rw[qC];exact h|snoc p s ih=>rw[DR]at V⊢;rw[aG]at hl⊢;have U:=ih fC λx=>au (ct _ _) (V x);have Q:=U.step s fC λx=>au (ct _ _) (V x);have e:∀x y:Nat,N+8*(x+y)=N+8*x+8*y:=λx y=>fC;rw[e];exact Q
def xH.mono {M:Nat} (h:xH B N a)(V:N<=M):xH B M a:=⟨h.r,h.f,au h.b V,h.one,h.ms⟩
def Inv.mono {N M:Nat} {t u:Nat×Nat->Nat} {a:AN} (h:Inv N t a)(U:N<=M)(V:∀x,t x<=u x):Inv M u a:=by
 obtain⟨B,Q⟩:=h.own;obtain⟨X,J⟩:=h.lk;exact⟨h.rN,h.nrm,⟨B,Q.mono U⟩,⟨X,J.mono V⟩,h.fl⟩
def Inv.act(hF:kF y)(Q:GN y)(E:ll y D 0)(U:D<=800000000)(h:Inv N (λ_=>k) (jn y))(hl:N+144<1000000)(J:k+1<=126)(v:AV):Inv (N+144) (λ_=>k+1) (jn (uv y v)):=by
 obtain⟨T,V,H⟩:=Nz hF Q E U v;have hlen:=V.len;exact(h.path H fC λx=>au (oy V.nd k x) J).mono fC (oy V.nd k)
def Deep(t:Nat×Nat->Nat)(a:AN)(D:Nat->Nat->Nat):Prop:=∃X,tF X t a/\∀c d,c<a.nc->d<2->∀x∈a.F c d,zC (X c d) x<=D c d
def abU(X:Int->Bool)(x:mK):1<=zC X x:=by
 unfold zC;cases DP 1 x with|some i=>simp only;split<;>decide|none=>simp only;split<;>omega
def Ax.deep(h:Ax c d l a b)(A:uU a)(u:Norm a)(ht:∀x,t x<=127) {X:Marks} (hX:tF X t a)(hc:c<a.nc)(hd:d<2)(rest:List mK)(hF:a.F c d=l++rest)(k:Nat)(hk:∀x∈l,zC (X c d) x<=k+1):
 ∃Y,tF Y t b/\∀c' d',c'<a.nc->d'<2->∃em,NP X Y a b c' d' (if c'=c/\d'=d then rest else a.F c' d') em/\∀y∈em,zC (Y c' d') y<=k:=by
  induction h generalizing X rest with
  |nil a=>
   refine⟨X,hX,λc' d' _ _=>⟨[],⟨?_,λ_ _=>⟨rfl,rfl⟩⟩,λ_ h=>by simp at h⟩⟩;rw[aF];split;{rename_i e;rw[e.1,e.2,hF];rfl}
   ·rfl
  | @cons a b x l r h1 h2 h3 h4 ih=>
    have J:r=l++rest:=by rw[hF]at h3;exact(aH h3).2.symm
    obtain⟨Y,hY,pp⟩:=hX.pop A u ht hc hd h3;have vt:(a.pop c d x r).nc=a.nc:=rfl;obtain⟨U,V,de0⟩:=pp.fl c d hc hd;rw[ag ⟨rfl,rfl⟩]at V;have hx:=hk x gZ;have JM:(a.pop c d x r).F c d=l++(rest++U):=by rw[V.f,J,aK]
    obtain⟨Z,hZ,q⟩:=ih (A.same rfl rfl rfl) (tD (a:=a.mN c d r) u _ _) hY hc (rest++U) JM λy hy=>by
     rw[(V.o y (by rw[J];simp[hy])).1];exact hk y (by simp[hy])
    refine⟨Z,hZ,λc' d' kY lL=> ?_⟩;obtain⟨H,f1,g1⟩:=q c' d' kY lL;obtain⟨Q,f2,E⟩:=pp.fl c' d' kY lL;by_cases e:c'=c/\d'=d
    ·rw[ag e]at f1 f2⊢;obtain⟨z1,z2⟩:=e;subst z1 z2;have he:Q=U:=by
      have:=f2.f.symm.trans V.f;exact List.append_cancel_left this
     subst he;refine⟨Q++H,⟨by rw[f1.f,aK],λy hy=> ?_⟩,λy hy=> ?_⟩;{have o1:=f1.o y (by simp[hy]);have o2:=f2.o y (by rw[J];simp[hy]);exact⟨o1.1.trans o2.1,o1.2.trans o2.2⟩};{obtain g|g:=aA.1 hy;{rw[(f1.o y (by simp[g])).1];have:=E y g;omega};{exact g1 y g}}
    ·rw[af e]at f1 f2⊢;refine⟨Q++H,⟨by rw[f1.f,f2.f,aK],λy hy=> ?_⟩,λy hy=> ?_⟩;{have o1:=f1.o y (by rw[f2.f];simp[hy]);have o2:=f2.o y hy;exact⟨o1.1.trans o2.1,o1.2.trans o2.2⟩};{obtain g|g:=aA.1 hy;{rw[(f1.o y (by rw[f2.f];simp[g])).1];have:=E y g;omega};{exact g1 y g}}
def Deep.lost {t:Nat×Nat->Nat} {a b:AN} {D:Nat->Nat->Nat} (h:Deep t a D)(hl:yD a b):Deep t b D:=by
 obtain⟨X,V,U⟩:=h;refine⟨X,V.lost hl,λc d hc hd x hx=>U c d (by rw[hl.1]at hc;exact hc) hd x ?_⟩;obtain⟨m,Q⟩:=hl.2 c d;rw[Q]at hx;exact dM hx
structure Full(y:jQ)(c d:Nat)(y':jQ):Prop where
 ps:Ax c d ((jn y).F c d) (jn y) (jn (y.ky c d ((y.C c).on d).length))/\yD (jn (y.ky c d ((y.C c).on d).length)) (jn y')/\(Room (y.ky c d ((y.C c).on d).length)->jn y'=jn (y.ky c d ((y.C c).on d).length))
 rv:∀x f,x<y.nc->f<2->lq (y.ky c d ((y.C c).on d).length) x f=(if x=c/\f=d then ny else lq y x f)/\((y.ky c d ((y.C c).on d).length).C x).on f=if x=c/\f=d then []else(y.C x).on f
 rd:∀x f,x<y.nc->f<2->lq y' x f=if x=c/\f=d then ny else lq y x f
 on:∀x f,x<y.nc->f<2->∃ps:List mK,(∀p∈ps,zO p)/\(y'.C x).on f=(if x=c/\f=d then []else(y.C x).on f)++ps.flatMap Plain.mW
def C6 {y1:jQ} (A:kF y1)(x f:Nat)(hx:x<y1.nc)(hf:f<2):lq y1.gather x f=lq y1 x f/\∃ps:List mK,(∀p∈ps,zO p)/\(y1.gather.C x).on f=(y1.C x).on f++ps.flatMap Plain.mW:=by
 have V:∀k≤y1.nc,(∀x f,x<y1.nc->f<2->lq (y1.lH k) x f=lq y1 x f/\∃ps:List mK,(∀p∈ps,zO p)/\((y1.lH k).C x).on f=(y1.C x).on f++ps.flatMap Plain.mW):=λk=>by
  induction k with
  |zero=>intro _ x f _ _;exact⟨rfl,[],λ_ h=>by simp at h,by show(y1.C x).on f=_;simp⟩
  |succ k ih=>
   intro hk x f hx hf;have one:∀(z:jQ) (i:Nat),kF z->i<2->z.nc=y1.nc->lq (z.mY k i) x f=lq z x f/\∃ps:List mK,(∀p∈ps,zO p)/\((z.mY k i).C x).on f=(z.C x).on f++ps.flatMap Plain.mW:=λz i hz hi RE=>by
    refine⟨?_,?_⟩;{unfold lq;rw[((oJ z k i).2.2.2.2 x).1,CK];split<;>rfl}
    ·rw[EO];split
     ·rename_i e
      obtain⟨ps,E⟩:=hz.o ((z.C k).e i).1 ((z.C k).e i).2;exact⟨ps,E.2,by rw[e.1,e.2.1,E.1]⟩
     ·exact⟨[],λ_ h=>by simp at h,gZ⟩
   have J:=kF.lH A k fC;have U:(y1.lH k).nc=y1.nc:=(lI y1 k).2.1;obtain⟨i1,p1,i2,i3⟩:=ih fC x f hx hf;obtain⟨u,p2,a2,a3⟩:=one (y1.lH k) 0 J fF U;obtain⟨b1,p3,b2,b3⟩:=one ((y1.lH k).mY k 0) 1 (J.mY k 0 (by rw[U];omega)) fF U;refine⟨b1.trans (u.trans i1),p1++p2++p3,λp hp=> ?_,?_⟩;{obtain g|g:=aA.1 hp;{exact(aA.1 g).elim (i2 p) (a2 p)};{exact b2 p g}};{show(((y1.lH k).mY k 0).mY k 1|>.C x).on f=_;rw[b3,a3,i3];simp}
 have H:∀x f,lq ((y1.lH y1.nc).oM y1.n) x f=lq (y1.lH y1.nc) x f/\(((y1.lH y1.nc).oM y1.n).C x).on f=((y1.lH y1.nc).C x).on f:=λx f=>by
  obtain⟨_,_,_,Q⟩:=pP (y1.lH y1.nc) y1.n;refine⟨?_,by rw[Q]⟩;unfold lq;rw[Q,(yx (y1.lH y1.nc) _ y1.n).1];split<;>rfl
 unfold jQ.gather;rw[(H x f).1,(H x f).2];exact V y1.nc (aj _) x f hx hf
def xj(hF:kF y)(jR:ll y D 0)(hD:D<=900000000)(hc:c<y.nc)(hd:d<2):Full y c d (y.j7 c d 2000).1:=by
 have hE:=jR.pI;have E:=jR.ol c d hc hd
 have he:(y.j7 c d 2000).1=(y.ky c d ((y.C c).on d).length).gather:=by
  unfold jQ.j7;rw[af fC];show(y.ky ((c:Int)).toNat ((d:Int)).toNat (min (2000:Int).toNat ((y.C ((c:Int)).toNat).on ((d:Int)).toNat).length)).gather=_;rw[bI,bI,Nat.min_eq_right (by show _<=2000;exact E)]
 rw[he];obtain⟨l,rest,h1,h2,h3⟩:=GX hF hE c d ((y.C c).on d).length hc hd;have hq:=hF.q c d hc hd;have ho:=jR.Qd c d hc hd;have Yp:vr y c d=(l5 (lq y c d) ((y.C c).on d)).1:=by unfold vr;rw[kx ho,aF]
 have hl:l=(l5 (lq y c d) ((y.C c).on d)).1:=by rw[h2,cM]
 have hr:rest=[] :=by
  rw[Yp,<-hl]at h1;have:=congrArg List.length h1;rw[aG]at this;exact aQ fC
 have H:(jn y).F c d=l:=by
  show(if c<y.nc/\d<2 then vr y c d else [])=_;rw[ag ⟨hc,hd⟩,Yp,hl]
 have hp:=afn l [] (jn y) c d (r7 y) hc hd (by rw[H,aF]);have mI:=jR.ky (q:=((y.C c).on d).length) fC hc hd;have A:=hF.ky hE c d ((y.C c).on d).length hc hd;have hg:=pJ A mI.pI;obtain⟨U,V⟩:=fH (y.ky c d ((y.C c).on d).length);obtain⟨s1,s2,s3,s4⟩:=tN y c d ((y.C c).on d).length
 have Q:∀x e,(U.C x).on e=if x=c/\e=d then []else(y.C x).on e:=λx e=>by
  rw[<-V];show((if x=c then {y.C c with on:=kK (y.C c).on d (((y.C c).on d).drop ((y.C c).on d).length)}else y.C x):sE).on e=_;by_cases ex:x=c;{rw[ag ex];show kK (y.C c).on d _ e=_;by_cases ed:e=d;{rw[ed,jd,ag ⟨ex,rfl⟩,List.drop_length]};rw[iw _ _ ed,af (λh=>ed h.2),ex]};rw[af ex,af (λh=>ex h.1)]
 have J:∀x f,x<y.nc->f<2->lq U x f=if x=c/\f=d then ny else lq y x f:=λx f hx hf=>by
  obtain⟨g1,g2,_⟩:=JJ (y.R ((y.C c).e (1-d)).1) ((y.C c).e (1-d)).2 (((y.C c).on d).take ((y.C c).on d).length);have hR:∀j,U.R j=if j=((y.C c).e (1-d)).1 then(y.R ((y.C c).e (1-d)).1).recv ((y.C c).e (1-d)).2 (((y.C c).on d).take ((y.C c).on d).length)else y.R j:=λj=>by rw[<-V];rfl
  unfold lq;rw[show(U.C x).e=(y.C x).e by rw[<-V];exact(s4 x).1,hR];by_cases e:x=c/\f=d;{rw[ag e,e.1,e.2,ag rfl,g1,cM];have:=hq.1;unfold lq at this;rw[this]};rw[af e];by_cases u:((y.C x).e (1-f)).1=((y.C c).e (1-d)).1;{rw[ag u,g2 _ (λe3=> ?_),u];have:=hE.ds x (1-f) c (1-d) hx fC hc fC (bq u e3);exact e ⟨this.1,fC⟩};rw[af u]
 rw[hr]at h3;rw[V]at h3 A mI hg⊢;have oA:U.nc=y.nc:=by rw[<-V];exact s2
 have hp':Ax c d l (jn y) (jn U):=by rw[h3];exact hp
 refine⟨by rw[H,V];exact⟨hp',hg.1,hg.2⟩,λx f hx hf=>by rw[V];exact⟨J x f hx hf,Q x f⟩,λx f hx hf=> ?_,λx f hx hf=> ?_⟩;{rw[(C6 A x f (by rw[oA];exact hx) hf).1];exact J x f hx hf};obtain⟨_,ps,g1,g2⟩:=C6 A x f (by rw[oA];exact hx) hf;exact⟨ps,g1,by rw[g2,Q]⟩
def Full.deep {y y':jQ} {c d:Nat} (h:Full y c d y')(E:uU (jn y))(hc:c<y.nc)(hd:d<2) {t:Nat×Nat->Nat} (ht:∀x,t x<=127) {D:Nat->Nat->Nat} {k:Nat} (hk:∀x f,D x f<=k+1)(H:∀x f,k<=D x f)(g:Deep t (jn y) D):Deep t (jn y') λx f=>if x=c/\f=d then k else D x f:=by
 obtain⟨z,pB⟩:=fH (jn (y.ky c d ((y.C c).on d).length));obtain⟨Q,J,_⟩:=h.ps;rw[pB]at Q J;obtain⟨X,A,V⟩:=g;obtain⟨Y,hY,q⟩:=Q.deep E (r7 y) ht A hc hd [] (by rw[aF]) k λx hx=>au (V c d hc hd x hx) (hk c d);have hz:z.nc=y.nc:=Q.path.same.2.1;refine Deep.lost ⟨Y,hY,λx f hx hf p U=> ?_⟩ J;rw[hz]at hx;obtain⟨em,f1,g1⟩:=q x f hx hf;rw[f1.f]at U;(show zC (Y x f) p<=if x=c/\f=d then k else D x f);by_cases e:x=c/\f=d;{rw[ag e];rw[ag e]at U;exact g1 p (by simpa using U)};rw[af e];rw[af e]at U f1;obtain u|u:=aA.1 U;{rw[(f1.o p u).1];exact V x f hx hf p u};exact au (g1 p u) (H x f)
def vT(y:jQ)(x f:Nat):Prop:=lq y x f=ny/\∃ps,Frames ((y.C x).on f) ps
def Full.rest {y':jQ} (h:Full y c d y') {x f:Nat} (hx:x<y.nc)(hf:f<2)(g:(x=c/\f=d) \/vT y x f):vT y' x f:=by
 have J:=h.rd x f hx hf;obtain⟨ps,V,E⟩:=h.on x f hx hf;unfold vT;rw[J,E];by_cases e:x=c/\f=d;{rw[ag e,ag e];exact⟨rfl,ps,rfl,V⟩};rw[af e,af e];obtain⟨g1,qs,U,Q⟩:=g.resolve_left e;exact⟨g1,qs++ps,by rw[U,cO],λp H=>(aA.1 H).elim (Q p) (V p)⟩
def Hl {y:jQ} {Z:Nat} (hF:kF y)(U:ll y Z 0)(J:Z<=890000000) {t:Nat×Nat->Nat} (H:∀x,t x<=127)(k:Nat)(g:Deep t (jn y) λ_ _=>k+1):∀q≤y.nc,Deep t (jn (y.k9 q)) (λx _=>if x<q then k else k+1)/\∀x f,x<q->f<2->vT (y.k9 q) x f
 |0,_=>⟨by simp only[Nat.not_lt_zero,if_false];exact g,λx f h=>fC⟩
 |q+1,hq=>by
  have c9:=U.c9;obtain⟨h1,r1⟩:=Hl hF U J H k g q fC;have f1:=kF.k9 hF U J q fC;have k1:=U.k9 J q fC;have n1:(y.k9 q).nc=y.nc:=(nF y q).2.1;have d1:=xj f1 k1 fC (c:=q) (d:=0) (by rw[n1];omega) fF;have f2:=f1.j7 k1 (q:Int) 0 2000;have k2:=k1.j7 fC (q:Int) 0 2000;have E:((y.k9 q).j7 (q:Int) 0 2000).1.nc=y.nc:=(oN (y.k9 q) (q:Int) 0 2000).2.1.trans n1;have d2:=xj f2 k2 fC (c:=q) (d:=1) (by rw[E];omega) fF;have b1:∀x:Nat,(if x<q then k else k+1)<=k+1/\k<=(if x<q then k else k+1):=λx=>by split<;>exact⟨fC,fC⟩
  have b2:∀x f:Nat,(if x=q/\f=0 then k else if x<q then k else k+1)<=k+1/\k<=(if x=q/\f=0 then k else if x<q then k else k+1):=λx f=>by
   split;{exact⟨fC,fC⟩};{exact b1 x}
  have e1:=d1.deep k1.rN (by rw[n1];omega) fF H (k:=k) (λx _=>(b1 x).1) (λx _=>(b1 x).2) h1;have e2:=d2.deep k2.rN (by rw[E];omega) fF H (k:=k) (λx f=>(b2 x f).1) (λx f=>(b2 x f).2) e1;refine⟨?_,λx f hx hf=> ?_⟩
  ·obtain⟨X,hX,hd⟩:=e2;refine⟨X,hX,λc d hc lL p hp=> ?_⟩;have:=hd c d hc lL p hp;simp only at this;have Q:d=0 \/d=1:=fC;show zC (X c d) p<=if c<q+1 then k else k+1
   by_cases V:c<q;{rw[af fC,af fC,ag V]at this;rw[ag fC];exact this};{by_cases u:c=q;{rw[ag fC];obtain rfl|rfl:=Q;{rw[af fC,ag ⟨u,rfl⟩]at this;exact this};{rw[ag ⟨u,rfl⟩]at this;exact this}};{rw[af fC,af fC,af V]at this;rw[af fC];exact this}}
  ·have A:x<y.nc:=fC;have Q:f=0 \/f=1:=fC;refine d2.rest (by rw[E];exact A) hf ?_;by_cases e:x=q;{obtain rfl|rfl:=Q;{exact .inr (d1.rest (by rw[n1];exact A) hf (.inl ⟨e,rfl⟩))};{exact .inl ⟨e,rfl⟩}};{exact .inr (d1.rest (by rw[n1];exact A) hf (.inr (r1 x f fC hf)))}
def Deep.mono {D E:Nat->Nat->Nat} (h:Deep t a D)(Q:∀c d,c<a.nc->D c d<=E c d):Deep t a E:=by
 obtain⟨X,V,U⟩:=h;exact⟨X,V,λc d hc hd x hx=>au (U c d hc hd x hx) (Q c d hc)⟩
def Hm {y:jQ} {Z:Nat} (hF:kF y)(U:ll y Z 0)(V:Z<=810000000) {t:Nat×Nat->Nat} (J:∀x,t x<=127)(g:Deep t (jn y) λ_ _=>8):∀j≤12,Deep t (jn (y.turns j)) (λ_ _=>8-j)/\(1<=j->∀x f,x<y.nc->f<2->vT (y.turns j) x f)
 |0,_=>⟨g,λh=>fC⟩
 |j+1,hj=>by
  obtain⟨H,_⟩:=Hm hF U V J g j fC;have n1:(y.turns j).nc=y.nc:=(sY y j).2.1;have Q:=Hl (kF.turns hF U V j fC) (U.turns V j fC) fC J (8-j-1) (H.mono λ_ _ _=>fC) y.nc (by rw[n1];exact aj _);have A:((y.turns j).k9 y.nc).nc=y.nc:=(nF (y.turns j) y.nc).2.1.trans n1;refine⟨Q.1.mono λc _ hc=> ?_,λ_ x f hx hf=>Q.2 x f hx hf⟩;have E:c<y.nc:=by rw[<-A];exact hc
  show(if c<y.nc then 8-j-1 else 8-j-1+1)<=8-(j+1);rw[ag E];omega
structure Still(y:jQ):Prop where
 f:∀c d,c<y.nc->d<2->(jn y).F c d=[]
 r:∀c d,c<y.nc->d<2->vT y c d
def EX.deep {X:Marks} (V:tF X t a)(h:EX a):Deep t a λ_ _=>8:=by
 refine⟨X,V,λc d hc hd x hx=> ?_⟩;have U:=(h.kn c d hc hd x hx).2.2;unfold zC;cases DP 1 x with|some i=>simp only;split<;>decide|none=>simp only;split;{decide};{rename_i k b s;have:=U k b s rfl;omega};{decide}
def DT(hF:kF y)(V:ll y Z 0)(J:Z<=800000000)(h:Inv N (λ_=>k) (jn y))(hl:N+144<1000000)(hk:k+1<=126):Still y.round:=by
 have n6:=V.n6;have hp:=Ay hF V J y.n (aj _);obtain⟨H,t2,_⟩:=pZ y.n;have Q:=h.path hp (by rw[t2];omega) λx=>au (oy H k x) hk;obtain⟨X,E⟩:=Q.lk;have hd:=Q.fl.deep E;obtain⟨d1,d2⟩:=Hm (hF.j5 y.n) (V.j5 J y.n n6) fC (λx=>by have:=oy H k x;omega) hd 12 (aj _);have n1:(y.j5 y.n).nc=y.nc:=(qA y y.n).2.1;have n2:y.round.nc=y.nc:=(mC y).2.1;refine⟨λc d hc U=> ?_,λc d hc U=>d2 fF c d (by rw[n1,<-n2];exact hc) U⟩;obtain⟨Y,_,A⟩:=d1;cases u:(jn y.round).F c d with|nil=>rfl|cons x l=>have h3:zC (Y c d) x<=8-12:=A c d hc U x (by show x∈(jn y.round).F c d;rw[u];simp);have h4:=abU (Y c d) x;omega
def qJ:mK->Nat
 |77::_=>1
 |_=>0
def wJ {c:UInt8} (s:List UInt8)(h:c≠77):qJ (c::s)=0:=by
 unfold qJ;split;{rename_i e;exact absurd (aH e).1 h};rfl
def YQ {α:Type} {f g:α->Nat}:∀ {l:List α},(∀x∈l,1<=f x+g x)->l.length<=sm f l+sm g l
 |[],_=>aw _
 |x::l,h=>by
  have:=YQ (l:=l) λy hy=>h y (by simp[hy]);have h1:=h x gZ;show l.length+1<=(f x+sm f l)+(g x+sm g l);omega
def abV(X:Int->Bool)(x:mK):1<=qh X x+qJ x:=by
 unfold qh;cases DP 1 x with|some i=>simp only;split<;>omega|none=>simp only;split;{omega};{show 1<=0+1;omega};{omega}
def adu(a:AN)(hc:c<a.nc)(hd:d<2):sm qJ (a.F c d)<=a.W qJ:=by
 have h1:0+sm qJ (a.F c d)<=a.W qJ:=by
  have:=BG (f:=λ_:Nat×Nat=>0) (g:=λx:Nat×Nat=>sm qJ (a.F x.1 x.2)) (y:=(c,d)) (k:=sm qJ (a.F c d)) (zh a.nc) (qG.2 ⟨hc,hd⟩) λx _=>by
   show 0+(if x=(c,d)then _ else 0)<=sm qJ (a.F x.1 x.2);by_cases e:x=(c,d)
   {subst e;rw[ag rfl];exact dB (aY _)};rw[af e];omega
  have e0:sm (λ_:Nat×Nat=>0) (UB a.nc)=0:=by
   generalize UB a.nc=l;induction l with|nil=>rfl|cons x l ih=>simpa[sm]using ih
  unfold AN.W;omega
 omega
def UU(h:x.length<=23):(Plain.mW x).length<=52:=by
 have h1:=Plain.EB (Plain.nK x);have h2:=Plain.qp x;have h3:=zH x;omega
def Hn:∀ {l:List mK},(∀x∈l,x.length<=23)->(l.flatMap Plain.mW).length<=52*l.length
 |[],_=>aj _
 |x::l,h=>by
  have:=Hn (l:=l) λy hy=>h y (by simp[hy]);have h1:=UU (h x gZ);rw[cF,aG,dh];omega
structure Calm(t:Nat×Nat->Nat)(W:Nat)(a:AN):Prop where
 lk:∃X,tF X t a/\∀c<a.nc,wc X a c<=W
 ml:a.W qJ<=1
def Calm.few(h:Calm t W a)(hc:c<a.nc)(hd:d<2):(a.F c d).length<=W+1/\(a.F c d≠ []->a.jU c=true):=by
 obtain⟨X,U,hw⟩:=h.lk;have h1:=YQ (l:=a.F c d) λx _=>abV (X c d) x;have h2:=adu a hc hd;have h3:=h.ml
 have h4:sm (qh (X c d)) (a.F c d)<=wc X a c:=by
  have:d=0 \/d=1:=fC;unfold wc;obtain rfl|rfl:=this<;>omega
 have h5:=hw c hc;refine⟨fC,λQ=> ?_⟩;cases V:a.F c d with|nil=>exact absurd V Q|cons x l=>exact U.AF hc hd (x:=x) (by rw[V];simp)
def Calm.room {z:jQ} (h:Calm t 34 (jn z))(hF:∀i p,∃ps,Frames ((z.R i).P p).out ps)(U:∀c d,c<z.nc->d<2->vT z c d)(J:EX (jn z)):Room z:=λc d hc hd=>by
 obtain⟨r1,ps,V,Q⟩:=U c d hc hd;obtain⟨qs,q1,q2⟩:=hF ((z.C c).e d).1 ((z.C c).e d).2;have hf:(jn z).F c d=ps++qs:=by
  show(if c<z.nc/\d<2 then vr z c d else [])=_;rw[ag ⟨hc,hd⟩];unfold vr;rw[r1,V,rL ps Q,oO ⟨q1,q2⟩]
 obtain⟨f1,f2⟩:=h.few hc hd;rw[hf]at f1 f2;cases qs with
 |nil=>left;rw[q1];rfl
 |cons x l=>
  right;refine⟨f2 gZ,?_⟩;rw[V,q1,<-aG,<-cO];have:=Hn (l:=ps++x::l) λy hy=>(J.kn c d hc hd y (by rw[hf];exact hy)).2.1;omega
inductive xL:AN->AN->Prop
 |nil (a:AN):xL a a
 |snoc {a b:AN} (c d:Nat) (x:mK) (l:List mK):xL a b->c<b.nc->d<2->b.F c d=x::l->xL a (b.pop c d x l)
def xL.path(h:xL a b):lh a [] [] b:=by
 induction h with|nil=>exact lh.nil a|snoc c d x l _ hc hd hF ih=>exact ih.snoc (ot.pop c d x l hc hd hF)
def xL.trans {c:AN} (h:xL a b)(g:xL b c):xL a c:=by
 induction g with|nil=>exact h|snoc c d x l _ hc hd hF ih=>exact ih.snoc c d x l hc hd hF
def Ax.pps(h:Ax c d l a b):xL a b:=by
 induction h with|nil a=>exact xL.nil a|cons V U Q _ ih=>exact((xL.nil _).snoc _ _ _ _ V U Q).trans ih
def YR(h:G5 r i x p l):sm qJ l<=qJ x:=by
 cases h with
 |none h=>rw[h];exact aw _
 |link s _ _ _ h=>
  rw[h];have:∀l:List mH,sm qJ (l.flatMap qg)=0:=λl=>by
   have e:∀y∈l.flatMap qg,qJ y=0:=λy hy=>by obtain⟨s,rfl⟩:=tZ hy;exact wJ s fF
   rw[uZ (g:=λ_=>0) e];generalize l.flatMap qg=m
   induction m with
   |nil=>rfl
   |cons x l ih=>simpa[sm]using ih
  rw[this];exact aw _
 |heard s _ _ _ _ _ _ _ h=>rw[h];show qJ (65::_)+0<=_;rw[wJ _ fF];exact aw _
 |K5 a b s hx _ _ _ h=>rw[h,hx];exact aj _
def Ho(A:uU a)(u:Norm a)(hc:c<a.nc)(hd:d<2)(hF:a.F c d=x::l):(a.pop c d x l).W qJ<=a.W qJ:=by
 obtain⟨m1,m2⟩:=r8 (u.emp (a.e c (1-d)).1) (a.e c (1-d)).2 x;have E:=Yu (a:=a.mN c d l) (A.same rfl rfl rfl) (a.e c (1-d)).1 (kP (a.R (a.e c (1-d)).1) (a.e c (1-d)).2 x) qJ;have h2:=NA qJ hc hd hF;have U:=λp=>YR (m1 p);obtain⟨r',H⟩:∃r',kP (a.R (a.e c (1-d)).1) (a.e c (1-d)).2 x=r':=⟨_,rfl⟩
 unfold AN.pop;rw[H]at m2 E U⊢
 have h4:sm qJ (kh (r'.P 0))+sm qJ (kh (r'.P 1))+sm qJ (kh (r'.P 2))<=qJ x:=by
  have z:∀p,kh (r'.P p)=[]->sm qJ (kh (r'.P p))=0:=λp h=>by rw[h];rfl
  have a0:=U 0;have a1:=U 1;have a2:=U 2;by_cases Q:kh (r'.P 0)=[]
  ·rw[z 0 Q];by_cases V:kh (r'.P 1)=[]
   {rw[z 1 V];omega}
   have J:kh (r'.P 2)=[] :=by
    by_cases e:kh (r'.P 2)=[]
    {exact e};exact absurd (m2 1 2 V e) fF
   rw[z 2 J];omega
  have V:kh (r'.P 1)=[] :=by
   by_cases e:kh (r'.P 1)=[]
   {exact e};exact absurd (m2 0 1 Q e) fF
  have J:kh (r'.P 2)=[] :=by
   by_cases e:kh (r'.P 2)=[]
   {exact e};exact absurd (m2 0 2 Q e) fF
  rw[z 1 V,z 2 J];omega
 omega
def xL.calm(h:xL a b)(A:uU a)(u:Norm a)(ht:∀x,t x<=127)(hc:Calm t W a):Calm t W b:=by
 induction h with|nil=>exact hc|snoc c d x l p Q J H ih=>obtain⟨⟨X,hX,hw⟩,hm⟩:=ih;have V:=p.path.rN A;have U:=p.path.norm u;obtain⟨Y,hY,pp⟩:=hX.pop V U ht Q J H;exact⟨⟨Y,hY,λc' E=>au (pp.w c' E) (hw c' E)⟩,au (Ho V U Q J H) hm⟩
def R8(X:Int->Bool):∀l:List (Int×PS),sm (qh X) (l.flatMap ET)<=2*l.length
 |[] =>aj _
 |q::l=>by
  have:=R8 X l;rw[cF,rM];have h1:sm (qh X) (ET q)<=2:=by
   unfold ET;split;{show qh X (83::_)+0<=2;unfold qh;rw[zo 1 _ fF];exact aj _};{exact aw _}
  simp only[fU];omega
def Sb(X:Int->Bool)(r:jO)(p:Nat):sm (qh X) (B8 r p)<=13/\sm qJ (B8 r p)=0:=by
 have Q:sm qJ (B8 r p)=0:=by
  have e:∀y∈B8 r p,qJ y=0:=λy hy=>by
   unfold B8 at hy;split at hy;{obtain g|g:=aS.1 hy;{rw[g];exact wJ _ fF};split at g;{obtain⟨q,_,V⟩:=bh.1 g;unfold ET at V;split at V;{rw[az.1 V];exact wJ _ fF};simp at V};simp at g};simp at hy
  rw[uZ (g:=λ_=>0) e];generalize B8 r p=m;induction m with|nil=>rfl|cons x l ih=>simpa[sm]using ih
 refine⟨?_,Q⟩;unfold B8;split
 ·have U:∀s,qh X (72::s)=1:=λs=>by unfold qh;rw[zo 1 s fF];rfl
  show qh X (72::_)+sm (qh X) (if _ then _ else _)<=13;rw[U];split;{have:=R8 X (nu (((j6 r p).meet p (jP (r.P p).pe)).O p));have:=CG (((j6 r p).meet p (jP (r.P p).pe)).O p);omega};show 1+0<=13;omega
 exact aw _
def zg.light(h:zg T a b)(V:uU a)(E:Norm a)(U:∀x,su t T x<=126) {X:Marks} (A:tF X t a)(H:∀c d,c<a.nc->d<2->sm (qh (X c d)) (a.F c d)=0):(∃Y,tF Y (su t T) b/\∀c d,c<a.nc->d<2->sm (qh (Y c d)) (b.F c d)<=17*T.count (a.e c d))/\b.W qJ<=a.W qJ:=by
 induction h with
 |nil=>exact⟨⟨X,by rw[qC];exact A,λc d hc hd=>by rw[H c d hc hd];exact aw _⟩,aj _⟩
 | @snoc T a b i p tk hi hp ih=>
   rw[DR]at U⊢;obtain⟨⟨Y,hY,hs⟩,hm⟩:=ih V E (λx=>au (ct _ _) (U x)) A H;have Q:=tk.path.rN V;have J:=tk.path.norm E;have u:=tk.path.same;obtain⟨Z,hZ,hf⟩:=hY.tick Q J (i:=i) (p:=p) λx=>au (ct _ _) (U x);refine⟨⟨Z,hZ,λc d hc hd=> ?_⟩,?_⟩
   ·have kY:c<b.nc:=by rw[u.2.1];exact hc
    obtain⟨f1,f2⟩:=hf c d kY hd;rw[jJ];have h1:=hs c d hc hd;rw[u.2.2.1]at f1 f2;by_cases e:a.e c d=(i,p)
    ·obtain⟨em,g1,g2⟩:=f2 e;have hw:=g2.w;have UG:sm (qh (Z c d)) em<=4:=by
      obtain g|g:=g1;{rw[g];exact aw _};{rw[g];show qh _ (ox _ _)+0<=4;have hg:=tP V hc hd;unfold qh;split;{split<;>omega};{split<;>omega}}
     have AQ:=(Sb (Z c d) (b.R i) p).1;rw[rM]at hw;have h2:([(i,p)] :List (Nat×Nat)).count (a.e c d)=1:=by rw[e];simp
     rw[h2];omega
    ·have hw:=(f1 e).w;have:sm (qh (Z c d)) [] =0:=rfl;omega
   ·obtain⟨e1,e2⟩:=zk (J.emp i) p;have hw:=Yu Q i ((b.R i).jZ p) qJ;have z:∀q,sm qJ (kh (((b.R i).jZ p).P q))=0:=λq=>by
     by_cases e:q=p
     ·subst e;have e3:kh (((b.R i).jZ q).P q)=(j8 ((b.R i).P q).L).2.flatMap qg++B8 (b.R i) q:=e2;rw[e3,rM,(Sb (λ_=>false) (b.R i) q).2];have e:∀y∈(j8 ((b.R i).P q).L).2.flatMap qg,qJ y=0:=λy hy=>by obtain⟨s,rfl⟩:=tZ hy;exact wJ s fF
      rw[uZ (g:=λ_=>0) e];generalize (j8 ((b.R i).P q).L).2.flatMap qg=m
      induction m with
      |nil=>rfl
      |cons x l ih=>simpa[sm]using ih
     ·rw[e1 q e];rfl
    rw[z,z,z]at hw;omega
def pW(y:jQ):Prop:=∀c d,c<y.nc->d<2->vT y c d
def vU(hF:kF y)(h:pW y):pW y.gather:=λc d hc hd=>by
 have V:c<y.nc:=by rw[<-(mB y).2.1];exact hc
 obtain⟨g1,ps,U,Q⟩:=C6 hF c d V hd;obtain⟨r1,qs,H,E⟩:=h c d V hd;exact⟨g1.trans r1,qs++ps,by rw[Q,H,cO],λp J=>(aA.1 J).elim (E p) (U p)⟩
def DU(h:pW y)(i:Nat)(V:oV (y.R i) r):pW (y.kG i r):=λc d hc hd=>by
 obtain⟨r1,U⟩:=h c d hc hd;refine⟨?_,U⟩;rw[<-r1];show((kK y.R i r ((y.C c).e (1-d)).1).P ((y.C c).e (1-d)).2).rd=((y.R ((y.C c).e (1-d)).1).P ((y.C c).e (1-d)).2).rd;by_cases e:((y.C c).e (1-d)).1=i;{rw[e,jd];exact V.rd _};{rw[iw _ _ e]}
def count_le(h:T.Nodup)(x:Nat×Nat):T.count x<=1:=jK.1 h x
def Hp(h:zg T a b)(V:T.Nodup)(Q:uU a)(J:Norm a)(A:k+1<=126) {X:Marks} (H:tF X (λ_=>k) a)(U:∀c d,c<a.nc->d<2->sm (qh (X c d)) (a.F c d)=0)(u:a.W qJ<=1):Calm (λ_=>k+1) 34 b:=by
 obtain⟨⟨Y,E,hs⟩,hw⟩:=h.light Q J (λx=>au (oy V k x) A) H U;refine⟨⟨Y,E.mono (oy V k),λc hc=> ?_⟩,au hw u⟩;rw[h.path.same.2.1]at hc;have h1:=hs c 0 hc fF;have h2:=hs c 1 hc fF;have c1:=count_le V (a.e c 0);have c2:=count_le V (a.e c 1);unfold wc;omega
def DV {y:jQ} {Z N k:Nat} (hF:kF y)(J:ll y Z 0)(hZ:Z<=800000000)(U:Inv N (λ_=>k) (jn y))(hl:N+144<1000000)(Q:k+1<=126)(A:pW y) {X:Marks} (u:tF X (λ_=>k) (jn y))(H:∀c d,c<y.nc->d<2->sm (qh (X c d)) ((jn y).F c d)=0)(hm:(jn y).W qJ<=1):∀q≤y.n,zg (nJ q) (jn y) (jn (y.j5 q))/\pW (y.j5 q)
 |0,_=>⟨zg.nil _,A⟩
 |q+1,hq=>by
  have n6:=J.n6;obtain⟨E,r1⟩:=DV hF J hZ U hl Q A u H hm q fC;have fz:=kF.j5 hF q;have kz:=J.j5 hZ q fC;have nz:(y.j5 q).n=y.n:=(qA y q).1;obtain⟨z,hz⟩:=fH (y.j5 q);rw[hz]at E r1 fz kz nz;obtain⟨t1,e1,f1⟩:=GZ fz kz fC q fC;have r2:=DU r1 q (oV.j5 (z.R q) (z.R q).n);have V:=E.trans t1;rw[<-CV]at V;obtain⟨nd,len,_⟩:=pZ (q+1);have hc:=Hp V nd U.rN U.nrm Q u H hm;have yW:=(U.path V.path (by rw[len];omega) λx=>au (oy nd k x) Q).fl;have QX:=hc.room f1.o r2 yW;have lz:(y.j5 (q+1))=(z.kG q (z.R q).tick).gather:=by
   show((y.j5 q).tick ((q:Int)+1)).1=_;rw[hz];unfold jQ.tick;rw[af fC];show(z.kG ((q:Int)+1-1).toNat (z.R ((q:Int)+1-1).toNat).tick).gather=_;rw[show((q:Int)+1-1).toNat=q by omega]
  rw[lz];exact⟨by rw[(pJ f1 e1).2 QX];exact V,vU f1 r2⟩
def zS(hF:kF y)(A:ll y Z 0)(hZ:Z<=900000000)(J:Inv N (λ_=>k) (jn y))(hl:N<1000000)(hk:k<=126)(E:pW y)(hc:Calm (λ_=>k) 34 (jn y))(U:c<y.nc)(hd:d<2):xL (jn y) (jn (y.j7 c d 2000).1)/\pW (y.j7 c d 2000).1:=by
 have hf:=xj hF A hZ U hd;obtain⟨u,_,p3⟩:=hf.ps;have hE:=A.pI;have f1:=hF.ky hE c d ((y.C c).on d).length U hd;have rr:=hf.rv;obtain⟨s1,s2,_,_⟩:=tN y c d ((y.C c).on d).length;have Q:=u.pps;have H:=Q.calm J.rN J.nrm (λ_=>fC) hc;have yW:EX (jn (y.ky c d ((y.C c).on d).length)):=(J.path u.path (by simpa using hl) λx=>by rw[qC];exact hk).fl
 have r1:pW (y.ky c d ((y.C c).on d).length):=λx f hx V=>by
  rw[s2]at hx;obtain⟨g1,g2⟩:=rr x f hx V;unfold vT;rw[g1,g2];by_cases e:x=c/\f=d;{rw[ag e,ag e];exact⟨rfl,[],Frames.nil⟩};rw[af e,af e];exact E x f hx V
 rw[p3 (H.room f1.o r1 yW)];refine⟨Q,λx f hx V=> ?_⟩;have xG:x<y.nc:=by rw[<-(oN y c d 2000).2.1];exact hx
 exact hf.rest xG V (.inr (E x f xG V))
def Inv.pps(h:Inv N (λ_=>k) a)(p:xL a b)(hl:N<1000000)(V:k<=126):Inv N (λ_=>k) b:=by
 have:=h.path p.path (by simpa using hl) λx=>by rw[qC];exact V
 rw[qC]at this;simpa using this
def BW {y:jQ} {Z N k:Nat} (hF:kF y)(J:ll y Z 0)(E:Z<=890000000)(U:Inv N (λ_=>k) (jn y))(hl:N<1000000)(Q:k<=126)(A:pW y)(hc:Calm (λ_=>k) 34 (jn y)):∀q≤y.nc,xL (jn y) (jn (y.k9 q))/\pW (y.k9 q)
 |0,_=>⟨xL.nil _,A⟩
 |q+1,hq=>by
  have c9:=J.c9;obtain⟨H,r1⟩:=BW hF J E U hl Q A hc q fC;have f1:=kF.k9 hF J E q fC;have k1:=J.k9 E q fC;have n1:(y.k9 q).nc=y.nc:=(nF y q).2.1;obtain⟨u,r2⟩:=zS f1 k1 fC (U.pps H hl Q) hl Q r1 (H.calm U.rN U.nrm (λ_=>fC) hc) (c:=q) (d:=0) fC fF;have f2:=f1.j7 k1 (q:Int) 0 2000;have k2:=k1.j7 fC (q:Int) 0 2000;have n2:((y.k9 q).j7 (q:Int) 0 2000).1.nc=y.nc:=(oN (y.k9 q) (q:Int) 0 2000).2.1.trans n1;have V:=H.trans u;obtain⟨h3,r3⟩:=zS f2 k2 fC (U.pps V hl Q) hl Q r2 (V.calm U.rN U.nrm (λ_=>fC) hc) (c:=q) (d:=1) fC fF;exact⟨V.trans h3,r3⟩
def DW {y:jQ} {Z N k:Nat} (hF:kF y)(H:ll y Z 0)(Q:Z<=810000000)(V:Inv N (λ_=>k) (jn y))(hl:N<1000000)(J:k<=126)(E:pW y)(hc:Calm (λ_=>k) 34 (jn y)):∀j≤12,xL (jn y) (jn (y.turns j))/\pW (y.turns j)
 |0,_=>⟨xL.nil _,E⟩
 |j+1,hj=>by
  obtain⟨U,r1⟩:=DW hF H Q V hl J E hc j fC;have n1:(y.turns j).nc=y.nc:=(sY y j).2.1;obtain⟨A,u⟩:=BW (kF.turns hF H Q j fC) (H.turns Q j fC) fC (V.pps U hl J) hl J r1 (U.calm V.rN V.nrm (λ_=>fC) hc) y.nc fC;exact⟨U.trans A,u⟩
def yO(hF:kF y)(Q:ll y Z 0)(E:Z<=800000000)(V:Inv N (λ_=>k) (jn y))(hl:N+144<1000000)(U:k+1<=126)(hR:pW y) {X:Marks} (u:tF X (λ_=>k) (jn y))(A:∀c d,c<y.nc->d<2->sm (qh (X c d)) ((jn y).F c d)=0)(hm:(jn y).W qJ<=1):∃m,zg (nJ y.n) (jn y) m/\xL m (jn y.round)/\Still y.round:=by
 have n6:=Q.n6;obtain⟨J,r1⟩:=DV hF Q E V hl U hR u A hm y.n (aj _);obtain⟨nd,len,_⟩:=pZ y.n;have hc:=Hp J nd V.rN V.nrm U u A hm;have H:Inv (N+144) (λ_=>k+1) (jn (y.j5 y.n)):=(V.path J.path (by rw[len];omega) λx=>au (oy nd k x) U).mono (by rw[len];omega) (oy nd k);obtain⟨h2,_⟩:=DW (hF.j5 y.n) (Q.j5 E y.n n6) fC H hl U r1 hc 12 (aj _);exact⟨_,J,h2,DT hF Q E V hl U⟩
def Still.Qp(h:Still y):pW y:=h.r
def Still.zero(h:Still y)(X:Marks):(∀c d,c<y.nc->d<2->sm (qh (X c d)) ((jn y).F c d)=0)/\(jn y).W qJ<=1:=by
 refine⟨λc d hc hd=>by rw[h.f c d hc hd];rfl,?_⟩
 have e:(jn y).W qJ=0:=by
  unfold AN.W;rw[uZ (g:=λ_=>0) λx hx=>by
   have:=qG.1 hx;show sm qJ ((jn y).F x.1 x.2)=0;rw[h.f x.1 x.2 this.1 this.2];rfl]
  generalize UB (jn y).nc=m;induction m with|nil=>rfl|cons x l ih=>simpa[sm]using ih
 omega
def Sc(u:Norm a)(i p:Nat)(c d:Nat):(a.e c d≠(i,p)->lr (a.op i ((a.R i).jZ p)) c d=lr a c d/\(a.op i ((a.R i).jZ p)).F c d=a.F c d)/\(a.e c d=(i,p)->c<a.nc->d<2->lr (a.op i ((a.R i).jZ p)) c d=(j8 (lr a c d)).1/\(a.op i ((a.R i).jZ p)).F c d=a.F c d++((j8 (lr a c d)).2.flatMap qg++B8 (a.R i) p)):=by
 obtain⟨Q,J⟩:=zk (u.emp i) p;obtain⟨E,A⟩:=yK (a:=a) i p ((a.R i).jZ p) (λq U=>⟨by rw[C4,af U],Q q U⟩) c d;refine⟨E,λV hc hd=> ?_⟩;obtain⟨g1,H⟩:=A V hc hd;have qV:lr a c d=((a.R i).P p).L:=by unfold lr;rw[V]
 rw[g1,H,J,C4,ag rfl,qV];exact⟨rfl,rfl⟩
inductive afM(a:AN)(c d:Nat)(x:mK)(l:List mK):Prop
 |other:tf x->(∀c' d',lr (a.pop c d x l) c' d'=lr a c' d')->(∀c' d',c'<a.nc->d'<2->∃em,(a.pop c d x l).F c' d'=(if c'=c/\d'=d then l else a.F c' d')++em/\∀y∈em,tf y)->afM a c d x l
 |link (q:mH):((∃id,0<=id/\id<=255/\x=ox (gP (a.e c d)) id/\q=(1,id,pQ (gP (a.e c d)))) \/(∃id,0<=id/\id<=255/\x=pU (gP (a.e c (1-d))) id/\q=(2,id,pQ (gP (a.e c (1-d))))))->lr (a.pop c d x l) c (1-d)=(kV (lr a c (1-d)) q).1->(a.pop c d x l).F c (1-d)=a.F c (1-d)++(kV (lr a c (1-d)) q).2.1.flatMap qg->(∀c' d',c'<a.nc->d'<2->¬(c'=c/\d'=1-d)->lr (a.pop c d x l) c' d'=lr a c' d'/\(a.pop c d x l).F c' d'=if c'=c/\d'=d then l else a.F c' d')->afM a c d x l
def JY {X:Marks} (A:uU a)(hN:Norm a)(h:tF X t a)(hc:c<a.nc)(hd:d<2)(hF:a.F c d=x::l):afM a c d x l:=by
 have hi:=h.AF hc hd (x:=x) (by rw[hF];simp);have pr:=(h.vN hc hd hi).symm;obtain⟨r,hr⟩:=fH (a.R (a.e c (1-d)).1);obtain⟨i,V⟩:=fH ((a.e c (1-d)).1);obtain⟨p,pX⟩:=fH ((a.e c (1-d)).2);have H:a.e c (1-d)=(i,p):=bq V pX;have Q:a.pop c d x l=(a.mN c d l).op i (kP r p x):=by unfold AN.pop;rw[hr,V,pX]
 have J:a.R i=r:=by rw[<-V];exact hr
 have UG:JR r:=by rw[<-J];exact hN.emp i
 obtain⟨hsy,_⟩:=r8 UG p x;have qV:lr a c (1-d)=(r.P p).L:=by unfold lr;rw[H,J]
 by_cases hx:tf x
 ·have hL:∀q,((kP r p x).P q).L=(r.P q).L:=λq=>by
   cases x with|nil=>rfl|cons k s=>exact xi r p s (hx k s rfl) q
  refine .other hx (λc' d'=> ?_) λc' d' kY lL=> ?_;{rw[Q,JW];split;{rename_i e;rw[hL,<-J];unfold lr;rw[show(a.e c' d').1=i from e];rfl};rfl};rw[Q,uy,yE,EP];by_cases e:(a.e c' d').1=i;{rw[ag ⟨⟨kY,lL⟩,e⟩];refine⟨_,rfl,λy hy=> ?_⟩;obtain g|g:=(zp (hsy (a.e c' d').2) hx (λ_=>false) (λ_=>false)).1;{rw[g]at hy;simp at hy};exact g.2 y hy};rw[af (λz=>e z.2)];exact⟨[],by rw[aF];rfl,λ_ h=>by simp at h⟩
 have gd:=tP A hc hd;have E:=tP A hc (show 1-d<2 by omega)
 have YM:∃q s,x=76::s/\j3 s=(q.1,q.2.1,q.2.2,0)/\((∃id,0<=id/\id<=255/\x=ox (gP (a.e c d)) id/\q=(1,id,pQ (gP (a.e c d)))) \/(∃id,0<=id/\id<=255/\x=pU (gP (a.e c (1-d))) id/\q=(2,id,pQ (gP (a.e c (1-d)))))):=by
  obtain g|⟨id,i1,i2,g⟩|⟨id,i1,i2,g⟩:=pr.g x (by rw[hF];simp);{exact absurd g hx};{exact⟨_,_,g,BK (.inl rfl) ⟨i1,i2⟩ gd,.inl ⟨id,i1,i2,g,rfl⟩⟩};exact⟨_,_,g,BK (.inr rfl) ⟨i1,i2⟩ E,.inr ⟨id,i1,i2,g,rfl⟩⟩
 obtain⟨q,s,VD,wL,hq⟩:=YM;obtain⟨k1,_,k3,_⟩:=zi UG p 76 s;rw[wL]at k1 k3
 have qX:=yK (a:=a.mN c d l) i p (kP r p x) λu hu=>by
  rw[VD];(show((r.take p 76 s).P u).L=((a.R i).P u).L/\kh ((r.take p 76 s).P u)=[]);rw[(vH r p s u).1,pw (vH r p s u).2,k1,af (λz=>hu z.1),(k3 u).2.2,af (λz=>hu z.1),J];exact⟨rfl,rfl⟩
 have U:((kP r p x).P p).L=(kV (lr a c (1-d)) q).1/\kh ((kP r p x).P p)=(kV (lr a c (1-d)) q).2.1.flatMap qg:=by
  rw[VD,qV];show((r.take p 76 s).P p).L=_/\kh ((r.take p 76 s).P p)=_;rw[(vH r p s p).1,pw (vH r p s p).2,k1,ag ⟨rfl,rfl,rfl⟩,(k3 p).2.2,ag ⟨rfl,rfl,rfl⟩];exact⟨rfl,rfl⟩
 obtain⟨z1,z2⟩:=(qX c (1-d)).2 H hc (by show 1-d<2;omega);refine .link q hq ?_ ?_ λc' d' kY lL kf=> ?_;{rw[Q,z1,U.1]};{rw[Q,z2,U.2,td,af fC]};rw[Q];exact(qX c' d').1 λe=>kf (A.ds _ _ _ _ kY lL hc fC (e.trans H.symm))
def lb(x:mK):Option Bool:=if(DP 1 x).isSome=true then μ true else if(DP 2 x).isSome=true then μ false else ν
def JZ(l:List mK):List Bool:=l.filterMap lb
def ve(l m:List mK):JZ (l++m)=JZ l++JZ m:=by unfold JZ;rw[bW]
def tf.lb {x:mK} (h:tf x):lb x=ν:=by unfold Rt.lb;rw[h.lk,h.lk];rfl
def Sd(h:∀x∈l,tf x):JZ l=[] :=by
 unfold JZ;rw[du];exact λx hx=>(h x hx).lb
def Qq(V:1<=g/\g<=255)(hi:0<=id/\id<=255):lb (ox g id)=μ true/\lb (pU g id)=μ false:=by
 obtain⟨a,b,c,d⟩:=uY V hi;unfold lb;rw[a,c,d];exact⟨rfl,rfl⟩
structure Sp where
 s0:Nat
 w0:Nat
 q0:List Bool
 s1:Nat
 w1:Nat
 q1:List Bool
def qQ(s w:Nat)(b:Bool):Nat×Nat×List Bool:=
 if b=true then(if s=9 then(8,3,[true,false])else if s=7 then(9,1,[false])else(8,w,[false]))
 else if s=6 then(7,w,[])else if s=8 then(9,1,[])else(s,w,[])
def vV(s w:Nat):List (Nat×Nat×List Bool):=if s=9 then [(9,1,[])]else if w=1 then(if s=8 then [(6,3,[true]),(8,3,[true])]else [(6,3,[true])])else [(s,w-1,[])]
def Sp.UW(S:Sp):List Sp:=match S.q0 with
 |[] =>[]
 |b::r=>[⟨S.s0,S.w0,r,(qQ S.s1 S.w1 b).1,(qQ S.s1 S.w1 b).2.1,S.q1++(qQ S.s1 S.w1 b).2.2⟩]
def Sp.Hq(S:Sp):List Sp:=match S.q1 with
 |[] =>[]
 |b::r=>[⟨(qQ S.s0 S.w0 b).1,(qQ S.s0 S.w0 b).2.1,S.q0++(qQ S.s0 S.w0 b).2.2,S.s1,S.w1,r⟩]
def xA(P:Sp->Bool):Nat->Sp->Bool
 |0,S=>S.q0.isEmpty&&S.q1.isEmpty&&P S
 |k+1,S=>if S.q0.isEmpty&&S.q1.isEmpty then P S else(S.UW++S.Hq).all (xA P k)
def Ll(S:Sp):Bool:=S.s0==9&&S.s1==9
def vW:Nat->Sp->Bool
 |0,S=>Ll S
 |k+1,S=>Ll S||(vV S.s0 S.w0).all λu=>(vV S.s1 S.w1).all λv=>xA (vW k) 12 ⟨u.1,u.2.1,u.2.2,v.1,v.2.1,v.2.2⟩
def UX:List (Nat×Nat):=[(6,1),(6,2),(6,3),(7,1),(7,2),(7,3),(8,1),(8,2),(8,3),(9,1)]
def afN:(UX.all λu=>UX.all λv=>vW 6 ⟨u.1,u.2,[],v.1,v.2,[]⟩)=true:=by decide+kernel
def UY {P:Sp->Bool} {S:Sp} (h:xA P k S=true)(V:S.q0=[])(U:S.q1=[]):P S=true:=by
 cases k with|zero=>unfold xA at h;simp only[jo]at h;exact h.2|succ k=>unfold xA at h;rw[V,U]at h;exact h
def UZ {P:Sp->Bool} {S T:Sp} (h:xA P k S=true)(V:T∈S.UW++S.Hq):∃j,xA P j T=true:=by
 have U:(S.q0.isEmpty&&S.q1.isEmpty)=false:=by
  cases Q:S.q0 with|cons b r=>rfl|nil=>(cases J:S.q1 with|cons b r=>rfl|nil=>unfold Sp.UW Sp.Hq at V;rw[Q,J]at V;simp at V)
 cases k with|zero=>unfold xA at h;rw[U]at h;simp at h|succ k=>unfold xA at h;rw[U]at h;exact⟨k,bz.1 h T V⟩
def NR(k:Nat) {S:Sp} (h:Ll S=true):vW k S=true:=by
 cases k with|zero=>exact h|succ k=>unfold vW;rw[h];rfl
def Sp.swap(S:Sp):Sp:=⟨S.s1,S.w1,S.q1,S.s0,S.w0,S.q0⟩
def YS(S:Sp) {T:Sp} (h:T∈S.swap.Hq):T.swap∈S.UW:=by
 unfold Sp.Hq Sp.swap at h;unfold Sp.UW;cases e:S.q0 with|nil=>rw[e]at h;simp at h|cons b r=>rw[e]at h;simp only[List.mem_singleton]at h⊢;rw[h];rfl
structure PQ(L M:LS)(F G:List mK)(S:Sp):Prop where
 s0:L.st=(S.s0:Int)
 w0:S.s0≠9->L.wt=(S.w0:Int)
 s1:M.st=(S.s1:Int)
 w1:S.s1≠9->M.wt=(S.w1:Int)
 q0:JZ F=S.q0
 q1:JZ G=S.q1
 i0:ids 2 G++ids 1 F=[] \/ids 2 G++ids 1 F=[L.ow]
 i1:ids 2 F++ids 1 G=[] \/ids 2 F++ids 1 G=[M.ow]
def PQ.symm {S:Sp} (p:PQ L M F G S):PQ M L G F S.swap:=⟨p.s1,p.w1,p.s0,p.w0,p.q1,p.q0,p.i1,p.i0⟩
def PQ.more {e f:List mK} {S:Sp} (p:PQ L M F G S)(V:∀x∈e,tf x)(hf:∀x∈f,tf x):PQ L M (F++e) (G++f) S:=by
 have a:∀c,ids c (F++e)=ids c F:=λc=>by rw[lW,BQ λx hx=>(V x hx).lk c,aF]
 have b:∀c,ids c (G++f)=ids c G:=λc=>by rw[lW,BQ λx hx=>(hf x hx).lk c,aF]
 exact⟨p.s0,p.w0,p.s1,p.w1,by rw[ve,Sd V,aF];exact p.q0,by rw[ve,Sd hf,aF];exact p.q1,by rw[a,b];exact p.i0,by rw[a,b];exact p.i1⟩
def PQ.skip {S:Sp} (p:PQ L M F (x::l) S)(hx:tf x):PQ L M F l S:=by
 have e:JZ (x::l)=JZ l:=by unfold JZ;rw[bG,hx.lb]
 have i:=λc=>ld l (hx.lk c);exact⟨p.s0,p.w0,p.s1,p.w1,p.q0,by rw[<-e];exact p.q1,by rw[<-i];exact p.i0,by rw[<-i];exact p.i1⟩
def PQ.pop {t:Nat} {S:Sp} {q:mH} (J:1<=g/\g<=255)(hh:1<=h/\h<=255)(kf:h≠g)(ht:t<=255)(p:Pair X Y t g h L M F (x::l))(r:PQ L M F (x::l) S)
 (hq:(∃id,0<=id/\id<=255/\x=ox h id/\q=(1,id,pQ h)) \/(∃id,0<=id/\id<=255/\x=pU g id/\q=(2,id,pQ g))):∃T∈S.Hq,PQ (kV L q).1 M (F++(kV L q).2.1.flatMap qg) l T:=by
  obtain⟨id,i1,Q,rfl,rfl⟩|⟨id,i1,Q,rfl,rfl⟩:=hq
  ·have hi:0<=id/\id<=255:=⟨i1,Q⟩
   obtain⟨r1,r2,r3,r4⟩:=uY hh hi;have E:qg (2,id,pQ h)=[pU h id] :=Hc (.inr rfl) hi hh;have hS:S.q1=true::JZ l:=by rw[<-r.q1];unfold JZ;rw[bG,(Qq hh hi).1]
   have D8:S.Hq=[⟨(qQ S.s0 S.w0 true).1,(qQ S.s0 S.w0 true).2.1,S.q0++(qQ S.s0 S.w0 true).2.2,S.s1,S.w1,JZ l⟩] :=by unfold Sp.Hq;rw[hS]
   have LD:=kT l r1;have R6:=ld l r2
   have H:∀em,ids 2 em=[id]->ids 2 (F++em)++ids 1 l=ids 2 F++ids 1 (ox h id::l):=λem he=>by
    rw[lW,he,LD,aK];rfl
   have s0:=r.s0;rw[D8];refine⟨_,az.2 rfl,?_⟩;obtain⟨li,h9|h7|U⟩:=YA J hh kf hi p.l p.lu
   ·obtain⟨s9,out,s8,u,A⟩:=h9;obtain⟨YL,afH⟩:=p.d.emp (.inr s9);have hb:=p.d.Lj;have hX:Y id=false:=afH id (by rw[LD];simp);have aon:((ids 1 (ox h id::l)).filter λi=> !Y i).length=((ids 1 l).filter λi=> !Y i).length+1:=by rw[LD,jF,hX];rfl
    have ho:=p.l.k.o1;have em:(L.ow+1) %256=L.ow+1:=fC;have mR:0<=L.ow+1/\L.ow+1<=255:=fC;obtain⟨q1,q2,q3,q4⟩:=uY J mR;rw[em]at out u
    have e:(kV L (1,id,pQ h)).2.1.flatMap qg=[ox g (L.ow+1),pU h id] :=by
     rw[out];show qg _++(qg _++ [])=_;rw[Hc (.inl rfl) mR J,E];rfl
    have V:qQ S.s0 S.w0 true=(8,3,[true,false]):=by unfold qQ;rw[ag rfl,ag fC]
    rw[e,V];rw[R6]at YL;have wq:=eX.1 YL;have i1:ids 1 [ox g (L.ow+1),pU h id] =[L.ow+1] :=by rw[kT _ q1,ld _ r3];rfl
    have Q:ids 2 [ox g (L.ow+1),pU h id] =[id] :=by rw[ld _ q2,kT _ r4];rfl
    refine⟨s8,λ_=>A,r.s1,r.w1,?_,rfl,.inr ?_,?_⟩;{rw[ve,r.q0];show S.q0++jL lb _=_;rw[bG,(Qq J mR).1,bG,(Qq hh hi).2];rfl};{rw[wq.1,lW,wq.2,i1,u];rfl};rw[H _ Q];exact r.i1
   ·obtain⟨s7,out,s9,u⟩:=h7;have e:(kV L (1,id,pQ h)).2.1.flatMap qg=[pU h id] :=by rw[out];show qg _++ [] =_;rw[E];rfl
    have V:qQ S.s0 S.w0 true=(9,1,[false]):=by unfold qQ;rw[ag rfl,af fC,ag fC]
    rw[e,V];have i1:ids 1 [pU h id] =[] :=by rw[ld _ r3];rfl
    have Q:ids 2 [pU h id] =[id] :=by rw[kT _ r4];rfl
    refine⟨s9,λh=>absurd rfl h,r.s1,r.w1,?_,rfl,?_,?_⟩;{rw[ve,r.q0];show S.q0++jL lb _=_;rw[bG,(Qq hh hi).2];rfl};{rw[lW,i1,aF,<-R6,u];exact r.i0};rw[H _ Q];exact r.i1
   obtain⟨s68,out,s8,u,A⟩:=U;have e:(kV L (1,id,pQ h)).2.1.flatMap qg=[pU h id] :=by rw[out];show qg _++ [] =_;rw[E];rfl
   have V:qQ S.s0 S.w0 true=(8,S.w0,[false]):=by unfold qQ;rw[ag rfl,af fC,af fC]
   rw[e,V];have i1:ids 1 [pU h id] =[] :=by rw[ld _ r3];rfl
   have Q:ids 2 [pU h id] =[id] :=by rw[kT _ r4];rfl
   refine⟨s8,λ_=>by rw[A];exact r.w0 fC,r.s1,r.w1,?_,rfl,?_,?_⟩;{rw[ve,r.q0];show S.q0++jL lb _=_;rw[bG,(Qq hh hi).2];rfl};{rw[lW,i1,aF,<-R6,u];exact r.i0};rw[H _ Q];exact r.i1
  have hi:0<=id/\id<=255:=⟨i1,Q⟩
  obtain⟨r1,r2,r3,r4⟩:=uY J hi;have hS:S.q1=false::JZ l:=by rw[<-r.q1];unfold JZ;rw[bG,(Qq J hi).2]
  have D8:S.Hq=[⟨(qQ S.s0 S.w0 false).1,(qQ S.s0 S.w0 false).2.1,S.q0++(qQ S.s0 S.w0 false).2.2,S.s1,S.w1,JZ l⟩] :=by unfold Sp.Hq;rw[hS]
  have LD:=ld l r3;have R6:=kT l r4
  have mT:¬(L.st=7 \/L.st=9):=λh=>by
   have:=(p.d.emp h).1;rw[R6]at this;simp at this
  have qo:id=L.ow/\ids 2 l++ids 1 F=[] :=by
   have:=r.i0;rw[R6]at this;obtain z|z:=this;{simp at z};have z':id::(ids 2 l++ids 1 F)=[L.ow] :=z;injection z' with z1 z2;exact⟨z1,z2⟩
  have U:L.st=6 \/L.st=8:=by have:=p.lu;have:=p.l.st;omega
  obtain⟨z1,z2⟩:=qo;subst z1;obtain⟨a1,a2,a3,a4,a5⟩:=YB J p.l U;have s0:=r.s0;rw[D8];refine⟨_,az.2 rfl,?_⟩;rw[a2];have hF:F++jG qg [] =F:=gZ;rw[hF];have xu:ids 2 F++ids 1 l=[] \/ids 2 F++ids 1 l=[M.ow] :=by rw[<-LD];exact r.i1
  obtain h6|h8:=U
  ·have V:qQ S.s0 S.w0 false=(7,S.w0,[]):=by unfold qQ;rw[af gZ,ag fC]
   rw[V];exact⟨by rw[a5,h6];rfl,λ_=>by rw[a4];exact r.w0 fC,r.s1,r.w1,by rw[aF];exact r.q0,rfl,.inl z2,xu⟩
  have V:qQ S.s0 S.w0 false=(9,1,[]):=by unfold qQ;rw[af gZ,af fC,ag fC]
  rw[V];exact⟨by rw[a5,h8];rfl,λh=>absurd rfl h,r.s1,r.w1,by rw[aF];exact r.q0,rfl,.inl z2,xu⟩
def afO {X:Marks} (U:uU a)(hN:Norm a)(h:tF X t a)(ht:∀x,t x<=127)(hc:c<a.nc)(hd:d<2)(hF:a.F c d=x::l)(Q:k<a.nc) {S:Sp} (hS:PQ (lr a k 0) (lr a k 1) (a.F k 0) (a.F k 1) S):∃T,(T=S \/T∈S.UW++S.Hq)/\PQ (lr (a.pop c d x l) k 0) (lr (a.pop c d x l) k 1) ((a.pop c d x l).F k 0) ((a.pop c d x l).F k 1) T:=by
 have IG:d=0 \/d=1:=fC;cases JY U hN h hc hd hF with
 |other hx hL yW=>
  obtain⟨e0,a0,E⟩:=yW k 0 Q fF;obtain⟨e1,H,b1⟩:=yW k 1 Q fF;refine⟨S,.inl rfl,?_⟩;rw[hL,hL,a0,H];by_cases e:k=c;{subst e;obtain rfl|rfl:=IG;{rw[ag ⟨rfl,rfl⟩,af fC];rw[hF]at hS;exact(hS.symm.skip hx).symm.more E b1};{rw[af fC,ag ⟨rfl,rfl⟩];rw[hF]at hS;exact(hS.skip hx).more E b1}}
  ·rw[af (λz=>e z.1),af (λz=>e z.1)];exact hS.more E b1
 |link q hq hl hf J=>
  by_cases e:k=c
  ·subst e;have hi:=h.AF hc hd (x:=x) (by rw[hF];simp);have pr:=(h.vN hc hd hi).symm;have gd:=tP U hc hd;have V:=tP U hc (show 1-d<2 by omega);have kf:=adp U hc hd (show 1-d<2 by omega) fC;have Ox:t (a.e k 0)+t (a.e k 1)<=255:=by have:=ht (a.e k 0);have:=ht (a.e k 1);omega
   obtain⟨o1,o2⟩:=J k d hc hd fC;rw[ag ⟨rfl,rfl⟩]at o2;rw[hF]at pr;obtain rfl|rfl:=IG;{rw[hF]at hS;obtain⟨T,u,A⟩:=PQ.pop V gd kf Ox pr hS.symm hq;refine⟨T.swap,.inr (aA.2 (.inl (YS S u))),?_⟩;have:=A.symm;rw[show(1:Nat)-0=1 from rfl]at hl hf;rw[o1,o2,hl,hf];exact this};{rw[hF]at hS;obtain⟨T,u,A⟩:=PQ.pop V gd kf Ox pr hS hq;refine⟨T,.inr (aA.2 (.inr u)),?_⟩;rw[show(1:Nat)-1=0 from rfl]at hl hf;rw[o1,o2,hl,hf];exact A}
  ·refine⟨S,.inl rfl,?_⟩;obtain⟨H,a2⟩:=J k 0 Q fF (λz=>e z.1);obtain⟨b1,b2⟩:=J k 1 Q fF (λz=>e z.1);rw[H,a2,b1,b2,af (λz=>e z.1),af (λz=>e z.1)];exact hS
def xL.PQ {P:Sp->Bool} {a b:AN} (h:xL a b) {N k:Nat} (u:Inv N (λ_=>k) a)(hl:N<1000000)(hk:k<=126) {c:Nat} (hc:c<a.nc) {S:Sp} {j:Nat} (hS:PQ (lr a c 0) (lr a c 1) (a.F c 0) (a.F c 1) S)(hP:xA P j S=true):∃T i,Rt.PQ (lr b c 0) (lr b c 1) (b.F c 0) (b.F c 1) T/\xA P i T=true:=by
 induction h with|nil=>exact⟨S,j,hS,hP⟩|snoc c' d x l p H E A ih=>obtain⟨T,i,hT,hi⟩:=ih;have V:=u.pps p hl hk;obtain⟨X,hX⟩:=V.lk;obtain⟨U,J,Q⟩:=afO V.rN V.nrm hX (λ_=>fC) H E A (k:=c) (by rw[p.path.same.2.1];exact hc) hT;obtain rfl|J:=J;{exact⟨U,i,Q,hi⟩};{obtain⟨i',mR⟩:=UZ hi J;exact⟨U,i',Q,mR⟩}
def zg.at {T:List (Nat×Nat)} {a b:AN} (h:zg T a b)(hT:T.Nodup)(hB:uU a)(H:Norm a) {c d:Nat} (hc:c<a.nc)(hd:d<2):(a.e c d∉T->lr b c d=lr a c d/\b.F c d=a.F c d)/\(a.e c d∈T->lr b c d=(j8 (lr a c d)).1/\∃m,b.F c d=a.F c d++((j8 (lr a c d)).2.flatMap qg++B8 m (a.e c d).2)):=by
 induction h with|nil=>exact⟨λ_=>⟨rfl,rfl⟩,λh=>by simp at h⟩| @snoc T a b i p tk hi hp ih=>have J:=bS.1 hT;obtain⟨i1,i2⟩:=ih J.1 hB H hc;have E:=tk.path.same;obtain⟨U,u⟩:=Sc (tk.path.norm H) i p c d;rw[E.2.2.1]at U u;refine⟨λA=> ?_,λmF=> ?_⟩;{have Q:a.e c d∉T:=λz=>A (aA.2 (.inl z));have V:a.e c d≠(i,p):=λz=>A (aA.2 (.inr (az.2 z)));rw[(U V).1,(U V).2];exact i1 Q};{obtain g|g:=aA.1 mF;{have V:a.e c d≠(i,p):=λz=>J.2.2 _ g _ (az.2 rfl) z;rw[(U V).1,(U V).2];exact i2 g};have g:=az.1 g;have Q:a.e c d∉T:=λz=>J.2.2 _ z _ (az.2 rfl) g;obtain⟨z1,z2⟩:=u g (by rw[E.2.1];exact hc) hd;obtain⟨y1,y2⟩:=i1 Q;rw[z1,z2,y1,y2];exact⟨rfl,b.R i,by rw[g]⟩}
def Lm(J:1<=g/\g<=255)(h:LI g L)(h6:6<=L.st)(hb:L.ow+1<=255):∃s w:Nat,(L.st=(s:Int)/\(s≠9->L.wt=(w:Int)))/\(s,w)∈UX/\∃u∈vV s w,(j8 L).1.st=(u.1:Int)/\(u.1≠9->(j8 L).1.wt=(u.2.1:Int))/\JZ ((j8 L).2.flatMap qg)=u.2.2/\ids 2 ((j8 L).2.flatMap qg)=[] /\(ids 1 ((j8 L).2.flatMap qg)=[] \/ids 1 ((j8 L).2.flatMap qg)=[(j8 L).1.ow]):=by
 obtain⟨o1,o2,o3,o4,o5,o6,o7,o8⟩:=(uJ _ _ _).1 h.k.ok;have ho:=h.k.o1;obtain⟨li,V|V⟩:=La J h
 ·obtain⟨V,A,U,h4,Q⟩:=V;have H:(j8 L).2.flatMap qg=[] :=by rw[V];rfl
  rw[H];by_cases h9:L.st=9;{refine⟨9,1,⟨h9,λh=>absurd rfl h⟩,fF,(9,1,[]),fF,?_,λh=>absurd rfl h,rfl,rfl,.inl rfl⟩;rw[U,h9];rfl};have hw:=Q (by have:=h.st;omega);refine⟨L.st.toNat,L.wt.toNat,⟨fC,λ_=>fC⟩,?_,(L.st.toNat,L.wt.toNat-1,[]),?_,by rw[U];simp only;omega,λ_=>by rw[hw.2];simp only;omega,rfl,rfl,.inl rfl⟩
  ·have:L.st=6 \/L.st=7 \/L.st=8:=by have:=h.st;omega
   have wV:L.wt=2 \/L.wt=3:=fC;obtain e|e|e:=this<;>obtain f|f:=wV<;>rw[e,f] <;>decide
  unfold vV;rw[af fC,af fC];simp
 obtain⟨V,A,U,h4,Q,h6'⟩:=V;have hi:0<=L.ow+1/\L.ow+1<=255:=⟨fC,hb⟩
 have em:(L.ow+1) %256=L.ow+1:=fC;rw[em]at U h4
 have H:(j8 L).2.flatMap qg=[ox g (L.ow+1)] :=by
  rw[U];show qg _++ [] =_;rw[Hc (.inl rfl) hi J];rfl
 obtain⟨q1,q2,_,_⟩:=uY J hi;have p1:JZ [ox g (L.ow+1)] =[true] :=by unfold JZ;rw[bG,(Qq J hi).1];rfl
 have p2:ids 2 [ox g (L.ow+1)] =[] :=by rw[ld _ q2];rfl
 have p3:ids 1 [ox g (L.ow+1)] =[L.ow+1] :=by rw[kT _ q1];rfl
 rw[H,p1,p2,p3,h4];obtain g6|⟨g8,E⟩:=h6';{refine⟨L.st.toNat,1,⟨fC,λ_=>A⟩,?_,(6,3,[true]),?_,g6,λ_=>Q,rfl,rfl,.inr rfl⟩;{have:L.st=6 \/L.st=7 \/L.st=8:=fC;obtain e|e|e:=this<;>rw[e] <;>decide};have:L.st=6 \/L.st=7 \/L.st=8:=fC;obtain e|e|e:=this<;>rw[e] <;>decide};exact⟨8,1,⟨g8,λ_=>A⟩,fF,(8,3,[true]),fF,E,λ_=>Q,rfl,rfl,.inr rfl⟩
def Rel(L:LS)(s w:Nat):Prop:=L.st=(s:Int)/\(s≠9->L.wt=(w:Int))/\(s,w)∈UX
def J0 {w:Nat} (h:(9,w)∈UX):w=1:=by
 unfold UX at h;simpa using h
def Rel.uniq {s w s' w':Nat} (h:Rel L s w)(g:Rel L s' w'):s'=s/\w'=w:=by
 have e:s'=s:=by have:=h.1;have:=g.1;omega
 subst e;refine⟨rfl,?_⟩;by_cases V:s'=9;{subst V;rw[J0 h.2.2,J0 g.2.2]};have:=h.2.1 V;have:=g.2.1 V;omega
def Ln(H:1<=g/\g<=255)(h:LI g L)(Q:6<=L.st)(J:L.ow+1<=255):∃s w,Rel L s w:=by
 obtain⟨s,w,V,U,_⟩:=Lm H h Q J;exact⟨s,w,V.1,V.2,U⟩
def Qr(a:AN)(c j:Nat):Prop:=∃s0 w0 s1 w1,Rel (lr a c 0) s0 w0/\Rel (lr a c 1) s1 w1/\vW j ⟨s0,w0,[],s1,w1,[]⟩=true
def YT(j:Nat) {s0 w0 v0 s1 w1 v1:Nat} (Q:s0=9 \/w0=v0)(J:s1=9 \/w1=v1):vW j ⟨s0,w0,[],s1,w1,[]⟩=vW j ⟨s0,v0,[],s1,v1,[]⟩:=by
 have V:vV s0 w0=vV s0 v0:=by
  obtain h|h:=Q;{rw[h];rfl};rw[h]
 have U:vV s1 w1=vV s1 v1:=by
  obtain h|h:=J;{rw[h];rfl};rw[h]
 cases j with|zero=>rfl|succ k=>unfold vW;simp only[V,U];rfl
def Qs {n:Nat} (hT:zg (nJ n) a m)(hP:xL m b)(U:Inv N (λ_=>k) a)(hl:N+8*(nJ n).length<1000000)(hk:k+1<=126)(h0:∀c d,c<a.nc->d<2->a.F c d=[])(h1:∀c d,c<a.nc->d<2->b.F c d=[])(hn:n=a.n)(hc:c<a.nc)(hi:a.jU c=true)(hG:Qr a c (j+1)):Qr b c j:=by
 obtain⟨s0,w0,s1,w1,r0,r1,Q⟩:=hG;obtain⟨nd,_,_⟩:=pZ n;obtain⟨X,hX⟩:=U.lk;have g0:=tP U.rN hc (show 0<2 by decide);have g1:=tP U.rN hc (show 1<2 by decide);have p0:=hX.vN hc (show 0<2 by decide) hi;have p1:=hX.vN hc (show 1<2 by decide) hi
 have bd:∀d<2,(lr a c d).ow+1<=255:=λd hd=>by
  have:=(hX.vN hc hd hi).d.Lj;have e:(λ_:Nat×Nat=>k) (a.e c 0)+(λ_:Nat×Nat=>k) (a.e c 1)=k+k:=rfl;omega
 obtain⟨a0,b0,ra0,in0,u,hu,us,uw,uq,ui2,ui1⟩:=Lm g0 p0.l p0.lu (bd 0 fF);obtain⟨a1,b1,ra1,in1,v,hv,vs,vw,vq,vi2,vi1⟩:=Lm g1 p1.l p1.lu (bd 1 fF);obtain⟨z0,z0'⟩:=r0.uniq ⟨ra0.1,ra0.2,in0⟩;obtain⟨z1,z1'⟩:=r1.uniq ⟨ra1.1,ra1.2,in1⟩;subst z0 z0' z1 z1'
 have tW:∀d<2,a.e c d∈nJ n:=λd hd=>by
  obtain⟨e1,e2⟩:=U.rN.en c d hc hd;unfold nJ;refine bh.2 ⟨(a.e c d).1,aU.2 fC,?_⟩;unfold Uy;have:(a.e c d).2=0 \/(a.e c d).2=1 \/(a.e c d).2=2:=fC;obtain e|e|e:=this;{rw[show a.e c d=((a.e c d).1,0)from bq rfl e];simp};{rw[show a.e c d=((a.e c d).1,1)from bq rfl e];simp};rw[show a.e c d=((a.e c d).1,2)from bq rfl e];simp
 obtain⟨m0,x0,f0⟩:=(hT.at nd U.rN U.nrm hc (show 0<2 by decide)).2 (tW 0 fF);obtain⟨m1,x1,f1⟩:=(hT.at nd U.rN U.nrm hc (show 1<2 by decide)).2 (tW 1 fF);rw[h0 c 0 hc fF,bU]at f0;rw[h0 c 1 hc fF,bU]at f1
 have base:PQ (lr m c 0) (lr m c 1) ((j8 (lr a c 0)).2.flatMap qg) ((j8 (lr a c 1)).2.flatMap qg) ⟨u.1,u.2.1,u.2.2,v.1,v.2.1,v.2.2⟩:=by
  rw[m0,m1];exact⟨us,uw,vs,vw,uq,vq,by rw[vi2,bU];exact ui1,by rw[ui2,bU];exact vi1⟩
 have hm:=base.more (yL x0 (a.e c 0).2) (yL x1 (a.e c 1).2);rw[<-f0,<-f1]at hm
 have py:xA (vW j) 12 ⟨u.1,u.2.1,u.2.2,v.1,v.2.1,v.2.2⟩=true:=by
  unfold vW at Q;rw[gq]at Q;obtain Q|Q:=Q
  ·unfold Ll at Q;simp only[jo,beq_iff_eq]at Q;obtain⟨y0,y1⟩:=Q;subst y0 y1;have IC:u=(9,1,[]):=by simpa[vV]using hu
   have hv':v=(9,1,[]):=by simpa[vV]using hv
   rw[IC,hv'];exact NR j rfl
  exact bz.1 (bz.1 Q u hu) v hv
 have V:=hT.path.same;have hIm:Inv (N+8*(nJ n).length) (λ_=>k+1) m:=(U.path hT.path hl λx=>au (oy nd k x) hk).mono (aj _) (oy nd k);obtain⟨S,i,hS,hSi⟩:=hP.PQ hIm hl hk (c:=c) (by rw[V.2.1];exact hc) hm py;have SQ:=hP.path.same;have hIb:=hIm.pps hP hl hk;have e0:S.q0=[] :=by rw[<-hS.q0,h1 c 0 hc fF];rfl
 have e1:S.q1=[] :=by rw[<-hS.q1,h1 c 1 hc fF];rfl
 have ajz:=UY hSi e0 e1;obtain⟨Y,hY⟩:=hIb.lk;have wP:c<b.nc:=by rw[SQ.2.1,V.2.1];exact hc
 have heb:b.e=a.e:=SQ.2.2.1.trans V.2.2.1
 have J:b.jU c=true:=by
  cases J:b.jU c;{have:=(hY.dn c wP J 0 fF).2.1;have h6:=hS.s0;have ip:=xL.jU hP;have it:=zg.jU hT;rw[ip,it,hi]at J;exact absurd J gZ};rfl
 have q0:=hY.vN wP (show 0<2 by decide) J;have q1:=hY.vN wP (show 1<2 by decide) J;rw[heb]at q0 q1
 have bd':∀d<2,(lr b c d).ow+1<=255:=λd hd=>by
  have:=(hY.vN wP hd J).d.Lj;have e:(λ_:Nat×Nat=>k+1) (b.e c 0)+(λ_:Nat×Nat=>k+1) (b.e c 1)=k+1+(k+1):=rfl;omega
 obtain⟨E,w0',R0⟩:=Ln g0 q0.l q0.lu (bd' 0 fF);obtain⟨A,w1',R1⟩:=Ln g1 q1.l q1.lu (bd' 1 fF);refine⟨E,w0',A,w1',R0,R1,?_⟩;have t0:S.s0=E:=by have:=hS.s0;have:=R0.1;omega
 have t1:S.s1=A:=by have:=hS.s1;have:=R1.1;omega
 rw[YT j (v0:=S.w0) (v1:=S.w1) (by
  by_cases H:E=9;{exact .inl H}
  ·right;have:=hS.w0 (by rw[t0];exact H);have:=R0.2.1 H;omega) (by
  by_cases H:A=9;{exact .inl H}
  ·right;have:=hS.w1 (by rw[t1];exact H);have:=R1.2.1 H;omega),<-t0,<-t1]
 have:S=⟨S.s0,S.w0,[],S.s1,S.w1,[]⟩:=by
  cases S;simp only at e0 e1;subst e0 e1;rfl
 rw[<-this];exact ajz
where
 xL.jU {a b:AN} (h:xL a b):b.jU=a.jU:=by
  induction h with
  |nil=>rfl
  |snoc c d x l _ _ _ _ ih=>exact ih
 zg.jU {T:List (Nat×Nat)} {a b:AN} (h:zg T a b):b.jU=a.jU:=by
  induction h with
  |nil=>rfl
  |snoc i p _ _ _ ih=>exact ih
def adw(a:AN):Prop:=∀c d,c<a.nc->d<2->a.jU c=true->(lr a c d).st=9
def Qr.open(h:Qr a c 0)(hd:d<2):(lr a c d).st=9:=by
 obtain⟨s0,w0,s1,w1,Q,r1,U⟩:=h;have V:(s0==9&&s1==9)=true:=U;simp only[jo,beq_iff_eq]at V;have:d=0 \/d=1:=fC;obtain rfl|rfl:=this;{rw[Q.1,V.1];rfl};rw[r1.1,V.2];rfl
def tF.ajA {X:Marks} (hN:Norm a)(h:tF X t a)(ho:adw a)(i p:Nat):tF X t (a.op i ((a.R i).jZ p))/\(∀c d,c<a.nc->d<2->lr (a.op i ((a.R i).jZ p)) c d=lr a c d/\(a.op i ((a.R i).jZ p)).F c d=a.F c d++(if a.e c d=(i,p)then B8 (a.R i) p else [])):=by
 have Q:∀c d,c<a.nc->d<2->lr (a.op i ((a.R i).jZ p)) c d=lr a c d/\(a.op i ((a.R i).jZ p)).F c d=a.F c d++(if a.e c d=(i,p)then B8 (a.R i) p else []):=λc d hc hd=>by
  obtain⟨E,t2⟩:=Sc hN i p c d;by_cases e:a.e c d=(i,p)
  ·obtain⟨z1,z2⟩:=t2 e hc hd
   have lz:(lr a c d).st=1 \/(lr a c d).st=9:=by
    cases hi:a.jU c;{exact .inl (h.dn c hc hi d hd).2.1};exact .inr (ho c d hc hd hi)
   have lA:j8 (lr a c d)=(lr a c d,[]):=by
    have U:(decide (4<=(lr a c d).st)&&decide ((lr a c d).st<=8))=false:=by
     obtain g|g:=lz<;>rw[g] <;>rfl
    unfold j8 lS nD;rw[ag U,ag U,af (show¬(lr a c d).st=3 by omega)]
   rw[z1,z2,lA,ag e];exact⟨rfl,rfl⟩
  rw[(E e).1,(E e).2,af e,aF];exact⟨rfl,rfl⟩
 have H:∀c d,∀y∈(if a.e c d=(i,p)then B8 (a.R i) p else []),tf y:=λc d y hy=>by
  split at hy;{exact yL _ _ y hy};simp at hy
 refine⟨⟨λc hc hi=> ?_,λc hc hi d hd=> ?_⟩,Q⟩;{obtain⟨J,V⟩:=Q c 0 hc fF;obtain⟨b1,b2⟩:=Q c 1 hc fF;rw[J,V,b1,b2];exact(((h.up c hc hi).more (H c 0)).symm.more (H c 1)).symm};obtain⟨J,V,A,u⟩:=h.dn c hc hi d hd;obtain⟨b1,b2⟩:=Q c d hc hd;rw[b1,b2,u];refine⟨J,V,A,?_⟩;split
 ·rename_i e;have qV:lr a c d=((a.R i).P p).L:=by unfold lr;rw[e]
  unfold B8;rw[<-qV];have U:(decide (4<=(lr a c d).st)&&decide ((lr a c d).st<=8))=false:=by rw[V];rfl
  have:(j8 (lr a c d)).1.st=1:=by
   unfold j8 lS nD;rw[ag U,af (show¬(lr a c d).st=3 by omega)];exact V
  rw[this,af fF];rfl
 rfl
structure St(D N k:Nat)(y:jQ):Prop where
 ok:ll y D 0
 g:GN y
 f:kF y
 i:Inv N (λ_=>k) (jn y)
def St.act {D N k:Nat} {y:jQ} (h:St D N k y)(V:D<=800000000)(U:N+144<1000000)(Q:k+1<=126)(v:AV):St (D+1300000) (N+144) (k+1) (uv y v):=
 ⟨h.ok.act V v,(h.g.act h.ok V v).1,h.f.act h.g h.ok V v,Inv.act h.f h.g h.ok V h.i U Q v⟩
def St.round {D N k:Nat} {y:jQ} (h:St D N k y)(V:D<=800000000)(hN:N+144<1000000)(U:k+1<=126):St (D+1300000) (N+144) (k+1) y.round:=by
 have n6:=h.ok.n6;obtain⟨a,b,_⟩:=pZ y.n;refine⟨h.ok.round V,h.g.round h.ok V,h.f.round h.ok V,?_⟩;exact(h.i.path (Az h.f h.ok V) (by rw[b];omega) λx=>au (oy a k x) U).mono (by rw[b];omega) (oy a k)
def St.mono {D N k D' N' k':Nat} {y:jQ} (h:St D N k y)(V:D<=D')(U:N<=N')(Q:k<=k'):St D' N' k' y:=⟨h.ok.mono V (aj _),h.g,h.f,h.i.mono U λ_=>Q⟩
def nW(y:jQ):Nat->jQ
 |0=>y
 |k+1=>(nW y k).round
def zr(y:jQ):∀k,(nW y k).n=y.n/\(nW y k).nc=y.nc/\(nW y k).ms=y.ms/\∀x,((nW y k).C x).e=(y.C x).e/\((nW y k).C x).jU=(y.C x).jU
 |0=>⟨rfl,rfl,rfl,λ_=>⟨rfl,rfl⟩⟩
 |k+1=>by
  obtain⟨a,b,c,d⟩:=zr y k;obtain⟨a',b',c',d'⟩:=mC (nW y k);exact⟨a'.trans a,b'.trans b,c'.trans c,λx=>⟨(d' x).1.trans (d x).1,(d' x).2.trans (d x).2⟩⟩
def St.light(h:St D N k y)(hS:Still y)(V:D<=800000000)(U:N+144<1000000)(J:k+1<=126):∃m,zg (nJ y.n) (jn y) m/\xL m (jn y.round)/\Still y.round:=by
 obtain⟨X,Q⟩:=h.i.lk;exact yO h.f h.ok V h.i U J hS.Qp Q (hS.zero X).1 (hS.zero X).2
def St.pair(h:St D N k y)(hS:Still y)(H:D<=800000000)(A:N+144<1000000)(V:k+1<=126)(hc:c<y.nc)(hi:(y.C c).jU=true)(E:Qr (jn y) c (j+1)):Qr (jn y.round) c j:=by
 have n6:=h.ok.n6;obtain⟨m,U,Q,J⟩:=h.light hS H A V;obtain⟨_,b,_⟩:=pZ y.n;exact Qs U Q h.i (by rw[b];omega) V hS.f (λc d hc hd=>J.f c d (by rw[(mC y).2.1];exact hc) hd) rfl hc hi E
def St.opens {D N k:Nat} {y:jQ} (h:St D N k y)(hD:D<=790000000)(hN:N+8*144<1000000)(hk:k+8<=126):∀j≤6,St (D+1300000*(j+1)) (N+144*(j+1)) (k+(j+1)) (nW y (j+1))/\Still (nW y (j+1))/\∀c<y.nc,(y.C c).jU=true->Qr (jn (nW y (j+1))) c (6-j)
 |0,_=>by
  have V:=h.round fC fC fC;have hs:=DT h.f h.ok fC h.i fC fC;refine⟨V,hs,λc hc hi=> ?_⟩;obtain⟨X,Q⟩:=V.i.lk;have U:c<(jn y.round).nc:=by show c<y.round.nc;rw[(mC y).2.1];exact hc
  have J:(jn y.round).jU c=true:=by show(y.round.C c).jU=true;rw[((mC y).2.2.2 c).2];exact hi
  have H:=Q.vN U (show 0<2 by decide) J;have E:=Q.vN U (show 1<2 by decide) J;have bd:∀d<2,(lr (jn y.round) c d).ow+1<=255:=λd hd=>by
   have:=(Q.vN U hd J).d.Lj;have e:(λ_:Nat×Nat=>k+1) ((jn y.round).e c 0)+(λ_:Nat×Nat=>k+1) ((jn y.round).e c 1)=k+1+(k+1):=rfl;omega
  obtain⟨s0,w0,A⟩:=Ln (tP V.i.rN U fF) H.l H.lu (bd 0 fF);obtain⟨s1,w1,r1⟩:=Ln (tP V.i.rN U fF) E.l E.lu (bd 1 fF);exact⟨s0,w0,s1,w1,A,r1,bz.1 (bz.1 afN (s0,w0) A.2.2) (s1,w1) r1.2.2⟩
 |j+1,hj=>by
  obtain⟨V,s1,g1⟩:=St.opens h hD hN hk j fC;obtain⟨e1,u,_,e4⟩:=zr y (j+1);have h2:=V.round fC fC fC;obtain⟨m,_,_,s2⟩:=V.light s1 fC fC fC;refine⟨h2.mono fC fC fC,s2,λc hc hi=> ?_⟩;have:=g1 c hc hi;rw[show 6-j=(6-(j+1))+1 by omega]at this;exact V.pair s1 fC fC fC (by rw[u];exact hc) (by rw[(e4 c).2];exact hi) this
structure Env(N k:Nat)(a:AN):Prop where
 i:Inv N (λ_=>k) a
 o:adw a
 nl:∀c d,c<a.nc->d<2->∀x∈a.F c d,tf x
def Env.tick {N k:Nat} {a:AN} (h:Env N k a)(U:N<1000000) {i p:Nat} (hi:i<a.n)(J:p<3):Env (N+8) k (a.op i ((a.R i).jZ p))/\∀c d,c<a.nc->d<2->lr (a.op i ((a.R i).jZ p)) c d=lr a c d/\(a.op i ((a.R i).jZ p)).F c d=a.F c d++(if a.e c d=(i,p)then B8 (a.R i) p else []):=by
 obtain⟨X,Q⟩:=h.i.lk;obtain⟨B,V⟩:=h.i.own;obtain⟨l1,l2⟩:=Q.ajA h.i.nrm h.o i p;have s:=ot.tick (a:=a) i p hi J;obtain⟨C,hC⟩:=s.own h.i.rN h.i.nrm V U;refine⟨⟨⟨h.i.rN.same rfl rfl rfl,s.norm h.i.nrm,⟨C,hC⟩,⟨X,l1⟩,s.adt h.i.rN h.i.nrm V U Q h.i.fl⟩,λc d hc hd H=> ?_,λc d hc hd x hx=> ?_⟩,l2⟩;{rw[(l2 c d hc hd).1];exact h.o c d hc hd H};rw[(l2 c d hc hd).2]at hx;obtain g|g:=aA.1 hx;{exact h.nl c d hc hd x g};split at g;{exact yL _ _ x g};simp at g
def Env.pop {N k:Nat} {a:AN} (h:Env N k a)(u:N<1000000)(hk:k<=126) {c d:Nat} {x:mK} {l:List mK} (hc:c<a.nc)(hd:d<2)(hF:a.F c d=x::l):Env N k (a.pop c d x l)/\(∀c' d',lr (a.pop c d x l) c' d'=lr a c' d')/\∀c' d',c'<a.nc->d'<2->∃em,(a.pop c d x l).F c' d'=(if c'=c/\d'=d then l else a.F c' d')++em:=by
 obtain⟨X,hX⟩:=h.i.lk;have hx:=h.nl c d hc hd x (by rw[hF];simp);have A:=h.i.pps ((xL.nil a).snoc c d x l hc hd hF) u hk;cases JY h.i.rN h.i.nrm hX hc hd hF with|link q hq _ _ _=>obtain⟨id,_,_,e,_⟩|⟨id,_,_,e,_⟩:=hq<;>exact absurd rfl (hx _ _ e)|other _ J H=>refine⟨⟨A,λc' d' V U mF=> ?_,λc' d' V U y hy=> ?_⟩,J,λc' d' V U=> ?_⟩;{rw[J];exact h.o c' d' V U mF};{obtain⟨em,Q,E⟩:=H c' d' V U;rw[Q]at hy;obtain g|g:=aA.1 hy;{split at g;{exact h.nl c d hc hd y (by rw[hF];simp[g])};exact h.nl c' d' V U y g};exact E y g};{obtain⟨em,Q,_⟩:=H c' d' V U;exact⟨em,Q⟩}
def zg.len(h:zg T a b):b.jU=a.jU:=by
 induction h with|nil=>rfl|snoc i p _ _ _ ih=>exact ih
def BX(r:jO)(p q:Nat):((r.jZ p).P q).pe=if q=p then(if(j8 (r.P p).L).1.st=9 then jP (r.P p).pe else nobody)else(r.P q).pe:=by
 have Q:((j6 r p).P p).L.st=(j8 (r.P p).L).1.st:=by unfold j6;rw[mD,ag rfl,uT]
 have U:=λj=>(nH r p j).2;rw[mO,Q];by_cases V:(j8 (r.P p).L).1.st=9;{rw[af (by rw[V];simp),ag V,((rD _ _).2.2.2.2 _).2.1,(lP _ _ _ _).2.2.2,U,U]};rw[ag V,af V,(lP _ _ _ _).2.2.2,U]
def EZ {c:UInt8} (s:List UInt8)(hc:c≠76)(Q:(r.P i).L.st=9)(q:Nat):((r.take i c s).P q).pe=if q=i/\c=72/\(mr s).2.2=0 then kg r.id (mr s).1 (mr s).2.1 else(r.P q).pe:=by
 rw[mZ,uW i s hc,af (by rw[Q];simp)];unfold nL;split;{rename_i V;by_cases U:(mr s).2.2=0;{rw[ag U,(lP _ _ _ _).2.2.2];by_cases e:q=i;{rw[ag e,ag ⟨e,V,U⟩]};rw[af e,af (λz=>e z.1)]};rw[af U,af (λz=>U z.2.2)]};rename_i V;have J:¬(q=i/\c=72/\(mr s).2.2=0):=λz=>V z.2.1;rw[af J];split;{exact(lQ.state r i s q).2};split;{unfold lV;simp only;split<;>rfl};split;{unfold sT;split;{exact((nR r _).2.2.2.2 q).2.1};rfl};rfl
def Lp {i w:Int} (hi:1<=i/\i<=6)(hw:0<=w/\w<=6):mr [kI i,kI w] =(i,w,0):=by
 have V:=nT i fC fC;have U:=nT w fC fC;unfold mr;show(if [kI i,kI w].length=2/\wu (((kI i).toNat:Nat):Int) (((kI w).toNat:Nat):Int)=true then((((kI i).toNat:Nat):Int),(((kI w).toNat:Nat):Int),0)else(0,0,4))=_;rw[V,U,ag];refine⟨rfl,?_⟩;unfold wu;simp;omega
def Mp(i w:Int):mK:=72::[kI i,kI w]
def isH(x:mK):Prop:=∃s,x=72::s
def abW(hx:x∈B8 r p)(h:isH x):x=Mp r.id (jP (r.P p).pe).who:=by
 obtain⟨s,rfl⟩:=h;unfold B8 at hx;split at hx;{obtain g|g:=aS.1 hx;{exact g};split at g;{obtain⟨q,_,V⟩:=bh.1 g;unfold ET at V;split at V;{have:=az.1 V;exact absurd (aH this).1 fF};simp at V};simp at g};simp at hx
def afP(h:zg T a b)(hT:T.Nodup)(E:Env N k a)(hl:N+8*T.length<1000000):Env (N+8*T.length) k b/\(∀c d,c<a.nc->d<2->lr b c d=lr a c d)/\(∀c d,c<a.nc->d<2->(a.e c d∉T->nV b c d=nV a c d/\b.F c d=a.F c d)/\(a.e c d∈T->a.jU c=true->nV b c d=jP (nV a c d)/\∃m:jO,m.id=((a.e c d).1:Int)+1/\(m.P (a.e c d).2).pe=nV a c d/\(m.P (a.e c d).2).L=lr a c d/\b.F c d=a.F c d++B8 m (a.e c d).2)):=by
 induction h with
 |nil=>exact⟨E,λ_ _ _ _=>rfl,λc d _ _=>⟨λ_=>⟨rfl,rfl⟩,λh=>by simp at h⟩⟩
 | @snoc T a b i p tk hi hp ih=>
   rw[aG]at hl⊢;have Kg:[(i,p)].length=1:=rfl;have A:=bS.1 hT;obtain⟨e1,l1,f1⟩:=ih A.1 E fC;have V:=tk.path.same;obtain⟨e2,l2⟩:=e1.tick fC hi hp;obtain⟨B,hB⟩:=e1.i.own;refine⟨by rw[show N+8*(T.length+ [(i,p)].length)=N+8*T.length+8 by omega];exact e2,λc d hc hd=> ?_,λc d hc hd=>⟨λmT=> ?_,λmF u=> ?_⟩⟩;{rw[(l2 c d (by rw[V.2.1];exact hc) hd).1];exact l1 c d hc hd}
   ·have H:a.e c d∉T:=λz=>mT (aA.2 (.inl z));have Q:a.e c d≠(i,p):=λz=>mT (aA.2 (.inr (az.2 z)));obtain⟨g1,U⟩:=(f1 c d hc hd).1 H;have hF:=(l2 c d (by rw[V.2.1];exact hc) hd).2;rw[V.2.2.1,af Q,aF]at hF;refine⟨?_,hF.trans U⟩;rw[zR,V.2.2.1];split
    ·rename_i e
     rw[BX,af (λz=>Q (bq e z)),<-g1];unfold nV;rw[V.2.2.1,e]
    ·exact g1
   ·have hF:=(l2 c d (by rw[V.2.1];exact hc) hd).2;rw[V.2.2.1]at hF;obtain g|g:=aA.1 mF
    ·have Q:a.e c d≠(i,p):=λz=>A.2.2 _ g _ (az.2 rfl) z;obtain⟨g1,m,U,g3,g4,g5⟩:=(f1 c d hc hd).2 g u;rw[af Q,aF]at hF;refine⟨?_,m,U,g3,g4,hF.trans g5⟩;rw[zR,V.2.2.1];split
     ·rename_i e
      rw[BX,af (λz=>Q (bq e z)),<-g1];unfold nV;rw[V.2.2.1,e]
     ·exact g1
    ·have g:=az.1 g;have H:a.e c d∉T:=λz=>A.2.2 _ z _ (az.2 rfl) g;obtain⟨g1,U⟩:=(f1 c d hc hd).1 H;have qV:((b.R i).P p).L=lr a c d:=by
      rw[<-l1 c d hc hd];unfold lr;rw[V.2.2.1,g]
     have pX:((b.R i).P p).pe=nV a c d:=by
      rw[<-g1];unfold nV;rw[V.2.2.1,g]
     rw[ag g,U]at hF;have J:(j8 ((b.R i).P p).L).1.st=9:=by
      have J:(lr a c d).st=9:=E.o c d hc hd u;have hb:(decide (4<=(lr a c d).st)&&decide ((lr a c d).st<=8))=false:=by rw[J];rfl
      rw[qV];unfold j8 lS nD;rw[ag hb,af (show¬(lr a c d).st=3 by omega)];exact J
     refine⟨?_,b.R i,?_,?_,?_,?_⟩;{rw[zR,V.2.2.1,g,ag rfl,BX,ag rfl,ag J,pX]};{rw[g];exact(hB.r i hi).2.2.2.1};{rw[g];exact pX};{rw[g];exact qV};{rw[g];exact hF}
def YU(h:Env N k a)(hc:c<a.nc)(hd:d<2)(hF:a.F c d=x::l)(c' d':Nat)(A:c'<a.nc)(u:d'<2):(c'=c/\d'=1-d->∀s,x=72::s->(mr s).2.2=0->nV (a.pop c d x l) c' d'=kg ((a.e c (1-d)).1+1) (mr s).1 (mr s).2.1)/\(¬(c'=c/\d'=1-d/\isH x)->nV (a.pop c d x l) c' d'=nV a c' d'):=by
 obtain⟨X,J⟩:=h.i.lk;obtain⟨B,Q⟩:=h.i.own;have mF:=J.AF hc hd (x:=x) (by rw[hF];simp);have U:=h.i.rN.en c (1-d) hc fC;have qo:=(Q.r _ U.1).2.2.2.1;have V:((a.R (a.e c (1-d)).1).P (a.e c (1-d)).2).L.st=9:=h.o c (1-d) hc fC mF;unfold AN.pop;rw[zR,yE];refine⟨λe s hs E=> ?_,λmT=> ?_⟩;{rw[e.1,e.2,ag rfl,hs];show((jO.take _ _ 72 s).P _).pe=_;rw[EZ s fF V,ag ⟨rfl,rfl,E⟩,qo]};by_cases e:(a.e c' d').1=(a.e c (1-d)).1;{rw[ag e];cases x with|nil=>unfold nV;rw[e];rfl|cons k s=>show((jO.take _ _ k s).P _).pe=_;have H:k≠76:=h.nl c d hc hd (k::s) (by rw[hF];simp) k s rfl;rw[EZ s H V,af];{unfold nV;rw[e]};{intro g;have:=h.i.rN.ds c' d' c (1-d) A u hc fC (bq e g.1);exact mT ⟨this.1,this.2,s,by rw[g.2.1]⟩}};rw[af e];rfl
def DX(hT:zg (nJ a.n) a m)(hP:xL m b)(U:Env N k a)(hl:N+8*(nJ a.n).length<1000000)(hk:k<=126)(h0:∀c d,c<a.nc->d<2->a.F c d=[])(h1:∀c d,c<a.nc->d<2->b.F c d=[]):Env (N+8*(nJ a.n).length) k b/\∀c d,c<a.nc->d<2->a.jU c=true->nV b c d=kg ((a.e c d).1+1) ((a.e c (1-d)).1+1) (jP (nV a c (1-d))).who:=by
 obtain⟨nd,_,_⟩:=pZ a.n;obtain⟨e1,l1,f1⟩:=afP hT nd U hl;have hn:=hT.path.same;have hnb:=hP.path.same
 have tW:∀c d,c<a.nc->d<2->a.e c d∈nJ a.n:=λc d hc hd=>by
  obtain⟨e1,e2⟩:=U.i.rN.en c d hc hd;unfold nJ;refine bh.2 ⟨(a.e c d).1,aU.2 fC,?_⟩;unfold Uy;have:(a.e c d).2=0 \/(a.e c d).2=1 \/(a.e c d).2=2:=fC;obtain e|e|e:=this;{rw[show a.e c d=((a.e c d).1,0)from bq rfl e];simp};{rw[show a.e c d=((a.e c d).1,1)from bq rfl e];simp};rw[show a.e c d=((a.e c d).1,2)from bq rfl e];simp
 have key:∀b',xL m b'->Env (N+8*(nJ a.n).length) k b'/\∀c d,c<a.nc->d<2->a.jU c=true->(∀x∈b'.F c (1-d),isH x->x=Mp ((a.e c (1-d)).1+1) (jP (nV a c (1-d))).who)/\((∃x∈b'.F c (1-d),isH x) \/nV b' c d=kg ((a.e c d).1+1) ((a.e c (1-d)).1+1) (jP (nV a c (1-d))).who):=λb' hP'=>by
  induction hP' with
  |nil=>
   refine⟨e1,λc d hc hd Q=> ?_⟩;obtain⟨_,x,x1,x2,x3,x4⟩:=(f1 c (1-d) hc fC).2 (tW c (1-d) hc fC) Q;rw[h0 c (1-d) hc fC,bU]at x4;rw[x4];refine⟨λy hy hh=> ?_,.inl ?_⟩;{rw[abW hy hh,x1,x2]}
   ·have H:(j8 (x.P (a.e c (1-d)).2).L).1.st=9:=by
     have H:(lr a c (1-d)).st=9:=U.o c (1-d) hc fC Q;have hb:(decide (4<=(lr a c (1-d)).st)&&decide ((lr a c (1-d)).st<=8))=false:=by rw[H];rfl
     rw[x3];unfold j8 lS nD;rw[ag hb,af (show¬(lr a c (1-d)).st=3 by omega)];exact H
    unfold B8;rw[ag H];exact⟨_,List.mem_cons_self,_,rfl⟩
  |snoc c' d' x l p kY lL hF ih=>
   obtain⟨ie,ih⟩:=ih;have hs:=p.path.same;obtain⟨z1,z2,z3⟩:=ie.pop fC hk kY lL hF;refine⟨z1,λc d hc hd Q=> ?_⟩;obtain⟨i1,i2⟩:=ih c d hc hd Q
   rename_i b'
   have wP:c<b'.nc:=by rw[hs.2.1,hn.2.1];exact hc
   have heb:b'.e=a.e:=hs.2.2.1.trans hn.2.2.1;obtain⟨em,g1⟩:=z3 c (1-d) wP fC;have afQ:∀y∈(b'.pop c' d' x l).F c (1-d),isH y->y∈b'.F c (1-d):=λy hy hh=>by
    obtain⟨s,rfl⟩:=hh;obtain⟨m1,_⟩:=r8 (ie.i.nrm.emp (b'.e c' (1-d')).1) (b'.e c' (1-d')).2 x;unfold AN.pop at hy;rw[uy]at hy;have DY:∀z,z∈(b'.mN c' d' l).F c (1-d)->z∈b'.F c (1-d):=λz E=>by
     rw[td]at E;split at E;{rename_i e;rw[e.1,e.2,hF];simp[E]};{exact E}
    split at hy
    ·obtain u|u:=aA.1 hy;{exact DY _ u}
     ·exfalso;cases m1 ((b'.mN c' d' l).e c (1-d)).2 with
      |none h=>rw[h]at u;simp at u
      |link s' _ _ _ h=>rw[h]at u;obtain⟨v,hv⟩:=tZ u;exact absurd (aH hv).1 fF
      |heard s' _ _ _ _ _ _ _ h=>rw[h]at u;exact absurd (aH (az.1 u)).1 fF
      |K5 k1 k2 s' _ _ _ _ h=>rw[h]at u;exact absurd (aH (az.1 u)).1 fF
    ·exact DY _ hy
   refine⟨λy hy hh=>i1 y (afQ y hy hh) hh,?_⟩;have Oa:0<=(jP (nV a c (1-d))).who/\(jP (nV a c (1-d))).who<=6:=by
    obtain⟨B0,yR⟩:=U.i.own;have A:=U.i.rN.en c (1-d) hc fC;have jR:=(yR.r _ A.1).2.1;exact(qe.tick jR.id.1 (jR.pe (a.e c (1-d)).2 (by rw[(yR.r _ A.1).2.2.2.2];exact A.2))).who
   have J:1<=((a.e c (1-d)).1:Int)+1/\((a.e c (1-d)).1:Int)+1<=6:=by
    have:=U.i.rN.en c (1-d) hc fC;have:=U.i.rN.n6;omega
   obtain⟨v1,v2⟩:=YU ie kY lL hF c d wP hd;by_cases V:c=c'/\d=1-d'/\isH x;{right;have IW:1-d=d':=fC;have hx:=i1 x (by rw[V.1,IW,hF];simp) V.2.2;rw[v1 ⟨V.1,V.2.1⟩ _ hx (by rw[Lp J Oa]),Lp J Oa,heb,<-V.1,<-V.2.1]};{rw[v2 V];obtain⟨y,y1,y2⟩|i2:=i2;{left;by_cases e:c=c'/\1-d=d';{rw[e.1,e.2,hF]at y1;obtain v|v:=aS.1 y1;{exact absurd ⟨e.1,fC,by rw[<-v];exact y2⟩ V};{refine⟨y,?_,y2⟩;rw[g1,ag e];simp[v]}};{refine⟨y,?_,y2⟩;rw[g1,af e];simp[y1]}};{exact .inr i2}}
 obtain⟨k1,k2⟩:=key b hP;refine⟨k1,λc d hc hd Q=> ?_⟩;obtain⟨x,hx,_⟩|g:=(k2 c d hc hd Q).2;{rw[h1 c (1-d) hc fC]at hx;simp at hx};exact g
