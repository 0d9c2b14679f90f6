import Derived.Test.YtieklnlbljejdaaGreatDoorG36
open Option renaming none → ν, some → μ
open List renaming sublist_nil → iQ, flatMap → iR
namespace Go.Proofs.YtieklnlbljejdaaGreatDoor
open Go.RowKit St
namespace Rt
variable {F Fi Fo G em l ps:List mQ} {L L' M:LS} {T:List (Nat×Nat)} {X Y:Int->Bool} {a b:AN} {c d d' p t:Nat} {code g h i id ow:Int} {x:mQ}
def Ea(code:Int):mQ->Option Int
 |76::s=>if(jf s).2.2.2=0/\(jf s).1=code then some (jf s).2.1 else none
 |_=>none
theorem Fg(code:Int) {c:UInt8} (s:List UInt8)(h:c≠76):Ea code (c::s)=ν:=by
 unfold Ea;split
 ·rename_i e;exact absurd (aP e).1 h
 ·rfl
theorem Nk {k:Int} (hk:k=1 \/k=2)(hi:0<=id/\id<=255)(hg:1<=g/\g<=255):Ea code (76::lQ k id (oE g))=if k=code then μ id else ν:=by
 show(if(jf (lQ k id (oE g))).2.2.2=0/\(jf (lQ k id (oE g))).1=code then μ (jf (lQ k id (oE g))).2.1 else ν)=_;rw[GM hk hi hg];by_cases e:k=code
 ·rw[ag ⟨rfl,e⟩,ag e]
 ·rw[ae (λh=>e h.2),ae e]
def ids(code:Int)(l:List mQ):List Int:=l.filterMap (Ea code)
theorem lL(code:Int)(l m:List mQ):ids code (l++m)=ids code l++ids code m:=by unfold ids;rw[dg]
theorem JF(h:∀x∈l,Ea code x=ν):ids code l=[] :=by
 unfold ids;rw[List.filterMap_eq_nil_iff];exact h
theorem lv(l:List mQ)(h:Ea code x=ν):ids code (x::l)=ids code l:=by unfold ids;rw[cO,h]
theorem kK(l:List mQ)(h:Ea code x=μ i):ids code (x::l)=i::ids code l:=by unfold ids;rw[cO,h]
theorem Wl(h:i∈ids code l):∃x∈l,Ea code x=μ i:=by
 unfold ids at h;obtain⟨x,h1,h2⟩:=dE.1 h;exact⟨x,h1,h2⟩
theorem GQ(h1:x∈l)(h2:Ea code x=μ i):i∈ids code l:=by
 unfold ids;exact dE.2 ⟨x,h1,h2⟩
def JG(go gi:Int)(x:mQ):Prop:=(∀c s,x=c::s->c≠76) \/(∃id,0<=id/\id<=255/\x=oC go id) \/(∃id,0<=id/\id<=255/\x=rI gi id)
def yA(x:mQ):Prop:=∀c s,x=c::s->c≠76
theorem yA.lk(h:yA x)(code:Int):Ea code x=ν:=by
 cases x with
 |nil=>rfl
 |cons c s=>exact Fg code s (h c s rfl)
def GR(X:Int->Bool)(ow:Int)(x y:mQ):Prop:=∀j id,Ea 2 x=μ j->Ea 1 y=μ id->X id=true->j<ow
structure oc(X:Int->Bool)(L:LS)(Fo Fi:List mQ)(t:Nat):Prop where
 inc:(ids 2 Fi++ids 1 Fo).Pairwise (· < ·)
 le:∀i∈ids 2 Fi++ids 1 Fo,i<=L.ow
 emp:L.st=7 \/L.st=9->ids 2 Fi++ids 1 Fo=[] /\∀i∈ids 1 Fi,X i=false
 lim:Fi.Pairwise (GR X L.ow)
 LO:L.ow+(((ids 1 Fi).filter λi=> !X i).length:Nat)<=t
structure Pair(X Y:Int->Bool)(t:Nat)(g h:Int)(L M:LS)(F G:List mQ):Prop where
 l:LI g L
 m:LI h M
 lu:6<=L.st
 mu:6<=M.st
 f:∀x∈F,JG g h x
 g:∀x∈G,JG h g x
 d:oc Y L F G t
 e:oc X M G F t
theorem Pair.symm(p:Pair X Y t g h L M F G):Pair Y X t h g M L G F:=⟨p.m,p.l,p.mu,p.lu,p.g,p.f,p.e,p.d⟩
theorem oc.mono {u:Nat} (p:oc X L Fo Fi t)(h:t<=u):oc X L Fo Fi u:=⟨p.inc,p.le,p.emp,p.lim,by have:=p.LO;omega⟩
theorem Pair.mono {X Y:Int->Bool} {t u:Nat} {g h:Int} {L M:LS} {F G:List mQ} (p:Pair X Y t g h L M F G)(k:t<=u):Pair X Y u g h L M F G:=⟨p.l,p.m,p.lu,p.mu,p.f,p.g,p.d.mono k,p.e.mono k⟩
theorem oc.congr(p:oc X L Fo Fi t)(h1:L'.st=L.st)(h2:L'.ow=L.ow):oc X L' Fo Fi t:=⟨p.inc,by rw[h2];exact p.le,by rw[h1];exact p.emp,by rw[h2];exact p.lim,by rw[h2];exact p.LO⟩
theorem oc.sub {Fo' Fi':List mQ} (p:oc X L Fo Fi t)(h1:Fo'.Sublist Fo)(h2:Fi'.Sublist Fi):oc X L Fo' Fi' t:=by
 have s1:(ids 2 Fi'++ids 1 Fo').Sublist (ids 2 Fi++ids 1 Fo):=List.Sublist.append (h2.filterMap _) (h1.filterMap _);have s2:(ids 1 Fi').Sublist (ids 1 Fi):=h2.filterMap _;refine⟨p.inc.sublist s1,λi hi=>p.le i (s1.mem hi),λh=> ?_,p.lim.sublist h2,?_⟩
 ·obtain⟨a,b⟩:=p.emp h;refine⟨?_,λi hi=>b i (s2.mem hi)⟩;rw[a]at s1;exact iQ.1 s1
 ·have:=p.LO;have:=(s2.filter λi=> !X i).length_le;omega
theorem Pair.sub {X Y:Int->Bool} {t:Nat} {g h:Int} {L M:LS} {F G F' G':List mQ} (p:Pair X Y t g h L M F G)(h1:F'.Sublist F)(h2:G'.Sublist G):Pair X Y t g h L M F' G':=
 ⟨p.l,p.m,p.lu,p.mu,λx hx=>p.f x (h1.mem hx),λx hx=>p.g x (h2.mem hx),p.d.sub h1 h2,p.e.sub h2 h1⟩
theorem oc.adK(p:oc X L Fo Fi t)(h:∀x∈ps,yA x):oc X L Fo (Fi++ps) t:=by
 have e1:∀c,ids c (Fi++ps)=ids c Fi:=λc=>by rw[lL,JF λx hx=>(h x hx).lk c,aM]
 refine⟨by rw[e1];exact p.inc,by rw[e1];exact p.le,by rw[e1,e1];exact p.emp,?_,by rw[e1];exact p.LO⟩;refine bg.2 ⟨p.lim,?_,λx _ y hy j id _ h2=>by rw[(h y hy).lk]at h2;exact absurd h2 iC⟩;exact dQ (R:=λ_ _=>True) (λ{x y} hx _ _ j id h1=>by rw[(h x hx).lk]at h1;exact absurd h1 iC) (List.pairwise_of_forall λ_ _=>trivial)
theorem oc.adL(p:oc X L Fo Fi t)(h:∀x∈ps,yA x):oc X L (Fo++ps) Fi t:=by
 have e1:ids 1 (Fo++ps)=ids 1 Fo:=by rw[lL,JF λx hx=>(h x hx).lk 1,aM]
 exact⟨by rw[e1];exact p.inc,by rw[e1];exact p.le,by rw[e1];exact p.emp,p.lim,p.LO⟩
theorem Pair.more(p:Pair X Y t g h L M F G)(hp:∀x∈ps,yA x):Pair X Y t g h L M (F++ps) G:=
 ⟨p.l,p.m,p.lu,p.mu,λx hx=>(aD.1 hx).elim (p.f x) λe=>.inl (hp x e),p.g,p.d.adL hp,p.e.adK hp⟩
theorem wJ(hg:1<=g/\g<=255)(hi:0<=id/\id<=255):Ea 1 (oC g id)=μ id/\Ea 2 (oC g id)=ν/\Ea 1 (rI g id)=ν/\Ea 2 (rI g id)=μ id:=by
 unfold oC rI;rw[Nk (.inl rfl) hi hg,Nk (.inl rfl) hi hg,Nk (.inr rfl) hi hg,Nk (.inr rfl) hi hg];exact⟨iC,iC,iC,iC⟩
def mark(X:Int->Bool)(i:Int)(b:Bool):Int->Bool:=λk=>if k=i then b else X k
theorem JH {b:Bool} {l:List Int} (h:∀k∈l,k<i):(l.filter λk=> !mark X i b k)=l.filter λk=> !X k:=by
 refine List.filter_congr λk hk=> ?_;have:=h k hk;unfold mark;rw[ae eE]
theorem JI {b:Bool} (h:∀k∈ids 1 F,k<i)(p:F.Pairwise (GR X ow)):F.Pairwise (GR (mark X i b) ow):=by
 refine dQ (λ{x y} _ hy hr j id h1 h2 h3=>hr j id h1 h2 ?_) p;have:=h id (GQ hy h2);unfold mark at h3;rw[ae eE]at h3;exact h3
theorem TC {GU:Int} (h:ow<=GU)(p:F.Pairwise (GR X ow)):F.Pairwise (GR X GU):=
 p.imp λ{x y} hr j id h1 h2 h3=>by have:=hr j id h1 h2 h3;omega
theorem Pair.ask(hg:1<=g/\g<=255)(p:Pair X Y t g h L M F G)(ht:t+1<=255)(hl:LI g L')(hw:L'.ow=L.ow+1)(hs:L'.st=6 \/L'.st=8):Pair (mark X (L.ow+1) false) Y (t+1) g h L' M (F++ [oC g (L.ow+1)]) G:=by
 have hb:=p.d.LO;have hi:0<=L.ow+1/\L.ow+1<=255:=by have:=p.l.k.o1;omega
 obtain⟨r1,r2,_,_⟩:=wJ hg hi;have e1:ids 1 (F++ [oC g (L.ow+1)])=ids 1 F++ [L.ow+1] :=by rw[lL,kK [] r1];rfl
 have e2:ids 2 (F++ [oC g (L.ow+1)])=ids 2 F:=by rw[lL,lv [] r2];simp[ids]
 have kH:∀k∈ids 1 F,k<L.ow+1:=λk hk=>by have:=p.d.le k (aD.2 (.inr hk));omega
 refine⟨hl,p.m,eE,p.mu,λx hx=> ?_,p.g,⟨?_,?_,λh=>eE,by rw[hw];exact TC eE p.d.lim,by rw[hw];omega⟩,⟨?_,?_,λh=> ?_,?_,?_⟩⟩
 ·rcases aD.1 hx with e|e
  ·exact p.f x e
  ·exact .inr (.inl ⟨_,hi.1,hi.2,az.1 e⟩)
 ·rw[e1,<-aC];refine bg.2 ⟨p.d.inc,iC,λa ha b hb=> ?_⟩;rw[az.1 hb];have:=p.d.le a ha;omega
 ·rw[e1,<-aC,hw];intro i hi;rcases aD.1 hi with e|e
  ·have:=p.d.le i e;omega
  ·rw[az.1 e];exact Int.le_refl _
 ·rw[e2];exact p.e.inc
 ·rw[e2];exact p.e.le
 ·rw[e1,e2];obtain⟨a,b⟩:=p.e.emp h;refine⟨a,λi hi=> ?_⟩;unfold mark;rcases aD.1 hi with e|e
  ·rw[ae (by have:=kH i e;omega)];exact b i e
  ·rw[ag (az.1 e)]
 ·refine bg.2 ⟨JI kH p.e.lim,iC,λx _ y hy j id _ h2 h3=> ?_⟩;rw[az.1 hy,r1]at h2;injection h2 with h2
  unfold mark at h3;rw[ag h2.symm]at h3;exact absurd h3 iC
 ·rw[e1,cA,JH kH,aA];have:=p.e.LO;have:((([L.ow+1] :List Int).filter λi=> !mark X (L.ow+1) false i).length)<=1:=cK _ _;omega
theorem Pair.tick(hg:1<=g/\g<=255)(p:Pair X Y t g h L M F G)(ht:t+1<=255):∃X',Pair X' Y (t+1) g h (j3 L).1 M (F++(j3 L).2.flatMap r8) G/\(∀k∈ids 1 F,X' k=X k)/\((j3 L).2.flatMap r8=[] \/(j3 L).2.flatMap r8=[oC g (L.ow+1)]):=by
 obtain⟨li,h1|h1⟩:=Ni hg p.l
 ·obtain⟨h1,h2,h3,_⟩:=h1;refine⟨X,?_,λ_ _=>rfl,.inl (by rw[h1];rfl)⟩;rw[h1];have q:Pair X Y t g h (j3 L).1 M F G:=⟨li,p.m,by rw[h3];exact p.lu,p.mu,p.f,p.g,p.d.congr h3 h2,p.e⟩
  simpa using q.mono (Nat.le_succ t)
 ·obtain⟨_,_,h3,h4,_,h6⟩:=h1;have hb:=p.d.LO;have hi:0<=L.ow+1/\L.ow+1<=255:=by have:=p.l.k.o1;omega
  have em:(L.ow+1) %256=L.ow+1:=eE;rw[em]at h3 h4;have e:(j3 L).2.flatMap r8=[oC g (L.ow+1)] :=by
   rw[h3];show r8 _++ [] =_;rw[Nj (.inl rfl) hi hg];rfl
  refine⟨mark X (L.ow+1) false,?_,λk hk=> ?_,.inr e⟩
  ·rw[e];exact p.ask hg ht li h4 eE
  ·have:=p.d.le k (aD.2 (.inr hk));unfold mark;rw[ae eE]
def Br(X:Int->Bool)(x:mQ):Nat:=match Ea 1 x with
 |some i=>if X i=true then 2 else 3
 |none=>match x with
  |83::_=>2
  |77::_::b::_=>b.toNat+1
  |_=>1
def rJ(X:Int->Bool)(x:mQ):Nat:=match Ea 1 x with
 |some i=>if X i=true then 2 else 4
 |none=>match x with
  |83::_=>2
  |77::_=>0
  |_=>1
theorem yB(hg:1<=g/\g<=255)(hi:0<=id/\id<=255)(X:Int->Bool):Br X (rI g id)=1/\rJ X (rI g id)=1:=by
 unfold Br rJ;rw[(wJ hg hi).2.2.1];exact⟨rfl,rfl⟩
theorem yC(hg:1<=g/\g<=255)(hi:0<=id/\id<=255)(X:Int->Bool):Br X (oC g id)=(if X id=true then 2 else 3)/\rJ X (oC g id)=if X id=true then 2 else 4:=by
 unfold Br rJ;rw[(wJ hg hi).1];exact⟨rfl,rfl⟩
theorem oc.XL {X':Int->Bool} (hh:1<=h/\h<=255)(hi:0<=id/\id<=255)(p:oc X M (oC h id::G) F t)(LP:ids 2 em=[id])(TD:(F++em).Pairwise (GR X' M.ow))(Wm:M.ow+(((ids 1 (F++em)).filter λi=> !X' i).length:Nat)<=t):oc X' M G (F++em) t:=by
 have r1:=(wJ hh hi).1;have e:ids 2 (F++em)++ids 1 G=ids 2 F++ids 1 (oC h id::G):=by
  rw[lL,LP,kK G r1,aC];rfl
 refine⟨by rw[e];exact p.inc,by rw[e];exact p.le,λhs=> ?_,TD,Wm⟩;have:=(p.emp hs).1;rw[kK G r1]at this;simp at this
theorem Nm(h1:F.Pairwise (GR X ow))(h2:em.Pairwise (GR X ow))(h3:∀y∈em,∀id,Ea 1 y=μ id->X id=true->∀j∈ids 2 F,j<ow):(F++em).Pairwise (GR X ow):=
 bg.2 ⟨h1,h2,λ_ hx y hy j id a b c=>h3 y hy id b c j (GQ hx a)⟩
structure Wn(X X' Y:Int->Bool)(t:Nat)(g h:Int)(L' M:LS)(F l em:List mQ)(x:mQ):Prop where
 p:Pair X' Y t g h L' M (F++em) l
 old:∀k∈ids 1 F,X' k=X k
 dp:∀y∈em,Br X' y+1<=Br Y x
 wg:sm (rJ X') em+1<=rJ Y x
 st:6<=L'.st
theorem Pair.adM(hh:1<=h/\h<=255)(hi:0<=id/\id<=255)(p:Pair X Y t g h L M F (oC h id::l))(li:LI g L')(GU:L'.ow=L.ow)(P7:6<=L'.st)(kD:L'.st=7 \/L'.st=9->L.st=7):Wn X X Y t g h L' M F l [rI h id] (oC h id):=by
 obtain⟨r1,r2,r3,r4⟩:=wJ hh hi;have Qh:=kK l r1;have Z8:=lv l r2;have i1:ids 1 [rI h id] =[] :=by rw[lv _ r3];rfl
 have i2:ids 2 [rI h id] =[id] :=by rw[kK _ r4];rfl
 have hq:=yC hh hi Y;refine⟨⟨li,p.m,P7,p.mu,λx hx=> ?_,λy hy=>p.g y (by simp[hy]),⟨?_,?_,λhs=> ?_,?_,?_⟩,?_⟩,λk _=>rfl,λy hy=> ?_,?_,P7⟩
 ·rcases aD.1 hx with z|z
  ·exact p.f x z
  ·rw[az.1 z];exact .inr (.inr ⟨id,hi.1,hi.2,rfl⟩)
 ·rw[lL,i1,aM,<-Z8];exact p.d.inc
 ·rw[lL,i1,aM,<-Z8,GU];exact p.d.le
 ·rw[lL,i1,aM,<-Z8];obtain⟨a,b⟩:=p.d.emp (.inl (kD hs));exact⟨a,λi hi=>b i (by rw[Qh];simp[hi])⟩
 ·rw[GU];exact p.d.lim.sublist (bJ _ _)
 ·rw[GU];have:=p.d.LO;rw[Qh]at this;have h2:((ids 1 l).filter λi=> !Y i).length<=((id::ids 1 l).filter λi=> !Y i).length:=((bJ id (ids 1 l)).filter _).length_le;omega
 ·refine oc.XL hh hi p.e i2 (Nm p.e.lim iC λy hy i h1 _=>by rw[az.1 hy,r3]at h1;exact absurd h1 iC) ?_;rw[lL,i1,aM];exact p.e.LO
 ·rw[az.1 hy,(yB hh hi _).1,hq.1];split<;>omega
 ·show rJ _ (rI h id)+0+1<=_;rw[(yB hh hi _).2,hq.2];split<;>omega
theorem Pair.req(hg:1<=g/\g<=255)(hh:1<=h/\h<=255)(jV:h≠g)(ht:t<=255)(hi:0<=id/\id<=255)(p:Pair X Y t g h L M F (oC h id::l)):∃X',Wn X X' Y t g h (j4 L (1,id,oE h)).1 M F l ((j4 L (1,id,oE h)).2.1.flatMap r8) (oC h id):=by
 obtain⟨r1,r2,r3,r4⟩:=wJ hh hi;have hb:=p.d.LO;have ho:=p.l.k.o1;have Qh:=kK l r1;have Z8:=lv l r2;have hf:∀y∈l,JG h g y:=λy hy=>p.g y (by simp[hy]);have hack:JG g h (rI h id):=.inr (.inr ⟨id,hi.1,hi.2,rfl⟩);have pkA:r8 (2,id,oE h)=[rI h id] :=Nj (.inr rfl) hi hh;have hM:∀j∈ids 2 F,j<M.ow:=λj hj=>by
  have h1:=p.e.inc;have h2:=p.e.le id (by rw[Qh];simp);rw[Qh]at h1;have:=(bg.1 h1).2.2 j hj id iC;omega
 obtain⟨li,h9|h7|h68⟩:=Z5 hg hh jV hi p.l p.lu
 ·obtain⟨s9,out,s8,GU,_⟩:=h9;obtain⟨adN,ahC⟩:=p.d.emp (.inr s9);have hX:Y id=false:=ahC id (by rw[Qh];simp);have amj:((ids 1 (oC h id::l)).filter λi=> !Y i).length=((ids 1 l).filter λi=> !Y i).length+1:=by
   rw[Qh,List.filter_cons,hX];rfl
  have em:(L.ow+1) %256=L.ow+1:=eE;have lO:0<=L.ow+1/\L.ow+1<=255:=eE;obtain⟨q1,q2,q3,q4⟩:=wJ hg lO;rw[em]at out GU;have e:(j4 L (1,id,oE h)).2.1.flatMap r8=[oC g (L.ow+1),rI h id] :=by
   rw[out];show r8 _++(r8 _++ [])=_;rw[Nj (.inl rfl) lO hg,pkA];rfl
  have ug:ids 2 l=[] /\ids 1 F=[] :=by
   rw[Z8]at adN;exact List.append_eq_nil_iff.1 adN
  have i1:ids 1 [oC g (L.ow+1),rI h id] =[L.ow+1] :=by rw[kK _ q1,lv _ r3];rfl
  have i2:ids 2 [oC g (L.ow+1),rI h id] =[id] :=by rw[lv _ q2,kK _ r4];rfl
  refine⟨mark X (L.ow+1) true,?_⟩;rw[e];refine⟨⟨li,p.m,eE,p.mu,λx hx=> ?_,hf,⟨?_,?_,λh=>eE,?_,?_⟩,?_⟩,λk hk=>by rw[ug.2]at hk;simp at hk,λy hy=> ?_,?_,eE⟩
  ·rcases aD.1 hx with z|z
   ·exact p.f x z
   ·rcases bn.1 z with z|z
    ·exact .inr (.inl ⟨_,lO.1,lO.2,z⟩)
    ·rw[az.1 z];exact hack
  ·rw[ug.1,lL,ug.2,i1];simp
  ·rw[ug.1,lL,ug.2,i1,GU];simp
  ·rw[GU];exact TC eE (p.d.lim.sublist (bJ _ _))
  ·rw[GU];omega
  ·refine oc.XL hh hi p.e i2 (Nm (JI (λk hk=>by rw[ug.2]at hk;simp at hk) p.e.lim) ?_ λy hy i h1 h2=>hM) ?_
   ·refine cC.2 ⟨λy hy j i a=>by rw[q2]at a;exact absurd a iC,iC⟩
   ·rw[lL,ug.2,i1];have:(([] ++ [L.ow+1] :List Int).filter λi=> !mark X (L.ow+1) true i)=[] :=by simp[mark]
    rw[this];have:=p.e.LO;have e0:(([] :List Int).length:Nat)=0:=rfl;omega
  ·have hY:Br Y (oC h id)=3:=by rw[(yC hh hi Y).1,hX];rfl
   rw[hY];rcases bn.1 hy with z|z
   ·rw[z,(yC hg lO _).1];simp[mark]
   ·rw[az.1 z,(yB hh hi _).1];omega
  ·have hY:rJ Y (oC h id)=4:=by rw[(yC hh hi Y).2,hX];rfl
   rw[hY];show rJ _ (oC g (L.ow+1))+(rJ _ (rI h id)+0)+1<=4;rw[(yC hg lO _).2,(yB hh hi _).2];simp[mark]
 ·have JJ:∃L',(j4 L (1,id,oE h)).1=L'/\LI g L'/\L'.ow=L.ow/\6<=L'.st/\(L'.st=7 \/L'.st=9->L.st=7)/\(j4 L (1,id,oE h)).2.1.flatMap r8=[rI h id] :=by
   obtain⟨s7,out,s9,GU⟩:=h7;refine⟨_,rfl,li,GU,eE,λ_=>s7,?_⟩;rw[out];show r8 _++ [] =_;rw[pkA];rfl
  obtain⟨L',hL',li',GU,P7,kD,e⟩:=JJ;refine⟨X,?_⟩;rw[hL',e];exact Pair.adM hh hi p li' GU P7 kD
 ·have JJ:∃L',(j4 L (1,id,oE h)).1=L'/\LI g L'/\L'.ow=L.ow/\6<=L'.st/\(L'.st=7 \/L'.st=9->L.st=7)/\(j4 L (1,id,oE h)).2.1.flatMap r8=[rI h id] :=by
   obtain⟨s7,out,s8,GU,_⟩:=h68;refine⟨_,rfl,li,GU,eE,λh=>eE,?_⟩;rw[out];show r8 _++ [] =_;rw[pkA];rfl
  obtain⟨L',hL',li',GU,P7,kD,e⟩:=JJ;refine⟨X,?_⟩;rw[hL',e];exact Pair.adM hh hi p li' GU P7 kD
theorem Pair.ack(hg:1<=g/\g<=255)(hi:0<=id/\id<=255)(p:Pair X Y t g h L M F (rI g id::l)):Wn X X Y t g h (j4 L (2,id,oE g)).1 M F l ((j4 L (2,id,oE g)).2.1.flatMap r8) (rI g id):=by
 obtain⟨r1,r2,r3,r4⟩:=wJ hg hi;have Qh:=lv l r3;have Z8:=kK l r4;have XM:ids 2 (rI g id::l)++ids 1 F=id::(ids 2 l++ids 1 F):=by rw[Z8];rfl
 have mr:¬(L.st=7 \/L.st=9):=λh=>by
  have:=(p.d.emp h).1;rw[XM]at this;simp at this
 have adP:=p.d.inc;have hle:=p.d.le;rw[XM]at adP hle;have hpw:=cC.1 adP;have he:oc X M l F t:=⟨by have:=p.e.inc;rw[Qh]at this;exact this,by have:=p.e.le;rw[Qh]at this;exact this,by have:=p.e.emp;rw[Qh]at this;exact this,p.e.lim,p.e.LO⟩
 have Wm:L.ow+(((ids 1 l).filter λi=> !Y i).length:Nat)<=t:=by have:=p.d.LO;rw[Qh]at this;exact this
 have TD:=p.d.lim;have hf:∀y∈l,JG h g y:=λy hy=>p.g y (by simp[hy]);have hwg:sm (rJ X) [] +1<=rJ Y (rI g id):=by rw[(yB hg hi Y).2];exact Nat.le_refl _
 by_cases hw:id=L.ow
 ·have h68:L.st=6 \/L.st=8:=by
   have:=p.lu;have:=p.l.st;omega
  obtain⟨a1,a2,a3,_,a5⟩:=Z7 hg p.l h68;subst hw;rw[a2];have kj:ids 2 l++ids 1 F=[] :=by
   cases hl:ids 2 l++ids 1 F with
   |nil=>rfl
   |cons z zs=>
    have h1:=hpw.1 z (by rw[hl];simp);have h2:=hle z (by rw[hl];simp);omega
  refine⟨⟨a1,p.m,by rw[a5];omega,p.mu,?_,hf,⟨?_,?_,λ_=>⟨?_,λi lO=> ?_⟩,?_,?_⟩,?_⟩,λ_ _=>rfl,λy hy=>by simp at hy,hwg,by rw[a5];omega⟩
  ·simpa using p.f
  ·rw[show F++iR r8 [] =F by simp,kj];exact List.Pairwise.nil
  ·rw[show F++iR r8 [] =F by simp,kj];exact λ_ h=>by simp at h
  ·rw[show F++iR r8 [] =F by simp];exact kj
  ·obtain⟨y,hy,hy2⟩:=Wl lO;cases hX:Y i
   ·rfl
   ·have:=(cC.1 TD).1 y hy L.ow i r4 hy2 hX;omega
  ·rw[a3];exact TD.sublist (bJ _ _)
  ·rw[a3];exact Wm
  ·rw[show F++iR r8 [] =F by simp];exact he
 ·rw[Z6 hg hi hw];refine⟨⟨p.l,p.m,p.lu,p.mu,?_,hf,⟨?_,?_,λh=>absurd h mr,TD.sublist (bJ _ _),Wm⟩,?_⟩,λ_ _=>rfl,λy hy=>by simp at hy,hwg,p.lu⟩
  ·simpa using p.f
  ·rw[show F++iR r8 [] =F by simp];exact hpw.2
  ·rw[show F++iR r8 [] =F by simp];exact λi hi=>hle i (by simp[hi])
  ·rw[show F++iR r8 [] =F by simp];exact he
theorem Pair.new(hg:1<=g/\g<=255)(hh:1<=h/\h<=255)(l:LI g L)(m:LI h M)(s1:L.st=6)(s2:M.st=6)(w1:L.ow+1<=t)(w2:M.ow+1<=t):Pair (λ_=>false) (λ_=>false) t g h L M [oC g L.ow] [oC h M.ow] :=by
 obtain⟨q1,q2,_,_⟩:=wJ hg ⟨l.k.o1,l.k.o2⟩;obtain⟨r1,r2,_,_⟩:=wJ hh ⟨m.k.o1,m.k.o2⟩;have a1:ids 1 [oC g L.ow] =[L.ow] :=by rw[kK _ q1];rfl
 have a2:ids 2 [oC g L.ow] =[] :=by rw[lv _ q2];rfl
 have b1:ids 1 [oC h M.ow] =[M.ow] :=by rw[kK _ r1];rfl
 have b2:ids 2 [oC h M.ow] =[] :=by rw[lv _ r2];rfl
 refine⟨l,m,eE,eE,λx hx=> ?_,λx hx=> ?_,⟨?_,?_,λh=>eE,iC,?_⟩,⟨?_,?_,λh=>eE,iC,?_⟩⟩
 ·exact .inr (.inl ⟨_,l.k.o1,l.k.o2,az.1 hx⟩)
 ·exact .inr (.inl ⟨_,m.k.o1,m.k.o2,az.1 hx⟩)
 ·rw[a1,b2];simp
 ·rw[a1,b2];simp
 ·rw[b1];show L.ow+((1:Nat):Int)<=t;omega
 ·rw[b1,a2];simp
 ·rw[b1,a2];simp
 ·rw[a1];show M.ow+((1:Nat):Int)<=t;omega
def mb(a:AN)(c d:Nat):LS:=((a.R (a.e c d).1).P (a.e c d).2).L
def gP(x:Nat×Nat):Int:=8*((x.1:Int)+1)+(x.2:Int)+1
theorem Au(hB:ux a)(hc:c<a.nc)(hd:d<2):1<=gP (a.e c d)/\gP (a.e c d)<=255:=by
 have:=hB.en c d hc hd;have:=hB.n6;unfold gP;omega
theorem adQ(hB:ux a)(hc:c<a.nc)(hd:d<2)(lD:d'<2)(h:d≠d'):gP (a.e c d)≠gP (a.e c d'):=by
 have h1:=hB.en c d hc hd;have h2:=hB.en c d' hc lD;intro e;unfold gP at e;have:a.e c d=a.e c d':=bu eE eE;exact h (hB.ds _ _ _ _ hc hd hc lD this).2
abbrev Marks:=Nat->Nat->Int->Bool
structure ud(X:Marks)(t:Nat×Nat->Nat)(a:AN):Prop where
 up:∀c,c<a.nc->a.jG c=true->Pair (X c 0) (X c 1) (t (a.e c 0)+t (a.e c 1)) (gP (a.e c 0)) (gP (a.e c 1)) (mb a c 0) (mb a c 1) (a.F c 0) (a.F c 1)
 dn:∀c,c<a.nc->a.jG c=false->∀d,d<2->LI (gP (a.e c d)) (mb a c d)/\(mb a c d).st=1/\(mb a c d).ow<=((t (a.e c 0)+t (a.e c 1):Nat):Int)/\a.F c d=[]
theorem ud.wv {X:Marks} {t:Nat×Nat->Nat} (h:ud X t a)(hc:c<a.nc)(hd:d<2)(hi:a.jG c=true):Pair (X c d) (X c (1-d)) (t (a.e c 0)+t (a.e c 1)) (gP (a.e c d)) (gP (a.e c (1-d))) (mb a c d) (mb a c (1-d)) (a.F c d) (a.F c (1-d)):=by
 have:d=0 \/d=1:=eE;rcases this with rfl|rfl
 ·exact h.up c hc hi
 ·exact(h.up c hc hi).symm
theorem ud.TE {X:Marks} {t:Nat×Nat->Nat} (h:ud X t a)(hc:c<a.nc)(hd:d<2)(hx:x∈a.F c d):a.jG c=true:=by
 cases hi:a.jG c
 ·have:=(h.dn c hc hi d hd).2.2.2;rw[this]at hx;simp at hx
 ·rfl
theorem JK {X:Marks} {g:Nat->Int} {L:Nat->LS} {F:Nat->List mQ} (hd:d<2)(h:Pair (X 0 d) (X 0 (1-d)) t (g d) (g (1-d)) (L d) (L (1-d)) (F d) (F (1-d))):Pair (X 0 0) (X 0 1) t (g 0) (g 1) (L 0) (L 1) (F 0) (F 1):=by
 have:d=0 \/d=1:=eE;rcases this with rfl|rfl
 ·exact h
 ·exact h.symm
theorem ud.MT {X X':Marks} {t u:Nat×Nat->Nat} (h:ud X t a)(Wo:∀x,t x<=u x)(h2:b.e=a.e)(hc:c<a.nc)(hi:b.jG c=a.jG c)(hX:∀d,d<2->X' c d=X c d)(hL:∀d,d<2->mb b c d=mb a c d)(hF:∀d,d<2->b.F c d=a.F c d):(b.jG c=true->Pair (X' c 0) (X' c 1) (u (b.e c 0)+u (b.e c 1)) (gP (b.e c 0)) (gP (b.e c 1)) (mb b c 0) (mb b c 1) (b.F c 0) (b.F c 1))/\(b.jG c=false->∀d,d<2->LI (gP (b.e c d)) (mb b c d)/\(mb b c d).st=1/\(mb b c d).ow<=((u (b.e c 0)+u (b.e c 1):Nat):Int)/\b.F c d=[]):=by
 have t0:=Wo (a.e c 0);have t1:=Wo (a.e c 1);refine⟨λhb=> ?_,λhb d hd=> ?_⟩
 ·rw[h2,hX 0 eH,hX 1 eH,hL 0 eH,hL 1 eH,hF 0 eH,hF 1 eH];exact(h.up c hc (by rw[<-hi];exact hb)).mono eE
 ·rw[h2,hL d hd,hF d hd];obtain⟨a1,a2,a3,a4⟩:=h.dn c hc (by rw[<-hi];exact hb) d hd;exact⟨a1,a2,eE,a4⟩
theorem JL(a:AN)(i:Nat)(s:iY)(c d:Nat):mb (a.op i s) c d=if(a.e c d).1=i then(s.P (a.e c d).2).L else mb a c d:=by
 unfold mb;show((jI a.R i s.core (a.e c d).1).P (a.e c d).2).L=_;by_cases e:(a.e c d).1=i
 ·rw[e,iP,ag rfl];rfl
 ·rw[iL _ _ e,ae e]
theorem Fh(h:∀k∈ids 1 F,Y k=X k):∀y∈F,Br Y y=Br X y/\rJ Y y=rJ X y:=λy hy=>by
 unfold Br rJ;cases e:Ea 1 y with
 |none=>exact⟨rfl,rfl⟩
 |some i=>constructor<;>simp only[h i (GQ hy e)]
theorem ud.quiet {X:Marks} {t:Nat×Nat->Nat} (h:ud X t a)(i:Nat)(s:iY)(hL:∀p,(s.P p).L=((a.R i).P p).L)(hq:∀p,jH (s.P p)=[] \/((s.P p).L.st=9/\∀y∈jH (s.P p),yA y)):ud X t (a.op i s):=by
 have l1:∀c d,mb (a.op i s) c d=mb a c d:=λc d=>by
  rw[JL];split
  ·rename_i e;rw[hL,<-e];rfl
  ·rfl
 have f1:∀c d,∃em,(a.op i s).F c d=a.F c d++em/\(em=[] \/((mb a c d).st=9/\∀y∈em,yA y)):=λc d=>by
  rw[zy];split
  ·rename_i e
   refine⟨_,rfl,?_⟩;rcases hq (a.e c d).2 with g|⟨g1,g2⟩
   ·exact .inl g
   ·right;rw[hL]at g1;unfold mb;rw[e.2];exact⟨g1,g2⟩
  ·exact⟨[],iC,.inl rfl⟩
 refine⟨λc hc hi=> ?_,λc hc hi d hd=> ?_⟩
 ·have p:=h.up c hc hi;rw[l1,l1];obtain⟨e0,a0,b0⟩:=f1 c 0;obtain⟨e1,a1,b1⟩:=f1 c 1;rw[a0,a1];have n0:∀y∈e0,yA y:=by
   rcases b0 with b|b;·rw[b];exact λ_ h=>by simp at h
   ·exact b.2
  have n1:∀y∈e1,yA y:=by
   rcases b1 with b|b;·rw[b];exact λ_ h=>by simp at h
   ·exact b.2
  exact((p.more n0).symm.more n1).symm
 ·obtain⟨a1,a2,a3,a4⟩:=h.dn c hc hi d hd;rw[l1];obtain⟨em,g1,g2⟩:=f1 c d;refine⟨a1,a2,a3,?_⟩;rw[g1,a4];rcases g2 with g|g
  ·rw[g];rfl
  ·have:=g.1;omega
theorem Dp(i p:Nat)(s:iY)(h:∀q,q≠p->(s.P q).L=((a.R i).P q).L/\jH (s.P q)=[])(c d:Nat):(a.e c d≠(i,p)->mb (a.op i s) c d=mb a c d/\(a.op i s).F c d=a.F c d)/\(a.e c d=(i,p)->c<a.nc->d<2->mb (a.op i s) c d=(s.P p).L/\(a.op i s).F c d=a.F c d++jH (s.P p)):=by
 refine⟨λjV=> ?_,λhe hc hd=> ?_⟩
 ·rw[JL,zy];by_cases e:(a.e c d).1=i
  ·have hq:(a.e c d).2≠p:=λe2=>jV (bu e e2);obtain⟨g1,g2⟩:=h _ hq;rw[ag e,g1,g2,aM];refine⟨?_,by split<;>rfl⟩;unfold mb;rw[e]
  ·rw[ae e,ae (λz=>e z.2)];exact⟨rfl,rfl⟩
 ·rw[JL,zy,he,ag rfl,ag ⟨⟨hc,hd⟩,rfl⟩];exact⟨rfl,rfl⟩
def qh(t:Nat×Nat->Nat)(T:List (Nat×Nat))(x:Nat×Nat):Nat:=t x+T.count x
def DF(X:Marks)(c d:Nat)(Y:Int->Bool):Marks:=λc' d'=>if c'=c/\d'=d then Y else X c' d'
theorem qy(X:Marks)(c d:Nat)(Y:Int->Bool):DF X c d Y c d=Y:=ag ⟨rfl,rfl⟩
theorem mc(X:Marks) {c':Nat} (Y:Int->Bool)(h:¬(c'=c/\d'=d)):DF X c d Y c' d'=X c' d':=ae h
theorem yD(c:UInt8)(s:List UInt8)(h:c≠76):yA (c::s):=λk u e=>by rw[<-(aP e).1];exact h
def tkE(r:iY)(p:Nat):List mQ:=if(j3 (r.P p).L).1.st=9 then(72::[j8 r.id,j8 (jg (r.P p).pe).who])::(if(jg (r.P p).pe).both=true then(mN (((jn r p).meet p (jg (r.P p).pe)).O p)).flatMap Tt else [])else []
theorem TF(r:iY)(p:Nat):∀y∈tkE r p,yA y:=λy hy=>by
 unfold tkE at hy;split at hy
 ·rcases bn.1 hy with g|g
  ·rw[g];exact yD 72 _ eH
  ·split at g
   ·obtain⟨q,_,h2⟩:=bB.1 g;unfold Tt at h2;split at h2
    ·rw[az.1 h2];exact yD 83 _ eH
    ·simp at h2
   ·simp at g
 ·simp at hy
theorem LQ(r:iY)(p q:Nat):((r.jx p).P q).L=if q=p then(j3 (r.P p).L).1 else(r.P q).L:=by
 have h0:((jn r p).P q).L=if q=p then(j3 (r.P p).L).1 else(r.P q).L:=by
  unfold jn;rw[la];split
  ·rename_i e;rw[vw]
  ·rfl
 rw[k9];split
 ·rw[(kC _ _ _ _).2.1];exact h0
 ·rw[((rH _ _).2.2.2.2 q).2.2,(kC _ _ _ _).2.1];exact h0
structure LR(X Y:Marks)(a b:AN)(c d:Nat)(l em:List mQ):Prop where
 f:b.F c d=l++em
 o:∀y∈l,Br (Y c d) y=Br (X c d) y/\rJ (Y c d) y=rJ (X c d) y
theorem ud.tick {X:Marks} {t:Nat×Nat->Nat} {a:AN} (hB:ux a)(hN:Norm a)(h:ud X t a) {i p:Nat} (ht:∀x,t x<=126):∃Y,ud Y (qh t [(i,p)]) (a.op i ((a.R i).jx p))/\∀c d,c<a.nc->d<2->(a.e c d≠(i,p)->LR X Y a (a.op i ((a.R i).jx p)) c d (a.F c d) [])/\(a.e c d=(i,p)->∃em,(em=[] \/em=[oC (gP (a.e c d)) ((mb a c d).ow+1)])/\LR X Y a (a.op i ((a.R i).jx p)) c d (a.F c d) (em++tkE (a.R i) p)):=by
 obtain⟨e1,e2⟩:=Bq (hN.emp i) p;have pE:=Dp (a:=a) i p ((a.R i).jx p) λq hq=>⟨by rw[LQ,ae hq],e1 q hq⟩
 have hLp:(((a.R i).jx p).P p).L=(j3 ((a.R i).P p).L).1:=by rw[LQ,ag rfl]
 have Cv:∀x,t x<=qh t [(i,p)] x:=λx=>Nat.le_add_right _ _;by_cases hex:∃c d,c<a.nc/\d<2/\a.e c d=(i,p)
 ·obtain⟨c,d,hc,hd,he⟩:=hex;have qN:mb a c d=((a.R i).P p).L:=by unfold mb;rw[he]
  have hu:∀c' d',c'<a.nc->d'<2->¬(c'=c/\d'=d)->a.e c' d'≠(i,p):=λc' d' kS lD jV e=>jV (hB.ds _ _ _ _ kS lD hc hd (e.trans he.symm));cases hi:a.jG c
  ·obtain⟨l1,l2,l3,l4⟩:=h.dn c hc hi d hd;have yf:=Ni (Au hB hc hd) l1;have ko:j3 (mb a c d)=(mb a c d,[]):=by
    rcases yf.or with g|g
    ·exact bu (g.2.2.2.1 (.inl l2)) g.1
    ·omega
   rw[qN]at ko l2;have em0:jH (((a.R i).jx p).P p)=[] :=by
    rw[e2,ko,ae (by rw[l2];decide)];rfl
   have tk0:tkE (a.R i) p=[] :=by unfold tkE;rw[ko,ae (by rw[l2];decide)]
   have oA:∀c' d',mb (a.op i ((a.R i).jx p)) c' d'=mb a c' d'/\(a.op i ((a.R i).jx p)).F c' d'=a.F c' d':=λc' d'=>by
    by_cases DI:a.e c' d'=(i,p)
    ·rw[JL,zy,DI,ag rfl,hLp,ko];refine⟨by unfold mb;rw[DI],?_⟩;split
     ·rw[em0,aM]
     ·rfl
    ·exact(pE c' d').1 DI
   refine⟨X,⟨λc' kS lO=> ?_,λc' kS lO=> ?_⟩,λc' d' kS lD=>⟨λ_=>⟨by rw[(oA c' d').2];simp,λ_ _=>⟨rfl,rfl⟩⟩,λ_=>⟨[],.inl rfl,by rw[(oA c' d').2,tk0];simp,λ_ _=>⟨rfl,rfl⟩⟩⟩⟩
   ·exact(h.MT (X':=X) (b:=a.op i ((a.R i).jx p)) Cv rfl kS rfl (λ_ _=>rfl) (λd _=>(oA c' d).1) (λd _=>(oA c' d).2)).1 lO
   ·exact(h.MT (X':=X) (b:=a.op i ((a.R i).jx p)) Cv rfl kS rfl (λ_ _=>rfl) (λd _=>(oA c' d).1) (λd _=>(oA c' d).2)).2 lO
  ·have pr:=h.wv hc hd hi;have P2:t (a.e c 0)+t (a.e c 1)+1<=255:=by have:=ht (a.e c 0);have:=ht (a.e c 1);omega
   obtain⟨Z,q1,q2,q3⟩:=pr.tick (Au hB hc hd) P2;have q1:=q1.more (TF (a.R i) p);obtain⟨f1,f2⟩:=(pE c d).2 he hc hd;rw[e2]at f2;have f2:(a.op i ((a.R i).jx p)).F c d=a.F c d++(j3 (mb a c d)).2.flatMap r8++tkE (a.R i) p:=by
    rw[f2,qN,aC];rfl
   rw[hLp,<-qN]at f1;have D6:a.e c (1-d)≠(i,p):=hu c (1-d) hc eE eE;obtain⟨k1,k2⟩:=(pE c (1-d)).1 D6;have ahE:qh t [(i,p)] (a.e c 0)+qh t [(i,p)] (a.e c 1)=t (a.e c 0)+t (a.e c 1)+1:=by
    have c1:([(i,p)] :List (Nat×Nat)).count (a.e c d)=1:=by rw[he];simp
    have c2:([(i,p)] :List (Nat×Nat)).count (a.e c (1-d))=0:=List.count_eq_zero.2 (by simp[D6]);have:d=0 \/d=1:=eE;unfold qh;rcases this with rfl|rfl
    ·rw[c1,show([(i,p)] :List (Nat×Nat)).count (a.e c 1)=0 from c2];omega
    ·rw[c1,show([(i,p)] :List (Nat×Nat)).count (a.e c 0)=0 from c2];omega
   refine⟨DF X c d Z,⟨λc' kS lO=> ?_,λc' kS lO=> ?_⟩,λc' d' kS lD=>⟨λjV=> ?_,λDI=> ?_⟩⟩
   ·by_cases hcc:c'=c
    ·subst hcc;show Pair _ _ (qh t [(i,p)] (a.e c' 0)+qh t [(i,p)] (a.e c' 1)) (gP (a.e c' 0)) (gP (a.e c' 1)) _ _ _ _;rw[ahE];refine JK (X:=λ_ d'=>DF X c' d Z c' d') (g:=λd'=>gP (a.e c' d')) (L:=λd'=>mb (a.op i ((a.R i).jx p)) c' d') (F:=λd'=>(a.op i ((a.R i).jx p)).F c' d') hd ?_;show Pair (DF X c' d Z c' d) (DF X c' d Z c' (1-d)) _ _ _ _ _ _ _;rw[qy,mc X Z eE,f1,f2,k1,k2];exact q1
    ·have mr:∀d',d'<2->a.e c' d'≠(i,p):=λd' lD=>hu c' d' kS lD λz=>hcc z.1;exact(h.MT (X':=DF X c d Z) (b:=a.op i ((a.R i).jx p)) Cv rfl kS rfl (λd' _=>mc X Z λz=>hcc z.1) (λd' lD=>((pE c' d').1 (mr d' lD)).1) (λd' lD=>((pE c' d').1 (mr d' lD)).2)).1 lO
   ·have hcc:c'≠c:=λz=>by subst z;have:a.jG c'=false:=lO;rw[hi]at this;exact absurd this iC
    have mr:∀d',d'<2->a.e c' d'≠(i,p):=λd' lD=>hu c' d' kS lD λz=>hcc z.1;exact(h.MT (X':=DF X c d Z) (b:=a.op i ((a.R i).jx p)) Cv rfl kS rfl (λd' _=>mc X Z λz=>hcc z.1) (λd' lD=>((pE c' d').1 (mr d' lD)).1) (λd' lD=>((pE c' d').1 (mr d' lD)).2)).2 lO
   ·have XB:¬(c'=c/\d'=d):=λz=>jV (by rw[z.1,z.2];exact he);exact⟨by rw[((pE c' d').1 jV).2];simp,λ_ _=>by rw[mc X Z XB];exact⟨rfl,rfl⟩⟩
   ·have XB:=hB.ds _ _ _ _ kS lD hc hd (DI.trans he.symm);obtain⟨z1,z2⟩:=XB;subst z1 z2;exact⟨_,q3,by rw[f2,aC],λy hy=>by rw[qy];exact Fh q2 y hy⟩
 ·have mr:∀c d,c<a.nc->d<2->a.e c d≠(i,p):=λc d hc hd e=>hex ⟨c,d,hc,hd,e⟩;refine⟨X,⟨λc hc hi=> ?_,λc hc hi=> ?_⟩,λc d hc hd=>⟨λjV=>⟨by rw[((pE c d).1 jV).2];simp,λ_ _=>⟨rfl,rfl⟩⟩,λDI=>absurd DI (mr c d hc hd)⟩⟩
  ·exact(h.MT (X':=X) (b:=a.op i ((a.R i).jx p)) Cv rfl hc rfl (λ_ _=>rfl) (λd hd=>((pE c d).1 (mr c d hc hd)).1) (λd hd=>((pE c d).1 (mr c d hc hd)).2)).1 hi
  ·exact(h.MT (X':=X) (b:=a.op i ((a.R i).jx p)) Cv rfl hc rfl (λ_ _=>rfl) (λd hd=>((pE c d).1 (mr c d hc hd)).1) (λd hd=>((pE c d).1 (mr c d hc hd)).2)).2 hi
theorem GV(r:iY)(i:Nat) {c:UInt8} (s:List UInt8)(hc:c≠76)(p:Nat):((r.take i c s).P p).L=(r.P p).L:=by
 rw[lF,Di i s hc];split
 ·exact(kC _ _ _ _).2.1
 ·exact(Lw r i c s p).1
theorem Bs(r:iY)(i:Nat)(s:List UInt8)(p:Nat):((r.take i 76 s).P p).L=((jY r i 76 s).P p).L/\((r.take i 76 s).P p).out=((jY r i 76 s).P p).out:=by
 rw[lF];split
 ·exact⟨(kC _ _ _ _).2.1,(kC _ _ _ _).1⟩
 ·unfold mJ;rw[ae eH,ae eH,ae eH,ae eH];exact⟨rfl,rfl⟩
theorem zI {r:iY} {i:Nat} (h:D9 r i x p l)(hx:yA x)(X Y:Int->Bool):(l=[] \/((r.P p).L.st=9/\∀y∈l,yA y))/\(∀y∈l,Br Y y+1<=Br X x)/\(sm (rJ Y) l<=(if p=i then rJ X x else 0)):=by
 have hn:∀(c:UInt8) (s:List UInt8),c≠76->Ea 1 (c::s)=ν:=λc s h=>Fg 1 s h;cases h with
 |none h=>rw[h];exact⟨.inl rfl,λ_ h=>by simp at h,Nat.zero_le _⟩
 |link s h _ _ _=>exact absurd rfl (hx 76 s h)
 |heard s hs hp h9 _ _ _ _ h=>
  have d1:Br X x=2/\rJ X x=2:=by rw[hs];unfold Br rJ;rw[hn 83 s eH];exact⟨rfl,rfl⟩
  have d2:∀u,Br Y (65::u)=1/\rJ Y (65::u)=1:=λu=>by unfold Br rJ;rw[hn 65 u eH];exact⟨rfl,rfl⟩
  rw[h];refine⟨.inr ⟨by rw[hp];exact h9,λy hy=>by rw[az.1 hy];exact yD 65 _ eH⟩,λy hy=>by rw[az.1 hy,(d2 _).1,d1.1];exact Nat.le_refl _,?_⟩;rw[ag hp,d1.2];show rJ Y _+0<=2;rw[(d2 _).2];decide
 |Tw a b s hs h9 h1 _ h=>
  have d1:Br X x=b.toNat+1:=by rw[hs];unfold Br;rw[hn 77 _ eH];rfl
  have d2:Br Y (77::a::j8 ((b.toNat:Int)-1)::s)=b.toNat:=by
   unfold Br;rw[hn 77 _ eH];show(j8 ((b.toNat:Int)-1)).toNat+1=_;have:=nK ((b.toNat:Int)-1) eE (by have:=b.toNat_lt;omega);omega
  have d3:rJ Y (77::a::j8 ((b.toNat:Int)-1)::s)=0:=by unfold rJ;rw[hn 77 _ eH];rfl
  rw[h];refine⟨.inr ⟨h9,λy hy=>by rw[az.1 hy];exact yD 77 _ eH⟩,λy hy=>by rw[az.1 hy,d2,d1];exact Nat.le_refl _,?_⟩;show rJ Y _+0<=_;rw[d3];exact Nat.zero_le _
def wc(X:Marks)(a:AN)(c:Nat):Nat:=sm (rJ (X c 0)) (a.F c 0)+sm (rJ (X c 1)) (a.F c 1)
theorem Dq {α:Type} {f g:α->Nat} {l:List α} (h:∀x∈l,f x=g x):sm f l=sm g l:=by
 refine Nat.le_antisymm (tq λx hx=>Nat.le_of_eq (h x hx)) (tq λx hx=>Nat.le_of_eq (h x hx).symm)
theorem LR.w {X Y:Marks} (h:LR X Y a b c d l em):sm (rJ (Y c d)) (b.F c d)=sm (rJ (X c d)) l+sm (rJ (Y c d)) em:=by
 rw[h.f,tr,Dq λy hy=>(h.o y hy).2]
theorem Wp {X:Marks} {t:Nat×Nat->Nat} (h:ud X t a)(hc:c<a.nc)(hd:d<2)(hF:a.F c d=x::l):ud X t (a.lg c d l):=by
 refine⟨λc' kS hi=> ?_,λc' kS hi d' lD=> ?_⟩
 ·have p:=h.up c' kS hi;have hs:∀d',((a.lg c d l).F c' d').Sublist (a.F c' d'):=λd'=>by
   rw[xB];split
   ·rename_i e;rw[e.1,e.2,hF];exact bJ _ _
   ·exact List.Sublist.refl _
  exact p.sub (hs 0) (hs 1)
 ·obtain⟨a1,a2,a3,a4⟩:=h.dn c' kS hi d' lD;refine⟨a1,a2,a3,?_⟩;rw[xB,ae]
  ·exact a4
  ·rintro⟨rfl,rfl⟩;rw[hF]at a4;exact absurd a4 iC
theorem Nn {P:Prop} [Decidable P] {k:Nat} (hd:d<2) {s e f:Nat->Nat} (he:∀d',d'<2->e d'<=if P/\d'=1-d then k else 0)(hs:∀d',d'<2->s d'+(if P/\d'=d then k else 0)<=f d'):s 0+e 0+(s 1+e 1)<=f 0+f 1:=by
 have a0:=he 0 eH;have a1:=he 1 eH;have b0:=hs 0 eH;have b1:=hs 1 eH;have ZX:d=0 \/d=1:=eE;by_cases hP:P
 ·rcases ZX with rfl|rfl<;>simp[hP]at a0 a1 b0 b1<;>omega
 ·simp[hP]at a0 a1 b0 b1;omega
structure Z9(X Y:Marks)(a b:AN)(c d:Nat)(x:mQ)(l:List mQ):Prop where
 fl:∀c' d',c'<a.nc->d'<2->∃em,LR X Y a b c' d' (if c'=c/\d'=d then l else a.F c' d') em/\(∀y∈em,Br (Y c' d') y+1<=Br (X c d) x)
 w:∀c',c'<a.nc->wc Y b c'<=wc X a c'
theorem ud.pop {X:Marks} {t:Nat×Nat->Nat} {a:AN} (hB:ux a)(hN:Norm a)(h:ud X t a)(ht:∀x,t x<=127) {c d:Nat} {x:mQ} {l:List mQ} (hc:c<a.nc)(hd:d<2)(hF:a.F c d=x::l):∃Y,ud Y t (a.pop c d x l)/\Z9 X Y a (a.pop c d x l) c d x l:=by
 have hi:=h.TE hc hd (x:=x) (by rw[hF];simp);have pr:=(h.wv hc hd hi).symm;have WN:=Wp h hc hd hF;obtain⟨r,hr⟩:=gH (a.R (a.e c (1-d)).1);obtain⟨i,hie⟩:=gH ((a.e c (1-d)).1);obtain⟨p,vK⟩:=gH ((a.e c (1-d)).2);have W8:a.e c (1-d)=(i,p):=bu hie vK;have LU:a.pop c d x l=(a.lg c d l).op i (j7 r p x):=by unfold AN.pop;rw[hr,hie,vK]
 have G5:a.R i=r:=by rw[<-hie];exact hr
 have hem:JA r:=by rw[<-G5];exact hN.emp i
 obtain⟨hsy,_⟩:=yv hem p x;have qN:mb a c (1-d)=(r.P p).L:=by unfold mb;rw[W8,G5]
 have hif:∀c' d',(a.lg c d l).F c' d'=if c'=c/\d'=d then l else a.F c' d':=λ_ _=>rfl
 by_cases hx:yA x
 ·
  have hL:∀q,((j7 r p x).P q).L=(r.P q).L:=λq=>by
   cases x with
   |nil=>rfl
   |cons k s=>exact GV r p s (hx k s rfl) q
  have hq:=λq=>zI (hsy q) hx (X c d) (λ_=>false);have hl:=WN.quiet i (j7 r p x) (λq=>by rw[hL];show(r.P q).L=((a.R i).P q).L;rw[G5]) λq=>by
   rcases(hq q).1 with g|⟨g1,g2⟩
   ·exact .inl g
   ·exact .inr ⟨by rw[hL];exact g1,g2⟩
  have DC:∀c' d',c'<a.nc->d'<2->LR X X a (a.pop c d x l) c' d' (if c'=c/\d'=d then l else a.F c' d') (if(a.e c' d').1=i then jH ((j7 r p x).P (a.e c' d').2)else []):=λc' d' kS lD=>by
   refine⟨?_,λ_ _=>⟨rfl,rfl⟩⟩;rw[LU,zy,LB,Gv,hif];by_cases e:(a.e c' d').1=i
   ·rw[ag ⟨⟨kS,lD⟩,e⟩,ag e]
   ·rw[ae (λz=>e z.2),ae e,aM]
  refine⟨X,by rw[LU];exact hl,λc' d' kS lD=>⟨_,DC c' d' kS lD,λy hy=> ?_⟩,λc' kS=> ?_⟩
  ·split at hy
   ·exact(zI (hsy (a.e c' d').2) hx (X c d) (X c' d')).2.1 y hy
   ·simp at hy
  ·have w0:=(DC c' 0 kS eH).w;have w1:=(DC c' 1 kS eH).w;have hE:∀d',d'<2->sm (rJ (X c' d')) (if(a.e c' d').1=i then jH ((j7 r p x).P (a.e c' d').2)else [])<=if c'=c/\d'=1-d then rJ (X c d) x else 0:=λd' lD=>by
    by_cases e:(a.e c' d').1=i
    ·rw[ag e];have:=(zI (hsy (a.e c' d').2) hx (X c d) (X c' d')).2.2;by_cases e2:(a.e c' d').2=p
     ·rw[ag e2]at this;have:=hB.ds c' d' c (1-d) kS lD hc eE (by rw[W8];exact bu e e2);rw[ag this];assumption
     ·rw[ae e2]at this;omega
    ·rw[ae e];exact Nat.zero_le _
   have hI:∀d',d'<2->sm (rJ (X c' d')) (if c'=c/\d'=d then l else a.F c' d')+(if c'=c/\d'=d then rJ (X c d) x else 0)<=sm (rJ (X c' d')) (a.F c' d'):=λd' lD=>by
    by_cases e:c'=c/\d'=d
    ·rw[ag e,ag e,e.1,e.2,hF];show _<=rJ (X c d) x+sm (rJ (X c d)) l;omega
    ·rw[ae e,ae e];exact Nat.le_refl _
   unfold wc;rw[w0,w1];exact Nn hd (s:=λd'=>sm (rJ (X c' d')) (if c'=c/\d'=d then l else a.F c' d')) (f:=λd'=>sm (rJ (X c' d')) (a.F c' d')) hE hI
 ·
  have adR:(∃id,0<=id/\id<=255/\x=oC (gP (a.e c d)) id) \/(∃id,0<=id/\id<=255/\x=rI (gP (a.e c (1-d))) id):=by
   rcases pr.g x (by rw[hF];simp)with g|g|g
   ·exact absurd g hx
   ·exact .inl g
   ·exact .inr g
  have gd:=Au hB hc hd;have gd':=Au hB hc (show 1-d<2 by omega);obtain⟨q,s,WA,tJ,hPL⟩:∃(q:kZ) (s:List UInt8),x=76::s/\jf s=(q.1,q.2.1,q.2.2,0)/\∃Z,Wn (X c (1-d)) Z (X c d) (t (a.e c 0)+t (a.e c 1)) (gP (a.e c (1-d))) (gP (a.e c d)) (j4 (mb a c (1-d)) q).1 (mb a c d) (a.F c (1-d)) l ((j4 (mb a c (1-d)) q).2.1.flatMap r8) x:=by
   rw[hF]at pr;rcases adR with⟨id,i1,i2,rO⟩|⟨id,i1,i2,rO⟩
   ·rw[rO]at pr;obtain⟨Z,hZ⟩:=pr.req gd' gd (adQ hB hc hd eE eE) (by have:=ht (a.e c 0);have:=ht (a.e c 1);omega) ⟨i1,i2⟩;exact⟨(1,id,oE (gP (a.e c d))),_,rO,GM (.inl rfl) ⟨i1,i2⟩ gd,Z,by rw[rO];exact hZ⟩
   ·rw[rO]at pr;have hZ:=pr.ack gd' ⟨i1,i2⟩;exact⟨(2,id,oE (gP (a.e c (1-d)))),_,rO,GM (.inr rfl) ⟨i1,i2⟩ gd',X c (1-d),by rw[rO];exact hZ⟩
  obtain⟨Z,pp⟩:=hPL;obtain⟨k1,_,k3,_⟩:=yu hem p 76 s;rw[tJ]at k1 k3;have pE:=Dp (a:=a.lg c d l) i p (j7 r p x) λu hu=>by
   rw[WA];show((r.take p 76 s).P u).L=((a.R i).P u).L/\jH ((r.take p 76 s).P u)=[]
   rw[(Bs r p s u).1,oa (Bs r p s u).2,k1,ae (λz=>hu z.1),(k3 u).2.2,ae (λz=>hu z.1),G5];exact⟨rfl,rfl⟩
  have hLp:((j7 r p x).P p).L=(j4 (mb a c (1-d)) q).1/\jH ((j7 r p x).P p)=(j4 (mb a c (1-d)) q).2.1.flatMap r8:=by
   rw[WA,qN];show((r.take p 76 s).P p).L=_/\jH ((r.take p 76 s).P p)=_;rw[(Bs r p s p).1,oa (Bs r p s p).2,k1,ag ⟨rfl,rfl,rfl⟩,(k3 p).2.2,ag ⟨rfl,rfl,rfl⟩];exact⟨rfl,rfl⟩
  obtain⟨em,ahH⟩:=gH ((j4 (mb a c (1-d)) q).2.1.flatMap r8);obtain⟨L',hL'⟩:∃L',(j4 (mb a c (1-d)) q).1=L':=⟨_,rfl⟩
  rw[ahH,hL']at pp hLp;have hu:∀c' d',c'<a.nc->d'<2->¬(c'=c/\d'=1-d)->a.e c' d'≠(i,p):=λc' d' kS lD jV e=>jV (hB.ds _ _ _ _ kS lD hc eE (e.trans W8.symm));have hb:∀c' d',c'<a.nc->d'<2->¬(c'=c/\d'=1-d)->mb (a.pop c d x l) c' d'=mb a c' d'/\(a.pop c d x l).F c' d'=if c'=c/\d'=d then l else a.F c' d':=λc' d' kS lD jV=>by
   rw[LU];exact(pE c' d').1 (hu c' d' kS lD jV)
  have kt:mb (a.pop c d x l) c (1-d)=L'/\(a.pop c d x l).F c (1-d)=a.F c (1-d)++em:=by
   rw[LU];obtain⟨z1,z2⟩:=(pE c (1-d)).2 W8 hc (by show 1-d<2;omega);rw[z1,z2,hLp.1,hLp.2,hif,ae eE];exact⟨rfl,rfl⟩
  have Ul:=hb c d hc hd eE;rw[ag ⟨rfl,rfl⟩]at Ul;have sH:(a.pop c d x l).nc=a.nc:=by rw[LU];rfl
  have hae:(a.pop c d x l).e=a.e:=by rw[LU];rfl
  have pw:(a.pop c d x l).jG=a.jG:=by rw[LU];rfl
  have DC:∀c' d',c'<a.nc->d'<2->LR X (DF X c (1-d) Z) a (a.pop c d x l) c' d' (if c'=c/\d'=d then l else a.F c' d') (if c'=c/\d'=1-d then em else []):=λc' d' kS lD=>by
   by_cases e:c'=c/\d'=1-d
   ·rw[ag e,ae eE];obtain⟨e1,e2⟩:=e;subst e1 e2;exact⟨kt.2,λy hy=>by rw[qy];exact Fh pp.old y hy⟩
   ·rw[ae e];exact⟨by rw[(hb c' d' kS lD e).2,aM],λy hy=>by rw[mc X Z e];exact⟨rfl,rfl⟩⟩
  refine⟨DF X c (1-d) Z,⟨λc' kS lO=> ?_,λc' kS lO=> ?_⟩,λc' d' kS lD=>⟨_,DC c' d' kS lD,λy hy=> ?_⟩,λc' kS=> ?_⟩
  ·rw[sH]at kS;by_cases hcc:c'=c
   ·subst hcc;rw[hae];refine JK (X:=λ_ d'=>DF X c' (1-d) Z c' d') (g:=λd'=>gP (a.e c' d')) (L:=λd'=>mb (a.pop c' d x l) c' d') (F:=λd'=>(a.pop c' d x l).F c' d') (d:=1-d) eE ?_;show Pair (DF X c' (1-d) Z c' (1-d)) (DF X c' (1-d) Z c' (1-(1-d))) _ _ _ _ _ _ _;rw[show 1-(1-d)=d by omega,qy,mc X Z eE,kt.1,kt.2,Ul.1,Ul.2];exact pp.p
   ·rw[pw]at lO;have mr:∀d',¬(c'=c/\d'=1-d):=λ_ z=>hcc z.1;refine(h.MT (X':=DF X c (1-d) Z) (b:=a.pop c d x l) (u:=t) (λ_=>Nat.le_refl _) hae kS (by rw[pw]) (λd' _=>mc X Z (mr d')) (λd' lD=>(hb c' d' kS lD (mr d')).1) (λd' lD=> ?_)).1 (by rw[pw];exact lO);rw[(hb c' d' kS lD (mr d')).2,ae (λz=>hcc z.1)]
  ·rw[sH]at kS;have hcc:c'≠c:=λz=>by subst z;rw[pw,hi]at lO;exact absurd lO iC
   have mr:∀d',¬(c'=c/\d'=1-d):=λ_ z=>hcc z.1;refine(h.MT (X':=DF X c (1-d) Z) (b:=a.pop c d x l) (u:=t) (λ_=>Nat.le_refl _) hae kS (by rw[pw]) (λd' _=>mc X Z (mr d')) (λd' lD=>(hb c' d' kS lD (mr d')).1) (λd' lD=> ?_)).2 lO;rw[(hb c' d' kS lD (mr d')).2,ae (λz=>hcc z.1)]
  ·split at hy
   ·rename_i e
    rw[e.1,e.2,qy];exact pp.dp y hy
   ·simp at hy
  ·have w0:=(DC c' 0 kS eH).w;have w1:=(DC c' 1 kS eH).w;have amo:=pp.wg;unfold wc;rw[w0,w1];refine Nn (P:=c'=c) (k:=rJ (X c d) x) hd (s:=λd'=>sm (rJ (X c' d')) (if c'=c/\d'=d then l else a.F c' d')) (e:=λd'=>sm (rJ (DF X c (1-d) Z c' d')) (if c'=c/\d'=1-d then em else [])) (f:=λd'=>sm (rJ (X c' d')) (a.F c' d')) (λd' _=> ?_) λd' _=> ?_
   ·by_cases e:c'=c/\d'=1-d
    ·simp only[if_pos e];rw[e.1,e.2,qy];omega
    ·simp only[if_neg e];exact Nat.le_refl _
   ·by_cases e:c'=c/\d'=d
    ·simp only[if_pos e];rw[e.1,e.2,hF];show _<=rJ (X c d) x+sm (rJ (X c d)) l;omega
    ·simp only[if_neg e];exact Nat.le_refl _
theorem vF(hB:ux a)(hN:Norm a)(hc:c<a.nc)(hd:d<2)(up:Bool)(h:(k7 (mb a c d) (if up=true then 0 else 1)).2.2=0):∀c' d',c'<a.nc->d'<2->(¬(c'=c/\d'=d)->mb (a.lH c d up) c' d'=mb a c' d'/\(a.lH c d up).F c' d'=a.F c' d')/\(c'=c/\d'=d->mb (a.lH c d up) c' d'=(k7 (mb a c d) (if up=true then 0 else 1)).1/\(a.lH c d up).F c' d'=a.F c d++(k7 (mb a c d) (if up=true then 0 else 1)).2.1.flatMap r8):=λc' d' kS lD=>by
 obtain⟨e1,e2,e3⟩:=GH (hN.emp (a.e c d).1) (a.e c d).2 up h;have hP:∀q,(((a.R (a.e c d).1).iW (a.e c d).2 up).1.P q).L=if q=(a.e c d).2 then(k7 (mb a c d) (if up=true then 0 else 1)).1 else((a.R (a.e c d).1).P q).L:=λq=>by
  rw[e3,(kC _ _ _ _).2.1,la];split
  ·rw[CY];rfl
  ·rfl
 have pE:=Dp (a:=a) (a.e c d).1 (a.e c d).2 _ (λq hq=>⟨by rw[hP,ae hq],e1 q hq⟩) c' d';refine⟨λjV=>pE.1 λe=>jV (hB.ds _ _ _ _ kS lD hc hd e),λhe=> ?_⟩;obtain⟨z1,z2⟩:=he;subst z1 z2;have:=pE.2 rfl kS lD;rw[hP,ag rfl,e2]at this;exact this
theorem Dr(hB:ux a)(hN:Norm a)(hc:c<a.nc)(up:Bool)(h:∀d,d<2->(k7 (mb a c d) (if up=true then 0 else 1)).2.2=0):(∀c' d',c'<a.nc->d'<2->c'≠c->mb (a.iW c up) c' d'=mb a c' d'/\(a.iW c up).F c' d'=a.F c' d')/\∀d,d<2->mb (a.iW c up) c d=(k7 (mb a c d) (if up=true then 0 else 1)).1/\(a.iW c up).F c d=(k7 (mb a c d) (if up=true then 0 else 1)).2.1.flatMap r8:=by
 obtain⟨b,hb⟩:=gH ((({a with jG:=jI a.jG c up}:AN).lg c 0 []).lg c 1 []);have J0:ux b:=hB.same (by rw[<-hb];rfl) (by rw[<-hb];rfl) (by rw[<-hb];rfl);have PH:Norm b:=by rw[<-hb];exact hN
 have wj:c<b.nc:=by rw[<-hb];exact hc
 have T9:∀c' d',mb b c' d'=mb a c' d':=λc' d'=>by rw[<-hb];rfl
 have hFb:∀c' d',b.F c' d'=if c'=c/\d'=1 then []else if c'=c/\d'=0 then []else a.F c' d':=λc' d'=>by rw[<-hb];rfl
 have hp:a.iW c up=(b.lH c 0 up).lH c 1 up:=by unfold AN.iW;rw[hb]
 have f0:=vF J0 PH wj (by decide:0<2) up (by rw[T9];exact h 0 eH);have wi:ux (b.lH c 0 up):=J0.same rfl rfl rfl;have k01:=(f0 c 1 wj eH).1 eE;have f1:=vF (a:=b.lH c 0 up) wi (pI PH _ _) wj (by decide:1<2) up (by rw[k01.1,T9];exact h 1 eH);have hnb:b.nc=a.nc:=by rw[<-hb];rfl
 rw[hp];refine⟨λc' d' kS lD jV=> ?_,λd hd=> ?_⟩
 ·have g0:=(f0 c' d' (by rw[hnb];exact kS) lD).1 (λz=>jV z.1);have g1:=(f1 c' d' (by show c'<b.nc;rw[hnb];exact kS) lD).1 (λz=>jV z.1);rw[g1.1,g1.2,g0.1,g0.2,T9,hFb,ae (λz=>jV z.1),ae (λz=>jV z.1)];exact⟨rfl,rfl⟩
 ·have:d=0 \/d=1:=eE;rcases this with rfl|rfl
  ·have g1:=(f1 c 0 wj eH).1 eE;have g0:=(f0 c 0 wj eH).2 ⟨rfl,rfl⟩;have e0:b.F c 0=[] :=by rw[hFb];simp
   rw[g1.1,g1.2,g0.1,g0.2,T9,e0];exact⟨rfl,rfl⟩
  ·have g1:=(f1 c 1 wj eH).2 ⟨rfl,rfl⟩;have e0:b.F c 1=[] :=by rw[hFb];simp
   rw[g1.1,g1.2,k01.1,k01.2,T9,e0];exact⟨rfl,rfl⟩
theorem tu(a:AN)(c:Nat)(up:Bool)(c':Nat):(a.iW c up).jG c'=if c'=c then up else a.jG c':=rfl
theorem ud.iW {X:Marks} {t:Nat×Nat->Nat} {a:AN} (hB:ux a)(hN:Norm a)(h:ud X t a)(ht:∀x,t x<=126) {c:Nat} (hc:c<a.nc)(hi:a.jG c=false):ud (DF (DF X c 0 λ_=>false) c 1 λ_=>false) (qh t [a.e c 0,a.e c 1]) (a.iW c true):=by
 have hdn:=h.dn c hc hi;have hu:=λd hd=>XK (Au hB hc hd) (hdn d hd).1 (hdn d hd).2.1;obtain⟨f1,f2⟩:=Dr hB hN hc true λd hd=>(Cn (hdn d hd).2.1).1;have Cv:∀x,t x<=qh t [a.e c 0,a.e c 1] x:=λx=>Nat.le_add_right _ _;have jV:a.e c 0≠a.e c 1:=λe=>by have:=(hB.ds _ _ _ _ hc eH hc eH e).2;omega
 refine⟨λc' kS lO=> ?_,λc' kS lO=> ?_⟩
 ·by_cases e:c'=c
  ·subst e;have hX:∀d,d<2->DF (DF X c' 0 λ_=>false) c' 1 (λ_=>false) c' d=λ_=>false:=λd hd=>by
    have:d=0 \/d=1:=eE;rcases this with rfl|rfl
    ·rw[mc _ _ eE,qy]
    ·rw[qy]
   have hF:∀d,d<2->(a.iW c' true).F c' d=[oC (gP (a.e c' d)) (mb (a.iW c' true) c' d).ow] /\LI (gP (a.e c' d)) (mb (a.iW c' true) c' d)/\(mb (a.iW c' true) c' d).st=6/\(mb (a.iW c' true) c' d).ow=(mb a c' d).ow+1:=λd hd=>by
    obtain⟨u1,u2,u3,u4,u5⟩:=hu d hd;obtain⟨g1,g2⟩:=f2 d hd;have hw:=(hdn d hd).2.2.1;have ho:=(hdn d hd).1.k.o1;have hb:(mb a c' d).ow+1<=255:=by have:=ht (a.e c' 0);have:=ht (a.e c' 1);omega
    have em:((mb a c' d).ow+1) %256=(mb a c' d).ow+1:=eE;rw[em]at u2 u3;rw[g1,g2];simp only[if_true];refine⟨?_,u1,u4,u3⟩;rw[u2,u3];show r8 _++ [] =_;rw[Nj (.inl rfl) ⟨eE,hb⟩ (Au hB hc hd)];rfl
   obtain⟨a1,a2,a3,a4⟩:=hF 0 eH;obtain⟨b1,b2,b3,b4⟩:=hF 1 eH;show Pair _ _ (qh t [a.e c' 0,a.e c' 1] (a.e c' 0)+qh t [a.e c' 0,a.e c' 1] (a.e c' 1)) (gP (a.e c' 0)) (gP (a.e c' 1)) _ _ _ _;rw[hX 0 eH,hX 1 eH,a1,b1];have c0:qh t [a.e c' 0,a.e c' 1] (a.e c' 0)=t (a.e c' 0)+1:=by unfold qh;simp[Ne.symm jV]
   have c1:qh t [a.e c' 0,a.e c' 1] (a.e c' 1)=t (a.e c' 1)+1:=by unfold qh;simp[jV]
   have w0:=(hdn 0 eH).2.2.1;have w1:=(hdn 1 eH).2.2.1;refine Pair.new (Au hB hc eH) (Au hB hc eH) a2 b2 a3 b3 ?_ ?_
   ·rw[a4,c0,c1];omega
   ·rw[b4,c0,c1];omega
  ·have LV:(a.iW c true).jG c'=a.jG c':=by rw[tu,ae e]
   exact(h.MT (b:=a.iW c true) Cv rfl kS LV (λd _=>by rw[mc _ _ (λz=>e z.1),mc _ _ (λz=>e z.1)]) (λd hd=>(f1 c' d kS hd e).1) (λd hd=>(f1 c' d kS hd e).2)).1 lO
 ·have e:c'≠c:=λz=>by rw[tu,ag z]at lO;exact absurd lO iC
  have LV:(a.iW c true).jG c'=a.jG c':=by rw[tu,ae e]
  exact(h.MT (X':=DF (DF X c 0 λ_=>false) c 1 λ_=>false) (b:=a.iW c true) Cv rfl kS LV (λd _=>by rw[mc _ _ (λz=>e z.1),mc _ _ (λz=>e z.1)]) (λd hd=>(f1 c' d kS hd e).1) (λd hd=>(f1 c' d kS hd e).2)).2 lO
theorem ud.draw {X:Marks} {t:Nat×Nat->Nat} (hB:ux a)(hN:Norm a)(h:ud X t a)(hc:c<a.nc)(hi:a.jG c=true):ud X t (a.iW c false):=by
 have kD:∀d,d<2->ti (mb a c d).st=true:=λd hd=>by
  have p:=h.wv hc hd hi;have:=p.lu;have:=p.l.st;unfold ti;simp only[Bool.or_eq_true,beq_iff_eq,Bool.and_eq_true,decide_eq_true_eq];omega
 obtain⟨f1,f2⟩:=Dr hB hN hc false λd hd=>(rZ (kD d hd)).1;refine⟨λc' kS lO=> ?_,λc' kS lO=> ?_⟩
 ·have e:c'≠c:=λz=>by rw[tu,ag z]at lO;exact absurd lO iC
  have LV:(a.iW c false).jG c'=a.jG c':=by rw[tu,ae e]
  exact(h.MT (X':=X) (b:=a.iW c false) (u:=t) (λ_=>Nat.le_refl _) rfl kS LV (λd _=>rfl) (λd hd=>(f1 c' d kS hd e).1) (λd hd=>(f1 c' d kS hd e).2)).1 lO
 ·by_cases e:c'=c
  ·subst e;intro d hd;have p:=h.wv hc hd hi;obtain⟨d1,d2,d3⟩:=Wj p.l p.lu;obtain⟨g1,g2⟩:=f2 d hd;simp only[Bool.false_eq_true,if_false]at g1 g2;rw[g1,g2,Jv (kD d hd),d3];refine⟨d1,d2,?_,rfl⟩;have:=p.d.LO;show _<=((t (a.e c' 0)+t (a.e c' 1):Nat):Int)
   omega
  ·have LV:(a.iW c false).jG c'=a.jG c':=by rw[tu,ae e]
   exact(h.MT (X':=X) (b:=a.iW c false) (u:=t) (λ_=>Nat.le_refl _) rfl kS LV (λd _=>rfl) (λd hd=>(f1 c' d kS hd e).1) (λd hd=>(f1 c' d kS hd e).2)).2 lO
theorem JM {i:Nat} (hi:i<6)(hp:p<3)(m:Nat->Int):LI (gP (i,p)) (EA ((i:Int)+1) m p).L/\(EA ((i:Int)+1) m p).L.st=1/\(EA ((i:Int)+1) m p).L.ow=0:=by
 have e:gP (i,p)=8*((i:Int)+1)+(p:Int)+1:=rfl;have hb:0<=gP (i,p)/\gP (i,p)<=255:=by rw[e];omega
 refine⟨⟨rfl,rfl,rfl,rfl,λh=>absurd h (by show¬(6:Int)<=1;decide),.inl rfl,⟨by show wk 1 0 0=true;decide,by show(0:Int)<=0;decide,by show(0:Int)<=255;decide,hb.1,hb.2,hb.1,hb.2⟩⟩,rfl,rfl⟩
theorem ud.lost {X:Marks} {t:Nat×Nat->Nat} (h:ud X t a)(hl:xA a b):ud X t b:=by
 have hs:∀c d,(b.F c d).Sublist (a.F c d):=λc d=>by
  obtain⟨m,hm⟩:=hl.2 c d;rw[hm];exact dJ _ _
 have e1:b.nc=a.nc:=by rw[hl.1]
 have e2:b.jG=a.jG:=by rw[hl.1]
 have e3:b.e=a.e:=by rw[hl.1]
 have e4:∀c d,mb b c d=mb a c d:=λc d=>by rw[hl.1];rfl
 refine⟨λc hc hi=> ?_,λc hc hi d hd=> ?_⟩
 ·rw[e3,e4,e4];exact(h.up c (by rw[<-e1];exact hc) (by rw[<-e2];exact hi)).sub (hs c 0) (hs c 1)
 ·obtain⟨a1,a2,a3,a4⟩:=h.dn c (by rw[<-e1];exact hc) (by rw[<-e2];exact hi) d hd;rw[e3,e4];refine⟨a1,a2,a3,?_⟩;have:=hs c d;rw[a4]at this;exact iQ.1 this
theorem ud.send {X:Marks} {t:Nat×Nat->Nat} {a:AN} (hN:Norm a)(h:ud X t a)(i:Nat)(m:tV):ud X t (a.op i ((a.R i).send m)):=by
 obtain⟨_,_,_,_,s5⟩:=oR (a.R i) m;obtain⟨j,g1,g2⟩:=Bp (hN.emp i) m;refine h.quiet i _ (λp=>(s5 p).2.2) λp=> ?_;by_cases e:p=j
 ·subst e;rcases g2 with g|⟨g,f⟩
  ·exact .inl g
  ·exact .inr ⟨by rw[(s5 p).2.2];exact g.1,λy hy=>by rw[f]at hy;rw[az.1 hy];exact yD 77 _ eH⟩
 ·exact .inl (g1 p e)
theorem ud.anew {X:Marks} {t:Nat×Nat->Nat} (hB:ux a)(h:ud X t a)(i m:Nat)(hd:∀c d,c<a.nc->d<2->(a.e c d).1=i->a.jG c=false/\a.F c 0=[] /\a.F c 1=[]):ud X t {a with R:=jI a.R i (jX ((i:Int)+1) 3 (a.ms i)),ib:=jI a.ib i ((a.ib i).take m)}:=by
 obtain⟨b,hb⟩:=gH (({a with R:=jI a.R i (jX ((i:Int)+1) 3 (a.ms i)),ib:=jI a.ib i ((a.ib i).take m)}:AN));have jV:∀c d,(a.e c d).1≠i->mb b c d=mb a c d:=λc d e=>by
  rw[<-hb];show((jI a.R i _ (a.e c d).1).P _).L=_;rw[iL _ _ e];rfl
 rw[hb];have e1:b.nc=a.nc:=by rw[<-hb]
 have e2:b.jG=a.jG:=by rw[<-hb]
 have e3:b.e=a.e:=by rw[<-hb]
 have e4:b.F=a.F:=by rw[<-hb]
 refine⟨λc hc hi=> ?_,λc hc hi d lD=> ?_⟩
 ·rw[e1]at hc;rw[e2]at hi;have mr:∀d,d<2->(a.e c d).1≠i:=λd lD e=>by rw[(hd c d hc lD e).1]at hi;exact absurd hi iC
  rw[e3,e4,jV c 0 (mr 0 eH),jV c 1 (mr 1 eH)];exact h.up c hc hi
 ·rw[e1]at hc;rw[e2]at hi;obtain⟨a1,a2,a3,a4⟩:=h.dn c hc hi d lD;rw[e3,e4];by_cases e:(a.e c d).1=i
  ·have hp:=hB.en c d hc lD;have hl:mb b c d=(EA ((i:Int)+1) (a.ms i) (a.e c d).2).L:=by
    rw[<-hb];show((jI a.R i _ (a.e c d).1).P _).L=_;rw[e,iP];rfl
   obtain⟨z1,z2,z3⟩:=JM (i:=i) (p:=(a.e c d).2) (by have:=hB.n6;omega) hp.2 (a.ms i);rw[hl];have he:a.e c d=(i,(a.e c d).2):=bu e rfl;rw[he];exact⟨z1,z2,by rw[z3];omega,a4⟩
  ·rw[jV c d e];exact⟨a1,a2,a3,a4⟩
theorem tC(t:Nat×Nat->Nat):qh t [] =t:=by funext x;simp[qh]
theorem Av(t:Nat×Nat->Nat)(T U:List (Nat×Nat)):qh t (T++U)=qh (qh t T) U:=by
 funext x;unfold qh;rw[List.count_append];omega
theorem mE.links {S:List (Int×List UInt8)} (s:mE a T S b)(hB:ux a)(hN:Norm a) {X:Marks} {t:Nat×Nat->Nat} (h:ud X t a)(ht:∀x,t x<=126):∃Y,ud Y (qh t T) b:=by
 cases s with
 |lost hl=>exact⟨X,by rw[tC];exact h.lost hl⟩
 |tick i p _ _=>obtain⟨Y,hY,_⟩:=h.tick hB hN (i:=i) (p:=p) ht;exact⟨Y,hY⟩
 |pop c d x l hc hd hF=>obtain⟨Y,hY,_⟩:=h.pop hB hN (λx=>by have:=ht x;omega) hc hd hF;exact⟨Y,by rw[tC];exact hY⟩
 |send i m tx _ _ _ _=>exact⟨X,by rw[tC];exact h.send hN i _⟩
 |iW c hc hi _ _=>exact⟨_,h.iW hB hN ht hc hi⟩
 |draw c hc hi=>exact⟨X,by rw[tC];exact h.draw hB hN hc hi⟩
 |anew i m hi hd=>exact⟨X,by rw[tC];exact h.anew hB i m hd⟩
theorem ud.mono {X:Marks} {t u:Nat×Nat->Nat} {a:AN} (h:ud X t a)(Wo:∀x,t x<=u x):ud X u a:=
 ⟨λc hc hi=>(h.up c hc hi).mono (by have:=Wo (a.e c 0);have:=Wo (a.e c 1);omega),λc hc hi d hd=>by
  obtain⟨a1,a2,a3,a4⟩:=h.dn c hc hi d hd;exact⟨a1,a2,by have:=Wo (a.e c 0);have:=Wo (a.e c 1);omega,a4⟩⟩
theorem tD(h:T.Nodup)(k:Nat)(x:Nat×Nat):qh (λ_=>k) T x<=k+1:=by
 have:=List.nodup_iff_count.1 h x;show k+T.count x<=k+1;omega
end Rt
end Go.Proofs.YtieklnlbljejdaaGreatDoor
