import Derived.Test.YtieklnlbljejdaaGreatDoorG37
open Option renaming none → ν, some → μ
open List renaming length_cons → eZ
namespace Go.Proofs.YtieklnlbljejdaaGreatDoor
open Go.RowKit St
namespace Rt
variable {B N i:Nat} {K:Int->Option PS} {S:List (Int×List UInt8)} {T:List (Nat×Nat)} {a b:AN} {c:UInt8} {es:List j2} {own seq y:Int} {q:PS} {r:iY} {t:Nat×Nat->Nat} {x:mQ}
def Np(K:Int->Option PS)(y seq:Int)(es:List j2):Prop:=∃q,K y=μ q/\0<=mU q.1 q.2 seq es
theorem tE(s:Int)(e:List j2):mU s e s e=0:=NP.2 ⟨rfl,rfl⟩
theorem Ds(h:K y=μ q):Np K y q.1 q.2:=⟨q,h,by rw[tE];exact Int.le_refl _⟩
def rK(K K':Int->Option PS):Prop:=∀y q,K y=μ q->Np K' y q.1 q.2
theorem rK.refl(K:Int->Option PS):rK K K:=λ_ _ h=>Ds h
theorem Np.mono {K':Int->Option PS} (h:rK K K')(g:Np K y seq es):Np K' y seq es:=by
 obtain⟨q,h1,h2⟩:=g;obtain⟨u,h3,h4⟩:=h y q h1;exact⟨u,h3,(BK h4 h2).1⟩
theorem Np.trans {s1 s2:Int} {e1 e2:List j2} (g:Np K y s1 e1)(h:0<=mU s1 e1 s2 e2):Np K y s2 e2:=by
 obtain⟨q,h1,h2⟩:=g;exact⟨q,h1,(BK h2 h).1⟩
theorem rK.trans {L M:Int->Option PS} (h:rK K L)(g:rK L M):rK K M:=λy q hq=>(h y q hq).mono g
def adT(x:Option mQ)(y:Int)(q:PS):Prop:=∃s,(x=μ (83::s) \/x=μ (65::s))/\(iT s).2.2.2=0/\(iT s).1=y/\0<=mU (iT s).2.1 (iT s).2.2.1 q.1 q.2
def Hi(x:Option mQ)(w:Int):Prop:=∃s,x=μ (72::s)/\(mG s).2.2=0/\(mG s).1=w
structure uw(r r':iY)(p:Nat)(x:Option mQ):Prop where
 k:rK r.K r'.K
 o:∀j,(r'.P j).pe.both=true->∀y q,r'.K y=μ q->r'.O j y=ν->((r.P j).pe.both=true/\r.K y=μ q/\r.O j y=ν) \/(j=p/\adT x y q)
 w:∀j,(r'.P j).pe.who≠0->(r'.P j).pe.who=(r.P j).pe.who \/(j=p/\Hi x (r'.P j).pe.who)
theorem uw.refl(r:iY)(p:Nat)(x:Option mQ):uw r r p x:=⟨rK.refl _,λ_ h _ _ h1 h2=>.inl ⟨h,h1,h2⟩,λ_ _=>.inl rfl⟩
theorem uw.alike {s:iY} (p:Nat)(x:Option mQ)(hK:s.K=r.K)(hO:s.O=r.O)(hp:∀j,(s.P j).pe=(r.P j).pe):uw r s p x:=
 ⟨by rw[hK];exact rK.refl _,λj h y q h1 h2=>.inl ⟨by rw[<-hp];exact h,by rw[<-hK];exact h1,by rw[<-hO];exact h2⟩,λj _=>.inl (by rw[hp])⟩
theorem uw.trans {a b c:iY} {p:Nat} {x:Option mQ} (h:uw a b p x)(g:uw b c p x):uw a c p x:=by
 refine⟨h.k.trans g.k,λj hb y q h1 h2=> ?_,λj hw=> ?_⟩
 ·rcases g.o j hb y q h1 h2 with⟨z1,z2,z3⟩|z
  ·exact h.o j z1 y q z2 z3
  ·exact .inr z
 ·rcases g.w j hw with z|z
  ·rcases h.w j (by rw[<-z];exact hw)with u|u
   ·exact .inl (z.trans u)
   ·exact .inr (by rw[z];exact u)
  ·exact .inr z
theorem Dt(jb:lp r) {q:Int} (hq:zd r.K r.id<=q)(p:Nat)(x:Option mQ):uw r (r.behind q) p x:=by
 unfold iY.behind;split
 ·obtain⟨u,hu,_⟩:=jb.own;have hKe:∀y,(r.w7 (q+1) (jZ r)).K y=if y=r.id then μ (q+1,jZ r)else r.K y:=λy=>rfl
  refine⟨λy v hv=> ?_,λj hb y v h1 h2=> ?_,λj _=>.inl rfl⟩
  ·by_cases e:y=r.id
   ·refine⟨(q+1,jZ r),by rw[hKe,ag e],?_⟩;have hsq:v.1<=q:=by
     rw[e]at hv;unfold zd at hq;rw[hv]at hq;exact hq
    unfold mU;have:l5 (q+1) v.1=1:=by unfold l5;rw[ae eE,ag eE]
    rw[ag (by rw[this];decide),this];decide
   ·exact⟨v,by rw[hKe,ae e];exact hv,by rw[tE];exact Int.le_refl _⟩
  ·have yU:(if y=r.id then μ (q+1,jZ r)else r.O j y)=ν:=h2;by_cases e:y=r.id
   ·rw[ag e]at yU;exact absurd yU iC
   ·rw[ae e]at yU;rw[hKe,ae e]at h1;exact .inl ⟨hb,h1,yU⟩
 ·exact uw.refl r p x
theorem LW(jb:lp r)(p:Nat)(x:Option mQ):uw r r.change p x:=by
 unfold iY.change;split
 ·exact uw.refl r p x
 ·exact Dt jb (Int.le_refl _) p x
theorem vG(jb:lp r) {q:ln} (hq:nV r.id q)(x:Option mQ)(hw:q.who≠0->q.who=(r.P i).pe.who \/Hi x q.who):uw r (r.meet i q) i x:=by
 have vK:=λj=>(kC r i q j).2.2.2;have hW:∀j,((r.meet i q).P j).pe.who≠0->((r.meet i q).P j).pe.who=(r.P j).pe.who \/(j=i/\Hi x ((r.meet i q).P j).pe.who):=λj h=>by
  rw[vK]at h⊢;by_cases e:j=i
  ·subst e;rw[ag rfl]at h⊢;rcases hw h with z|z
   ·exact .inl z
   ·exact .inr ⟨rfl,z⟩
  ·rw[ae e];exact .inl rfl
 by_cases ko:q.who=(r.P i).pe.who/\q.both=(r.P i).pe.both
 ·have e:r.meet i q=r.jd i {r.P i with pe:=q}:=by unfold iY.meet;simp only;rw[ag ko]
  refine⟨by rw[e];exact rK.refl _,λj hb y v h1 h2=> ?_,hW⟩;rw[vK]at hb;rw[e]at h1 h2;refine .inl ⟨?_,h1,h2⟩;by_cases ej:j=i
  ·rw[ag ej]at hb;rw[ej,<-ko.2];exact hb
  ·rw[ae ej]at hb;exact hb
 ·obtain⟨z,hz⟩:∃z:iY,({r.jd i {r.P i with pe:=q}with O:=λx=>if x=i then λ_=>ν else(r.jd i {r.P i with pe:=q}).O x}:iY)=z:=⟨_,rfl⟩
  have okz:lp z:=by rw[<-hz];exact(jb.jd i {r.P i with pe:=q} rfl λ_=>hq).xe _
  have ev:=LW okz i x;have zK:z.K=r.K:=by rw[<-hz];rfl
  have e:r.meet i q=if q.both=true then {z.change with O:=λx=>if x=i then pP (z.change.O i) z.change.K else z.change.O x}else z.change:=by
   unfold iY.meet;simp only;rw[ae ko,hz]
  have eK:(r.meet i q).K=z.change.K:=by rw[e];split<;>rfl
  have hzO:∀j,j≠i->z.O j=r.O j:=λj hj=>by
   rw[<-hz];show(if j=i then λ_=>ν else r.O j)=_;rw[ae hj]
  have hzP:∀j,j≠i->(z.P j).pe=(r.P j).pe:=λj hj=>by
   rw[<-hz];show((r.jd i {r.P i with pe:=q}).P j).pe=_;rw[la,ae hj]
  refine⟨by rw[eK,<-zK];exact ev.k,λj hb y v h1 h2=> ?_,hW⟩;rw[eK]at h1;by_cases ej:j=i
  ·subst ej;rw[vK,ag rfl]at hb;rw[e,ag hb]at h2;have yU:(if j=j then pP (z.change.O j) z.change.K else z.change.O j) y=ν:=h2;rw[ag rfl]at yU;unfold pP at yU;rw[ag (by rw[h1];rfl),h1]at yU;exact absurd yU iC
  ·have yU:z.change.O j y=ν:=by
    rw[e]at h2;split at h2
    ·have h3:(if j=i then pP (z.change.O i) z.change.K else z.change.O j) y=ν:=h2;rw[ae ej]at h3;exact h3
    ·exact h2
   rw[vK,ae ej]at hb;have hzb:(z.change.P j).pe.both=true:=by rw[(vf z).2.2.2,hzP j ej];exact hb
   rcases ev.o j hzb y v h1 yU with⟨u1,u2,u3⟩|u
   ·exact .inl ⟨hb,by rw[<-zK];exact u2,by rw[<-hzO j ej];exact u3⟩
   ·exact absurd u.1 ej
theorem tF(h:K own=μ q):newF K own seq es=mU seq es q.1 q.2:=by unfold newF;rw[h]
theorem Fj(jb:lp r)(i:Nat)(s:List UInt8):uw r (jK r i s) i (μ (83::s))/\∀y∈jH ((jK r i s).P i),jH ((jK r i s).P i)=[65::sj (iT s).1 (iT s).2.1 (iT s).2.2.1]->(iT s).2.2.2=0->0<=newF r.K (iT s).1 (iT s).2.1 (iT s).2.2.1->¬((iT s).1=r.id/\0<newF r.K (iT s).1 (iT s).2.1 (iT s).2.2.1)->(r.P i).pe.both=true->Np (jK r i s).K (iT s).1 (iT s).2.1 (iT s).2.2.1:=by
 unfold jK;simp only;split
 ·rename_i h
  refine⟨uw.refl _ _ _,λy _ _ hz _ _ hb=> ?_⟩;rcases h with h|h
  ·exact absurd hz h
  ·rw[hb]at h;exact absurd h iC
 ·rename_i h
  have hz:(iT s).2.2.2=0:=eE;split
  ·rename_i h2
   refine⟨Dt jb ?_ _ _,λy _ _ _ _ mr _=>absurd h2 mr⟩;obtain⟨u,hu,_⟩:=jb.own;have h3:=h2.2;rw[h2.1,tF hu]at h3;unfold zd;rw[hu];show u.1<=_;unfold mU at h3;by_cases hc:l5 (iT s).2.1 u.1=0
   ·rw[m9.1 hc];exact Int.le_refl _
   ·rw[ag hc]at h3;have:=sK.1 h3;omega
  ·rename_i h2
   have XO:∀q:PS,0<=mU (iT s).2.1 (iT s).2.2.1 q.1 q.2->adT (μ (83::s)) (iT s).1 q:=λq hq=>⟨s,.inl rfl,hz,rfl,hq⟩
   generalize (iT s).1=own,(iT s).2.1=seq,(iT s).2.2.1=es at*;have hm:uw r {r with K:=lR r.K own seq es,O:=oW r.K r.O i own seq es} i (μ (83::s)):=by
    refine⟨λy q hq=> ?_,λj hb y q h1 h3=> ?_,λj _=>.inl rfl⟩
    ·show Np (lR r.K own seq es) y q.1 q.2;unfold lR;by_cases g:0<newF r.K own seq es
     ·rw[ag g];by_cases e:y=own
      ·subst e;rw[tF hq]at g;exact⟨(seq,es),by show(if y=y then _ else _)=_;rw[ag rfl],by show 0<=mU seq es q.1 q.2;omega⟩
      ·exact⟨q,by show(if y=own then _ else _)=_;rw[ae e];exact hq,by rw[tE];exact Int.le_refl _⟩
     ·rw[ae g];exact Ds hq
    ·have wU:lR r.K own seq es y=μ q:=h1;have su:oW r.K r.O i own seq es j y=ν:=h3;unfold lR at wU;unfold oW at su;by_cases g:0<newF r.K own seq es
     ·rw[ag g]at wU su;have wU:(if y=own then μ (seq,es)else r.K y)=μ q:=wU;by_cases e:y=own
      ·subst e;rw[ag rfl]at wU;injection wU with wU
       by_cases ej:j=i
       ·refine .inr ⟨ej,XO q ?_⟩;rw[<-wU];show 0<=mU seq es seq es;rw[tE];exact Int.le_refl _
       ·rw[ae ej]at su;have su:(if y=y then μ (seq,es)else r.O j y)=ν:=su;rw[ag rfl]at su;exact absurd su iC
      ·rw[ae e]at wU;refine .inl ⟨hb,wU,?_⟩;by_cases ej:j=i
       ·rw[ag ej]at su;have su:(if y=own then ν else if y=own then μ (seq,es)else r.O i y)=ν:=su;rw[ae e,ae e]at su;rw[ej];exact su
       ·rw[ae ej]at su;have su:(if y=own then μ (seq,es)else r.O j y)=ν:=su;rw[ae e]at su;exact su
     ·rw[ae g]at wU su;by_cases g2:newF r.K own seq es<0
      ·rw[ag g2]at su;by_cases ej:j=i
       ·rw[ag ej]at su;cases hk:r.K own with
        |none=>rw[hk]at su;exact .inl ⟨hb,wU,by rw[ej];exact su⟩
        |some u=>
         rw[hk]at su;have su:(if y=own then μ u else r.O i y)=ν:=su;by_cases e:y=own
         ·rw[ag e]at su;exact absurd su iC
         ·rw[ae e]at su;exact .inl ⟨hb,wU,by rw[ej];exact su⟩
       ·rw[ae ej]at su;exact .inl ⟨hb,wU,su⟩
      ·rw[ae g2]at su;by_cases ej:j=i
       ·rw[ag ej]at su;have su:(if y=own then ν else r.O i y)=ν:=su;by_cases e:y=own
        ·subst e;rw[tF wU]at g2;exact .inr ⟨ej,XO q eE⟩
        ·rw[ae e]at su;exact .inl ⟨hb,wU,by rw[ej];exact su⟩
       ·rw[ae ej]at su;exact .inl ⟨hb,wU,su⟩
   have hk:0<=newF r.K own seq es->Np (lR r.K own seq es) own seq es:=λh0=>by
    unfold lR;by_cases g:0<newF r.K own seq es
    ·rw[ag g];exact⟨(seq,es),by show(if own=own then _ else _)=_;rw[ag rfl],by show 0<=mU seq es seq es;rw[tE];exact Int.le_refl _⟩
    ·rw[ae g];cases hq:r.K own with
     |none=>unfold newF at g;rw[hq]at g;exact absurd (by decide:(0:Int)<1) g
     |some q=>
      rw[tF hq]at g h0;refine⟨q,hq,?_⟩;rw[NN];omega
   split
   ·refine⟨hm.trans (uw.alike _ _ rfl rfl λj=> ?_),λy _ _ _ h0 _ _=>hk h0⟩;rw[la];split
    ·rename_i e;rw[e,(qW _ _ _).2]
    ·rfl
   ·rename_i ahL
    exact⟨hm,λy _ _ _ h0 _ _=>absurd h0 ahL⟩
theorem PO(r:iY)(i:Nat)(s:List UInt8):uw r (kO r i s) i (μ (65::s)):=by
 unfold kO;simp only;split
 ·rename_i hz
  refine⟨rK.refl _,λj hb y q h1 h2=> ?_,λj _=>.inl rfl⟩;have yU:(if j=i/\0<=newF r.K (iT s).1 (iT s).2.1 (iT s).2.2.1 then zc (r.O i) (iT s).1 else r.O j) y=ν:=h2;have wU:r.K y=μ q:=h1;by_cases e:j=i/\0<=newF r.K (iT s).1 (iT s).2.1 (iT s).2.2.1
  ·rw[ag e]at yU;have h3:(if y=(iT s).1 then ν else r.O i y)=ν:=yU;by_cases ey:y=(iT s).1
   ·refine .inr ⟨e.1,s,.inr rfl,hz,ey.symm,?_⟩;have:=e.2;rw[<-ey,tF wU]at this;exact this
   ·rw[ae ey]at h3;exact .inl ⟨hb,wU,by rw[e.1];exact h3⟩
  ·rw[ae e]at yU;exact .inl ⟨hb,wU,yU⟩
 ·exact uw.refl _ _ _
def wK(r:iY)(x:mQ):Prop:=(∀s,(x=83::s \/x=65::s)->(iT s).2.2.2=0->Np r.K (iT s).1 (iT s).2.1 (iT s).2.2.1)/\∀s,x=72::s->(mG s).2.2=0->(mG s).1=r.id
theorem qz(r:iY)(s:List UInt8)(h1:c≠83)(h2:c≠65)(h3:c≠72):wK r (c::s):=
 ⟨λ_ e=>e.elim (λe=>absurd (aP e).1 h1) λe=>absurd (aP e).1 h2,λ_ e=>absurd (aP e).1 h3⟩
theorem PQ(hE:JA r)(jb:lp r)(i:Nat)(x:mQ):uw r (j7 r i x) i (μ x)/\∀p,∀y∈jH ((j7 r i x).P p),wK (j7 r i x) y:=by
 obtain⟨m1,_⟩:=yv hE i x;have wW:uw r (j7 r i x) i (μ x):=by
  cases x with
  |nil=>exact uw.refl _ _ _
  |cons c s=>
   show uw r (r.take i c s) i _;obtain⟨_,_,k3,k4,k5,_,_,_⟩:=yu hE i c s;have e0:uw r (jY r i c s) i (μ (c::s)):=uw.alike _ _ k4 k5 λj=>(k3 j).1;have kN:=jb.link i c s;rw[lF];obtain⟨r1,kU⟩:=gH (jY r i c s);rw[kU]at e0 kN⊢;split
   ·exact e0.trans (vG kN (nV.nobody kN.id.1) _ λh=>absurd rfl h)
   ·unfold mJ;split
    ·rename_i hc
     split
     ·rename_i hz
      refine e0.trans (vG kN (nV.Vm (s:=(mG s).2.1) kN.id.1 (CH hz)) _ λhw=>.inr ⟨s,by rw[hc],hz,?_⟩);unfold kf at hw⊢;split at hw
      ·exact absurd rfl hw
      ·rename_i g;rw[ae g]
     ·exact e0
    ·split
     ·rename_i hc;rw[hc]at e0⊢;exact e0.trans (Fj kN i s).1
     ·split
      ·rename_i hc;rw[hc]at e0⊢;exact e0.trans (PO r1 i s)
      ·split
       ·unfold qw;split
        ·obtain⟨a,b,_,_,e⟩:=oR r1 (((s.getD 0 0).toNat:Int),((s.getD 1 0).toNat:Int),s.drop 2);exact e0.trans (uw.alike _ _ a b λj=>(e j).2.1)
        ·exact e0
       ·exact e0
 refine⟨wW,λp y hy=> ?_⟩;cases m1 p with
 |none h=>rw[h]at hy;simp at hy
 |link s _ _ _ h=>
  rw[h]at hy;obtain⟨u,rfl⟩:=xC hy;exact qz _ u eH eH eH
 |Tw a b s _ _ _ _ h=>
  rw[h]at hy;rw[az.1 hy];exact qz _ _ eH eH eH
 |heard s hx hp h9 hz hb mr h0 h=>
  rw[h]at hy;rw[az.1 hy];have hv:pj (iT s).1 (iT s).2.1 (iT s).2.2.1=0:=qZ (by rw[<-hz]);refine⟨λu e _=> ?_,λu e=>absurd (aP e).1 eH⟩;have hu:u=sj (iT s).1 (iT s).2.1 (iT s).2.2.1:=by
   rcases e with e|e
   ·exact absurd (aP e).1 eH
   ·exact(aP e).2.symm
  rw[hu,uB _ _ _ hv];have ht:j7 r i x=jK r i s:=by
   rw[hx];show r.take i 83 s=_;rw[lF,Di i s eH,ae (by rw[h9];simp)];unfold mJ;rw[ae eH,ag rfl]
  rw[ht]at h⊢;rw[hp]at h;exact(Fj jb i s).2 _ (by rw[h];exact az.2 rfl) h hz h0 mr hb
theorem PR(hE:JA r)(h:Own r)(jb:lp r)(hs:lT B r)(hB:B<1000000)(hi:i<3)(hn:r.n=3):uw r (r.jx i) i ν/\∀p,∀y∈jH ((r.jx i).P p),wK (r.jx i) y:=by
 have ha:=mP r i;have e0:uw r (jn r i) i ν:=uw.alike _ _ rfl rfl λj=>(ha j).2;have kN:=jb.jn i;have Ad:(jg ((jn r i).P i).pe).who≠0->(jg ((jn r i).P i).pe).who=((jn r i).P i).pe.who:=λhw=>by
  unfold jg at hw⊢;split at hw
  ·exact absurd rfl hw
  ·rename_i g;rw[ae g]
 have wW:uw r (r.jx i) i ν:=by
  rw[k9];split
  ·exact e0.trans (vG kN (nV.nobody kN.id.1) _ λh=>absurd rfl h)
  ·have hp:=nV.tick kN.id.1 (kN.pe i (by show i<r.n;omega));obtain⟨t1,t2,_,_,t5⟩:=rH ((jn r i).meet i (jg ((jn r i).P i).pe)) i;exact(e0.trans (vG kN hp _ λhw=>.inl (Ad hw))).trans (uw.alike _ _ t1 t2 λj=>(t5 j).2.1)
 refine⟨wW,λp y hy=> ?_⟩;obtain⟨C,c1,c2,_⟩:=zF h jb hs hB hi hn;obtain⟨e1,e2⟩:=Bq hE i;by_cases ep:p=i
 ·subst ep;rw[e2]at hy;rcases aD.1 hy with g|g
  ·obtain⟨u,rfl⟩:=xC g;exact qz _ u eH eH eH
  ·split at g
   ·rename_i h9
    rcases bn.1 g with g|g
    ·rw[g];refine⟨λu e=> ?_,λu e hz=> ?_⟩
     ·rcases e with e|e<;>exact absurd (aP e).1 eH
     ·rw[<-(aP e).2]at hz⊢;have rO:=jb.id;have Zf:(r.jx p).id=r.id:=(jR.jx r p).id;rw[Zf];unfold mG at hz⊢;split at hz
      ·rename_i hh
       rw[ag hh];show((j8 r.id).toNat:Int)=_;exact nK _ eE eE
      ·exact absurd hz iC
    ·split at g
     ·obtain⟨q,hq,vm⟩:=bB.1 g;unfold Tt at vm;split at vm
      ·rw[az.1 vm];have hO:(r.jx p).O p q.1=μ q.2:=by
        have kD:((jn r p).P p).L.st=9:=by
         unfold jn;rw[la,ag rfl,vw];exact h9
        rw[k9,ae (by rw[kD];simp),(ha p).2];exact zG hq
       have hK:=c1.tie p q.1 q.2 hO;refine⟨λu e _=> ?_,λu e=>absurd (aP e).1 eH⟩;have hu:u=sj q.1 q.2.1 q.2.2:=by
        rcases e with e|e
        ·exact(aP e).2.symm
        ·exact absurd (aP e).1 eH
       rw[hu,uB _ _ _ (c1.val _ _ hK)];exact Ds hK
      ·simp at vm
     ·simp at g
   ·simp at g
 ·rw[e1 p ep]at hy;simp at hy
theorem TG(jb:lp r)(i:Nat)(up:Bool):uw r (r.iW i up).1 i ν/\(((r.P i).iW up).2=0->((r.iW i up).1.P i).pe=nobody):=by
 unfold iY.iW;simp only;split
 ·rename_i h;exact⟨uw.refl _ _ _,λh0=>absurd h0 h⟩
 ·have e:((r.P i).iW up).1.m=(r.P i).m/\((r.P i).iW up).1.pe=(r.P i).pe:=by
   unfold jF.iW;generalize k7 (r.P i).L (if up=true then 0 else 1)=E;simp only;split
   ·exact⟨rfl,rfl⟩
   ·rw[(ve _ _).1,(ve _ _).2];exact⟨rfl,rfl⟩
  have k1:lp (r.jd i ((r.P i).iW up).1):=jb.jd i _ e.1 λhi=>by rw[e.2];exact jb.pe i hi
  have e0:uw r (r.jd i ((r.P i).iW up).1) i ν:=uw.alike _ _ rfl rfl λj=>by
   rw[la];split
   ·rename_i g;rw[g];exact e.2
   ·rfl
  refine⟨e0.trans (vG k1 (nV.nobody k1.id.1) _ λh=>absurd rfl h),λ_=> ?_⟩;rw[(kC _ _ _ _).2.2.2,ag rfl]
def yL(a:AN)(c d:Nat):ln:=((a.R (a.e c d).1).P (a.e c d).2).pe
def yE(x:mQ):Prop:=x.length<=23/\∀k b s,x=77::k::b::s->b.toNat<=7
theorem r9 {s:List UInt8} (h:s.length<=22)(hc:c≠77):yE (c::s):=⟨by simp only[eZ];omega,λ_ _ _ e=>absurd (aP e).1 hc⟩
structure Fk(a:AN):Prop where
 gate:∀c d,c<a.nc->d<2->(yL a c d).who≠0->(mb a c d).st=9
 far:∀c d,c<a.nc->d<2->(yL a c d).who≠0->(yL a c d).who=((a.e c (1-d)).1:Int)+1
 kn:∀c d,c<a.nc->d<2->∀x∈a.F c d,wK (a.R (a.e c d).1) x/\yE x
 o:∀c d,c<a.nc->d<2->(yL a c d).both=true->∀y q,(a.R (a.e c d).1).K y=μ q->(a.R (a.e c d).1).O (a.e c d).2 y=ν->Np (a.R (a.e c (1-d)).1).K y q.1 q.2
theorem wK.mono {r s:iY} (h:rK r.K s.K)(rO:s.id=r.id) {x:mQ} (g:wK r x):wK s x:=⟨λu e hz=>(g.1 u e hz).mono h,λu e hz=>by rw[rO];exact g.2 u e hz⟩
theorem LX(a:AN)(i:Nat)(s:iY)(j:Nat):(a.op i s).R j=if j=i then s.core else a.R j:=rfl
theorem TH(a:AN)(i:Nat)(s:iY)(c d:Nat):yL (a.op i s) c d=if(a.e c d).1=i then(s.P (a.e c d).2).pe else yL a c d:=by
 unfold yL;rw[Pw,LX];by_cases e:(a.e c d).1=i
 ·rw[ag e,ag e];rfl
 ·rw[ae e,ae e]
theorem Fk.op {a:AN} (hB:ux a)(h:Fk a) {i:Nat} {s:iY} (rO:s.id=(a.R i).id)(LP:∀j,j<a.n->(a.R j).id=(j:Int)+1) {p:Nat} {x:Option mQ} (ev:uw (a.R i) s p x)(hem:∀q,∀y∈jH (s.P q),wK s y/\yE y)
 (hx:∀y,x=μ y->∃c d,c<a.nc/\d<2/\a.e c (1-d)=(i,p)/\wK (a.R (a.e c d).1) y)
 (hg:∀c d,c<a.nc->d<2->(a.e c d).1=i->(s.P (a.e c d).2).pe.who≠0->(s.P (a.e c d).2).L.st=9):Fk (a.op i s):=by
 have hm:∀j,rK (a.R j).K ((a.op i s).R j).K:=λj=>by
  rw[LX];by_cases e:j=i
  ·rw[ag e,e];exact ev.k
  ·rw[ae e];exact rK.refl _
 have XP:∀j,((a.op i s).R j).id=(a.R j).id:=λj=>by
  rw[LX];by_cases e:j=i
  ·rw[ag e,e];exact rO
  ·rw[ae e]
 have hxx:∀c d,c<a.nc->d<2->a.e c d=(i,p)->∀y,x=μ y->wK (a.R (a.e c (1-d)).1) y:=λc d hc hd he y hy=>by
  obtain⟨c',d',kS,lD,Ep,hk⟩:=hx y hy;have:=hB.ds c' (1-d') c d kS eE hc hd (Ep.trans he.symm);have Mm:d'=1-d:=eE;rw[this.1,Mm]at hk;exact hk
 refine⟨λc d hc hd hw=> ?_,λc d hc hd hw=> ?_,λc d hc hd y hy=> ?_,λc d hc hd hb y q h1 h2=> ?_⟩
 ·rw[TH]at hw;rw[JL];by_cases e:(a.e c d).1=i
  ·rw[ag e]at hw⊢;exact hg c d hc hd e hw
  ·rw[ae e]at hw⊢;exact h.gate c d hc hd hw
 ·rw[TH]at hw⊢;rw[Pw];by_cases e:(a.e c d).1=i
  ·rw[ag e]at hw⊢;rcases ev.w _ hw with z|⟨z1,s',z2,z3,z4⟩
   ·rw[z]at hw⊢;have:=h.far c d hc hd;unfold yL at this;rw[e]at this;exact this hw
   ·have:=(hxx c d hc hd (bu e z1) _ z2).2 s' rfl z3;rw[<-z4,this];exact LP _ (hB.en c (1-d) hc eE).1
  ·rw[ae e]at hw⊢;exact h.far c d hc hd hw
 ·rw[Pw];rw[zy]at hy;by_cases e:(a.e c d).1=i
  ·rw[ag ⟨⟨hc,hd⟩,e⟩]at hy;rcases aD.1 hy with g|g
   ·exact⟨(h.kn c d hc hd y g).1.mono (hm _) (XP _),(h.kn c d hc hd y g).2⟩
   ·rw[LX,ag e];exact hem _ y g
  ·rw[ae (λz=>e z.2)]at hy;exact⟨(h.kn c d hc hd y hy).1.mono (hm _) (XP _),(h.kn c d hc hd y hy).2⟩
 ·rw[Pw];rw[Pw]at h1 h2;rw[TH]at hb;by_cases e:(a.e c d).1=i
  ·rw[ag e]at hb;rw[LX,ag e]at h1 h2;rcases ev.o _ hb y q h1 h2 with⟨z1,z2,z3⟩|⟨z1,s',z2,z3,z4,z5⟩
   ·have:=h.o c d hc hd;unfold yL at this;rw[e]at this;exact(this z1 y q z2 z3).mono (hm _)
   ·have hk:Np (a.R (a.e c (1-d)).1).K (iT s').1 (iT s').2.1 (iT s').2.2.1:=by
     rcases z2 with z2|z2
     ·exact(hxx c d hc hd (bu e z1) _ z2).1 s' (.inl rfl) z3
     ·exact(hxx c d hc hd (bu e z1) _ z2).1 s' (.inr rfl) z3
    rw[z4]at hk;exact(hk.trans z5).mono (hm _)
  ·rw[ae e]at hb;rw[LX,ae e]at h1 h2;exact(h.o c d hc hd hb y q h1 h2).mono (hm _)
theorem Fk.lost(h:Fk a)(hl:xA a b):Fk b:=by
 have hs:∀c d,(b.F c d).Sublist (a.F c d):=λc d=>by
  obtain⟨m,hm⟩:=hl.2 c d;rw[hm];exact dJ _ _
 have e1:b.nc=a.nc:=by rw[hl.1]
 have e3:b.e=a.e:=by rw[hl.1]
 have e4:b.R=a.R:=by rw[hl.1]
 have e5:∀c d,yL b c d=yL a c d:=λc d=>by unfold yL;rw[e3,e4]
 have e6:∀c d,mb b c d=mb a c d:=λc d=>by unfold mb;rw[e3,e4]
 refine⟨λc d=> ?_,λc d=> ?_,λc d hc hd x hx=> ?_,λc d=> ?_⟩
 ·rw[e1,e5,e6];exact h.gate c d
 ·rw[e1,e5,e3];exact h.far c d
 ·rw[e3,e4];exact h.kn c d (by rw[<-e1];exact hc) hd x ((hs c d).mem hx)
 ·rw[e1,e5,e3,e4];exact h.o c d
theorem Fk.less(h:Fk a)(e1:b.nc=a.nc)(e3:b.e=a.e)(e4:b.R=a.R)(hs:∀c d,∀x∈b.F c d,x∈a.F c d):Fk b:=by
 have e5:∀c d,yL b c d=yL a c d:=λc d=>by unfold yL;rw[e3,e4]
 have e6:∀c d,mb b c d=mb a c d:=λc d=>by unfold mb;rw[e3,e4]
 refine⟨λc d=> ?_,λc d=> ?_,λc d hc hd x hx=> ?_,λc d=> ?_⟩
 ·rw[e1,e5,e6];exact h.gate c d
 ·rw[e1,e5,e3];exact h.far c d
 ·rw[e3,e4];exact h.kn c d (by rw[<-e1];exact hc) hd x (hs c d x hx)
 ·rw[e1,e5,e3,e4];exact h.o c d
theorem PT {code id:Int} {os:List j2} (h:jW code id os=0):os.length<=8:=by
 unfold jW at h;split at h
 ·simp at h
 ·split at h
  ·simp at h
  ·omega
theorem Nq(h:pj own seq es=0):(sj own seq es).length<=16:=by
 have:=(jT h).2.2.1;unfold sj;simp only[eZ,wO];omega
theorem Wq(q:kZ):∀x∈r8 q,yE x:=λx hx=>by
 unfold r8 at hx;split at hx
 ·rename_i g
  rw[az.1 hx];have:=PT g.1;refine r9 ?_ eH;unfold lQ;simp only[eZ,qO];omega
 ·simp at hx
theorem Du {l:List kZ} (h:x∈l.flatMap r8):yE x:=by
 obtain⟨q,_,hx⟩:=bB.1 h;exact Wq q x hx
theorem Wr {p:Nat} {l:List mQ} (h:D9 r i x p l)(hx:yE x):∀y∈l,yE y:=λy hy=>by
 cases h with
 |none h=>rw[h]at hy;simp at hy
 |link s _ _ _ h=>rw[h]at hy;exact Du hy
 |heard s _ _ _ hz _ _ _ h=>
  rw[h]at hy;rw[az.1 hy];have hv:pj (iT s).1 (iT s).2.1 (iT s).2.2.1=0:=qZ (by rw[<-hz]);have:=Nq hv;exact r9 eE eH
 |Tw a b s hs h9 h1 hl h=>
  rw[h]at hy;rw[az.1 hy];refine⟨by simp only[eZ];omega,λk c u e=> ?_⟩;have e2:=(aP (aP (aP e).2).2).1;have hb:=hx.2 a b s hs;rw[<-e2];have:=nK ((b.toNat:Int)-1) eE (by have:=b.toNat_lt;omega);omega
theorem Ws(hE:JA r)(hO:Own (r.jx i)):∀p,∀y∈jH ((r.jx i).P p),yE y:=λp y hy=>by
 obtain⟨e1,e2⟩:=Bq hE i;by_cases ep:p=i
 ·subst ep;rw[e2]at hy;rcases aD.1 hy with g|g
  ·exact Du g
  ·split at g
   ·rename_i h9
    rcases bn.1 g with g|g
    ·rw[g];exact r9 iC eH
    ·split at g
     ·obtain⟨q,hq,vm⟩:=bB.1 g;unfold Tt at vm;split at vm
      ·rw[az.1 vm];have kD:((jn r p).P p).L.st=9:=by
        unfold jn;rw[la,ag rfl,vw];exact h9
       have hOq:(r.jx p).O p q.1=μ q.2:=by
        rw[k9,ae (by rw[kD];simp),(mP r p p).2];exact zG hq
       have:=Nq (hO.val _ _ (hO.tie p q.1 q.2 hOq));exact r9 eE eH
      ·simp at vm
     ·simp at g
   ·simp at g
 ·rw[e1 p ep]at hy;simp at hy
theorem Fk.lH {a:AN} (hB:ux a)(hN:Norm a)(h:Fk a) {B N:Nat} (hO:uv B N a) {c d:Nat} (hc:c<a.nc)(hd:d<2)(up:Bool)(Xl:(k7 (mb a c d) (if up=true then 0 else 1)).2.2=0):Fk (a.lH c d up):=by
 obtain⟨hi,hp⟩:=hB.en c d hc hd;obtain⟨a1,a2,a3,a4,a5⟩:=hO.r _ hi;obtain⟨ev,vK⟩:=TG a2 (a.e c d).2 up;obtain⟨e1,e2,e3⟩:=GH (hN.emp (a.e c d).1) (a.e c d).2 up Xl;have hq:=Ng (hN.emp (a.e c d).1) (a.e c d).2 up;have hPe:∀q,(((a.R (a.e c d).1).iW (a.e c d).2 up).1.P q).pe=if q=(a.e c d).2 then nobody else((a.R (a.e c d).1).P q).pe:=λq=>by
  rw[e3,(kC _ _ _ _).2.2.2];by_cases g:q=(a.e c d).2
  ·rw[ag g,ag g]
  ·rw[ae g,ae g,la,ae g]
 have hL:∀q,q≠(a.e c d).2->(((a.R (a.e c d).1).iW (a.e c d).2 up).1.P q).L=((a.R (a.e c d).1).P q).L:=λq hq=>by
  rw[e3,(kC _ _ _ _).2.1,la,ae hq]
 refine h.op hB (GJ _ _ _).1 (λj hj=>(hO.r j hj).2.2.2.1) ev (λq y hy=> ?_) (λy hy=>absurd hy iC) λc' d' kS lD he hw=> ?_
 ·obtain⟨u,rfl⟩:=hq q y hy;refine⟨qz _ u eH eH eH,?_⟩;by_cases g:q=(a.e c d).2
  ·rw[g,e2]at hy;exact Du hy
  ·rw[e1 q g]at hy;simp at hy
 ·by_cases g:(a.e c' d').2=(a.e c d).2
  ·rw[g,hPe,ag rfl]at hw;exact absurd rfl hw
  ·rw[hPe,ae g]at hw;rw[hL _ g];have:=h.gate c' d' kS lD;unfold yL mb at this;rw[he]at this;exact this hw
theorem Fk.iW {a:AN} (hB:ux a)(hN:Norm a)(h:Fk a) {B N:Nat} (hO:uv B N a)(hl:N<1000000) {c:Nat} (hc:c<a.nc)(up:Bool)(Xl:∀d,d<2->(k7 (mb a c d) (if up=true then 0 else 1)).2.2=0):Fk (a.iW c up):=by
 obtain⟨b,hb⟩:=gH ((({a with jG:=jI a.jG c up}:AN).lg c 0 []).lg c 1 []);have J0:ux b:=hB.same (by rw[<-hb];rfl) (by rw[<-hb];rfl) (by rw[<-hb];rfl);have PH:Norm b:=by rw[<-hb];exact hN
 have wj:c<b.nc:=by rw[<-hb];exact hc
 have T9:∀c' d',mb b c' d'=mb a c' d':=λc' d'=>by rw[<-hb];rfl
 have DC:Fk b:=h.less (by rw[<-hb];rfl) (by rw[<-hb];rfl) (by rw[<-hb];rfl) λx f y hy=>by
  rw[<-hb]at hy;have e2:y∈(if x=c/\f=1 then []else if x=c/\f=0 then []else a.F x f):=hy;split at e2
  ·simp at e2
  ·split at e2
   ·simp at e2
   ·exact e2
 have hOb:∃C,uv C N b:=by
  have w1:=vV {a with jG:=jI a.jG c up} sw c 0;have w2:=vV (({a with jG:=jI a.jG c up}:AN).lg c 0 []) sw c 1;have w3:=hO.b;rw[hb]at w2;have e1:({a with jG:=jI a.jG c up}:AN).W sw=a.W sw:=rfl;refine⟨B,by rw[<-hb];exact hO.r,λx f hx hf y hy=> ?_,?_,hO.one,by rw[<-hb];exact hO.ms⟩
  ·rw[<-hb]at hy hx;have e2:y∈(if x=c/\f=1 then []else if x=c/\f=0 then []else a.F x f):=hy;split at e2
   ·simp at e2
   ·split at e2
    ·simp at e2
    ·exact hO.f x f hx hf y e2
  ·have e2:sm (λi=>qo (b.R i)) (List.range b.n)=sm (λi=>qo (a.R i)) (List.range a.n):=by rw[<-hb];rfl
   omega
 obtain⟨C,hOb⟩:=hOb;have f0:=vF J0 PH wj (by decide:0<2) up (by rw[T9];exact Xl 0 eH);have h1:=DC.lH J0 PH hOb wj (by decide:0<2) up (by rw[T9];exact Xl 0 eH);obtain⟨D,hO1⟩:=zH J0 PH hOb hl wj (by decide:0<2) up;have k01:=(f0 c 1 wj eH).1 eE;have h2:=h1.lH (a:=b.lH c 0 up) (J0.same rfl rfl rfl) (pI PH _ _) hO1 wj (by decide:1<2) up (by rw[k01.1,T9];exact Xl 1 eH);unfold AN.iW;rw[hb];exact h2
theorem mE.adU(s:mE a T S b)(hB:ux a)(hN:Norm a)(hO:uv B N a)(hl:N<1000000) {X:Marks} (hX:ud X t a)(h:Fk a):Fk b:=by
 have LP:∀j,j<a.n->(a.R j).id=(j:Int)+1:=λj hj=>(hO.r j hj).2.2.2.1;have hBl:=hO.b;have aad:∀c d,c<a.nc->d<2->a.jG c=true->Lx ((a.R (a.e c d).1).P (a.e c d).2):=λc d hc hd hi=>by
  have p:=hX.wv hc hd hi;have h6:=p.lu;have h9:=p.l.st;refine⟨?_,h.gate c d hc hd⟩;show ti (mb a c d).st=true;unfold ti;simp only[Bool.or_eq_true,beq_iff_eq,Bool.and_eq_true,decide_eq_true_eq];omega
 have sD:∀c d,c<a.nc->d<2->oK (a.jG c) ((a.R (a.e c d).1).P (a.e c d).2):=λc d hc hd=>by
  cases hi:a.jG c
  ·exact⟨by rw[ae iC];exact(hX.dn c hc hi d hd).2.1,h.gate c d hc hd⟩
  ·exact oK.up.2 (aad c d hc hd hi)
 cases s with
 |lost hl=>exact h.lost hl
 |tick i p hi hp=>
  obtain⟨a1,a2,a3,a4,a5⟩:=hO.r i hi;obtain⟨ev,hk⟩:=PR (hN.emp i) a1 a2 a3 eE hp a5;obtain⟨C,c1,_⟩:=zF a1 a2 a3 eE hp a5;have jb:=Ws (hN.emp i) c1;refine h.op hB (jR.jx (a.R i) p).id LP ev (λq y hy=>⟨hk q y hy,jb q y hy⟩) (λy hy=>absurd hy iC) λc d hc hd he hw=> ?_;have hE:=sD c d hc hd;rw[he]at hE;by_cases e:(a.e c d).2=p
  ·rw[e]at hE hw⊢;exact(EY p hE).1.gate hw
  ·have hLq:(((a.R i).jx p).P (a.e c d).2).L=((a.R i).P (a.e c d).2).L:=by rw[LQ,ae e]
   have hPq:(((a.R i).jx p).P (a.e c d).2).pe=((a.R i).P (a.e c d).2).pe:=by
    rw[k9];split
    ·rw[(kC _ _ _ _).2.2.2,ae e];exact(mP _ _ _).2
    ·rw[((rH _ _).2.2.2.2 _).2.1,(kC _ _ _ _).2.2.2,ae e];exact(mP _ _ _).2
   rw[hLq];rw[hPq]at hw;exact hE.gate hw
 |pop c d x l hc hd hF=>
  obtain⟨hi,hp⟩:=hB.en c (1-d) hc eE;obtain⟨a1,a2,a3,a4,a5⟩:=hO.r _ hi;have hxm:x∈a.F c d:=by rw[hF];simp
  have pw:=hX.TE hc hd hxm;obtain⟨ev,hk⟩:=PQ (hN.emp (a.e c (1-d)).1) a2 (a.e c (1-d)).2 x;obtain⟨m1,_⟩:=yv (hN.emp (a.e c (1-d)).1) (a.e c (1-d)).2 x;have wy:Fk (a.lg c d l):=h.less rfl rfl rfl λy f z hz=>by
   rw[xB]at hz;split at hz
   ·rename_i e;rw[e.1,e.2,hF];simp[hz]
   ·exact hz
  unfold AN.pop;refine wy.op (a:=a.lg c d l) (hB.same rfl rfl rfl) (JC a2 _ x).2.1 LP ev (λq y hy=>⟨hk q y hy,Wr (m1 q) (h.kn c d hc hd x hxm).2 y hy⟩) (λy hy=>⟨c,d,hc,hd,rfl,?_⟩) λc' d' kS lD he hw=> ?_
  ·injection hy with hy;rw[<-hy];exact(h.kn c d hc hd x hxm).1
  ·have hG:=EX (r:=a.R (a.e c (1-d)).1) (a.e c (1-d)).2;cases x with
   |nil=>
    have:=h.gate c' d' kS lD;unfold yL mb at this;rw[show(a.e c' d').1=(a.e c (1-d)).1 from he]at this;exact this hw
   |cons k u=>
    obtain⟨g1,g2⟩:=hG k u (aad c (1-d) hc eE pw);by_cases e:(a.e c' d').2=(a.e c (1-d)).2
    ·have e':((a.lg c d l).e c' d').2=(a.e c (1-d)).2:=e;rw[e']at hw⊢;exact g1.2 hw
    ·obtain⟨z1,z2⟩:=g2 _ e;have:=h.gate c' d' kS lD;unfold yL mb at this;rw[show(a.e c' d').1=(a.e c (1-d)).1 from he]at this;have Vn:(((a.R (a.e c (1-d)).1).take (a.e c (1-d)).2 k u).P (a.e c' d').2).pe.who≠0:=hw;rw[z2]at Vn;show(((a.R (a.e c (1-d)).1).take (a.e c (1-d)).2 k u).P (a.e c' d').2).L.st=9;rw[z1];exact this Vn
 |send i t tx hi ht1 ht6 hlen=>
  obtain⟨s1,s2,s3,s4,s5⟩:=oR (a.R i) (t,8,tx);obtain⟨j,g1,g2⟩:=Bp (hN.emp i) (t,8,tx);refine h.op hB s3 LP (uw.alike 0 ν s1 s2 λj=>(s5 j).2.1) (λq y hy=> ?_) (λy hy=>absurd hy iC) λc d hc hd he hw=> ?_
  ·by_cases e:q=j
   ·subst e;rcases g2 with g|⟨_,g⟩
    ·rw[g]at hy;simp at hy
    ·rw[g]at hy;rw[az.1 hy];refine⟨qz _ _ eH eH eH,by simp only[eZ];omega,λk b u e=> ?_⟩;rw[<-(aP (aP (aP e).2).2).1];show(j8 ((8:Int)-1)).toNat<=7;decide
   ·rw[g1 q e]at hy;simp at hy
  ·rw[(s5 _).2.1]at hw;rw[(s5 _).2.2];have:=h.gate c d hc hd;unfold yL mb at this;rw[he]at this;exact this hw
 |iW c hc hi _ _=>exact h.iW hB hN hO hl hc true λd hd=>(Cn (hX.dn c hc hi d hd).2.1).1
 |draw c hc hi=>exact h.iW hB hN hO hl hc false λd hd=>(rZ (aad c d hc hd hi).1).1
 |anew i m hi hd=>
  obtain⟨b,hb⟩:=gH (({a with R:=jI a.R i (jX ((i:Int)+1) 3 (a.ms i)),ib:=jI a.ib i ((a.ib i).take m)}:AN));rw[hb];have e1:b.nc=a.nc:=by rw[<-hb]
  have e3:b.e=a.e:=by rw[<-hb]
  have e4:b.F=a.F:=by rw[<-hb]
  have hR:∀j,b.R j=if j=i then jX ((i:Int)+1) 3 (a.ms i)else a.R j:=λj=>by rw[<-hb];rfl
  have vK:∀c d,yL b c d=if(a.e c d).1=i then nobody else yL a c d:=λc d=>by
   unfold yL;rw[e3,hR];by_cases e:(a.e c d).1=i
   ·rw[ag e,ag e];rfl
   ·rw[ae e,ae e]
  have qN:∀c d,(a.e c d).1≠i->mb b c d=mb a c d:=λc d e=>by unfold mb;rw[e3,hR,ae e]
  have mr:∀c d,c<a.nc->d<2->(a.e c (1-d)).1=i->(yL a c d).both=false:=λc d hc lD e=>by
   have pw:=(hd c (1-d) hc eE e).1;have kD:=(hX.dn c hc pw d lD).2.1;have hw:(yL a c d).who=0:=by
    by_cases g:(yL a c d).who=0
    ·exact g
    ·have:=h.gate c d hc lD g;omega
   have hx:=hB.en c d hc lD;have hp:=(hO.r _ hx.1).2.1.pe (a.e c d).2 (by rw[(hO.r _ hx.1).2.2.2.2];exact hx.2);cases hb:(yL a c d).both
   ·rfl
   ·have:=hp.both hb;unfold yL at hw;omega
  refine⟨λc d hc lD hw=> ?_,λc d hc lD hw=> ?_,λc d hc lD x hx=> ?_,λc d hc lD NY y q h1 h2=> ?_⟩
  ·rw[e1]at hc;rw[vK]at hw;by_cases e:(a.e c d).1=i
   ·rw[ag e]at hw;exact absurd rfl hw
   ·rw[ae e]at hw;rw[qN c d e];exact h.gate c d hc lD hw
  ·rw[e1]at hc;rw[vK]at hw⊢;rw[e3];by_cases e:(a.e c d).1=i
   ·rw[ag e]at hw;exact absurd rfl hw
   ·rw[ae e]at hw⊢;exact h.far c d hc lD hw
  ·rw[e1]at hc;rw[e4]at hx;rw[e3];by_cases e:(a.e c d).1=i
   ·obtain⟨_,f0,f1⟩:=hd c d hc lD e;have:d=0 \/d=1:=eE;rcases this with rfl|rfl
    ·rw[f0]at hx;simp at hx
    ·rw[f1]at hx;simp at hx
   ·rw[hR,ae e];exact h.kn c d hc lD x hx
  ·rw[e1]at hc;rw[vK]at NY;rw[e3]at h1 h2⊢;by_cases e:(a.e c d).1=i
   ·rw[ag e]at NY;exact absurd NY (by simp[nobody])
   ·rw[ae e]at NY;rw[hR,ae e]at h1 h2;by_cases e2:(a.e c (1-d)).1=i
    ·rw[mr c d hc lD e2]at NY;exact absurd NY iC
    ·rw[hR,ae e2];exact h.o c d hc lD NY y q h1 h2
structure Inv(N:Nat)(t:Nat×Nat->Nat)(a:AN):Prop where
 Tr:ux a
 nrm:Norm a
 own:∃B,uv B N a
 lk:∃X,ud X t a
 fl:Fk a
theorem Inv.step(s:mE a T S b)(h:Inv N t a)(hl:N<1000000)(ht:∀x,t x<=126):Inv (N+8*T.length) (qh t T) b:=by
 obtain⟨B,hO⟩:=h.own;obtain⟨X,hX⟩:=h.lk;exact⟨h.Tr.same s.same.1 s.same.2.1 s.same.2.2.1,s.norm h.nrm,s.own h.Tr h.nrm hO hl,s.links h.Tr h.nrm hX ht,s.adU h.Tr h.nrm hO hl hX h.fl⟩
theorem Inv.path(s:jU a T S b)(h:Inv N t a)(hl:N+8*T.length<1000000)(ht:∀x,qh t T x<=126):Inv (N+8*T.length) (qh t T) b:=by
 induction s with
 |nil=>rw[tC];exact h
 |snoc p s ih=>
  rw[Av]at ht⊢;rw[aA]at hl⊢;have h1:=ih eE λx=>Nat.le_trans (Nat.le_add_right _ _) (ht x);have h2:=h1.step s eE λx=>Nat.le_trans (Nat.le_add_right _ _) (ht x);have e:∀x y:Nat,N+8*(x+y)=N+8*x+8*y:=λx y=>eE;rw[e];exact h2
theorem uv.mono {M:Nat} (h:uv B N a)(hm:N<=M):uv B M a:=⟨h.r,h.f,Nat.le_trans h.b hm,h.one,h.ms⟩
theorem Inv.mono {N M:Nat} {t u:Nat×Nat->Nat} {a:AN} (h:Inv N t a)(hN:N<=M)(Wo:∀x,t x<=u x):Inv M u a:=by
 obtain⟨B,hO⟩:=h.own;obtain⟨X,hX⟩:=h.lk;exact⟨h.Tr,h.nrm,⟨B,hO.mono hN⟩,⟨X,hX.mono Wo⟩,h.fl⟩
theorem Inv.act {y:jc} {D k:Nat} (hF:j1 y)(hG:GN y)(jb:j6 y D 0)(hD:D<=800000000)(h:Inv N (λ_=>k) (jl y))(hl:N+144<1000000)(hk:k+1<=126)(v:AV):Inv (N+144) (λ_=>k+1) (jl (rF y v)):=by
 obtain⟨T,hT,hp⟩:=yr hF hG jb hD v;have hlen:=hT.len;exact(h.path hp eE λx=>Nat.le_trans (tD hT.nd k x) hk).mono eE (tD hT.nd k)
structure St(D N k:Nat)(y:jc):Prop where
 ok:j6 y D 0
 g:GN y
 f:j1 y
 i:Inv N (λ_=>k) (jl y)
theorem St.act {D N k:Nat} {y:jc} (h:St D N k y)(hD:D<=800000000)(hN:N+144<1000000)(hk:k+1<=126)(v:AV):St (D+1300000) (N+144) (k+1) (rF y v):=
 ⟨h.ok.act hD v,(h.g.act h.ok hD v).1,h.f.act h.g h.ok hD v,Inv.act h.f h.g h.ok hD h.i hN hk v⟩
theorem St.round {D N k:Nat} {y:jc} (h:St D N k y)(hD:D<=800000000)(hN:N+144<1000000)(hk:k+1<=126):St (D+1300000) (N+144) (k+1) y.round:=by
 have n6:=h.ok.n6;obtain⟨a,b,_⟩:=Bo y.n;refine⟨h.ok.round hD,h.g.round h.ok hD,h.f.round h.ok hD,?_⟩;exact(h.i.path (rG h.f h.ok hD) (by rw[b];omega) λx=>Nat.le_trans (tD a k x) hk).mono (by rw[b];omega) (tD a k)
def tG(y:jc):Nat->jc
 |0=>y
 |k+1=>(tG y k).round
end Rt
end Go.Proofs.YtieklnlbljejdaaGreatDoor
