import Derived.Test.YtieklnlbljejdaaGreatDoorW13
open Option renaming none → ν, some → μ
open List renaming length_cons → eT, filterMap → iC
set_option maxRecDepth 100000
namespace Go.Proofs.YtieklnlbljejdaaGreatDoor
open Go.RowKit St
namespace Rt
variable {B D N W Z c d i k p:Nat} {F G l:List lv} {K:Int->Option PS} {L M:LS} {S:List (Int×List UInt8)} {T:List (Nat×Nat)} {X:Marks} {a b:AN} {es:List jH} {g id own seq:Int} {q:PS} {r:iO} {t:Nat×Nat->Nat} {x:lv} {y:iP}
def yk(K:Int->Option PS)(y seq:Int)(es:List jH):Prop:=∃q,K y=μ q/\0<=l5 q.1 q.2 seq es
theorem oc(s:Int)(e:List jH):l5 s e s e=0:=AK.2 ⟨rfl,rfl⟩
theorem uL {y:Int} (h:K y=μ q):yk K y q.1 q.2:=⟨q,h,by rw[oc];exact Int.le_refl _⟩
def pD(K K':Int->Option PS):Prop:=∀y q,K y=μ q->yk K' y q.1 q.2
theorem pD.refl(K:Int->Option PS):pD K K:=λ_ _ h=>uL h
theorem yk.mono {K':Int->Option PS} (h:pD K K') {y:Int} (g:yk K y seq es):yk K' y seq es:=by
 obtain⟨q,Y,V⟩:=g;obtain⟨u,U,Q⟩:=h y q Y;exact⟨u,U,(yu Q V).1⟩
theorem yk.trans {y s1 s2:Int} {e1 e2:List jH} (g:yk K y s1 e1)(h:0<=l5 s1 e1 s2 e2):yk K y s2 e2:=by
 obtain⟨q,Y,V⟩:=g;exact⟨q,Y,(yu V h).1⟩
theorem pD.trans {L M:Int->Option PS} (h:pD K L)(g:pD L M):pD K M:=λy q Y=>(h y q Y).mono g
def ahs(x:Option lv)(y:Int)(q:PS):Prop:=∃s,(x=μ (83::s) \/x=μ (65::s))/\(iu s).2.2.2=0/\(iu s).1=y/\0<=l5 (iu s).2.1 (iu s).2.2.1 q.1 q.2
def Hi(x:Option lv)(w:Int):Prop:=∃s,x=μ (72::s)/\(kI s).2.2=0/\(kI s).1=w
structure vP(r r':iO)(p:Nat)(x:Option lv):Prop where
 k:pD r.K r'.K
 o:∀j,(r'.P j).pe.both=true->∀y q,r'.K y=μ q->r'.O j y=ν->((r.P j).pe.both=true/\r.K y=μ q/\r.O j y=ν) \/(j=p/\ahs x y q)
 w:∀j,(r'.P j).pe.who≠0->(r'.P j).pe.who=(r.P j).pe.who \/(j=p/\Hi x (r'.P j).pe.who)
theorem vP.refl(r:iO)(p:Nat)(x:Option lv):vP r r p x:=⟨pD.refl _,λ_ h _ _ Y V=>.inl ⟨h,Y,V⟩,λ_ _=>.inl rfl⟩
theorem vP.alike {s:iO} (p:Nat)(x:Option lv)(Y:s.K=r.K)(J:s.O=r.O)(V:∀j,(s.P j).pe=(r.P j).pe):vP r s p x:=
 ⟨by rw[Y];exact pD.refl _,λj h y q U Q=>.inl ⟨by rw[<-V];exact h,by rw[<-Y];exact U,by rw[<-J];exact Q⟩,λj _=>.inl (by rw[V])⟩
theorem vP.trans {a b c:iO} {p:Nat} {x:Option lv} (h:vP a b p x)(g:vP b c p x):vP a c p x:=by
 refine⟨h.k.trans g.k,λj hb y q V U=> ?_,λj Y=> ?_⟩
 ·rcases g.o j hb y q V U with⟨Q,J,H⟩|z
  ·exact h.o j Q y q J H
  ·exact .inr z
 ·rcases g.w j Y with z|z
  ·rcases h.w j (by rw[<-z];exact Y)with u|u
   ·exact .inl (z.trans u)
   ·exact .inr (by rw[z];exact u)
  ·exact .inr z
theorem FI(H:lD r) {q:Int} (U:Bc r.K r.id<=q)(p:Nat)(x:Option lv):vP r (r.behind q) p x:=by
 unfold iO.behind;split
 ·obtain⟨u,hu,_⟩:=H.own;have Y:∀y,(r.EA (q+1) (jz r)).K y=if y=r.id then μ (q+1,jz r)else r.K y:=λy=>rfl
  refine⟨λy v hv=> ?_,λj hb y v Q J=> ?_,λj _=>.inl rfl⟩
  ·by_cases e:y=r.id
   ·refine⟨(q+1,jz r),by rw[Y,ai e],?_⟩;have hsq:v.1<=q:=by
     rw[e]at hv;unfold Bc at U;rw[hv]at U;exact U
    unfold l5;have:mb (q+1) v.1=1:=by unfold mb;rw[af eh,ai eh]
    rw[ai (by rw[this];decide),this];decide
   ·exact⟨v,by rw[Y,af e];exact hv,by rw[oc];exact Int.le_refl _⟩
  ·have V:(if y=r.id then μ (q+1,jz r)else r.O j y)=ν:=J;by_cases e:y=r.id
   ·rw[ai e]at V;exact absurd V gZ
   ·rw[af e]at V;rw[Y,af e]at Q;exact .inl ⟨hb,Q,V⟩
 ·exact vP.refl r p x
theorem OE(Y:lD r)(p:Nat)(x:Option lv):vP r r.change p x:=by
 unfold iO.change;split
 ·exact vP.refl r p x
 ·exact FI Y (Int.le_refl _) p x
theorem xj(iQ:lD r) {q:lr} (hq:ot r.id q)(x:Option lv)(hw:q.who≠0->q.who=(r.P i).pe.who \/Hi x q.who):vP r (r.meet i q) i x:=by
 have H:=λj=>(j9 r i q j).2.2.2;have hW:∀j,((r.meet i q).P j).pe.who≠0->((r.meet i q).P j).pe.who=(r.P j).pe.who \/(j=i/\Hi x ((r.meet i q).P j).pe.who):=λj h=>by
  rw[H]at h⊢;by_cases e:j=i
  ·subst e;rw[ai rfl]at h⊢;rcases hw h with z|z
   ·exact .inl z
   ·exact .inr ⟨rfl,z⟩
  ·rw[af e];exact .inl rfl
 by_cases ku:q.who=(r.P i).pe.who/\q.both=(r.P i).pe.both
 ·have e:r.meet i q=r.iU i {r.P i with pe:=q}:=by unfold iO.meet;simp only;rw[ai ku]
  refine⟨by rw[e];exact pD.refl _,λj hb y v U V=> ?_,hW⟩;rw[H]at hb;rw[e]at U V;refine .inl ⟨?_,U,V⟩;by_cases Y:j=i
  ·rw[ai Y]at hb;rw[Y,<-ku.2];exact hb
  ·rw[af Y]at hb;exact hb
 ·obtain⟨z,J⟩:∃z:iO,({r.iU i {r.P i with pe:=q}with O:=λx=>if x=i then λ_=>ν else(r.iU i {r.P i with pe:=q}).O x}:iO)=z:=⟨_,rfl⟩
  have okz:lD z:=by rw[<-J];exact(iQ.iU i {r.P i with pe:=q} rfl λ_=>hq).yL _
  have ev:=OE okz i x;have zK:z.K=r.K:=by rw[<-J];rfl
  have e:r.meet i q=if q.both=true then {z.change with O:=λx=>if x=i then qC (z.change.O i) z.change.K else z.change.O x}else z.change:=by
   unfold iO.meet;simp only;rw[af ku,J]
  have eK:(r.meet i q).K=z.change.K:=by rw[e];split<;>rfl
  have A:∀j,j≠i->z.O j=r.O j:=λj E=>by
   rw[<-J];show(if j=i then λ_=>ν else r.O j)=_;rw[af E]
  have hzP:∀j,j≠i->(z.P j).pe=(r.P j).pe:=λj E=>by
   rw[<-J];show((r.iU i {r.P i with pe:=q}).P j).pe=_;rw[kK,af E]
  refine⟨by rw[eK,<-zK];exact ev.k,λj hb y v U V=> ?_,hW⟩;rw[eK]at U;by_cases Y:j=i
  ·subst Y;rw[H,ai rfl]at hb;rw[e,ai hb]at V;have Q:(if j=j then qC (z.change.O j) z.change.K else z.change.O j) y=ν:=V;rw[ai rfl]at Q;unfold qC at Q;rw[ai (by rw[U];rfl),U]at Q;exact absurd Q gZ
  ·have Q:z.change.O j y=ν:=by
    rw[e]at V;split at V
    ·have h3:(if j=i then qC (z.change.O i) z.change.K else z.change.O j) y=ν:=V;rw[af Y]at h3;exact h3
    ·exact V
   rw[H,af Y]at hb;have hzb:(z.change.P j).pe.both=true:=by rw[(wN z).2.2.2,hzP j Y];exact hb
   rcases ev.o j hzb y v U Q with⟨u1,u2,u3⟩|u
   ·exact .inl ⟨hb,by rw[<-zK];exact u2,by rw[<-A j Y];exact u3⟩
   ·exact absurd u.1 Y
theorem od(h:K own=μ q):newF K own seq es=l5 seq es q.1 q.2:=by unfold newF;rw[h]
theorem xO(iQ:lD r)(i:Nat)(s:List UInt8):vP r (jm r i s) i (μ (83::s))/\∀y∈jo ((jm r i s).P i),jo ((jm r i s).P i)=[65::ru (iu s).1 (iu s).2.1 (iu s).2.2.1]->(iu s).2.2.2=0->0<=newF r.K (iu s).1 (iu s).2.1 (iu s).2.2.1->¬((iu s).1=r.id/\0<newF r.K (iu s).1 (iu s).2.1 (iu s).2.2.1)->(r.P i).pe.both=true->yk (jm r i s).K (iu s).1 (iu s).2.1 (iu s).2.2.1:=by
 unfold jm;simp only;split
 ·rename_i h
  refine⟨vP.refl _ _ _,λy _ _ hz _ _ hb=> ?_⟩;rcases h with h|h
  ·exact absurd hz h
  ·rw[hb]at h;exact absurd h gZ
 ·rename_i h
  have hz:(iu s).2.2.2=0:=eh;split
  ·rename_i A
   refine⟨FI iQ ?_ _ _,λy _ _ _ _ lh _=>absurd A lh⟩;obtain⟨u,hu,_⟩:=iQ.own;have J:=A.2;rw[A.1,od hu]at J;unfold Bc;rw[hu];show u.1<=_;unfold l5 at J;by_cases hc:mb (iu s).2.1 u.1=0
   ·rw[nG.1 hc];exact Int.le_refl _
   ·rw[ai hc]at J;have:=uk.1 J;omega
  ·rename_i A
   have H:∀q:PS,0<=l5 (iu s).2.1 (iu s).2.2.1 q.1 q.2->ahs (μ (83::s)) (iu s).1 q:=λq Q=>⟨s,.inl rfl,hz,rfl,Q⟩
   generalize (iu s).1=own,(iu s).2.1=seq,(iu s).2.2.1=es at*;have hm:vP r {r with K:=lF r.K own seq es,O:=oX r.K r.O i own seq es} i (μ (83::s)):=by
    refine⟨λy q Q=> ?_,λj hb y q h1 J=> ?_,λj _=>.inl rfl⟩
    ·show yk (lF r.K own seq es) y q.1 q.2;unfold lF;by_cases g:0<newF r.K own seq es
     ·rw[ai g];by_cases e:y=own
      ·subst e;rw[od Q]at g;exact⟨(seq,es),by show(if y=y then _ else _)=_;rw[ai rfl],by show 0<=l5 seq es q.1 q.2;omega⟩
      ·exact⟨q,by show(if y=own then _ else _)=_;rw[af e];exact Q,by rw[oc];exact Int.le_refl _⟩
     ·rw[af g];exact uL Q
    ·have V:lF r.K own seq es y=μ q:=h1;have Y:oX r.K r.O i own seq es j y=ν:=J;unfold lF at V;unfold oX at Y;by_cases g:0<newF r.K own seq es
     ·rw[ai g]at V Y;have V:(if y=own then μ (seq,es)else r.K y)=μ q:=V;by_cases e:y=own
      ·subst e;rw[ai rfl]at V;injection V with V
       by_cases U:j=i
       ·refine .inr ⟨U,H q ?_⟩;rw[<-V];show 0<=l5 seq es seq es;rw[oc];exact Int.le_refl _
       ·rw[af U]at Y;have Y:(if y=y then μ (seq,es)else r.O j y)=ν:=Y;rw[ai rfl]at Y;exact absurd Y gZ
      ·rw[af e]at V;refine .inl ⟨hb,V,?_⟩;by_cases U:j=i
       ·rw[ai U]at Y;have Y:(if y=own then ν else if y=own then μ (seq,es)else r.O i y)=ν:=Y;rw[af e,af e]at Y;rw[U];exact Y
       ·rw[af U]at Y;have Y:(if y=own then μ (seq,es)else r.O j y)=ν:=Y;rw[af e]at Y;exact Y
     ·rw[af g]at V Y;by_cases g2:newF r.K own seq es<0
      ·rw[ai g2]at Y;by_cases U:j=i
       ·rw[ai U]at Y;cases hk:r.K own with
        |none=>rw[hk]at Y;exact .inl ⟨hb,V,by rw[U];exact Y⟩
        |some u=>
         rw[hk]at Y;have Y:(if y=own then μ u else r.O i y)=ν:=Y;by_cases e:y=own
         ·rw[ai e]at Y;exact absurd Y gZ
         ·rw[af e]at Y;exact .inl ⟨hb,V,by rw[U];exact Y⟩
       ·rw[af U]at Y;exact .inl ⟨hb,V,Y⟩
      ·rw[af g2]at Y;by_cases U:j=i
       ·rw[ai U]at Y;have Y:(if y=own then ν else r.O i y)=ν:=Y;by_cases e:y=own
        ·subst e;rw[od V]at g2;exact .inr ⟨U,H q eh⟩
        ·rw[af e]at Y;exact .inl ⟨hb,V,by rw[U];exact Y⟩
       ·rw[af U]at Y;exact .inl ⟨hb,V,Y⟩
   have hk:0<=newF r.K own seq es->yk (lF r.K own seq es) own seq es:=λE=>by
    unfold lF;by_cases g:0<newF r.K own seq es
    ·rw[ai g];exact⟨(seq,es),by show(if own=own then _ else _)=_;rw[ai rfl],by show 0<=l5 seq es seq es;rw[oc];exact Int.le_refl _⟩
    ·rw[af g];cases Q:r.K own with
     |none=>unfold newF at g;rw[Q]at g;exact absurd (by decide:(0:Int)<1) g
     |some q=>
      rw[od Q]at g E;refine⟨q,Q,?_⟩;rw[um];omega
   split
   ·refine⟨hm.trans (vP.alike _ _ rfl rfl λj=> ?_),λy _ _ _ E _ _=>hk E⟩;rw[kK];split
    ·rename_i e;rw[e,(sv _ _ _).2]
    ·rfl
   ·rename_i amq
    exact⟨hm,λy _ _ _ E _ _=>absurd E amq⟩
theorem S0(r:iO)(i:Nat)(s:List UInt8):vP r (kF r i s) i (μ (65::s)):=by
 unfold kF;simp only;split
 ·rename_i E
  refine⟨pD.refl _,λj hb y q J H=> ?_,λj _=>.inl rfl⟩;have Y:(if j=i/\0<=newF r.K (iu s).1 (iu s).2.1 (iu s).2.2.1 then yI (r.O i) (iu s).1 else r.O j) y=ν:=H;have U:r.K y=μ q:=J;by_cases e:j=i/\0<=newF r.K (iu s).1 (iu s).2.1 (iu s).2.2.1
  ·rw[ai e]at Y;have Q:(if y=(iu s).1 then ν else r.O i y)=ν:=Y;by_cases V:y=(iu s).1
   ·refine .inr ⟨e.1,s,.inr rfl,E,V.symm,?_⟩;have:=e.2;rw[<-V,od U]at this;exact this
   ·rw[af V]at Q;exact .inl ⟨hb,U,by rw[e.1];exact Q⟩
  ·rw[af e]at Y;exact .inl ⟨hb,U,Y⟩
 ·exact vP.refl _ _ _
def ym(r:iO)(x:lv):Prop:=(∀s,(x=83::s \/x=65::s)->(iu s).2.2.2=0->yk r.K (iu s).1 (iu s).2.1 (iu s).2.2.1)/\∀s,x=72::s->(kI s).2.2=0->(kI s).1=r.id
theorem rJ(r:iO) {c:UInt8} (s:List UInt8)(Y:c≠83)(V:c≠65)(U:c≠72):ym r (c::s):=
 ⟨λ_ e=>e.elim (λe=>absurd (aC e).1 Y) λe=>absurd (aC e).1 V,λ_ e=>absurd (aC e).1 U⟩
theorem S1(J:Kh r)(H:lD r)(i:Nat)(x:lv):vP r (jP r i x) i (μ x)/\∀p,∀y∈jo ((jP r i x).P p),ym (jP r i x) y:=by
 obtain⟨m1,_⟩:=qu J i x;have wB:vP r (jP r i x) i (μ x):=by
  cases x with
  |nil=>exact vP.refl _ _ _
  |cons c s=>
   show vP r (r.take i c s) i _;obtain⟨_,_,k3,k4,k5,_,_,_⟩:=Af J i c s;have Y:vP r (j4 r i c s) i (μ (c::s)):=vP.alike _ _ k4 k5 λj=>(k3 j).1;have V:=H.link i c s;rw[lP];obtain⟨r1,lg⟩:=gq (j4 r i c s);rw[lg]at Y V⊢;split
   ·exact Y.trans (xj V (ot.nobody V.id.1) _ λh=>absurd rfl h)
   ·unfold mF;split
    ·rename_i hc
     split
     ·rename_i U
      refine Y.trans (xj V (ot.YQ (s:=(kI s).2.1) V.id.1 (EW U)) _ λQ=>.inr ⟨s,by rw[hc],U,?_⟩);unfold ji at Q⊢;split at Q
      ·exact absurd rfl Q
      ·rename_i g;rw[af g]
     ·exact Y
    ·split
     ·rename_i hc;rw[hc]at Y⊢;exact Y.trans (xO V i s).1
     ·split
      ·rename_i hc;rw[hc]at Y⊢;exact Y.trans (S0 r1 i s)
      ·split
       ·unfold rC;split
        ·obtain⟨a,b,_,_,e⟩:=nu r1 (((s.getD 0 0).toNat:Int),((s.getD 1 0).toNat:Int),s.drop 2);exact Y.trans (vP.alike _ _ a b λj=>(e j).2.1)
        ·exact Y
       ·exact Y
 refine⟨wB,λp y hy=> ?_⟩;cases m1 p with
 |none h=>rw[h]at hy;simp at hy
 |link s _ _ _ h=>
  rw[h]at hy;obtain⟨u,rfl⟩:=rT hy;exact rJ _ u eA eA eA
 |JM a b s _ _ _ _ h=>
  rw[h]at hy;rw[ar.1 hy];exact rJ _ _ eA eA eA
 |heard s hx hp A U hb lh E h=>
  rw[h]at hy;rw[ar.1 hy];have hv:oD (iu s).1 (iu s).2.1 (iu s).2.2.1=0:=pV (by rw[<-U]);refine⟨λu e _=> ?_,λu e=>absurd (aC e).1 eA⟩;have hu:u=ru (iu s).1 (iu s).2.1 (iu s).2.2.1:=by
   rcases e with e|e
   ·exact absurd (aC e).1 eA
   ·exact(aC e).2.symm
  rw[hu,nQ _ _ _ hv];have ht:jP r i x=jm r i s:=by
   rw[hx];show r.take i 83 s=_;rw[lP,uJ i s eA,af (by rw[A];simp)];unfold mF;rw[af eA,ai rfl]
  rw[ht]at h⊢;rw[hp]at h;exact(xO H i s).2 _ (by rw[h];exact ar.2 rfl) h U E lh hb
theorem S6(hE:Kh r)(h:Own r)(H:lD r)(hs:mA B r)(hB:B<1000000)(hi:i<3)(hn:r.n=3):vP r (r.iY i) i ν/\∀p,∀y∈jo ((r.iY i).P p),ym (r.iY i) y:=by
 have ha:=lZ r i;have E:vP r (jd r i) i ν:=vP.alike _ _ rfl rfl λj=>(ha j).2;have V:=H.jd i;have Cj:(iK ((jd r i).P i).pe).who≠0->(iK ((jd r i).P i).pe).who=((jd r i).P i).pe.who:=λY=>by
  unfold iK at Y⊢;split at Y
  ·exact absurd rfl Y
  ·rename_i g;rw[af g]
 have wB:vP r (r.iY i) i ν:=by
  rw[ld];split
  ·exact E.trans (xj V (ot.nobody V.id.1) _ λh=>absurd rfl h)
  ·have hp:=ot.tick V.id.1 (V.pe i (by show i<r.n;omega));obtain⟨t1,t2,_,_,t5⟩:=pN ((jd r i).meet i (iK ((jd r i).P i).pe)) i;exact(E.trans (xj V hp _ λY=>.inl (Cj Y))).trans (vP.alike _ _ t1 t2 λj=>(t5 j).2.1)
 refine⟨wB,λp y hy=> ?_⟩;obtain⟨C,c1,c2,_⟩:=BH h H hs hB hi hn;obtain⟨e1,e2⟩:=xK hE i;by_cases A:p=i
 ·subst A;rw[e2]at hy;rcases av.1 hy with g|g
  ·obtain⟨u,rfl⟩:=rT g;exact rJ _ u eA eA eA
  ·split at g
   ·rename_i h9
    rcases aO.1 g with g|g
    ·rw[g];refine⟨λu e=> ?_,λu e Q=> ?_⟩
     ·rcases e with e|e<;>exact absurd (aC e).1 eA
     ·rw[<-(aC e).2]at Q⊢;have pZ:=H.id;have J:(r.iY p).id=r.id:=(jK.iY r p).id;rw[J];unfold kI at Q⊢;split at Q
      ·rename_i hh
       rw[ai hh];show((j1 r.id).toNat:Int)=_;exact nI _ eh eh
      ·exact absurd Q gZ
    ·split at g
     ·obtain⟨q,hq,U⟩:=aT.1 g;unfold DH at U;split at U
      ·rw[ar.1 U];have hO:(r.iY p).O p q.1=μ q.2:=by
        have kj:((jd r p).P p).L.st=9:=by
         unfold jd;rw[kK,ai rfl,sX];exact h9
        rw[ld,af (by rw[kj];simp),(ha p).2];exact xL hq
       have hK:=c1.tie p q.1 q.2 hO;refine⟨λu e _=> ?_,λu e=>absurd (aC e).1 eA⟩;have hu:u=ru q.1 q.2.1 q.2.2:=by
        rcases e with e|e
        ·exact(aC e).2.symm
        ·exact absurd (aC e).1 eA
       rw[hu,nQ _ _ _ (c1.val _ _ hK)];exact uL hK
      ·simp at U
     ·simp at g
   ·simp at g
 ·rw[e1 p A]at hy;simp at hy
theorem WM(Y:lD r)(i:Nat)(up:Bool):vP r (r.iL i up).1 i ν/\(((r.P i).iL up).2=0->((r.iL i up).1.P i).pe=nobody):=by
 unfold iO.iL;simp only;split
 ·rename_i h;exact⟨vP.refl _ _ _,λU=>absurd U h⟩
 ·have e:((r.P i).iL up).1.m=(r.P i).m/\((r.P i).iL up).1.pe=(r.P i).pe:=by
   unfold jy.iL;generalize k8 (r.P i).L (if up=true then 0 else 1)=E;simp only;split
   ·exact⟨rfl,rfl⟩
   ·rw[(vF _ _).1,(vF _ _).2];exact⟨rfl,rfl⟩
  have k1:lD (r.iU i ((r.P i).iL up).1):=Y.iU i _ e.1 λhi=>by rw[e.2];exact Y.pe i hi
  have V:vP r (r.iU i ((r.P i).iL up).1) i ν:=vP.alike _ _ rfl rfl λj=>by
   rw[kK];split
   ·rename_i g;rw[g];exact e.2
   ·rfl
  refine⟨V.trans (xj k1 (ot.nobody k1.id.1) _ λh=>absurd rfl h),λ_=> ?_⟩;rw[(j9 _ _ _ _).2.2.2,ai rfl]
def mR(a:AN)(c d:Nat):lr:=((a.R (a.e c d).1).P (a.e c d).2).pe
def CF(x:lv):Prop:=x.length<=23/\∀k b s,x=77::k::b::s->b.toNat<=7
theorem tR {c:UInt8} {s:List UInt8} (h:s.length<=22)(hc:c≠77):CF (c::s):=⟨by simp only[eT];omega,λ_ _ _ e=>absurd (aC e).1 hc⟩
structure DJ(a:AN):Prop where
 gate:∀c d,c<a.nc->d<2->(mR a c d).who≠0->(j3 a c d).st=9
 far:∀c d,c<a.nc->d<2->(mR a c d).who≠0->(mR a c d).who=((a.e c (1-d)).1:Int)+1
 kn:∀c d,c<a.nc->d<2->∀x∈a.F c d,ym (a.R (a.e c d).1) x/\CF x
 o:∀c d,c<a.nc->d<2->(mR a c d).both=true->∀y q,(a.R (a.e c d).1).K y=μ q->(a.R (a.e c d).1).O (a.e c d).2 y=ν->yk (a.R (a.e c (1-d)).1).K y q.1 q.2
theorem ym.mono {r s:iO} (h:pD r.K s.K)(V:s.id=r.id) {x:lv} (g:ym r x):ym s x:=⟨λu e Y=>(g.1 u e Y).mono h,λu e Y=>by rw[V];exact g.2 u e Y⟩
theorem JX(a:AN)(i:Nat)(s:iO)(j:Nat):(a.op i s).R j=if j=i then s.core else a.R j:=rfl
theorem Ap(a:AN)(i:Nat)(s:iO)(c d:Nat):mR (a.op i s) c d=if(a.e c d).1=i then(s.P (a.e c d).2).pe else mR a c d:=by
 unfold mR;rw[SH,JX];by_cases e:(a.e c d).1=i
 ·rw[ai e,ai e];rfl
 ·rw[af e,af e]
theorem DJ.op {a:AN} (hB:tP a)(h:DJ a) {i:Nat} {s:iO} (pZ:s.id=(a.R i).id)(OD:∀j,j<a.n->(a.R j).id=(j:Int)+1) {p:Nat} {x:Option lv} (ev:vP (a.R i) s p x)(XW:∀q,∀y∈jo (s.P q),ym s y/\CF y)
 (hx:∀y,x=μ y->∃c d,c<a.nc/\d<2/\a.e c (1-d)=(i,p)/\ym (a.R (a.e c d).1) y)
 (hg:∀c d,c<a.nc->d<2->(a.e c d).1=i->(s.P (a.e c d).2).pe.who≠0->(s.P (a.e c d).2).L.st=9):DJ (a.op i s):=by
 have hm:∀j,pD (a.R j).K ((a.op i s).R j).K:=λj=>by
  rw[JX];by_cases e:j=i
  ·rw[ai e,e];exact ev.k
  ·rw[af e];exact pD.refl _
 have H:∀j,((a.op i s).R j).id=(a.R j).id:=λj=>by
  rw[JX];by_cases e:j=i
  ·rw[ai e,e];exact pZ
  ·rw[af e]
 have U:∀c d,c<a.nc->d<2->a.e c d=(i,p)->∀y,x=μ y->ym (a.R (a.e c (1-d)).1) y:=λc d hc hd he y hy=>by
  obtain⟨c',d',j0,kh,Cb,u⟩:=hx y hy;have:=hB.ds c' (1-d') c d j0 eh hc hd (Cb.trans he.symm);have G7:d'=1-d:=eh;rw[this.1,G7]at u;exact u
 refine⟨λc d hc hd Y=> ?_,λc d hc hd Y=> ?_,λc d hc hd y hy=> ?_,λc d hc hd hb y q E A=> ?_⟩
 ·rw[Ap]at Y;rw[IB];by_cases e:(a.e c d).1=i
  ·rw[ai e]at Y⊢;exact hg c d hc hd e Y
  ·rw[af e]at Y⊢;exact h.gate c d hc hd Y
 ·rw[Ap]at Y⊢;rw[SH];by_cases e:(a.e c d).1=i
  ·rw[ai e]at Y⊢;rcases ev.w _ Y with z|⟨Q,s',V,J,z4⟩
   ·rw[z]at Y⊢;have:=h.far c d hc hd;unfold mR at this;rw[e]at this;exact this Y
   ·have:=(U c d hc hd (aV e Q) _ V).2 s' rfl J;rw[<-z4,this];exact OD _ (hB.en c (1-d) hc eh).1
  ·rw[af e]at Y⊢;exact h.far c d hc hd Y
 ·rw[SH];rw[vN]at hy;by_cases e:(a.e c d).1=i
  ·rw[ai ⟨⟨hc,hd⟩,e⟩]at hy;rcases av.1 hy with g|g
   ·exact⟨(h.kn c d hc hd y g).1.mono (hm _) (H _),(h.kn c d hc hd y g).2⟩
   ·rw[JX,ai e];exact XW _ y g
  ·rw[af (λz=>e z.2)]at hy;exact⟨(h.kn c d hc hd y hy).1.mono (hm _) (H _),(h.kn c d hc hd y hy).2⟩
 ·rw[SH];rw[SH]at E A;rw[Ap]at hb;by_cases e:(a.e c d).1=i
  ·rw[ai e]at hb;rw[JX,ai e]at E A;rcases ev.o _ hb y q E A with⟨Q,V,J⟩|⟨Q,s',V,J,z4,z5⟩
   ·have:=h.o c d hc hd;unfold mR at this;rw[e]at this;exact(this Q y q V J).mono (hm _)
   ·have u:yk (a.R (a.e c (1-d)).1).K (iu s').1 (iu s').2.1 (iu s').2.2.1:=by
     rcases V with V|V
     ·exact(U c d hc hd (aV e Q) _ V).1 s' (.inl rfl) J
     ·exact(U c d hc hd (aV e Q) _ V).1 s' (.inr rfl) J
    rw[z4]at u;exact(u.trans z5).mono (hm _)
  ·rw[af e]at hb;rw[JX,af e]at E A;exact(h.o c d hc hd hb y q E A).mono (hm _)
theorem DJ.lost(h:DJ a)(hl:wY a b):DJ b:=by
 have hs:∀c d,(b.F c d).Sublist (a.F c d):=λc d=>by
  obtain⟨m,H⟩:=hl.2 c d;rw[H];exact List.take_sublist _ _
 have V:b.nc=a.nc:=by rw[hl.1]
 have Y:b.e=a.e:=by rw[hl.1]
 have U:b.R=a.R:=by rw[hl.1]
 have Q:∀c d,mR b c d=mR a c d:=λc d=>by unfold mR;rw[Y,U]
 have J:∀c d,j3 b c d=j3 a c d:=λc d=>by unfold j3;rw[Y,U]
 refine⟨λc d=> ?_,λc d=> ?_,λc d hc hd x hx=> ?_,λc d=> ?_⟩
 ·rw[V,Q,J];exact h.gate c d
 ·rw[V,Q,Y];exact h.far c d
 ·rw[Y,U];exact h.kn c d (by rw[<-V];exact hc) hd x ((hs c d).mem hx)
 ·rw[V,Q,Y,U];exact h.o c d
theorem DJ.less(h:DJ a)(V:b.nc=a.nc)(Y:b.e=a.e)(U:b.R=a.R)(hs:∀c d,∀x∈b.F c d,x∈a.F c d):DJ b:=by
 have Q:∀c d,mR b c d=mR a c d:=λc d=>by unfold mR;rw[Y,U]
 have J:∀c d,j3 b c d=j3 a c d:=λc d=>by unfold j3;rw[Y,U]
 refine⟨λc d=> ?_,λc d=> ?_,λc d hc hd x hx=> ?_,λc d=> ?_⟩
 ·rw[V,Q,J];exact h.gate c d
 ·rw[V,Q,Y];exact h.far c d
 ·rw[Y,U];exact h.kn c d (by rw[<-V];exact hc) hd x (hs c d x hx)
 ·rw[V,Q,Y,U];exact h.o c d
theorem S7 {code:Int} {os:List jH} (h:jU code id os=0):os.length<=8:=by
 unfold jU at h;split at h
 ·simp at h
 ·split at h
  ·simp at h
  ·omega
theorem DK(h:oD own seq es=0):(ru own seq es).length<=16:=by
 have:=(jw h).2.2.1;unfold ru;simp only[eT,yr];omega
theorem ZJ(q:kP):∀x∈ox q,CF x:=λx hx=>by
 unfold ox at hx;split at hx
 ·rename_i g
  rw[ar.1 hx];have:=S7 g.1;refine tR ?_ eA;unfold mL;simp only[eT,r9];omega
 ·simp at hx
theorem FJ {l:List kP} (h:x∈l.flatMap ox):CF x:=by
 obtain⟨q,_,hx⟩:=aT.1 h;exact ZJ q x hx
theorem ZK(h:Fy r i x p l)(hx:CF x):∀y∈l,CF y:=λy hy=>by
 cases h with
 |none h=>rw[h]at hy;simp at hy
 |link s _ _ _ h=>rw[h]at hy;exact FJ hy
 |heard s _ _ _ V _ _ _ h=>
  rw[h]at hy;rw[ar.1 hy];have hv:oD (iu s).1 (iu s).2.1 (iu s).2.2.1=0:=pV (by rw[<-V]);have:=DK hv;exact tR eh eA
 |JM a b s hs h9 h1 hl h=>
  rw[h]at hy;rw[ar.1 hy];refine⟨by simp only[eT];omega,λk c u e=> ?_⟩;have Y:=(aC (aC (aC e).2).2).1;have hb:=hx.2 a b s hs;rw[<-Y];have:=nI ((b.toNat:Int)-1) eh (by have:=b.toNat_lt;omega);omega
theorem ZL(A:Kh r)(Q:Own (r.iY i)):∀p,∀y∈jo ((r.iY i).P p),CF y:=λp y hy=>by
 obtain⟨J,H⟩:=xK A i;by_cases U:p=i
 ·subst U;rw[H]at hy;rcases av.1 hy with g|g
  ·exact FJ g
  ·split at g
   ·rename_i E
    rcases aO.1 g with g|g
    ·rw[g];exact tR gZ eA
    ·split at g
     ·obtain⟨q,u,Y⟩:=aT.1 g;unfold DH at Y;split at Y
      ·rw[ar.1 Y];have j:((jd r p).P p).L.st=9:=by
        unfold jd;rw[kK,ai rfl,sX];exact E
       have V:(r.iY p).O p q.1=μ q.2:=by
        rw[ld,af (by rw[j];simp),(lZ r p p).2];exact xL u
       have:=DK (Q.val _ _ (Q.tie p q.1 q.2 V));exact tR eh eA
      ·simp at Y
     ·simp at g
   ·simp at g
 ·rw[J p U]at hy;simp at hy
theorem DJ.nK {a:AN} (H:tP a)(E:Norm a)(h:DJ a) {B N:Nat} (A:vO B N a) {c d:Nat} (hc:c<a.nc)(hd:d<2)(up:Bool)(U:(k8 (j3 a c d) (if up=true then 0 else 1)).2.2=0):DJ (a.nK c d up):=by
 obtain⟨hi,hp⟩:=H.en c d hc hd;obtain⟨a1,a2,a3,a4,a5⟩:=A.r _ hi;obtain⟨ev,oP⟩:=WM a2 (a.e c d).2 up;obtain⟨e1,e2,J⟩:=JN (E.emp (a.e c d).1) (a.e c d).2 up U;have Q:=Qe (E.emp (a.e c d).1) (a.e c d).2 up;have Y:∀q,(((a.R (a.e c d).1).iL (a.e c d).2 up).1.P q).pe=if q=(a.e c d).2 then nobody else((a.R (a.e c d).1).P q).pe:=λq=>by
  rw[J,(j9 _ _ _ _).2.2.2];by_cases g:q=(a.e c d).2
  ·rw[ai g,ai g]
  ·rw[af g,af g,kK,af g]
 have hL:∀q,q≠(a.e c d).2->(((a.R (a.e c d).1).iL (a.e c d).2 up).1.P q).L=((a.R (a.e c d).1).P q).L:=λq Q=>by
  rw[J,(j9 _ _ _ _).2.1,kK,af Q]
 refine h.op H (JO _ _ _).1 (λj hj=>(A.r j hj).2.2.2.1) ev (λq y hy=> ?_) (λy hy=>absurd hy gZ) λc' d' j0 kh he V=> ?_
 ·obtain⟨u,rfl⟩:=Q q y hy;refine⟨rJ _ u eA eA eA,?_⟩;by_cases g:q=(a.e c d).2
  ·rw[g,e2]at hy;exact FJ hy
  ·rw[e1 q g]at hy;simp at hy
 ·by_cases g:(a.e c' d').2=(a.e c d).2
  ·rw[g,Y,ai rfl]at V;exact absurd rfl V
  ·rw[Y,af g]at V;rw[hL _ g];have:=h.gate c' d' j0 kh;unfold mR j3 at this;rw[he]at this;exact this V
theorem DJ.iL {a:AN} (hB:tP a)(hN:Norm a)(h:DJ a) {B N:Nat} (Q:vO B N a)(hl:N<1000000) {c:Nat} (hc:c<a.nc)(up:Bool)(U:∀d,d<2->(k8 (j3 a c d) (if up=true then 0 else 1)).2.2=0):DJ (a.iL c up):=by
 obtain⟨b,hb⟩:=gq ((({a with iT:=jW a.iT c up}:AN).lH c 0 []).lH c 1 []);have H:tP b:=hB.same (by rw[<-hb];rfl) (by rw[<-hb];rfl) (by rw[<-hb];rfl);have E:Norm b:=by rw[<-hb];exact hN
 have J:c<b.nc:=by rw[<-hb];exact hc
 have A:∀c' d',j3 b c' d'=j3 a c' d':=λc' d'=>by rw[<-hb];rfl
 have xx:DJ b:=h.less (by rw[<-hb];rfl) (by rw[<-hb];rfl) (by rw[<-hb];rfl) λx f y hy=>by
  rw[<-hb]at hy;have Y:y∈(if x=c/\f=1 then []else if x=c/\f=0 then []else a.F x f):=hy;split at Y
  ·simp at Y
  ·split at Y
   ·simp at Y
   ·exact Y
 have V:∃C,vO C N b:=by
  have w1:=DG {a with iT:=jW a.iT c up} sw c 0;have w2:=DG (({a with iT:=jW a.iT c up}:AN).lH c 0 []) sw c 1;have w3:=Q.b;rw[hb]at w2;have e1:({a with iT:=jW a.iT c up}:AN).W sw=a.W sw:=rfl;refine⟨B,by rw[<-hb];exact Q.r,λx f hx hf y hy=> ?_,?_,Q.one,by rw[<-hb];exact Q.ms⟩
  ·rw[<-hb]at hy hx;have Y:y∈(if x=c/\f=1 then []else if x=c/\f=0 then []else a.F x f):=hy;split at Y
   ·simp at Y
   ·split at Y
    ·simp at Y
    ·exact Q.f x f hx hf y Y
  ·have Y:sm (λi=>rh (b.R i)) (List.range b.n)=sm (λi=>rh (a.R i)) (List.range a.n):=by rw[<-hb];rfl
   omega
 obtain⟨C,V⟩:=V;have f0:=xh H E J (by decide:0<2) up (by rw[A];exact U 0 eA);have h1:=xx.nK H E V J (by decide:0<2) up (by rw[A];exact U 0 eA);obtain⟨D,u⟩:=BI H E V hl J (by decide:0<2) up;have j:=(f0 c 1 J eA).1 eh;have h2:=h1.nK (a:=b.nK c 0 up) (H.same rfl rfl rfl) (rb E _ _) u J (by decide:1<2) up (by rw[j.1,A];exact U 1 eA);unfold AN.iL;rw[hb];exact h2
theorem mW.abo(s:mW a T S b)(H:tP a)(E:Norm a)(U:vO B N a)(hl:N<1000000)(hX:rj X t a)(h:DJ a):DJ b:=by
 have OD:∀j,j<a.n->(a.R j).id=(j:Int)+1:=λj hj=>(U.r j hj).2.2.2.1;have hBl:=U.b;have J:∀c d,c<a.nc->d<2->a.iT c=true->Oy ((a.R (a.e c d).1).P (a.e c d).2):=λc d hc hd hi=>by
  have p:=hX.tT hc hd hi;have h6:=p.lu;have h9:=p.l.st;refine⟨?_,h.gate c d hc hd⟩;show uG (j3 a c d).st=true;unfold uG;simp only[Bool.or_eq_true,beq_iff_eq,Bool.and_eq_true,decide_eq_true_eq];omega
 have ub:∀c d,c<a.nc->d<2->pB (a.iT c) ((a.R (a.e c d).1).P (a.e c d).2):=λc d hc hd=>by
  cases hi:a.iT c
  ·exact⟨by rw[af gZ];exact(hX.dn c hc hi d hd).2.1,h.gate c d hc hd⟩
  ·exact pB.up.2 (J c d hc hd hi)
 cases s with
 |lost hl=>exact h.lost hl
 |tick i p hi hp=>
  obtain⟨a1,a2,a3,a4,a5⟩:=U.r i hi;obtain⟨ev,hk⟩:=S6 (E.emp i) a1 a2 a3 eh hp a5;obtain⟨C,c1,_⟩:=BH a1 a2 a3 eh hp a5;have iQ:=ZL (E.emp i) c1;refine h.op H (jK.iY (a.R i) p).id OD ev (λq y hy=>⟨hk q y hy,iQ q y hy⟩) (λy hy=>absurd hy gZ) λc d hc hd A Y=> ?_;have hE:=ub c d hc hd;rw[A]at hE;by_cases e:(a.e c d).2=p
  ·rw[e]at hE Y⊢;exact(Io p hE).1.gate Y
  ·have hLq:(((a.R i).iY p).P (a.e c d).2).L=((a.R i).P (a.e c d).2).L:=by rw[BJ,af e]
   have hPq:(((a.R i).iY p).P (a.e c d).2).pe=((a.R i).P (a.e c d).2).pe:=by
    rw[ld];split
    ·rw[(j9 _ _ _ _).2.2.2,af e];exact(lZ _ _ _).2
    ·rw[((pN _ _).2.2.2.2 _).2.1,(j9 _ _ _ _).2.2.2,af e];exact(lZ _ _ _).2
   rw[hLq];rw[hPq]at Y;exact hE.gate Y
 |pop c d x l hc hd hF=>
  obtain⟨hi,hp⟩:=H.en c (1-d) hc eh;obtain⟨a1,a2,a3,a4,a5⟩:=U.r _ hi;have WN:x∈a.F c d:=by rw[hF];simp
  have kR:=hX.zc hc hd WN;obtain⟨ev,hk⟩:=S1 (E.emp (a.e c (1-d)).1) a2 (a.e c (1-d)).2 x;obtain⟨m1,_⟩:=qu (E.emp (a.e c (1-d)).1) (a.e c (1-d)).2 x;have vY:DJ (a.lH c d l):=h.less rfl rfl rfl λy f z hz=>by
   rw[sY]at hz;split at hz
   ·rename_i e;rw[e.1,e.2,hF];simp[hz]
   ·exact hz
  unfold AN.pop;refine vY.op (a:=a.lH c d l) (H.same rfl rfl rfl) (Mi a2 _ x).2.1 OD ev (λq y hy=>⟨hk q y hy,ZK (m1 q) (h.kn c d hc hd x WN).2 y hy⟩) (λy hy=>⟨c,d,hc,hd,rfl,?_⟩) λc' d' j0 V A Y=> ?_
  ·injection hy with hy;rw[<-hy];exact(h.kn c d hc hd x WN).1
  ·have hG:=Il (r:=a.R (a.e c (1-d)).1) (a.e c (1-d)).2;cases x with
   |nil=>
    have:=h.gate c' d' j0 V;unfold mR j3 at this;rw[show(a.e c' d').1=(a.e c (1-d)).1 from A]at this;exact this Y
   |cons k u=>
    obtain⟨g1,g2⟩:=hG k u (J c (1-d) hc eh kR);by_cases e:(a.e c' d').2=(a.e c (1-d)).2
    ·have e':((a.lH c d l).e c' d').2=(a.e c (1-d)).2:=e;rw[e']at Y⊢;exact g1.2 Y
    ·obtain⟨z1,z2⟩:=g2 _ e;have:=h.gate c' d' j0 V;unfold mR j3 at this;rw[show(a.e c' d').1=(a.e c (1-d)).1 from A]at this;have hw':(((a.R (a.e c (1-d)).1).take (a.e c (1-d)).2 k u).P (a.e c' d').2).pe.who≠0:=Y;rw[z2]at hw';show(((a.R (a.e c (1-d)).1).take (a.e c (1-d)).2 k u).P (a.e c' d').2).L.st=9;rw[z1];exact this hw'
 |send i t tx hi ht1 ht6 hlen=>
  obtain⟨s1,s2,s3,s4,s5⟩:=nu (a.R i) (t,8,tx);obtain⟨j,g1,g2⟩:=DI (E.emp i) (t,8,tx);refine h.op H s3 OD (vP.alike 0 ν s1 s2 λj=>(s5 j).2.1) (λq y hy=> ?_) (λy hy=>absurd hy gZ) λc d hc hd A Y=> ?_
  ·by_cases e:q=j
   ·subst e;rcases g2 with g|⟨_,g⟩
    ·rw[g]at hy;simp at hy
    ·rw[g]at hy;rw[ar.1 hy];refine⟨rJ _ _ eA eA eA,by simp only[eT];omega,λk b u e=> ?_⟩;rw[<-(aC (aC (aC e).2).2).1];show(j1 ((8:Int)-1)).toNat<=7;decide
   ·rw[g1 q e]at hy;simp at hy
  ·rw[(s5 _).2.1]at Y;rw[(s5 _).2.2];have:=h.gate c d hc hd;unfold mR j3 at this;rw[A]at this;exact this Y
 |iL c hc hi _ _=>exact h.iL H E U hl hc true λd hd=>(Eu (hX.dn c hc hi d hd).2.1).1
 |draw c hc hi=>exact h.iL H E U hl hc false λd hd=>(tO (J c d hc hd hi).1).1
 |anew i m hi hd=>
  obtain⟨b,hb⟩:=gq (({a with R:=jW a.R i (jO ((i:Int)+1) 3 (a.ms i)),ib:=jW a.ib i ((a.ib i).take m)}:AN));rw[hb];have e1:b.nc=a.nc:=by rw[<-hb]
  have e3:b.e=a.e:=by rw[<-hb]
  have e4:b.F=a.F:=by rw[<-hb]
  have hR:∀j,b.R j=if j=i then jO ((i:Int)+1) 3 (a.ms i)else a.R j:=λj=>by rw[<-hb];rfl
  have oP:∀c d,mR b c d=if(a.e c d).1=i then nobody else mR a c d:=λc d=>by
   unfold mR;rw[e3,hR];by_cases e:(a.e c d).1=i
   ·rw[ai e,ai e];rfl
   ·rw[af e,af e]
  have pI:∀c d,(a.e c d).1≠i->j3 b c d=j3 a c d:=λc d e=>by unfold j3;rw[e3,hR,af e]
  have lh:∀c d,c<a.nc->d<2->(a.e c (1-d)).1=i->(mR a c d).both=false:=λc d hc V e=>by
   have kR:=(hd c (1-d) hc eh e).1;have kj:=(hX.dn c hc kR d V).2.1;have Y:(mR a c d).who=0:=by
    by_cases g:(mR a c d).who=0
    ·exact g
    ·have:=h.gate c d hc V g;omega
   have hx:=H.en c d hc V;have hp:=(U.r _ hx.1).2.1.pe (a.e c d).2 (by rw[(U.r _ hx.1).2.2.2.2];exact hx.2);cases hb:(mR a c d).both
   ·rfl
   ·have:=hp.both hb;unfold mR at Y;omega
  refine⟨λc d hc V Y=> ?_,λc d hc V Y=> ?_,λc d hc V x hx=> ?_,λc d hc V Q y q h1 h2=> ?_⟩
  ·rw[e1]at hc;rw[oP]at Y;by_cases e:(a.e c d).1=i
   ·rw[ai e]at Y;exact absurd rfl Y
   ·rw[af e]at Y;rw[pI c d e];exact h.gate c d hc V Y
  ·rw[e1]at hc;rw[oP]at Y⊢;rw[e3];by_cases e:(a.e c d).1=i
   ·rw[ai e]at Y;exact absurd rfl Y
   ·rw[af e]at Y⊢;exact h.far c d hc V Y
  ·rw[e1]at hc;rw[e4]at hx;rw[e3];by_cases e:(a.e c d).1=i
   ·obtain⟨_,f0,f1⟩:=hd c d hc V e;have:d=0 \/d=1:=eh;rcases this with rfl|rfl
    ·rw[f0]at hx;simp at hx
    ·rw[f1]at hx;simp at hx
   ·rw[hR,af e];exact h.kn c d hc V x hx
  ·rw[e1]at hc;rw[oP]at Q;rw[e3]at h1 h2⊢;by_cases e:(a.e c d).1=i
   ·rw[ai e]at Q;exact absurd Q (by simp[nobody])
   ·rw[af e]at Q;rw[hR,af e]at h1 h2;by_cases e2:(a.e c (1-d)).1=i
    ·rw[lh c d hc V e2]at Q;exact absurd Q gZ
    ·rw[hR,af e2];exact h.o c d hc V Q y q h1 h2
structure Inv(N:Nat)(t:Nat×Nat->Nat)(a:AN):Prop where
 qU:tP a
 nrm:Norm a
 own:∃B,vO B N a
 lk:∃X,rj X t a
 fl:DJ a
theorem Inv.step(s:mW a T S b)(h:Inv N t a)(hl:N<1000000)(U:∀x,t x<=126):Inv (N+8*T.length) (qA t T) b:=by
 obtain⟨B,Y⟩:=h.own;obtain⟨X,V⟩:=h.lk;exact⟨h.qU.same s.same.1 s.same.2.1 s.same.2.2.1,s.norm h.nrm,s.own h.qU h.nrm Y hl,s.links h.qU h.nrm V U,s.abo h.qU h.nrm Y hl V h.fl⟩
theorem Inv.path(s:jV a T S b)(h:Inv N t a)(hl:N+8*T.length<1000000)(Y:∀x,qA t T x<=126):Inv (N+8*T.length) (qA t T) b:=by
 induction s with
 |nil=>rw[pC];exact h
 |snoc p s ih=>
  rw[CD]at Y⊢;rw[az]at hl⊢;have V:=ih eh λx=>Nat.le_trans (Nat.le_add_right _ _) (Y x);have U:=V.step s eh λx=>Nat.le_trans (Nat.le_add_right _ _) (Y x);have e:∀x y:Nat,N+8*(x+y)=N+8*x+8*y:=λx y=>eh;rw[e];exact U
theorem vO.mono {M:Nat} (h:vO B N a)(Y:N<=M):vO B M a:=⟨h.r,h.f,Nat.le_trans h.b Y,h.one,h.ms⟩
theorem Inv.mono {N M:Nat} {t u:Nat×Nat->Nat} {a:AN} (h:Inv N t a)(V:N<=M)(Y:∀x,t x<=u x):Inv M u a:=by
 obtain⟨B,U⟩:=h.own;obtain⟨X,Q⟩:=h.lk;exact⟨h.qU,h.nrm,⟨B,U.mono V⟩,⟨X,Q.mono Y⟩,h.fl⟩
theorem Inv.act(hF:jE y)(U:GN y)(H:j5 y D 0)(V:D<=800000000)(h:Inv N (λ_=>k) (iJ y))(hl:N+144<1000000)(Q:k+1<=126)(v:AV):Inv (N+144) (λ_=>k+1) (iJ (sj y v)):=by
 obtain⟨T,Y,J⟩:=Mg hF U H V v;have hlen:=Y.len;exact(h.path J eh λx=>Nat.le_trans (nN Y.nd k x) Q).mono eh (nN Y.nd k)
def Deep(t:Nat×Nat->Nat)(a:AN)(D:Nat->Nat->Nat):Prop:=∃X,rj X t a/\∀c d,c<a.nc->d<2->∀x∈a.F c d,xX (X c d) x<=D c d
theorem ZM(X:Int->Bool)(x:lv):1<=xX X x:=by
 unfold xX;cases CB 1 x with
 |some i=>simp only;split<;>decide
 |none=>
  simp only;split<;>omega
theorem yZ.deep(h:yZ c d l a b)(u:tP a)(j:Norm a)(ht:∀x,t x<=127)(hX:rj X t a)(hc:c<a.nc)(hd:d<2)(rest:List lv)(hF:a.F c d=l++rest)(k:Nat)(hk:∀x∈l,xX (X c d) x<=k+1):
 ∃Y,rj Y t b/\∀c' d',c'<a.nc->d'<2->∃E,Mr X Y a b c' d' (if c'=c/\d'=d then rest else a.F c' d') E/\∀y∈E,xX (Y c' d') y<=k:=by
 induction h generalizing X rest with
 |nil a=>
  refine⟨X,hX,λc' d' _ _=>⟨[],⟨?_,λ_ _=>⟨rfl,rfl⟩⟩,λ_ h=>by simp at h⟩⟩;rw[aB];split
  ·rename_i e;rw[e.1,e.2,hF];rfl
  ·rfl
 | @cons a b x l r h1 h2 h3 h4 ih=>
   have J:r=l++rest:=by rw[hF]at h3;exact(aC h3).2.symm
   obtain⟨Y,hY,pp⟩:=hX.pop u j ht hc hd h3;have ui:(a.pop c d x r).nc=a.nc:=rfl;obtain⟨U,V,de0⟩:=pp.fl c d hc hd;rw[ai ⟨rfl,rfl⟩]at V;have hx:=hk x gZ;have SI:(a.pop c d x r).F c d=l++(rest++U):=by rw[V.f,J,aD]
   obtain⟨Z,hZ,q⟩:=ih (u.same rfl rfl rfl) (rb (a:=a.lH c d r) j _ _) hY hc (rest++U) SI λy hy=>by
    rw[(V.o y (by rw[J];simp[hy])).1];exact hk y (by simp[hy])
   refine⟨Z,hZ,λc' d' j0 kh=> ?_⟩;obtain⟨H,f1,g1⟩:=q c' d' j0 kh;obtain⟨Q,f2,A⟩:=pp.fl c' d' j0 kh;by_cases e:c'=c/\d'=d
   ·rw[ai e]at f1 f2⊢;obtain⟨z1,z2⟩:=e;subst z1 z2;have he:Q=U:=by
     have:=f2.f.symm.trans V.f;exact List.append_cancel_left this
    subst he;refine⟨Q++H,⟨by rw[f1.f,aD],λy hy=> ?_⟩,λy hy=> ?_⟩
    ·have o1:=f1.o y (by simp[hy]);have o2:=f2.o y (by rw[J];simp[hy]);exact⟨o1.1.trans o2.1,o1.2.trans o2.2⟩
    ·rcases av.1 hy with g|g
     ·rw[(f1.o y (by simp[g])).1];have:=A y g;omega
     ·exact g1 y g
   ·rw[af e]at f1 f2⊢;refine⟨Q++H,⟨by rw[f1.f,f2.f,aD],λy hy=> ?_⟩,λy hy=> ?_⟩
    ·have o1:=f1.o y (by rw[f2.f];simp[hy]);have o2:=f2.o y hy;exact⟨o1.1.trans o2.1,o1.2.trans o2.2⟩
    ·rcases av.1 hy with g|g
     ·rw[(f1.o y (by rw[f2.f];simp[g])).1];have:=A y g;omega
     ·exact g1 y g
theorem Deep.lost {t:Nat×Nat->Nat} {a b:AN} {D:Nat->Nat->Nat} (h:Deep t a D)(hl:wY a b):Deep t b D:=by
 obtain⟨X,Y,V⟩:=h;refine⟨X,Y.lost hl,λc d hc hd x hx=>V c d (by rw[hl.1]at hc;exact hc) hd x ?_⟩;obtain⟨m,U⟩:=hl.2 c d;rw[U]at hx;exact de hx
structure Full(y:iP)(c d:Nat)(y':iP):Prop where
 ps:yZ c d ((iJ y).F c d) (iJ y) (iJ (y.jt c d ((y.C c).on d).length))/\wY (iJ (y.jt c d ((y.C c).on d).length)) (iJ y')/\(Room (y.jt c d ((y.C c).on d).length)->iJ y'=iJ (y.jt c d ((y.C c).on d).length))
 rv:∀x f,x<y.nc->f<2->jY (y.jt c d ((y.C c).on d).length) x f=(if x=c/\f=d then lL else jY y x f)/\((y.jt c d ((y.C c).on d).length).C x).on f=if x=c/\f=d then []else(y.C x).on f
 rd:∀x f,x<y.nc->f<2->jY y' x f=if x=c/\f=d then lL else jY y x f
 on:∀x f,x<y.nc->f<2->∃ps:List lv,(∀p∈ps,yj p)/\(y'.C x).on f=(if x=c/\f=d then []else(y.C x).on f)++ps.flatMap Plain.lS
theorem BL {y1:iP} (E:jE y1)(x f:Nat)(hx:x<y1.nc)(hf:f<2):jY y1.gather x f=jY y1 x f/\∃ps:List lv,(∀p∈ps,yj p)/\(y1.gather.C x).on f=(y1.C x).on f++ps.flatMap Plain.lS:=by
 have Y:∀k,k<=y1.nc->(∀x f,x<y1.nc->f<2->jY (y1.j2 k) x f=jY y1 x f/\∃ps:List lv,(∀p∈ps,yj p)/\((y1.j2 k).C x).on f=(y1.C x).on f++ps.flatMap Plain.lS):=λk=>by
  induction k with
  |zero=>intro _ x f _ _;exact⟨rfl,[],λ_ h=>by simp at h,by show(y1.C x).on f=_;simp⟩
  |succ k ih=>
   intro hk x f hx hf;have one:∀(z:iP) (i:Nat),jE z->i<2->z.nc=y1.nc->jY (z.kU k i) x f=jY z x f/\∃ps:List lv,(∀p∈ps,yj p)/\((z.kU k i).C x).on f=(z.C x).on f++ps.flatMap Plain.lS:=λz i hz hi Sk=>by
    refine⟨?_,?_⟩
    ·unfold jY;rw[((m7 z k i).2.2.2.2 x).1,Br];split<;>rfl
    ·rw[DC];split
     ·rename_i e
      obtain⟨ps,H⟩:=hz.o ((z.C k).e i).1 ((z.C k).e i).2;exact⟨ps,H.2,by rw[e.1,e.2.1,H.1]⟩
     ·exact⟨[],λ_ h=>by simp at h,gZ⟩
   have Q:=jE.j2 E k eh;have V:(y1.j2 k).nc=y1.nc:=(j6 y1 k).2.1;obtain⟨i1,p1,i2,i3⟩:=ih eh x f hx hf;obtain⟨A,p2,u,j⟩:=one (y1.j2 k) 0 Q eA V;obtain⟨b1,p3,b2,b3⟩:=one ((y1.j2 k).kU k 0) 1 (Q.kU k 0 (by rw[V];omega)) eA V;refine⟨b1.trans (A.trans i1),p1++p2++p3,λp hp=> ?_,?_⟩
   ·rcases av.1 hp with g|g
    ·exact(av.1 g).elim (i2 p) (u p)
    ·exact b2 p g
   ·show(((y1.j2 k).kU k 0).kU k 1|>.C x).on f=_;rw[b3,j,i3];simp
 have J:∀x f,jY ((y1.j2 y1.nc).lO y1.n) x f=jY (y1.j2 y1.nc) x f/\(((y1.j2 y1.nc).lO y1.n).C x).on f=((y1.j2 y1.nc).C x).on f:=λx f=>by
  obtain⟨_,_,_,U⟩:=n9 (y1.j2 y1.nc) y1.n;refine⟨?_,by rw[U]⟩;unfold jY;rw[U,(wQ (y1.j2 y1.nc) _ y1.n).1];split<;>rfl
 unfold iP.gather;rw[(J x f).1,(J x f).2];exact Y y1.nc (Nat.le_refl _) x f hx hf
theorem vr(hF:jE y)(A:j5 y D 0)(hD:D<=900000000)(hc:c<y.nc)(hd:d<2):Full y c d (y.deliver c d 2000).1:=by
 have hE:=A.oM;have hlen:=A.ol c d hc hd;have he:(y.deliver c d 2000).1=(y.jt c d ((y.C c).on d).length).gather:=by
  unfold iP.deliver;rw[af eh];show(y.jt ((c:Int)).toNat ((d:Int)).toNat (min (2000:Int).toNat ((y.C ((c:Int)).toNat).on ((d:Int)).toNat).length)).gather=_;rw[Int.toNat_natCast,Int.toNat_natCast,Nat.min_eq_right (by show _<=2000;exact hlen)]
 rw[he];obtain⟨l,rest,h1,h2,h3⟩:=Ft hF hE c d ((y.C c).on d).length hc hd;have hq:=hF.q c d hc hd;have ho:=A.Zz c d hc hd;have Ww:ud y c d=(kB (jY y c d) ((y.C c).on d)).1:=by unfold ud;rw[jC ho,aB]
 have hl:l=(kB (jY y c d) ((y.C c).on d)).1:=by rw[h2,cg]
 have hr:rest=[] :=by
  rw[Ww,<-hl]at h1;have:=congrArg List.length h1;rw[az]at this;exact aH eh
 have J:(iJ y).F c d=l:=by
  show(if c<y.nc/\d<2 then ud y c d else [])=_;rw[ai ⟨hc,hd⟩,Ww,hl]
 have hp:=adC l [] (iJ y) c d (wZ y) hc hd (by rw[J,aB]);have k9:=A.jt (q:=((y.C c).on d).length) eh hc hd;have H:=hF.jt hE c d ((y.C c).on d).length hc hd;have hg:=pM H k9.oM;obtain⟨V,Y⟩:=gq (y.jt c d ((y.C c).on d).length);obtain⟨s1,s2,s3,s4⟩:=rD y c d ((y.C c).on d).length;have U:∀x e,(V.C x).on e=if x=c/\e=d then []else(y.C x).on e:=λx e=>by
  rw[<-Y];show((if x=c then {y.C c with on:=jW (y.C c).on d (((y.C c).on d).drop ((y.C c).on d).length)}else y.C x):qF).on e=_;by_cases ex:x=c
  ·rw[ai ex];show jW (y.C c).on d _ e=_;by_cases ed:e=d
   ·rw[ed,iF,ai ⟨ex,rfl⟩,List.drop_length]
   ·rw[iE _ _ ed,af (λh=>ed h.2),ex]
  ·rw[af ex,af (λh=>ex h.1)]
 have Q:∀x f,x<y.nc->f<2->jY V x f=if x=c/\f=d then lL else jY y x f:=λx f hx hf=>by
  obtain⟨g1,u,_⟩:=Ir (y.R ((y.C c).e (1-d)).1) ((y.C c).e (1-d)).2 (((y.C c).on d).take ((y.C c).on d).length);have hR:∀j,V.R j=if j=((y.C c).e (1-d)).1 then(y.R ((y.C c).e (1-d)).1).recv ((y.C c).e (1-d)).2 (((y.C c).on d).take ((y.C c).on d).length)else y.R j:=λj=>by rw[<-Y];rfl
  unfold jY;rw[show(V.C x).e=(y.C x).e by rw[<-Y];exact(s4 x).1,hR];by_cases e:x=c/\f=d
  ·rw[ai e,e.1,e.2,ai rfl,g1,cg];have:=hq.1;unfold jY at this;rw[this]
  ·rw[af e];by_cases E:((y.C x).e (1-f)).1=((y.C c).e (1-d)).1
   ·rw[ai E,u _ (λe3=> ?_),E];have:=hE.ds x (1-f) c (1-d) hx eh hc eh (aV E e3);exact e ⟨this.1,eh⟩
   ·rw[af E]
 rw[hr]at h3;rw[Y]at h3 H k9 hg⊢;have mT:V.nc=y.nc:=by rw[<-Y];exact s2
 have hp':yZ c d l (iJ y) (iJ V):=by rw[h3];exact hp
 refine⟨by rw[J,Y];exact⟨hp',hg.1,hg.2⟩,λx f hx hf=>by rw[Y];exact⟨Q x f hx hf,U x f⟩,λx f hx hf=> ?_,λx f hx hf=> ?_⟩
 ·rw[(BL H x f (by rw[mT];exact hx) hf).1];exact Q x f hx hf
 ·obtain⟨_,ps,g1,u⟩:=BL H x f (by rw[mT];exact hx) hf;exact⟨ps,g1,by rw[u,U]⟩
theorem Full.deep {y y':iP} {c d:Nat} (h:Full y c d y')(E:tP (iJ y))(hc:c<y.nc)(hd:d<2) {t:Nat×Nat->Nat} (ht:∀x,t x<=127) {D:Nat->Nat->Nat} {k:Nat} (hk:∀x f,D x f<=k+1)(H:∀x f,k<=D x f)(g:Deep t (iJ y) D):Deep t (iJ y') λx f=>if x=c/\f=d then k else D x f:=by
 obtain⟨z,oB⟩:=gq (iJ (y.jt c d ((y.C c).on d).length));obtain⟨Q,J,_⟩:=h.ps;rw[oB]at Q J;obtain⟨X,A,V⟩:=g;obtain⟨Y,j,q⟩:=Q.deep E (wZ y) ht A hc hd [] (by rw[aB]) k λx hx=>Nat.le_trans (V c d hc hd x hx) (hk c d);have hz:z.nc=y.nc:=Q.path.same.2.1;refine Deep.lost ⟨Y,j,λx f hx hf p U=> ?_⟩ J;rw[hz]at hx;obtain⟨em,f1,g1⟩:=q x f hx hf;rw[f1.f]at U;show xX (Y x f) p<=if x=c/\f=d then k else D x f
 by_cases e:x=c/\f=d
 ·rw[ai e];rw[ai e]at U;exact g1 p (by simpa using U)
 ·rw[af e];rw[af e]at U f1;rcases av.1 U with u|u
  ·rw[(f1.o p u).1];exact V x f hx hf p u
  ·exact Nat.le_trans (g1 p u) (H x f)
def vt(y:iP)(x f:Nat):Prop:=jY y x f=lL/\∃ps,Frames ((y.C x).on f) ps
theorem Full.rest {y':iP} (h:Full y c d y') {x f:Nat} (hx:x<y.nc)(hf:f<2)(g:(x=c/\f=d) \/vt y x f):vt y' x f:=by
 have Q:=h.rd x f hx hf;obtain⟨ps,Y,H⟩:=h.on x f hx hf;unfold vt;rw[Q,H];by_cases e:x=c/\f=d
 ·rw[ai e,ai e];exact⟨rfl,ps,rfl,Y⟩
 ·rw[af e,af e];obtain⟨g1,qs,V,U⟩:=g.resolve_left e;exact⟨g1,qs++ps,by rw[V,cr],λp J=>(av.1 J).elim (U p) (Y p)⟩
theorem FK {y:iP} {Z:Nat} (hF:jE y)(V:j5 y Z 0)(Q:Z<=890000000) {t:Nat×Nat->Nat} (J:∀x,t x<=127)(k:Nat)(g:Deep t (iJ y) λ_ _=>k+1):∀q,q<=y.nc->Deep t (iJ (y.jQ q)) (λx _=>if x<q then k else k+1)/\∀x f,x<q->f<2->vt (y.jQ q) x f
 |0,_=>⟨by simp only[Nat.not_lt_zero,if_false];exact g,λx f h=>eh⟩
 |q+1,hq=>by
  have c9:=V.c9;obtain⟨h1,r1⟩:=FK hF V Q J k g q eh;have f1:=jE.jQ hF V Q q eh;have k1:=V.jQ Q q eh;have n1:(y.jQ q).nc=y.nc:=(lW y q).2.1;have d1:=vr f1 k1 eh (c:=q) (d:=0) (by rw[n1];omega) eA;have f2:=f1.deliver k1 (q:Int) 0 2000;have k2:=k1.deliver eh (q:Int) 0 2000;have H:((y.jQ q).deliver (q:Int) 0 2000).1.nc=y.nc:=(ng (y.jQ q) (q:Int) 0 2000).2.1.trans n1;have d2:=vr f2 k2 eh (c:=q) (d:=1) (by rw[H];omega) eA;have b1:∀x:Nat,(if x<q then k else k+1)<=k+1/\k<=(if x<q then k else k+1):=λx=>by split<;>exact⟨eh,eh⟩
  have b2:∀x f:Nat,(if x=q/\f=0 then k else if x<q then k else k+1)<=k+1/\k<=(if x=q/\f=0 then k else if x<q then k else k+1):=λx f=>by
   split
   ·exact⟨eh,eh⟩
   ·exact b1 x
  have u:=d1.deep k1.qU (by rw[n1];omega) eA J (k:=k) (λx _=>(b1 x).1) (λx _=>(b1 x).2) h1;have j:=d2.deep k2.qU (by rw[H];omega) eA J (k:=k) (λx f=>(b2 x f).1) (λx f=>(b2 x f).2) u;refine⟨?_,λx f hx hf=> ?_⟩
  ·obtain⟨X,hX,hd⟩:=j;refine⟨X,hX,λc d hc kh p hp=> ?_⟩;have:=hd c d hc kh p hp;simp only at this;have U:d=0 \/d=1:=eh;show xX (X c d) p<=if c<q+1 then k else k+1
   by_cases Y:c<q
   ·rw[af eh,af eh,ai Y]at this;rw[ai eh];exact this
   ·by_cases A:c=q
    ·rw[ai eh];rcases U with rfl|rfl
     ·rw[af eh,ai ⟨A,rfl⟩]at this;exact this
     ·rw[ai ⟨A,rfl⟩]at this;exact this
    ·rw[af eh,af eh,af Y]at this;rw[af eh];exact this
  ·have E:x<y.nc:=eh;have U:f=0 \/f=1:=eh;refine d2.rest (by rw[H];exact E) hf ?_;by_cases e:x=q
   ·rcases U with rfl|rfl
    ·exact .inr (d1.rest (by rw[n1];exact E) hf (.inl ⟨e,rfl⟩))
    ·exact .inl ⟨e,rfl⟩
   ·exact .inr (d1.rest (by rw[n1];exact E) hf (.inr (r1 x f eh hf)))
theorem Deep.mono {D E:Nat->Nat->Nat} (h:Deep t a D)(U:∀c d,c<a.nc->D c d<=E c d):Deep t a E:=by
 obtain⟨X,Y,V⟩:=h;exact⟨X,Y,λc d hc hd x hx=>Nat.le_trans (V c d hc hd x hx) (U c d hc)⟩
theorem FL {y:iP} {Z:Nat} (hF:jE y)(V:j5 y Z 0)(Y:Z<=810000000) {t:Nat×Nat->Nat} (Q:∀x,t x<=127)(g:Deep t (iJ y) λ_ _=>8):∀j,j<=12->Deep t (iJ (y.turns j)) (λ_ _=>8-j)/\(1<=j->∀x f,x<y.nc->f<2->vt (y.turns j) x f)
 |0,_=>⟨g,λh=>eh⟩
 |j+1,hj=>by
  obtain⟨J,_⟩:=FL hF V Y Q g j eh;have n1:(y.turns j).nc=y.nc:=(qS y j).2.1;have U:=FK (jE.turns hF V Y j eh) (V.turns Y j eh) eh Q (8-j-1) (J.mono λ_ _ _=>eh) y.nc (by rw[n1];exact Nat.le_refl _);have E:((y.turns j).jQ y.nc).nc=y.nc:=(lW (y.turns j) y.nc).2.1.trans n1;refine⟨U.1.mono λc _ hc=> ?_,λ_ x f hx hf=>U.2 x f hx hf⟩;have H:c<y.nc:=by rw[<-E];exact hc
  show(if c<y.nc then 8-j-1 else 8-j-1+1)<=8-(j+1);rw[ai H];omega
structure Still(y:iP):Prop where
 f:∀c d,c<y.nc->d<2->(iJ y).F c d=[]
 r:∀c d,c<y.nc->d<2->vt y c d
theorem DJ.deep(Y:rj X t a)(h:DJ a):Deep t a λ_ _=>8:=by
 refine⟨X,Y,λc d hc hd x hx=> ?_⟩;have V:=(h.kn c d hc hd x hx).2.2;unfold xX;cases CB 1 x with
 |some i=>simp only;split<;>decide
 |none=>
  simp only;split
  ·decide
  ·rename_i k b s
   have:=V k b s rfl;omega
  ·decide
theorem CG(hF:jE y)(V:j5 y Z 0)(J:Z<=800000000)(h:Inv N (λ_=>k) (iJ y))(hl:N+144<1000000)(u:k+1<=126):Still y.round:=by
 have n6:=V.n6;have j:=y8 hF V J y.n (Nat.le_refl _);obtain⟨t1,t2,_⟩:=pH y.n;have Q:=h.path j (by rw[t2];omega) λx=>Nat.le_trans (nN t1 k x) u;obtain⟨X,H⟩:=Q.lk;have hd:=Q.fl.deep H;obtain⟨d1,d2⟩:=FL (hF.jc y.n) (V.jc J y.n n6) eh (λx=>by have:=nN t1 k x;omega) hd 12 (Nat.le_refl _);have n1:(y.jc y.n).nc=y.nc:=(oL y y.n).2.1;have n2:y.round.nc=y.nc:=(kM y).2.1;refine⟨λc d hc U=> ?_,λc d hc U=>d2 eA c d (by rw[n1,<-n2];exact hc) U⟩;obtain⟨Y,_,E⟩:=d1;cases A:(iJ y.round).F c d with
 |nil=>rfl
 |cons x l=>
  have h3:xX (Y c d) x<=8-12:=E c d hc U x (by show x∈(iJ y.round).F c d;rw[A];simp);have h4:=ZM (Y c d) x;omega
def vu:lv->Nat
 |77::_=>1
 |_=>0
theorem uM {c:UInt8} (s:List UInt8)(h:c≠77):vu (c::s)=0:=by
 unfold vu;split
 ·rename_i e;exact absurd (aC e).1 h
 ·rfl
theorem WO {α:Type} {f g:α->Nat}:∀ {l:List α},(∀x∈l,1<=f x+g x)->l.length<=sm f l+sm g l
 |[],_=>Nat.zero_le _
 |x::l,h=>by
  have:=WO (l:=l) λy hy=>h y (by simp[hy]);have h1:=h x gZ;show l.length+1<=(f x+sm f l)+(g x+sm g l);omega
theorem ZN(X:Int->Bool)(x:lv):1<=oV X x+vu x:=by
 unfold oV;cases CB 1 x with
 |some i=>simp only;split<;>omega
 |none=>
  simp only;split
  ·omega
  ·show 1<=0+1;omega
  ·omega
theorem ahv(a:AN)(hc:c<a.nc)(hd:d<2):sm vu (a.F c d)<=a.W vu:=by
 have h1:0+sm vu (a.F c d)<=a.W vu:=by
  have:=Ae (f:=λ_:Nat×Nat=>0) (g:=λx:Nat×Nat=>sm vu (a.F x.1 x.2)) (y:=(c,d)) (k:=sm vu (a.F c d)) (xJ a.nc) (qt.2 ⟨hc,hd⟩) λx _=>by
   show 0+(if x=(c,d)then _ else 0)<=sm vu (a.F x.1 x.2);by_cases e:x=(c,d)
   ·subst e;rw[ai rfl];exact Nat.le_of_eq (Nat.zero_add _)
   ·rw[af e];omega
  have e0:sm (λ_:Nat×Nat=>0) (SQ a.nc)=0:=by
   generalize SQ a.nc=l
   induction l with
   |nil=>rfl
   |cons x l ih=>simpa[sm]using ih
  unfold AN.W;omega
 omega
theorem S8(h:x.length<=23):(Plain.lS x).length<=52:=by
 have h1:=Plain.Dk (Plain.l7 x);have h2:=Plain.oC x;have h3:=x5 x;omega
theorem FN:∀ {l:List lv},(∀x∈l,x.length<=23)->(l.flatMap Plain.lS).length<=52*l.length
 |[],_=>Nat.le_refl _
 |x::l,h=>by
  have:=FN (l:=l) λy hy=>h y (by simp[hy]);have h1:=S8 (h x gZ);rw[bY,az,cN];omega
structure Calm(t:Nat×Nat->Nat)(W:Nat)(a:AN):Prop where
 lk:∃X,rj X t a/\∀c,c<a.nc->wc X a c<=W
 ml:a.W vu<=1
theorem Calm.few(h:Calm t W a)(hc:c<a.nc)(hd:d<2):(a.F c d).length<=W+1/\(a.F c d≠ []->a.iT c=true):=by
 obtain⟨X,V,U⟩:=h.lk;have h1:=WO (l:=a.F c d) λx _=>ZN (X c d) x;have h2:=ahv a hc hd;have h3:=h.ml;have h4:sm (oV (X c d)) (a.F c d)<=wc X a c:=by
  have:d=0 \/d=1:=eh;unfold wc;rcases this with rfl|rfl<;>omega
 have h5:=U c hc;refine⟨eh,λQ=> ?_⟩;cases Y:a.F c d with
 |nil=>exact absurd Y Q
 |cons x l=>exact V.zc hc hd (x:=x) (by rw[Y];simp)
theorem Calm.room {z:iP} (h:Calm t 34 (iJ z))(hF:∀i p,∃ps,Frames ((z.R i).P p).out ps)(V:∀c d,c<z.nc->d<2->vt z c d)(Q:DJ (iJ z)):Room z:=λc d hc hd=>by
 obtain⟨r1,ps,Y,U⟩:=V c d hc hd;obtain⟨qs,q1,q2⟩:=hF ((z.C c).e d).1 ((z.C c).e d).2;have hf:(iJ z).F c d=ps++qs:=by
  show(if c<z.nc/\d<2 then ud z c d else [])=_;rw[ai ⟨hc,hd⟩];unfold ud;rw[r1,Y,rF ps U,nh ⟨q1,q2⟩]
 obtain⟨f1,f2⟩:=h.few hc hd;rw[hf]at f1 f2;cases qs with
 |nil=>left;rw[q1];rfl
 |cons x l=>
  right;refine⟨f2 gZ,?_⟩;rw[Y,q1,<-az,<-cr];have:=FN (l:=ps++x::l) λy hy=>(Q.kn c d hc hd y (by rw[hf];exact hy)).2.1;omega
inductive vS:AN->AN->Prop
 |nil (a:AN):vS a a
 |snoc {a b:AN} (c d:Nat) (x:lv) (l:List lv):vS a b->c<b.nc->d<2->b.F c d=x::l->vS a (b.pop c d x l)
theorem vS.path(h:vS a b):jV a [] [] b:=by
 induction h with
 |nil=>exact jV.nil a
 |snoc c d x l _ hc hd hF ih=>exact ih.snoc (mW.pop c d x l hc hd hF)
theorem vS.trans {c:AN} (h:vS a b)(g:vS b c):vS a c:=by
 induction g with
 |nil=>exact h
 |snoc c d x l _ hc hd hF ih=>exact ih.snoc c d x l hc hd hF
theorem yZ.pps(h:yZ c d l a b):vS a b:=by
 induction h with
 |nil a=>exact vS.nil a
 |cons Y V U _ ih=>exact((vS.nil _).snoc _ _ _ _ Y V U).trans ih
theorem WQ(h:Fy r i x p l):sm vu l<=vu x:=by
 cases h with
 |none h=>rw[h];exact Nat.zero_le _
 |link s _ _ _ h=>
  rw[h];have:∀l:List kP,sm vu (l.flatMap ox)=0:=λl=>by
   have e:∀y∈l.flatMap ox,vu y=0:=λy hy=>by obtain⟨s,rfl⟩:=rT hy;exact uM s eA
   rw[tf (g:=λ_=>0) e];generalize l.flatMap ox=m
   induction m with
   |nil=>rfl
   |cons x l ih=>simpa[sm]using ih
  rw[this];exact Nat.zero_le _
 |heard s _ _ _ _ _ _ _ h=>rw[h];show vu (65::_)+0<=_;rw[uM _ eA];exact Nat.zero_le _
 |JM a b s hx _ _ _ h=>rw[h,hx];exact Nat.le_refl _
theorem WR(E:tP a)(A:Norm a)(hc:c<a.nc)(hd:d<2)(hF:a.F c d=x::l):(a.pop c d x l).W vu<=a.W vu:=by
 obtain⟨m1,m2⟩:=qu (A.emp (a.e c (1-d)).1) (a.e c (1-d)).2 x;have H:=adJ (a:=a.lH c d l) (E.same rfl rfl rfl) (a.e c (1-d)).1 (jP (a.R (a.e c (1-d)).1) (a.e c (1-d)).2 x) vu;have h2:=abe vu hc hd hF;have V:=λp=>WQ (m1 p);obtain⟨r',J⟩:∃r',jP (a.R (a.e c (1-d)).1) (a.e c (1-d)).2 x=r':=⟨_,rfl⟩
 unfold AN.pop;rw[J]at m2 H V⊢;have h4:sm vu (jo (r'.P 0))+sm vu (jo (r'.P 1))+sm vu (jo (r'.P 2))<=vu x:=by
  have z:∀p,jo (r'.P p)=[]->sm vu (jo (r'.P p))=0:=λp h=>by rw[h];rfl
  have a0:=V 0;have a1:=V 1;have a2:=V 2;by_cases U:jo (r'.P 0)=[]
  ·rw[z 0 U];by_cases Y:jo (r'.P 1)=[]
   ·rw[z 1 Y];omega
   ·have Q:jo (r'.P 2)=[] :=by
     by_cases e:jo (r'.P 2)=[]
     ·exact e
     ·exact absurd (m2 1 2 Y e) eA
    rw[z 2 Q];omega
  ·have Y:jo (r'.P 1)=[] :=by
    by_cases e:jo (r'.P 1)=[]
    ·exact e
    ·exact absurd (m2 0 1 U e) eA
   have Q:jo (r'.P 2)=[] :=by
    by_cases e:jo (r'.P 2)=[]
    ·exact e
    ·exact absurd (m2 0 2 U e) eA
   rw[z 1 Y,z 2 Q];omega
 omega
theorem vS.calm(h:vS a b)(A:tP a)(u:Norm a)(ht:∀x,t x<=127)(hc:Calm t W a):Calm t W b:=by
 induction h with
 |nil=>exact hc
 |snoc c d x l p Q J H ih=>
  obtain⟨⟨X,j,hw⟩,hm⟩:=ih;have V:=p.path.qU A;have U:=p.path.norm u;obtain⟨Y,hY,pp⟩:=j.pop V U ht Q J H;exact⟨⟨Y,hY,λc' E=>Nat.le_trans (pp.w c' E) (hw c' E)⟩,Nat.le_trans (WR V U Q J H) hm⟩
theorem Qk(X:Int->Bool):∀l:List (Int×PS),sm (oV X) (l.flatMap DH)<=2*l.length
 |[] =>Nat.le_refl _
 |q::l=>by
  have:=Qk X l;rw[bY,pW];have h1:sm (oV X) (DH q)<=2:=by
   unfold DH;split
   ·show oV X (83::_)+0<=2;unfold oV;rw[xM 1 _ eA];exact Nat.le_refl _
   ·exact Nat.zero_le _
  simp only[eT];omega
theorem Ql(X:Int->Bool)(r:iO)(p:Nat):sm (oV X) (AG r p)<=13/\sm vu (AG r p)=0:=by
 have U:sm vu (AG r p)=0:=by
  have e:∀y∈AG r p,vu y=0:=λy hy=>by
   unfold AG at hy;split at hy
   ·rcases aO.1 hy with g|g
    ·rw[g];exact uM _ eA
    ·split at g
     ·obtain⟨q,_,Y⟩:=aT.1 g;unfold DH at Y;split at Y
      ·rw[ar.1 Y];exact uM _ eA
      ·simp at Y
     ·simp at g
   ·simp at hy
  rw[tf (g:=λ_=>0) e];generalize AG r p=m
  induction m with
  |nil=>rfl
  |cons x l ih=>simpa[sm]using ih
 refine⟨?_,U⟩;unfold AG;split
 ·have V:∀s,oV X (72::s)=1:=λs=>by unfold oV;rw[xM 1 s eA];rfl
  show oV X (72::_)+sm (oV X) (if _ then _ else _)<=13;rw[V];split
  ·have:=Qk X (lJ (((jd r p).meet p (iK (r.P p).pe)).O p));have:=Bn (((jd r p).meet p (iK (r.P p).pe)).O p);omega
  ·show 1+0<=13;omega
 ·exact Nat.zero_le _
theorem xW.light(h:xW T a b)(U:tP a)(A:Norm a)(Q:∀x,qA t T x<=126)(u:rj X t a)(E:∀c d,c<a.nc->d<2->sm (oV (X c d)) (a.F c d)=0):(∃Y,rj Y (qA t T) b/\∀c d,c<a.nc->d<2->sm (oV (Y c d)) (b.F c d)<=17*T.count (a.e c d))/\b.W vu<=a.W vu:=by
 induction h with
 |nil=>exact⟨⟨X,by rw[pC];exact u,λc d hc hd=>by rw[E c d hc hd];exact Nat.zero_le _⟩,Nat.le_refl _⟩
 | @snoc T a b i p tk hi hp ih=>
   rw[CD]at Q⊢;obtain⟨⟨Y,hY,hs⟩,hm⟩:=ih U A (λx=>Nat.le_trans (Nat.le_add_right _ _) (Q x)) u E;have J:=tk.path.qU U;have H:=tk.path.norm A;have j:=tk.path.same;obtain⟨Z,hZ,hf⟩:=hY.tick J H (i:=i) (p:=p) λx=>Nat.le_trans (Nat.le_add_right _ _) (Q x);refine⟨⟨Z,hZ,λc d hc hd=> ?_⟩,?_⟩
   ·have j0:c<b.nc:=by rw[j.2.1];exact hc
    obtain⟨f1,f2⟩:=hf c d j0 hd;rw[List.count_append];have h1:=hs c d hc hd;rw[j.2.2.1]at f1 f2;by_cases e:a.e c d=(i,p)
    ·obtain⟨em,g1,g2⟩:=f2 e;have V:=g2.w;have XW:sm (oV (Z c d)) em<=4:=by
      rcases g1 with g|g
      ·rw[g];exact Nat.zero_le _
      ·rw[g];show oV _ (mQ _ _)+0<=4;have hg:=rH U hc hd;unfold oV;split
       ·split<;>omega
       ·split<;>omega
     have zj:=(Ql (Z c d) (b.R i) p).1;rw[pW]at V;have h2:([(i,p)] :List (Nat×Nat)).count (a.e c d)=1:=by rw[e];simp
     rw[h2];omega
    ·have V:=(f1 e).w;have:sm (oV (Z c d)) [] =0:=rfl;omega
   ·obtain⟨e1,e2⟩:=xK (H.emp i) p;have V:=adJ J i ((b.R i).iY p) vu;have z:∀q,sm vu (jo (((b.R i).iY p).P q))=0:=λq=>by
     by_cases e:q=p
     ·subst e;have e3:jo (((b.R i).iY q).P q)=(je ((b.R i).P q).L).2.flatMap ox++AG (b.R i) q:=e2;rw[e3,pW,(Ql (λ_=>false) (b.R i) q).2];have e:∀y∈(je ((b.R i).P q).L).2.flatMap ox,vu y=0:=λy hy=>by obtain⟨s,rfl⟩:=rT hy;exact uM s eA
      rw[tf (g:=λ_=>0) e];generalize (je ((b.R i).P q).L).2.flatMap ox=m
      induction m with
      |nil=>rfl
      |cons x l ih=>simpa[sm]using ih
     ·rw[e1 q e];rfl
    rw[z,z,z]at V;omega
def pO(y:iP):Prop:=∀c d,c<y.nc->d<2->vt y c d
theorem GV(hF:jE y)(h:pO y):pO y.gather:=λc d hc hd=>by
 have Y:c<y.nc:=by rw[<-(lV y).2.1];exact hc
 obtain⟨g1,ps,V,U⟩:=BL hF c d Y hd;obtain⟨r1,qs,J,H⟩:=h c d Y hd;exact⟨g1.trans r1,qs++ps,by rw[U,J,cr],λp Q=>(av.1 Q).elim (H p) (V p)⟩
theorem Mt(h:pO y)(i:Nat)(Y:nC (y.R i) r):pO (y.jA i r):=λc d hc hd=>by
 obtain⟨r1,V⟩:=h c d hc hd;refine⟨?_,V⟩;rw[<-r1];show((jW y.R i r ((y.C c).e (1-d)).1).P ((y.C c).e (1-d)).2).rd=((y.R ((y.C c).e (1-d)).1).P ((y.C c).e (1-d)).2).rd;by_cases e:((y.C c).e (1-d)).1=i
 ·rw[e,iF];exact Y.rd _
 ·rw[iE _ _ e]
theorem count_le(h:T.Nodup)(x:Nat×Nat):T.count x<=1:=List.nodup_iff_count.1 h x
theorem FO(h:xW T a b)(V:T.Nodup)(Q:tP a)(J:Norm a)(A:k+1<=126)(H:rj X (λ_=>k) a)(U:∀c d,c<a.nc->d<2->sm (oV (X c d)) (a.F c d)=0)(u:a.W vu<=1):Calm (λ_=>k+1) 34 b:=by
 obtain⟨⟨Y,E,hs⟩,j⟩:=h.light Q J (λx=>Nat.le_trans (nN V k x) A) H U;refine⟨⟨Y,E.mono (nN V k),λc hc=> ?_⟩,Nat.le_trans j u⟩;rw[h.path.same.2.1]at hc;have h1:=hs c 0 hc eA;have h2:=hs c 1 hc eA;have c1:=count_le V (a.e c 0);have c2:=count_le V (a.e c 1);unfold wc;omega
theorem CH {y:iP} {Z N k:Nat} (hF:jE y)(J:j5 y Z 0)(j:Z<=800000000)(V:Inv N (λ_=>k) (iJ y))(hl:N+144<1000000)(Q:k+1<=126)(A:pO y) {X:Marks} (u:rj X (λ_=>k) (iJ y))(H:∀c d,c<y.nc->d<2->sm (oV (X c d)) ((iJ y).F c d)=0)(h:(iJ y).W vu<=1):∀q,q<=y.n->xW (mV q) (iJ y) (iJ (y.jc q))/\pO (y.jc q)
 |0,_=>⟨xW.nil _,A⟩
 |q+1,hq=>by
  have n6:=J.n6;obtain⟨E,r1⟩:=CH hF J j V hl Q A u H h q eh;have fz:=jE.jc hF q;have kz:=J.jc j q eh;have nz:(y.jc q).n=y.n:=(oL y q).1;obtain⟨z,hz⟩:=gq (y.jc q);rw[hz]at E r1 fz kz nz;obtain⟨t1,e1,f1⟩:=Fv fz kz eh q eh;have r2:=Mt r1 q (nC.jc (z.R q) (z.R q).n);have Y:=E.trans t1;rw[<-BF]at Y;obtain⟨nd,len,_⟩:=pH (q+1);have hc:=FO Y nd V.qU V.nrm Q u H h;have xx:=(V.path Y.path (by rw[len];omega) λx=>Nat.le_trans (nN nd k x) Q).fl;have U:=hc.room f1.o r2 xx;have kj:(y.jc (q+1))=(z.jA q (z.R q).tick).gather:=by
   show((y.jc q).tick ((q:Int)+1)).1=_;rw[hz];unfold iP.tick;rw[af eh];show(z.jA ((q:Int)+1-1).toNat (z.R ((q:Int)+1-1).toNat).tick).gather=_;rw[show((q:Int)+1-1).toNat=q by omega]
  rw[kj];exact⟨by rw[(pM f1 e1).2 U];exact Y,GV f1 r2⟩
theorem yn(hF:jE y)(E:j5 y Z 0)(hZ:Z<=900000000)(Q:Inv N (λ_=>k) (iJ y))(hl:N<1000000)(hk:k<=126)(H:pO y)(hc:Calm (λ_=>k) 34 (iJ y))(V:c<y.nc)(hd:d<2):vS (iJ y) (iJ (y.deliver c d 2000).1)/\pO (y.deliver c d 2000).1:=by
 have hf:=vr hF E hZ V hd;obtain⟨A,_,p3⟩:=hf.ps;have h:=E.oM;have f1:=hF.jt h c d ((y.C c).on d).length V hd;have rr:=hf.rv;obtain⟨s1,s2,_,_⟩:=rD y c d ((y.C c).on d).length;have U:=A.pps;have J:=U.calm Q.qU Q.nrm (λ_=>eh) hc;have xx:DJ (iJ (y.jt c d ((y.C c).on d).length)):=(Q.path A.path (by simpa using hl) λx=>by rw[pC];exact hk).fl;have r1:pO (y.jt c d ((y.C c).on d).length):=λx f hx Y=>by
  rw[s2]at hx;obtain⟨g1,j⟩:=rr x f hx Y;unfold vt;rw[g1,j];by_cases e:x=c/\f=d
  ·rw[ai e,ai e];exact⟨rfl,[],Frames.nil⟩
  ·rw[af e,af e];exact H x f hx Y
 rw[p3 (J.room f1.o r1 xx)];refine⟨U,λx f hx Y=> ?_⟩;have u:x<y.nc:=by rw[<-(ng y c d 2000).2.1];exact hx
 exact hf.rest u Y (.inr (H x f u Y))
theorem Inv.pps(h:Inv N (λ_=>k) a)(p:vS a b)(hl:N<1000000)(Y:k<=126):Inv N (λ_=>k) b:=by
 have:=h.path p.path (by simpa using hl) λx=>by rw[pC];exact Y
 rw[pC]at this;simpa using this
theorem Aq {y:iP} {Z N k:Nat} (hF:jE y)(Q:j5 y Z 0)(H:Z<=890000000)(V:Inv N (λ_=>k) (iJ y))(hl:N<1000000)(U:k<=126)(E:pO y)(hc:Calm (λ_=>k) 34 (iJ y)):∀q,q<=y.nc->vS (iJ y) (iJ (y.jQ q))/\pO (y.jQ q)
 |0,_=>⟨vS.nil _,E⟩
 |q+1,hq=>by
  have c9:=Q.c9;obtain⟨J,r1⟩:=Aq hF Q H V hl U E hc q eh;have f1:=jE.jQ hF Q H q eh;have k1:=Q.jQ H q eh;have n1:(y.jQ q).nc=y.nc:=(lW y q).2.1;obtain⟨A,j⟩:=yn f1 k1 eh (V.pps J hl U) hl U r1 (J.calm V.qU V.nrm (λ_=>eh) hc) (c:=q) (d:=0) eh eA;have f2:=f1.deliver k1 (q:Int) 0 2000;have k2:=k1.deliver eh (q:Int) 0 2000;have n2:((y.jQ q).deliver (q:Int) 0 2000).1.nc=y.nc:=(ng (y.jQ q) (q:Int) 0 2000).2.1.trans n1;have Y:=J.trans A;obtain⟨u,h⟩:=yn f2 k2 eh (V.pps Y hl U) hl U j (Y.calm V.qU V.nrm (λ_=>eh) hc) (c:=q) (d:=1) eh eA;exact⟨Y.trans u,h⟩
theorem CI {y:iP} {Z N k:Nat} (hF:jE y)(J:j5 y Z 0)(U:Z<=810000000)(Y:Inv N (λ_=>k) (iJ y))(hl:N<1000000)(Q:k<=126)(H:pO y)(hc:Calm (λ_=>k) 34 (iJ y)):∀j,j<=12->vS (iJ y) (iJ (y.turns j))/\pO (y.turns j)
 |0,_=>⟨vS.nil _,H⟩
 |j+1,hj=>by
  obtain⟨V,r1⟩:=CI hF J U Y hl Q H hc j eh;have n1:(y.turns j).nc=y.nc:=(qS y j).2.1;obtain⟨E,A⟩:=Aq (jE.turns hF J U j eh) (J.turns U j eh) eh (Y.pps V hl Q) hl Q r1 (V.calm Y.qU Y.nrm (λ_=>eh) hc) y.nc eh;exact⟨V.trans E,A⟩
theorem Mu(hF:jE y)(U:j5 y Z 0)(H:Z<=800000000)(Y:Inv N (λ_=>k) (iJ y))(hl:N+144<1000000)(V:k+1<=126)(h:pO y)(A:rj X (λ_=>k) (iJ y))(E:∀c d,c<y.nc->d<2->sm (oV (X c d)) ((iJ y).F c d)=0)(u:(iJ y).W vu<=1):∃m,xW (mV y.n) (iJ y) m/\vS m (iJ y.round)/\Still y.round:=by
 have n6:=U.n6;obtain⟨Q,r1⟩:=CH hF U H Y hl V h A E u y.n (Nat.le_refl _);obtain⟨nd,len,_⟩:=pH y.n;have hc:=FO Q nd Y.qU Y.nrm V A E u;have J:Inv (N+144) (λ_=>k+1) (iJ (y.jc y.n)):=(Y.path Q.path (by rw[len];omega) λx=>Nat.le_trans (nN nd k x) V).mono (by rw[len];omega) (nN nd k);obtain⟨j,_⟩:=CI (hF.jc y.n) (U.jc H y.n n6) eh J hl V r1 hc 12 (Nat.le_refl _);exact⟨_,Q,j,CG hF U H Y hl V⟩
theorem Still.adU(h:Still y):pO y:=h.r
theorem Still.zero(h:Still y)(X:Marks):(∀c d,c<y.nc->d<2->sm (oV (X c d)) ((iJ y).F c d)=0)/\(iJ y).W vu<=1:=by
 refine⟨λc d hc hd=>by rw[h.f c d hc hd];rfl,?_⟩;have e:(iJ y).W vu=0:=by
  unfold AN.W;rw[tf (g:=λ_=>0) λx hx=>by
   have:=qt.1 hx;show sm vu ((iJ y).F x.1 x.2)=0;rw[h.f x.1 x.2 this.1 this.2];rfl]
  generalize SQ (iJ y).nc=m
  induction m with
  |nil=>rfl
  |cons x l ih=>simpa[sm]using ih
 omega
theorem Qm(A:Norm a)(i p:Nat)(c d:Nat):(a.e c d≠(i,p)->j3 (a.op i ((a.R i).iY p)) c d=j3 a c d/\(a.op i ((a.R i).iY p)).F c d=a.F c d)/\(a.e c d=(i,p)->c<a.nc->d<2->j3 (a.op i ((a.R i).iY p)) c d=(je (j3 a c d)).1/\(a.op i ((a.R i).iY p)).F c d=a.F c d++((je (j3 a c d)).2.flatMap ox++AG (a.R i) p)):=by
 obtain⟨U,Q⟩:=xK (A.emp i) p;obtain⟨H,E⟩:=xe (a:=a) i p ((a.R i).iY p) (λq V=>⟨by rw[BJ,af V],U q V⟩) c d;refine⟨H,λY hc hd=> ?_⟩;obtain⟨g1,J⟩:=E Y hc hd;have u:j3 a c d=((a.R i).P p).L:=by unfold j3;rw[Y]
 rw[g1,J,Q,BJ,ai rfl,u];exact⟨rfl,rfl⟩
inductive adV(a:AN)(c d:Nat)(x:lv)(l:List lv):Prop
 |other:rG x->(∀c' d',j3 (a.pop c d x l) c' d'=j3 a c' d')->(∀c' d',c'<a.nc->d'<2->∃em,(a.pop c d x l).F c' d'=(if c'=c/\d'=d then l else a.F c' d')++em/\∀y∈em,rG y)->adV a c d x l
 |link (q:kP):((∃id,0<=id/\id<=255/\x=mQ (gP (a.e c d)) id/\q=(1,id,oa (gP (a.e c d)))) \/(∃id,0<=id/\id<=255/\x=oe (gP (a.e c (1-d))) id/\q=(2,id,oa (gP (a.e c (1-d))))))->j3 (a.pop c d x l) c (1-d)=(jN (j3 a c (1-d)) q).1->(a.pop c d x l).F c (1-d)=a.F c (1-d)++(jN (j3 a c (1-d)) q).2.1.flatMap ox->(∀c' d',c'<a.nc->d'<2->¬(c'=c/\d'=1-d)->j3 (a.pop c d x l) c' d'=j3 a c' d'/\(a.pop c d x l).F c' d'=if c'=c/\d'=d then l else a.F c' d')->adV a c d x l
theorem IE(H:tP a)(hN:Norm a)(h:rj X t a)(hc:c<a.nc)(hd:d<2)(hF:a.F c d=x::l):adV a c d x l:=by
 have hi:=h.zc hc hd (x:=x) (by rw[hF];simp);have pr:=(h.tT hc hd hi).symm;obtain⟨r,hr⟩:=gq (a.R (a.e c (1-d)).1);obtain⟨i,Y⟩:=gq ((a.e c (1-d)).1);obtain⟨p,oP⟩:=gq ((a.e c (1-d)).2);have Q:a.e c (1-d)=(i,p):=aV Y oP;have V:a.pop c d x l=(a.lH c d l).op i (jP r p x):=by unfold AN.pop;rw[hr,Y,oP]
 have U:a.R i=r:=by rw[<-Y];exact hr
 have XW:Kh r:=by rw[<-U];exact hN.emp i
 obtain⟨E,_⟩:=qu XW p x;have pI:j3 a c (1-d)=(r.P p).L:=by unfold j3;rw[Q,U]
 by_cases hx:rG x
 ·have hL:∀q,((jP r p x).P q).L=(r.P q).L:=λq=>by
   cases x with
   |nil=>rfl
   |cons k s=>exact vp r p s (hx k s rfl) q
  refine .other hx (λc' d'=> ?_) λc' d' A j=> ?_
  ·rw[V,IB];split
   ·rename_i e
    rw[hL,<-U];unfold j3;rw[show(a.e c' d').1=i from e];rfl
   ·rfl
  ·rw[V,vN,yY,DE];by_cases e:(a.e c' d').1=i
   ·rw[ai ⟨⟨A,j⟩,e⟩];refine⟨_,rfl,λy hy=> ?_⟩;rcases(xN (E (a.e c' d').2) hx (λ_=>false) (λ_=>false)).1 with g|g
    ·rw[g]at hy;simp at hy
    ·exact g.2 y hy
   ·rw[af (λz=>e z.2)];exact⟨[],by rw[aB];rfl,λ_ h=>by simp at h⟩
 ·have gd:=rH H hc hd;have J:=rH H hc (show 1-d<2 by omega);have WL:∃q s,x=76::s/\ja s=(q.1,q.2.1,q.2.2,0)/\((∃id,0<=id/\id<=255/\x=mQ (gP (a.e c d)) id/\q=(1,id,oa (gP (a.e c d)))) \/(∃id,0<=id/\id<=255/\x=oe (gP (a.e c (1-d))) id/\q=(2,id,oa (gP (a.e c (1-d)))))):=by
   rcases pr.g x (by rw[hF];simp)with g|⟨id,i1,i2,g⟩|⟨id,i1,i2,g⟩
   ·exact absurd g hx
   ·exact⟨_,_,g,Aj (.inl rfl) ⟨i1,i2⟩ gd,.inl ⟨id,i1,i2,g,rfl⟩⟩
   ·exact⟨_,_,g,Aj (.inr rfl) ⟨i1,i2⟩ J,.inr ⟨id,i1,i2,g,rfl⟩⟩
  obtain⟨q,s,TM,uO,hq⟩:=WL;obtain⟨k1,_,k3,_⟩:=Af XW p 76 s;rw[uO]at k1 k3;have py:=xe (a:=a.lH c d l) i p (jP r p x) λu hu=>by
   rw[TM];show((r.take p 76 s).P u).L=((a.R i).P u).L/\jo ((r.take p 76 s).P u)=[]
   rw[(tQ r p s u).1,nL (tQ r p s u).2,k1,af (λz=>hu z.1),(k3 u).2.2,af (λz=>hu z.1),U];exact⟨rfl,rfl⟩
  have ZH:((jP r p x).P p).L=(jN (j3 a c (1-d)) q).1/\jo ((jP r p x).P p)=(jN (j3 a c (1-d)) q).2.1.flatMap ox:=by
   rw[TM,pI];show((r.take p 76 s).P p).L=_/\jo ((r.take p 76 s).P p)=_;rw[(tQ r p s p).1,nL (tQ r p s p).2,k1,ai ⟨rfl,rfl,rfl⟩,(k3 p).2.2,ai ⟨rfl,rfl,rfl⟩];exact⟨rfl,rfl⟩
  obtain⟨z1,z2⟩:=(py c (1-d)).2 Q hc (by show 1-d<2;omega);refine .link q hq ?_ ?_ λc' d' A j jx=> ?_
  ·rw[V,z1,ZH.1]
  ·rw[V,z2,ZH.2,sY,af eh]
  ·rw[V];exact(py c' d').1 λe=>jx (H.ds _ _ _ _ A j hc eh (e.trans Q.symm))
def lb(x:lv):Option Bool:=if(CB 1 x).isSome=true then μ true else if(CB 2 x).isSome=true then μ false else ν
def IG(l:List lv):List Bool:=l.filterMap lb
theorem tg(l m:List lv):IG (l++m)=IG l++IG m:=by unfold IG;rw[bG]
theorem rG.lb {x:lv} (h:rG x):lb x=ν:=by unfold Rt.lb;rw[h.lk,h.lk];rfl
theorem Qn(h:∀x∈l,rG x):IG l=[] :=by
 unfold IG;rw[cT];exact λx hx=>(h x hx).lb
theorem OG(Y:1<=g/\g<=255)(hi:0<=id/\id<=255):lb (mQ g id)=μ true/\lb (oe g id)=μ false:=by
 obtain⟨a,b,c,d⟩:=sZ Y hi;unfold lb;rw[a,c,d];exact⟨rfl,rfl⟩
structure Sp where
 s0:Nat
 w0:Nat
 q0:List Bool
 s1:Nat
 w1:Nat
 q1:List Bool
def oZ(s w:Nat)(b:Bool):Nat×Nat×List Bool:=
 if b=true then(if s=9 then(8,3,[true,false])else if s=7 then(9,1,[false])else(8,w,[false]))
 else if s=6 then(7,w,[])else if s=8 then(9,1,[])else(s,w,[])
def uf(s w:Nat):List (Nat×Nat×List Bool):=if s=9 then [(9,1,[])]else if w=1 then(if s=8 then [(6,3,[true]),(8,3,[true])]else [(6,3,[true])])else [(s,w-1,[])]
def Sp.S9(S:Sp):List Sp:=match S.q0 with
 |[] =>[]
 |b::r=>[⟨S.s0,S.w0,r,(oZ S.s1 S.w1 b).1,(oZ S.s1 S.w1 b).2.1,S.q1++(oZ S.s1 S.w1 b).2.2⟩]
def Sp.FP(S:Sp):List Sp:=match S.q1 with
 |[] =>[]
 |b::r=>[⟨(oZ S.s0 S.w0 b).1,(oZ S.s0 S.w0 b).2.1,S.q0++(oZ S.s0 S.w0 b).2.2,S.s1,S.w1,r⟩]
def vI(P:Sp->Bool):Nat->Sp->Bool
 |0,S=>S.q0.isEmpty&&S.q1.isEmpty&&P S
 |k+1,S=>if S.q0.isEmpty&&S.q1.isEmpty then P S else(S.S9++S.FP).all (vI P k)
def JY(S:Sp):Bool:=S.s0==9&&S.s1==9
def ug:Nat->Sp->Bool
 |0,S=>JY S
 |k+1,S=>JY S||(uf S.s0 S.w0).all λu=>(uf S.s1 S.w1).all λv=>vI (ug k) 12 ⟨u.1,u.2.1,u.2.2,v.1,v.2.1,v.2.2⟩
def Ta:List (Nat×Nat):=[(6,1),(6,2),(6,3),(7,1),(7,2),(7,3),(8,1),(8,2),(8,3),(9,1)]
theorem adW:(Ta.all λu=>Ta.all λv=>ug 6 ⟨u.1,u.2,[],v.1,v.2,[]⟩)=true:=by decide+kernel
theorem Tb {P:Sp->Bool} {S:Sp} (h:vI P k S=true)(Y:S.q0=[])(V:S.q1=[]):P S=true:=by
 cases k with
 |zero=>unfold vI at h;simp only[Bool.and_eq_true]at h;exact h.2
 |succ k=>unfold vI at h;rw[Y,V]at h;exact h
theorem Tc {P:Sp->Bool} {S T:Sp} (h:vI P k S=true)(Y:T∈S.S9++S.FP):∃j,vI P j T=true:=by
 have V:(S.q0.isEmpty&&S.q1.isEmpty)=false:=by
  cases U:S.q0 with
  |cons b r=>rfl
  |nil=>
   cases Q:S.q1 with
   |cons b r=>rfl
   |nil=>
    unfold Sp.S9 Sp.FP at Y;rw[U,Q]at Y;simp at Y
 cases k with
 |zero=>unfold vI at h;rw[V]at h;simp at h
 |succ k=>
  unfold vI at h;rw[V]at h;exact⟨k,aZ.1 h T Y⟩
theorem Mv(k:Nat) {S:Sp} (h:JY S=true):ug k S=true:=by
 cases k with
 |zero=>exact h
 |succ k=>unfold ug;rw[h];rfl
def Sp.swap(S:Sp):Sp:=⟨S.s1,S.w1,S.q1,S.s0,S.w0,S.q0⟩
theorem WS(S:Sp) {T:Sp} (h:T∈S.swap.FP):T.swap∈S.S9:=by
 unfold Sp.FP Sp.swap at h;unfold Sp.S9;cases e:S.q0 with
 |nil=>rw[e]at h;simp at h
 |cons b r=>
  rw[e]at h;simp only[List.mem_singleton]at h⊢;rw[h];rfl
structure PQ(L M:LS)(F G:List lv)(S:Sp):Prop where
 s0:L.st=(S.s0:Int)
 w0:S.s0≠9->L.wt=(S.w0:Int)
 s1:M.st=(S.s1:Int)
 w1:S.s1≠9->M.wt=(S.w1:Int)
 q0:IG F=S.q0
 q1:IG G=S.q1
 i0:ids 2 G++ids 1 F=[] \/ids 2 G++ids 1 F=[L.ow]
 i1:ids 2 F++ids 1 G=[] \/ids 2 F++ids 1 G=[M.ow]
theorem PQ.symm {S:Sp} (p:PQ L M F G S):PQ M L G F S.swap:=⟨p.s1,p.w1,p.s0,p.w0,p.q1,p.q0,p.i1,p.i0⟩
theorem PQ.more {e f:List lv} {S:Sp} (p:PQ L M F G S)(Y:∀x∈e,rG x)(hf:∀x∈f,rG x):PQ L M (F++e) (G++f) S:=by
 have a:∀c,ids c (F++e)=ids c F:=λc=>by rw[kA,Ak λx hx=>(Y x hx).lk c,aB]
 have b:∀c,ids c (G++f)=ids c G:=λc=>by rw[kA,Ak λx hx=>(hf x hx).lk c,aB]
 exact⟨p.s0,p.w0,p.s1,p.w1,by rw[tg,Qn Y,aB];exact p.q0,by rw[tg,Qn hf,aB];exact p.q1,by rw[a,b];exact p.i0,by rw[a,b];exact p.i1⟩
theorem PQ.skip {S:Sp} (p:PQ L M F (x::l) S)(hx:rG x):PQ L M F l S:=by
 have e:IG (x::l)=IG l:=by unfold IG;rw[bh,hx.lb]
 have i:=λc=>jT l (hx.lk c);exact⟨p.s0,p.w0,p.s1,p.w1,p.q0,by rw[<-e];exact p.q1,by rw[<-i];exact p.i0,by rw[<-i];exact p.i1⟩
theorem PQ.pop {X Y:Int->Bool} {t:Nat} {h:Int} {S:Sp} {q:kP} (J:1<=g/\g<=255)(hh:1<=h/\h<=255)(jx:h≠g)(ht:t<=255)(p:Pair X Y t g h L M F (x::l))(r:PQ L M F (x::l) S)
 (hq:(∃id,0<=id/\id<=255/\x=mQ h id/\q=(1,id,oa h)) \/(∃id,0<=id/\id<=255/\x=oe g id/\q=(2,id,oa g))):∃T∈S.FP,PQ (jN L q).1 M (F++(jN L q).2.1.flatMap ox) l T:=by
 rcases hq with⟨id,i1,Q,rfl,rfl⟩|⟨id,i1,Q,rfl,rfl⟩
 ·have hi:0<=id/\id<=255:=⟨i1,Q⟩
  obtain⟨r1,r2,r3,r4⟩:=sZ hh hi;have E:ox (2,id,oa h)=[oe h id] :=FG (.inr rfl) hi hh;have hS:S.q1=true::IG l:=by rw[<-r.q1];unfold IG;rw[bh,(OG hh hi).1]
  have CS:S.FP=[⟨(oZ S.s0 S.w0 true).1,(oZ S.s0 S.w0 true).2.1,S.q0++(oZ S.s0 S.w0 true).2.2,S.s1,S.w1,IG l⟩] :=by unfold Sp.FP;rw[hS]
  have Ki:=jL l r1;have j:=jT l r2;have H:∀em,ids 2 em=[id]->ids 2 (F++em)++ids 1 l=ids 2 F++ids 1 (mQ h id::l):=λem he=>by
   rw[kA,he,Ki,aD];rfl
  have s0:=r.s0;rw[CS];refine⟨_,ar.2 rfl,?_⟩;obtain⟨li,h9|h7|U⟩:=WE J hh jx hi p.l p.lu
  ·obtain⟨s9,out,s8,u,A⟩:=h9;obtain⟨WK,adP⟩:=p.d.emp (.inr s9);have hb:=p.d.JW;have hX:Y id=false:=adP id (by rw[Ki];simp);have ami:((ids 1 (mQ h id::l)).filter λi=> !Y i).length=((ids 1 l).filter λi=> !Y i).length+1:=by rw[Ki,List.filter_cons,hX];rfl
   have ho:=p.l.k.o1;have em:(L.ow+1) %256=L.ow+1:=eh;have kX:0<=L.ow+1/\L.ow+1<=255:=eh;obtain⟨q1,q2,q3,q4⟩:=sZ J kX;rw[em]at out u;have e:(jN L (1,id,oa h)).2.1.flatMap ox=[mQ g (L.ow+1),oe h id] :=by
    rw[out];show ox _++(ox _++ [])=_;rw[FG (.inl rfl) kX J,E];rfl
   have V:oZ S.s0 S.w0 true=(8,3,[true,false]):=by unfold oZ;rw[ai rfl,ai eh]
   rw[e,V];rw[j]at WK;have ur:=dQ.1 WK;have i1:ids 1 [mQ g (L.ow+1),oe h id] =[L.ow+1] :=by rw[jL _ q1,jT _ r3];rfl
   have Q:ids 2 [mQ g (L.ow+1),oe h id] =[id] :=by rw[jT _ q2,jL _ r4];rfl
   refine⟨s8,λ_=>A,r.s1,r.w1,?_,rfl,.inr ?_,?_⟩
   ·rw[tg,r.q0];show S.q0++iC lb _=_;rw[bh,(OG J kX).1,bh,(OG hh hi).2];rfl
   ·rw[ur.1,kA,ur.2,i1,u];rfl
   ·rw[H _ Q];exact r.i1
  ·obtain⟨s7,out,s9,u⟩:=h7;have e:(jN L (1,id,oa h)).2.1.flatMap ox=[oe h id] :=by rw[out];show ox _++ [] =_;rw[E];rfl
   have V:oZ S.s0 S.w0 true=(9,1,[false]):=by unfold oZ;rw[ai rfl,af eh,ai eh]
   rw[e,V];have i1:ids 1 [oe h id] =[] :=by rw[jT _ r3];rfl
   have Q:ids 2 [oe h id] =[id] :=by rw[jL _ r4];rfl
   refine⟨s9,λh=>absurd rfl h,r.s1,r.w1,?_,rfl,?_,?_⟩
   ·rw[tg,r.q0];show S.q0++iC lb _=_;rw[bh,(OG hh hi).2];rfl
   ·rw[kA,i1,aB,<-j,u];exact r.i0
   ·rw[H _ Q];exact r.i1
  ·obtain⟨s68,out,s8,u,A⟩:=U;have e:(jN L (1,id,oa h)).2.1.flatMap ox=[oe h id] :=by rw[out];show ox _++ [] =_;rw[E];rfl
   have V:oZ S.s0 S.w0 true=(8,S.w0,[false]):=by unfold oZ;rw[ai rfl,af eh,af eh]
   rw[e,V];have i1:ids 1 [oe h id] =[] :=by rw[jT _ r3];rfl
   have Q:ids 2 [oe h id] =[id] :=by rw[jL _ r4];rfl
   refine⟨s8,λ_=>by rw[A];exact r.w0 eh,r.s1,r.w1,?_,rfl,?_,?_⟩
   ·rw[tg,r.q0];show S.q0++iC lb _=_;rw[bh,(OG hh hi).2];rfl
   ·rw[kA,i1,aB,<-j,u];exact r.i0
   ·rw[H _ Q];exact r.i1
 ·have hi:0<=id/\id<=255:=⟨i1,Q⟩
  obtain⟨r1,r2,r3,r4⟩:=sZ J hi;have hS:S.q1=false::IG l:=by rw[<-r.q1];unfold IG;rw[bh,(OG J hi).2]
  have CS:S.FP=[⟨(oZ S.s0 S.w0 false).1,(oZ S.s0 S.w0 false).2.1,S.q0++(oZ S.s0 S.w0 false).2.2,S.s1,S.w1,IG l⟩] :=by unfold Sp.FP;rw[hS]
  have Ki:=jT l r3;have j:=jL l r4;have lh:¬(L.st=7 \/L.st=9):=λh=>by
   have:=(p.d.emp h).1;rw[j]at this;simp at this
  have pZ:id=L.ow/\ids 2 l++ids 1 F=[] :=by
   have:=r.i0;rw[j]at this;rcases this with z|z
   ·simp at z
   ·have z':id::(ids 2 l++ids 1 F)=[L.ow] :=z;injection z' with z1 z2
    exact⟨z1,z2⟩
  have U:L.st=6 \/L.st=8:=by have:=p.lu;have:=p.l.st;omega
  obtain⟨z1,z2⟩:=pZ;subst z1;obtain⟨a1,a2,a3,a4,a5⟩:=WG J p.l U;have s0:=r.s0;rw[CS];refine⟨_,ar.2 rfl,?_⟩;rw[a2];have hF:F++List.flatMap ox [] =F:=gZ;rw[hF];have vC:ids 2 F++ids 1 l=[] \/ids 2 F++ids 1 l=[M.ow] :=by rw[<-Ki];exact r.i1
  rcases U with h6|h8
  ·have V:oZ S.s0 S.w0 false=(7,S.w0,[]):=by unfold oZ;rw[af gZ,ai eh]
   rw[V];exact⟨by rw[a5,h6];rfl,λ_=>by rw[a4];exact r.w0 eh,r.s1,r.w1,by rw[aB];exact r.q0,rfl,.inl z2,vC⟩
  ·have V:oZ S.s0 S.w0 false=(9,1,[]):=by unfold oZ;rw[af gZ,af eh,ai eh]
   rw[V];exact⟨by rw[a5,h8];rfl,λh=>absurd rfl h,r.s1,r.w1,by rw[aB];exact r.q0,rfl,.inl z2,vC⟩
theorem adX(U:tP a)(hN:Norm a)(h:rj X t a)(ht:∀x,t x<=127)(hc:c<a.nc)(hd:d<2)(hF:a.F c d=x::l)(Q:k<a.nc) {S:Sp} (Y:PQ (j3 a k 0) (j3 a k 1) (a.F k 0) (a.F k 1) S):∃T,(T=S \/T∈S.S9++S.FP)/\PQ (j3 (a.pop c d x l) k 0) (j3 (a.pop c d x l) k 1) ((a.pop c d x l).F k 0) ((a.pop c d x l).F k 1) T:=by
 have j:d=0 \/d=1:=eh;cases IE U hN h hc hd hF with
 |other hx hL xx=>
  obtain⟨e0,a0,b0⟩:=xx k 0 Q eA;obtain⟨e1,J,b1⟩:=xx k 1 Q eA;refine⟨S,.inl rfl,?_⟩;rw[hL,hL,a0,J];by_cases e:k=c
  ·subst e;rcases j with rfl|rfl
   ·rw[ai ⟨rfl,rfl⟩,af eh];rw[hF]at Y;exact(Y.symm.skip hx).symm.more b0 b1
   ·rw[af eh,ai ⟨rfl,rfl⟩];rw[hF]at Y;exact(Y.skip hx).more b0 b1
  ·rw[af (λz=>e z.1),af (λz=>e z.1)];exact Y.more b0 b1
 |link q hq hl hf u=>
  by_cases e:k=c
  ·subst e;have hi:=h.zc hc hd (x:=x) (by rw[hF];simp);have A:=(h.tT hc hd hi).symm;have gd:=rH U hc hd;have V:=rH U hc (show 1-d<2 by omega);have jx:=abk U hc hd (show 1-d<2 by omega) eh;have MX:t (a.e k 0)+t (a.e k 1)<=255:=by have:=ht (a.e k 0);have:=ht (a.e k 1);omega
   obtain⟨o1,o2⟩:=u k d hc hd eh;rw[ai ⟨rfl,rfl⟩]at o2;rw[hF]at A;rcases j with rfl|rfl
   ·rw[hF]at Y;obtain⟨T,E,H⟩:=PQ.pop V gd jx MX A Y.symm hq;refine⟨T.swap,.inr (av.2 (.inl (WS S E))),?_⟩;have:=H.symm;rw[show(1:Nat)-0=1 from rfl]at hl hf;rw[o1,o2,hl,hf];exact this
   ·rw[hF]at Y;obtain⟨T,E,H⟩:=PQ.pop V gd jx MX A Y hq;refine⟨T,.inr (av.2 (.inr E)),?_⟩;rw[show(1:Nat)-1=0 from rfl]at hl hf;rw[o1,o2,hl,hf];exact H
  ·refine⟨S,.inl rfl,?_⟩;obtain⟨J,a2⟩:=u k 0 Q eA (λz=>e z.1);obtain⟨b1,b2⟩:=u k 1 Q eA (λz=>e z.1);rw[J,a2,b1,b2,af (λz=>e z.1),af (λz=>e z.1)];exact Y
theorem vS.PQ {P:Sp->Bool} {a b:AN} (h:vS a b) {N k:Nat} (A:Inv N (λ_=>k) a)(hl:N<1000000)(hk:k<=126) {c:Nat} (hc:c<a.nc) {S:Sp} {j:Nat} (hS:PQ (j3 a c 0) (j3 a c 1) (a.F c 0) (a.F c 1) S)(u:vI P j S=true):∃T i,Rt.PQ (j3 b c 0) (j3 b c 1) (b.F c 0) (b.F c 1) T/\vI P i T=true:=by
 induction h with
 |nil=>exact⟨S,j,hS,u⟩
 |snoc c' d x l p J H E ih=>
  obtain⟨T,i,hT,hi⟩:=ih;have Y:=A.pps p hl hk;obtain⟨X,hX⟩:=Y.lk;obtain⟨U,Q,V⟩:=adX Y.qU Y.nrm hX (λ_=>eh) J H E (k:=c) (by rw[p.path.same.2.1];exact hc) hT;rcases Q with rfl|Q
  ·exact⟨U,i,V,hi⟩
  ·obtain⟨i',kX⟩:=Tc hi Q;exact⟨U,i',V,kX⟩
theorem xW.at {T:List (Nat×Nat)} {a b:AN} (h:xW T a b)(A:T.Nodup)(E:tP a)(Q:Norm a) {c d:Nat} (hc:c<a.nc)(hd:d<2):(a.e c d∉T->j3 b c d=j3 a c d/\b.F c d=a.F c d)/\(a.e c d∈T->j3 b c d=(je (j3 a c d)).1/\∃m,b.F c d=a.F c d++((je (j3 a c d)).2.flatMap ox++AG m (a.e c d).2)):=by
 induction h with
 |nil=>exact⟨λ_=>⟨rfl,rfl⟩,λh=>by simp at h⟩
 | @snoc T a b i p tk hi hp ih=>
   have U:=bD.1 A;obtain⟨i1,u⟩:=ih U.1 E Q hc;have J:=tk.path.same;obtain⟨t1,t2⟩:=Qm (tk.path.norm Q) i p c d;rw[J.2.2.1]at t1 t2;refine⟨λH=> ?_,λj=> ?_⟩
   ·have V:a.e c d∉T:=λz=>H (av.2 (.inl z));have Y:a.e c d≠(i,p):=λz=>H (av.2 (.inr (ar.2 z)));rw[(t1 Y).1,(t1 Y).2];exact i1 V
   ·rcases av.1 j with g|g
    ·have Y:a.e c d≠(i,p):=λz=>U.2.2 _ g _ (ar.2 rfl) z;rw[(t1 Y).1,(t1 Y).2];exact u g
    ·have g:=ar.1 g;have V:a.e c d∉T:=λz=>U.2.2 _ z _ (ar.2 rfl) g;obtain⟨z1,z2⟩:=t2 g (by rw[J.2.1];exact hc) hd;obtain⟨y1,y2⟩:=i1 V;rw[z1,z2,y1,y2];exact⟨rfl,b.R i,by rw[g]⟩
theorem JZ(Q:1<=g/\g<=255)(h:LI g L)(h6:6<=L.st)(hb:L.ow+1<=255):∃s w:Nat,(L.st=(s:Int)/\(s≠9->L.wt=(w:Int)))/\(s,w)∈Ta/\∃u∈uf s w,(je L).1.st=(u.1:Int)/\(u.1≠9->(je L).1.wt=(u.2.1:Int))/\IG ((je L).2.flatMap ox)=u.2.2/\ids 2 ((je L).2.flatMap ox)=[] /\(ids 1 ((je L).2.flatMap ox)=[] \/ids 1 ((je L).2.flatMap ox)=[(je L).1.ow]):=by
 obtain⟨o1,o2,o3,o4,o5,o6,o7,o8⟩:=(sP _ _ _).1 h.k.ok;have ho:=h.k.o1;obtain⟨li,Y|Y⟩:=JT Q h
 ·obtain⟨Y,E,V,A,U⟩:=Y;have J:(je L).2.flatMap ox=[] :=by rw[Y];rfl
  rw[J];by_cases h9:L.st=9
  ·refine⟨9,1,⟨h9,λh=>absurd rfl h⟩,eA,(9,1,[]),eA,?_,λh=>absurd rfl h,rfl,rfl,.inl rfl⟩;rw[V,h9];rfl
  ·have hw:=U (by have:=h.st;omega);refine⟨L.st.toNat,L.wt.toNat,⟨eh,λ_=>eh⟩,?_,(L.st.toNat,L.wt.toNat-1,[]),?_,by rw[V];simp only;omega,λ_=>by rw[hw.2];simp only;omega,rfl,rfl,.inl rfl⟩
   ·have:L.st=6 \/L.st=7 \/L.st=8:=by have:=h.st;omega
    have vR:L.wt=2 \/L.wt=3:=eh;rcases this with e|e|e<;>rcases vR with f|f<;>rw[e,f] <;>decide
   ·unfold uf;rw[af eh,af eh];simp
 ·obtain⟨Y,E,V,A,U,j⟩:=Y;have hi:0<=L.ow+1/\L.ow+1<=255:=⟨eh,hb⟩
  have em:(L.ow+1) %256=L.ow+1:=eh;rw[em]at V A;have J:(je L).2.flatMap ox=[mQ g (L.ow+1)] :=by
   rw[V];show ox _++ [] =_;rw[FG (.inl rfl) hi Q];rfl
  obtain⟨q1,q2,_,_⟩:=sZ Q hi;have p1:IG [mQ g (L.ow+1)] =[true] :=by unfold IG;rw[bh,(OG Q hi).1];rfl
  have p2:ids 2 [mQ g (L.ow+1)] =[] :=by rw[jT _ q2];rfl
  have p3:ids 1 [mQ g (L.ow+1)] =[L.ow+1] :=by rw[jL _ q1];rfl
  rw[J,p1,p2,p3,A];rcases j with g6|⟨g8,H⟩
  ·refine⟨L.st.toNat,1,⟨eh,λ_=>E⟩,?_,(6,3,[true]),?_,g6,λ_=>U,rfl,rfl,.inr rfl⟩
   ·have:L.st=6 \/L.st=7 \/L.st=8:=eh;rcases this with e|e|e<;>rw[e] <;>decide
   ·have:L.st=6 \/L.st=7 \/L.st=8:=eh;rcases this with e|e|e<;>rw[e] <;>decide
  ·exact⟨8,1,⟨g8,λ_=>E⟩,eA,(8,3,[true]),eA,H,λ_=>U,rfl,rfl,.inr rfl⟩
