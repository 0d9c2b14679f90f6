import Derived.Test.YtieklnlbljejdaaGreatDoorT32
open Option renaming none → ν, some → μ
open List renaming length_cons → eE, range → fG
namespace Go.Proofs.YtieklnlbljejdaaGreatDoor
open Go.RowKit St
namespace Rt
variable {B D N i:Nat} {K:Int->Option PS} {S:List (Int×List UInt8)} {T:List (Nat×Nat)} {a b:AN} {c:UInt8} {es:List jv} {own seq y:Int} {q:PS} {r:iy} {t:Nat×Nat->Nat} {x:mb}
def Mp(K:Int->Option PS)(y seq:Int)(es:List jv):Prop:=∃q,K y=μ q/\0<=l5 q.1 q.2 seq es
theorem si(s:Int)(e:List jv):l5 s e s e=0:=MO.2 ⟨rfl,rfl⟩
theorem CF(h:K y=μ q):Mp K y q.1 q.2:=⟨q,h,by rw[si];exact Int.le_refl _⟩
def qR(K K':Int->Option PS):Prop:=∀y q,K y=μ q->Mp K' y q.1 q.2
theorem qR.refl(K:Int->Option PS):qR K K:=λ_ _ h=>CF h
theorem Mp.mono {K':Int->Option PS} (h:qR K K')(g:Mp K y seq es):Mp K' y seq es:=by
 obtain⟨q,Z,Y⟩:=g;obtain⟨u,X,V⟩:=h y q Z;exact⟨u,X,(AY V Y).1⟩
theorem Mp.trans {s1 s2:Int} {e1 e2:List jv} (g:Mp K y s1 e1)(h:0<=l5 s1 e1 s2 e2):Mp K y s2 e2:=by
 obtain⟨q,Z,Y⟩:=g;exact⟨q,Z,(AY Y h).1⟩
theorem qR.trans {L M:Int->Option PS} (h:qR K L)(g:qR L M):qR K M:=λy q Z=>(h y q Z).mono g
def acR(x:Option mb)(y:Int)(q:PS):Prop:=∃s,(x=μ (83::s) \/x=μ (65::s))/\(ik s).2.2.2=0/\(ik s).1=y/\0<=l5 (ik s).2.1 (ik s).2.2.1 q.1 q.2
def Hi(x:Option mb)(w:Int):Prop:=∃s,x=μ (72::s)/\(lL s).2.2=0/\(lL s).1=w
structure tI(r r':iy)(p:Nat)(x:Option mb):Prop where
 k:qR r.K r'.K
 o:∀j,(r'.P j).pe.both=true->∀y q,r'.K y=μ q->r'.O j y=ν->((r.P j).pe.both=true/\r.K y=μ q/\r.O j y=ν) \/(j=p/\acR x y q)
 w:∀j,(r'.P j).pe.who≠0->(r'.P j).pe.who=(r.P j).pe.who \/(j=p/\Hi x (r'.P j).pe.who)
theorem tI.refl(r:iy)(p:Nat)(x:Option mb):tI r r p x:=⟨qR.refl _,λ_ h _ _ Z Y=>.inl ⟨h,Z,Y⟩,λ_ _=>.inl rfl⟩
theorem tI.alike {s:iy} (p:Nat)(x:Option mb)(Z:s.K=r.K)(U:s.O=r.O)(Y:∀j,(s.P j).pe=(r.P j).pe):tI r s p x:=
 ⟨by rw[Z];exact qR.refl _,λj h y q X V=>.inl ⟨by rw[<-Y];exact h,by rw[<-Z];exact X,by rw[<-U];exact V⟩,λj _=>.inl (by rw[Y])⟩
theorem tI.trans {a b c:iy} {p:Nat} {x:Option mb} (h:tI a b p x)(g:tI b c p x):tI a c p x:=by
 refine⟨h.k.trans g.k,λj hb y q Y X=> ?_,λj Z=> ?_⟩
 ·rcases g.o j hb y q Y X with⟨V,U,Q⟩|z
  ·exact h.o j V y q U Q
  ·exact .inr z
 ·rcases g.w j Z with z|z
  ·rcases h.w j (by rw[<-z];exact Z)with u|u
   ·exact .inl (z.trans u)
   ·exact .inr (by rw[z];exact u)
  ·exact .inr z
theorem CG(Q:kE r) {q:Int} (X:yB r.K r.id<=q)(p:Nat)(x:Option mb):tI r (r.behind q) p x:=by
 unfold iy.behind;split
 ·obtain⟨u,hu,_⟩:=Q.own;have Z:∀y,(r.Bu (q+1) (iX r)).K y=if y=r.id then μ (q+1,iX r)else r.K y:=λy=>rfl
  refine⟨λy v hv=> ?_,λj hb y v V U=> ?_,λj _=>.inl rfl⟩
  ·by_cases e:y=r.id
   ·refine⟨(q+1,iX r),by rw[Z,ag e],?_⟩;have hsq:v.1<=q:=by
     rw[e]at hv;unfold yB at X;rw[hv]at X;exact X
    unfold l5;have:ln (q+1) v.1=1:=by unfold ln;rw[ae dP,ag dP]
    rw[ag (by rw[this];decide),this];decide
   ·exact⟨v,by rw[Z,ae e];exact hv,by rw[si];exact Int.le_refl _⟩
  ·have Y:(if y=r.id then μ (q+1,iX r)else r.O j y)=ν:=U;by_cases e:y=r.id
   ·rw[ag e]at Y;exact absurd Y gN
   ·rw[ae e]at Y;rw[Z,ae e]at V;exact .inl ⟨hb,V,Y⟩
 ·exact tI.refl r p x
theorem KS(Z:kE r)(p:Nat)(x:Option mb):tI r r.change p x:=by
 unfold iy.change;split
 ·exact tI.refl r p x
 ·exact CG Z (Int.le_refl _) p x
theorem uM(iC:kE r) {q:kL} (hq:nr r.id q)(x:Option mb)(hw:q.who≠0->q.who=(r.P i).pe.who \/Hi x q.who):tI r (r.meet i q) i x:=by
 have Q:=λj=>(j4 r i q j).2.2.2;have hW:∀j,((r.meet i q).P j).pe.who≠0->((r.meet i q).P j).pe.who=(r.P j).pe.who \/(j=i/\Hi x ((r.meet i q).P j).pe.who):=λj h=>by
  rw[Q]at h⊢;by_cases e:j=i
  ·subst e;rw[ag rfl]at h⊢;rcases hw h with z|z
   ·exact .inl z
   ·exact .inr ⟨rfl,z⟩
  ·rw[ae e];exact .inl rfl
 by_cases E:q.who=(r.P i).pe.who/\q.both=(r.P i).pe.both
 ·have e:r.meet i q=r.iE i {r.P i with pe:=q}:=by unfold iy.meet;simp only;rw[ag E]
  refine⟨by rw[e];exact qR.refl _,λj hb y v X Y=> ?_,hW⟩;rw[Q]at hb;rw[e]at X Y;refine .inl ⟨?_,X,Y⟩;by_cases Z:j=i
  ·rw[ag Z]at hb;rw[Z,<-E.2];exact hb
  ·rw[ae Z]at hb;exact hb
 ·obtain⟨z,U⟩:∃z:iy,({r.iE i {r.P i with pe:=q}with O:=λx=>if x=i then λ_=>ν else(r.iE i {r.P i with pe:=q}).O x}:iy)=z:=⟨_,rfl⟩
  have A:kE z:=by rw[<-U];exact(iC.iE i {r.P i with pe:=q} rfl λ_=>hq).wq _
  have ev:=KS A i x;have zK:z.K=r.K:=by rw[<-U];rfl
  have e:r.meet i q=if q.both=true then {z.change with O:=λx=>if x=i then oX (z.change.O i) z.change.K else z.change.O x}else z.change:=by
   unfold iy.meet;simp only;rw[ae E,U]
  have eK:(r.meet i q).K=z.change.K:=by rw[e];split<;>rfl
  have J:∀j,j≠i->z.O j=r.O j:=λj M=>by
   rw[<-U];show(if j=i then λ_=>ν else r.O j)=_;rw[ae M]
  have H:∀j,j≠i->(z.P j).pe=(r.P j).pe:=λj M=>by
   rw[<-U];show((r.iE i {r.P i with pe:=q}).P j).pe=_;rw[kx,ae M]
  refine⟨by rw[eK,<-zK];exact ev.k,λj hb y v X Y=> ?_,hW⟩;rw[eK]at X;by_cases Z:j=i
  ·subst Z;rw[Q,ag rfl]at hb;rw[e,ag hb]at Y;have V:(if j=j then oX (z.change.O j) z.change.K else z.change.O j) y=ν:=Y;rw[ag rfl]at V;unfold oX at V;rw[ag (by rw[X];rfl),X]at V;exact absurd V gN
  ·have V:z.change.O j y=ν:=by
    rw[e]at Y;split at Y
    ·have h3:(if j=i then oX (z.change.O i) z.change.K else z.change.O j) y=ν:=Y;rw[ae Z]at h3;exact h3
    ·exact Y
   rw[Q,ae Z]at hb;have G:(z.change.P j).pe.both=true:=by rw[(uw z).2.2.2,H j Z];exact hb
   rcases ev.o j G y v X V with⟨u1,u2,u3⟩|u
   ·exact .inl ⟨hb,by rw[<-zK];exact u2,by rw[<-J j Z];exact u3⟩
   ·exact absurd u.1 Z
theorem sj(h:K own=μ q):newF K own seq es=l5 seq es q.1 q.2:=by unfold newF;rw[h]
theorem Eo(iC:kE r)(i:Nat)(s:List UInt8):tI r (ji r i s) i (μ (83::s))/\∀y∈je ((ji r i s).P i),je ((ji r i s).P i)=[65::rM (ik s).1 (ik s).2.1 (ik s).2.2.1]->(ik s).2.2.2=0->0<=newF r.K (ik s).1 (ik s).2.1 (ik s).2.2.1->¬((ik s).1=r.id/\0<newF r.K (ik s).1 (ik s).2.1 (ik s).2.2.1)->(r.P i).pe.both=true->Mp (ji r i s).K (ik s).1 (ik s).2.1 (ik s).2.2.1:=by
 unfold ji;simp only;split
 ·rename_i h
  refine⟨tI.refl _ _ _,λy _ _ E _ _ hb=> ?_⟩;rcases h with h|h
  ·exact absurd E h
  ·rw[hb]at h;exact absurd h gN
 ·rename_i h
  have E:(ik s).2.2.2=0:=dP;split
  ·rename_i M
   refine⟨CG iC ?_ _ _,λy _ _ _ _ lE _=>absurd M lE⟩;obtain⟨u,hu,_⟩:=iC.own;have U:=M.2;rw[M.1,sj hu]at U;unfold yB;rw[hu];show u.1<=_;unfold l5 at U;by_cases hc:ln (ik s).2.1 u.1=0
   ·rw[mE.1 hc];exact Int.le_refl _
   ·rw[ag hc]at U;have:=rN.1 U;omega
  ·rename_i M
   have A:∀q:PS,0<=l5 (ik s).2.1 (ik s).2.2.1 q.1 q.2->acR (μ (83::s)) (ik s).1 q:=λq V=>⟨s,.inl rfl,E,rfl,V⟩
   generalize (ik s).1=own,(ik s).2.1=seq,(ik s).2.2.1=es at*;have hm:tI r {r with K:=ld r.K own seq es,O:=oN r.K r.O i own seq es} i (μ (83::s)):=by
    refine⟨λy q V=> ?_,λj hb y q h1 U=> ?_,λj _=>.inl rfl⟩
    ·show Mp (ld r.K own seq es) y q.1 q.2;unfold ld;by_cases g:0<newF r.K own seq es
     ·rw[ag g];by_cases e:y=own
      ·subst e;rw[sj V]at g;exact⟨(seq,es),by show(if y=y then _ else _)=_;rw[ag rfl],by show 0<=l5 seq es q.1 q.2;omega⟩
      ·exact⟨q,by show(if y=own then _ else _)=_;rw[ae e];exact V,by rw[si];exact Int.le_refl _⟩
     ·rw[ae g];exact CF V
    ·have Y:ld r.K own seq es y=μ q:=h1;have Z:oN r.K r.O i own seq es j y=ν:=U;unfold ld at Y;unfold oN at Z;by_cases g:0<newF r.K own seq es
     ·rw[ag g]at Y Z;have Y:(if y=own then μ (seq,es)else r.K y)=μ q:=Y;by_cases e:y=own
      ·subst e;rw[ag rfl]at Y;injection Y with Y
       by_cases X:j=i
       ·refine .inr ⟨X,A q ?_⟩;rw[<-Y];show 0<=l5 seq es seq es;rw[si];exact Int.le_refl _
       ·rw[ae X]at Z;have Z:(if y=y then μ (seq,es)else r.O j y)=ν:=Z;rw[ag rfl]at Z;exact absurd Z gN
      ·rw[ae e]at Y;refine .inl ⟨hb,Y,?_⟩;by_cases X:j=i
       ·rw[ag X]at Z;have Z:(if y=own then ν else if y=own then μ (seq,es)else r.O i y)=ν:=Z;rw[ae e,ae e]at Z;rw[X];exact Z
       ·rw[ae X]at Z;have Z:(if y=own then μ (seq,es)else r.O j y)=ν:=Z;rw[ae e]at Z;exact Z
     ·rw[ae g]at Y Z;by_cases G:newF r.K own seq es<0
      ·rw[ag G]at Z;by_cases X:j=i
       ·rw[ag X]at Z;cases J:r.K own with
        |none=>rw[J]at Z;exact .inl ⟨hb,Y,by rw[X];exact Z⟩
        |some u=>
         rw[J]at Z;have Z:(if y=own then μ u else r.O i y)=ν:=Z;by_cases e:y=own
         ·rw[ag e]at Z;exact absurd Z gN
         ·rw[ae e]at Z;exact .inl ⟨hb,Y,by rw[X];exact Z⟩
       ·rw[ae X]at Z;exact .inl ⟨hb,Y,Z⟩
      ·rw[ae G]at Z;by_cases X:j=i
       ·rw[ag X]at Z;have Z:(if y=own then ν else r.O i y)=ν:=Z;by_cases e:y=own
        ·subst e;rw[sj Y]at G;exact .inr ⟨X,A q dP⟩
        ·rw[ae e]at Z;exact .inl ⟨hb,Y,by rw[X];exact Z⟩
       ·rw[ae X]at Z;exact .inl ⟨hb,Y,Z⟩
   have J:0<=newF r.K own seq es->Mp (ld r.K own seq es) own seq es:=λQ=>by
    unfold ld;by_cases g:0<newF r.K own seq es
    ·rw[ag g];exact⟨(seq,es),by show(if own=own then _ else _)=_;rw[ag rfl],by show 0<=l5 seq es seq es;rw[si];exact Int.le_refl _⟩
    ·rw[ae g];cases V:r.K own with
     |none=>unfold newF at g;rw[V]at g;exact absurd (by decide:(0:Int)<1) g
     |some q=>
      rw[sj V]at g Q;refine⟨q,V,?_⟩;rw[MN];omega
   split
   ·refine⟨hm.trans (tI.alike _ _ rfl rfl λj=> ?_),λy _ _ _ Q _ _=>J Q⟩;rw[kx];split
    ·rename_i e;rw[e,(qv _ _ _).2]
    ·rfl
   ·rename_i H
    exact⟨hm,λy _ _ _ Q _ _=>absurd Q H⟩
theorem OG(r:iy)(i:Nat)(s:List UInt8):tI r (ku r i s) i (μ (65::s)):=by
 unfold ku;simp only;split
 ·rename_i M
  refine⟨qR.refl _,λj hb y q U Q=> ?_,λj _=>.inl rfl⟩;have Z:(if j=i/\0<=newF r.K (ik s).1 (ik s).2.1 (ik s).2.2.1 then yA (r.O i) (ik s).1 else r.O j) y=ν:=Q;have X:r.K y=μ q:=U;by_cases e:j=i/\0<=newF r.K (ik s).1 (ik s).2.1 (ik s).2.2.1
  ·rw[ag e]at Z;have V:(if y=(ik s).1 then ν else r.O i y)=ν:=Z;by_cases Y:y=(ik s).1
   ·refine .inr ⟨e.1,s,.inr rfl,M,Y.symm,?_⟩;have:=e.2;rw[<-Y,sj X]at this;exact this
   ·rw[ae Y]at V;exact .inl ⟨hb,X,by rw[e.1];exact V⟩
  ·rw[ae e]at Z;exact .inl ⟨hb,X,Z⟩
 ·exact tI.refl _ _ _
def vL(r:iy)(x:mb):Prop:=(∀s,(x=83::s \/x=65::s)->(ik s).2.2.2=0->Mp r.K (ik s).1 (ik s).2.1 (ik s).2.2.1)/\∀s,x=72::s->(lL s).2.2=0->(lL s).1=r.id
theorem pR(r:iy)(s:List UInt8)(Z:c≠83)(Y:c≠65)(X:c≠72):vL r (c::s):=
 ⟨λ_ e=>e.elim (λe=>absurd (aK e).1 Z) λe=>absurd (aK e).1 Y,λ_ e=>absurd (aK e).1 X⟩
theorem OH(U:Jc r)(Q:kE r)(i:Nat)(x:mb):tI r (jT r i x) i (μ x)/\∀p,∀y∈je ((jT r i x).P p),vL (jT r i x) y:=by
 obtain⟨m1,_⟩:=xS U i x;have wa:tI r (jT r i x) i (μ x):=by
  cases x with
  |nil=>exact tI.refl _ _ _
  |cons c s=>
   show tI r (r.take i c s) i _;obtain⟨_,_,k3,A,k5,_,_,_⟩:=AB U i c s;have Z:tI r (jH r i c s) i (μ (c::s)):=tI.alike _ _ A k5 λj=>(k3 j).1;have Y:=Q.link i c s;rw[lK];obtain⟨r1,kD⟩:=fP (jH r i c s);rw[kD]at Z Y⊢;split
   ·exact Z.trans (uM Y (nr.nobody Y.id.1) _ λh=>absurd rfl h)
   ·unfold l9;split
    ·rename_i hc
     split
     ·rename_i X
      refine Z.trans (uM Y (nr.Uh (s:=(lL s).2.1) Y.id.1 (BV X)) _ λV=>.inr ⟨s,by rw[hc],X,?_⟩);unfold jP at V⊢;split at V
      ·exact absurd rfl V
      ·rename_i g;rw[ae g]
     ·exact Z
    ·split
     ·rename_i hc;rw[hc]at Z⊢;exact Z.trans (Eo Y i s).1
     ·split
      ·rename_i hc;rw[hc]at Z⊢;exact Z.trans (OG r1 i s)
      ·split
       ·unfold qj;split
        ·obtain⟨a,b,_,_,e⟩:=oj r1 (((s.getD 0 0).toNat:Int),((s.getD 1 0).toNat:Int),s.drop 2);exact Z.trans (tI.alike _ _ a b λj=>(e j).2.1)
        ·exact Z
       ·exact Z
 refine⟨wa,λp y hy=> ?_⟩;cases m1 p with
 |none h=>rw[h]at hy;simp at hy
 |link s _ _ _ h=>
  rw[h]at hy;obtain⟨u,rfl⟩:=wK hy;exact pR _ u dS dS dS
 |R8 a b s _ _ _ _ h=>
  rw[h]at hy;rw[ax.1 hy];exact pR _ _ dS dS dS
 |heard s hx H J X hb lE M h=>
  rw[h]at hy;rw[ax.1 hy];have hv:ox (ik s).1 (ik s).2.1 (ik s).2.2.1=0:=qz (by rw[<-X]);refine⟨λu e _=> ?_,λu e=>absurd (aK e).1 dS⟩;have E:u=rM (ik s).1 (ik s).2.1 (ik s).2.2.1:=by
   rcases e with e|e
   ·exact absurd (aK e).1 dS
   ·exact(aK e).2.symm
  rw[E,tM _ _ _ hv];have G:jT r i x=ji r i s:=by
   rw[hx];show r.take i 83 s=_;rw[lK,Cv i s dS,ae (by rw[J];simp)];unfold l9;rw[ae dS,ag rfl]
  rw[G]at h⊢;rw[H]at h;exact(Eo Q i s).2 _ (by rw[h];exact ax.2 rfl) h X M lE hb
theorem OI(hE:Jc r)(h:Own r)(U:kE r)(hs:k9 B r)(hB:B<1000000)(hi:i<3)(hn:r.n=3):tI r (r.iV i) i ν/\∀p,∀y∈je ((r.iV i).P p),vL (r.iV i) y:=by
 have H:=lV r i;have Q:tI r (iT r i) i ν:=tI.alike _ _ rfl rfl λj=>(H j).2;have Y:=U.iT i;have zv:(iH ((iT r i).P i).pe).who≠0->(iH ((iT r i).P i).pe).who=((iT r i).P i).pe.who:=λZ=>by
  unfold iH at Z⊢;split at Z
  ·exact absurd rfl Z
  ·rename_i g;rw[ae g]
 have wa:tI r (r.iV i) i ν:=by
  rw[kO];split
  ·exact Q.trans (uM Y (nr.nobody Y.id.1) _ λh=>absurd rfl h)
  ·have hp:=nr.tick Y.id.1 (Y.pe i (by show i<r.n;omega));obtain⟨t1,t2,_,_,t5⟩:=qO ((iT r i).meet i (iH ((iT r i).P i).pe)) i;exact(Q.trans (uM Y hp _ λZ=>.inl (zv Z))).trans (tI.alike _ _ t1 t2 λj=>(t5 j).2.1)
 refine⟨wa,λp y hy=> ?_⟩;obtain⟨C,c1,c2,_⟩:=yU h U hs hB hi hn;obtain⟨E,A⟩:=AF hE i;by_cases M:p=i
 ·subst M;rw[A]at hy;rcases aF.1 hy with g|g
  ·obtain⟨u,rfl⟩:=wK g;exact pR _ u dS dS dS
  ·split at g
   ·rename_i h9
    rcases a7.1 g with g|g
    ·rw[g];refine⟨λu e=> ?_,λu e V=> ?_⟩
     ·rcases e with e|e<;>exact absurd (aK e).1 dS
     ·rw[<-(aK e).2]at V⊢;have qw:=U.id;have G:(r.iV p).id=r.id:=(jm.iV r p).id;rw[G];unfold lL at V⊢;split at V
      ·rename_i hh
       rw[ag hh];show((jQ r.id).toNat:Int)=_;exact np _ dP dP
      ·exact absurd V gN
    ·split at g
     ·obtain⟨q,hq,X⟩:=br.1 g;unfold R6 at X;split at X
      ·rw[ax.1 X];have hO:(r.iV p).O p q.1=μ q.2:=by
        have jX:((iT r p).P p).L.st=9:=by
         unfold iT;rw[kx,ag rfl,uE];exact h9
        rw[kO,ae (by rw[jX];simp),(H p).2];exact yV hq
       have J:=c1.tie p q.1 q.2 hO;refine⟨λu e _=> ?_,λu e=>absurd (aK e).1 dS⟩;have hu:u=rM q.1 q.2.1 q.2.2:=by
        rcases e with e|e
        ·exact(aK e).2.symm
        ·exact absurd (aK e).1 dS
       rw[hu,tM _ _ _ (c1.val _ _ J)];exact CF J
      ·simp at X
     ·simp at g
   ·simp at g
 ·rw[E p M]at hy;simp at hy
theorem Sl(Z:kE r)(i:Nat)(up:Bool):tI r (r.iw i up).1 i ν/\(((r.P i).iw up).2=0->((r.iw i up).1.P i).pe=nobody):=by
 unfold iy.iw;simp only;split
 ·rename_i h;exact⟨tI.refl _ _ _,λX=>absurd X h⟩
 ·have e:((r.P i).iw up).1.m=(r.P i).m/\((r.P i).iw up).1.pe=(r.P i).pe:=by
   unfold jb.iw;generalize ko (r.P i).L (if up=true then 0 else 1)=E;simp only;split
   ·exact⟨rfl,rfl⟩
   ·rw[(uv _ _).1,(uv _ _).2];exact⟨rfl,rfl⟩
  have k1:kE (r.iE i ((r.P i).iw up).1):=Z.iE i _ e.1 λhi=>by rw[e.2];exact Z.pe i hi
  have Y:tI r (r.iE i ((r.P i).iw up).1) i ν:=tI.alike _ _ rfl rfl λj=>by
   rw[kx];split
   ·rename_i g;rw[g];exact e.2
   ·rfl
  refine⟨Y.trans (uM k1 (nr.nobody k1.id.1) _ λh=>absurd rfl h),λ_=> ?_⟩;rw[(j4 _ _ _ _).2.2.2,ag rfl]
def yg(a:AN)(c d:Nat):kL:=((a.R (a.e c d).1).P (a.e c d).2).pe
def zL(x:mb):Prop:=x.length<=23/\∀k b s,x=77::k::b::s->b.toNat<=7
theorem rB {s:List UInt8} (h:s.length<=22)(hc:c≠77):zL (c::s):=⟨by simp only[eE];omega,λ_ _ _ e=>absurd (aK e).1 hc⟩
structure Ep(a:AN):Prop where
 gate:∀c d,c<a.nc->d<2->(yg a c d).who≠0->(lq a c d).st=9
 far:∀c d,c<a.nc->d<2->(yg a c d).who≠0->(yg a c d).who=((a.e c (1-d)).1:Int)+1
 kn:∀c d,c<a.nc->d<2->∀x∈a.F c d,vL (a.R (a.e c d).1) x/\zL x
 o:∀c d,c<a.nc->d<2->(yg a c d).both=true->∀y q,(a.R (a.e c d).1).K y=μ q->(a.R (a.e c d).1).O (a.e c d).2 y=ν->Mp (a.R (a.e c (1-d)).1).K y q.1 q.2
theorem vL.mono {r s:iy} (h:qR r.K s.K)(Y:s.id=r.id) {x:mb} (g:vL r x):vL s x:=⟨λu e Z=>(g.1 u e Z).mono h,λu e Z=>by rw[Y];exact g.2 u e Z⟩
theorem KT(a:AN)(i:Nat)(s:iy)(j:Nat):(a.op i s).R j=if j=i then s.core else a.R j:=rfl
theorem Sm(a:AN)(i:Nat)(s:iy)(c d:Nat):yg (a.op i s) c d=if(a.e c d).1=i then(s.P (a.e c d).2).pe else yg a c d:=by
 unfold yg;rw[Ov,KT];by_cases e:(a.e c d).1=i
 ·rw[ag e,ag e];rfl
 ·rw[ae e,ae e]
theorem Ep.op {a:AN} (E:yf a)(h:Ep a) {i:Nat} {s:iy} (qw:s.id=(a.R i).id)(u:∀j,j<a.n->(a.R j).id=(j:Int)+1) {p:Nat} {x:Option mb} (ev:tI (a.R i) s p x)(Z4:∀q,∀y∈je (s.P q),vL s y/\zL y)
 (hx:∀y,x=μ y->∃c d,c<a.nc/\d<2/\a.e c (1-d)=(i,p)/\vL (a.R (a.e c d).1) y)
 (hg:∀c d,c<a.nc->d<2->(a.e c d).1=i->(s.P (a.e c d).2).pe.who≠0->(s.P (a.e c d).2).L.st=9):Ep (a.op i s):=by
 have J:∀j,qR (a.R j).K ((a.op i s).R j).K:=λj=>by
  rw[KT];by_cases e:j=i
  ·rw[ag e,e];exact ev.k
  ·rw[ae e];exact qR.refl _
 have G:∀j,((a.op i s).R j).id=(a.R j).id:=λj=>by
  rw[KT];by_cases e:j=i
  ·rw[ag e,e];exact qw
  ·rw[ae e]
 have H:∀c d,c<a.nc->d<2->a.e c d=(i,p)->∀y,x=μ y->vL (a.R (a.e c (1-d)).1) y:=λc d hc hd he y hy=>by
  obtain⟨c',d',kh,kP,A,M⟩:=hx y hy;have:=E.ds c' (1-d') c d kh dP hc hd (A.trans he.symm);have Lg:d'=1-d:=dP;rw[this.1,Lg]at M;exact M
 refine⟨λc d hc hd Z=> ?_,λc d hc hd Z=> ?_,λc d hc hd y hy=> ?_,λc d hc hd hb y q U Q=> ?_⟩
 ·rw[Sm]at Z;rw[IU];by_cases e:(a.e c d).1=i
  ·rw[ag e]at Z⊢;exact hg c d hc hd e Z
  ·rw[ae e]at Z⊢;exact h.gate c d hc hd Z
 ·rw[Sm]at Z⊢;rw[Ov];by_cases e:(a.e c d).1=i
  ·rw[ag e]at Z⊢;rcases ev.w _ Z with z|⟨X,s',Y,V,z4⟩
   ·rw[z]at Z⊢;have:=h.far c d hc hd;unfold yg at this;rw[e]at this;exact this Z
   ·have:=(H c d hc hd (bn e X) _ Y).2 s' rfl V;rw[<-z4,this];exact u _ (E.en c (1-d) hc dP).1
  ·rw[ae e]at Z⊢;exact h.far c d hc hd Z
 ·rw[Ov];rw[yR]at hy;by_cases e:(a.e c d).1=i
  ·rw[ag ⟨⟨hc,hd⟩,e⟩]at hy;rcases aF.1 hy with g|g
   ·exact⟨(h.kn c d hc hd y g).1.mono (J _) (G _),(h.kn c d hc hd y g).2⟩
   ·rw[KT,ag e];exact Z4 _ y g
  ·rw[ae (λz=>e z.2)]at hy;exact⟨(h.kn c d hc hd y hy).1.mono (J _) (G _),(h.kn c d hc hd y hy).2⟩
 ·rw[Ov];rw[Ov]at U Q;rw[Sm]at hb;by_cases e:(a.e c d).1=i
  ·rw[ag e]at hb;rw[KT,ag e]at U Q;rcases ev.o _ hb y q U Q with⟨X,Y,V⟩|⟨X,s',Y,V,z4,z5⟩
   ·have:=h.o c d hc hd;unfold yg at this;rw[e]at this;exact(this X y q Y V).mono (J _)
   ·have M:Mp (a.R (a.e c (1-d)).1).K (ik s').1 (ik s').2.1 (ik s').2.2.1:=by
     rcases Y with Y|Y
     ·exact(H c d hc hd (bn e X) _ Y).1 s' (.inl rfl) V
     ·exact(H c d hc hd (bn e X) _ Y).1 s' (.inr rfl) V
    rw[z4]at M;exact(M.trans z5).mono (J _)
  ·rw[ae e]at hb;rw[KT,ae e]at U Q;exact(h.o c d hc hd hb y q U Q).mono (J _)
theorem Ep.lost(h:Ep a)(hl:wI a b):Ep b:=by
 have hs:∀c d,(b.F c d).Sublist (a.F c d):=λc d=>by
  obtain⟨m,Q⟩:=hl.2 c d;rw[Q];exact List.take_sublist _ _
 have Y:b.nc=a.nc:=by rw[hl.1]
 have Z:b.e=a.e:=by rw[hl.1]
 have X:b.R=a.R:=by rw[hl.1]
 have V:∀c d,yg b c d=yg a c d:=λc d=>by unfold yg;rw[Z,X]
 have U:∀c d,lq b c d=lq a c d:=λc d=>by unfold lq;rw[Z,X]
 refine⟨λc d=> ?_,λc d=> ?_,λc d hc hd x hx=> ?_,λc d=> ?_⟩
 ·rw[Y,V,U];exact h.gate c d
 ·rw[Y,V,Z];exact h.far c d
 ·rw[Z,X];exact h.kn c d (by rw[<-Y];exact hc) hd x ((hs c d).mem hx)
 ·rw[Y,V,Z,X];exact h.o c d
theorem Ep.less(h:Ep a)(Y:b.nc=a.nc)(Z:b.e=a.e)(X:b.R=a.R)(hs:∀c d,∀x∈b.F c d,x∈a.F c d):Ep b:=by
 have V:∀c d,yg b c d=yg a c d:=λc d=>by unfold yg;rw[Z,X]
 have U:∀c d,lq b c d=lq a c d:=λc d=>by unfold lq;rw[Z,X]
 refine⟨λc d=> ?_,λc d=> ?_,λc d hc hd x hx=> ?_,λc d=> ?_⟩
 ·rw[Y,V,U];exact h.gate c d
 ·rw[Y,V,Z];exact h.far c d
 ·rw[Z,X];exact h.kn c d (by rw[<-Y];exact hc) hd x (hs c d x hx)
 ·rw[Y,V,Z,X];exact h.o c d
theorem OJ {code id:Int} {os:List jv} (h:ju code id os=0):os.length<=8:=by
 unfold ju at h;split at h
 ·simp at h
 ·split at h
  ·simp at h
  ·omega
theorem Mq(h:ox own seq es=0):(rM own seq es).length<=16:=by
 have:=(jk h).2.2.1;unfold rM;simp only[eE,vN];omega
theorem U7(q:kr):∀x∈rA q,zL x:=λx hx=>by
 unfold rA at hx;split at hx
 ·rename_i g
  rw[ax.1 hx];have:=OJ g.1;refine rB ?_ dS;unfold lA;simp only[eE,qe];omega
 ·simp at hx
theorem CH {l:List kr} (h:x∈l.flatMap rA):zL x:=by
 obtain⟨q,_,hx⟩:=br.1 h;exact U7 q x hx
theorem U8 {p:Nat} {l:List mb} (h:Df r i x p l)(hx:zL x):∀y∈l,zL y:=λy hy=>by
 cases h with
 |none h=>rw[h]at hy;simp at hy
 |link s _ _ _ h=>rw[h]at hy;exact CH hy
 |heard s _ _ _ Y _ _ _ h=>
  rw[h]at hy;rw[ax.1 hy];have hv:ox (ik s).1 (ik s).2.1 (ik s).2.2.1=0:=qz (by rw[<-Y]);have:=Mq hv;exact rB dP dS
 |R8 a b s hs h9 h1 hl h=>
  rw[h]at hy;rw[ax.1 hy];refine⟨by simp only[eE];omega,λk c u e=> ?_⟩;have Z:=(aK (aK (aK e).2).2).1;have hb:=hx.2 a b s hs;rw[<-Z];have:=np ((b.toNat:Int)-1) dP (by have:=b.toNat_lt;omega);omega
theorem U9(J:Jc r)(V:Own (r.iV i)):∀p,∀y∈je ((r.iV i).P p),zL y:=λp y hy=>by
 obtain⟨U,Q⟩:=AF J i;by_cases X:p=i
 ·subst X;rw[Q]at hy;rcases aF.1 hy with g|g
  ·exact CH g
  ·split at g
   ·rename_i M
    rcases a7.1 g with g|g
    ·rw[g];exact rB gN dS
    ·split at g
     ·obtain⟨q,H,Z⟩:=br.1 g;unfold R6 at Z;split at Z
      ·rw[ax.1 Z];have G:((iT r p).P p).L.st=9:=by
        unfold iT;rw[kx,ag rfl,uE];exact M
       have Y:(r.iV p).O p q.1=μ q.2:=by
        rw[kO,ae (by rw[G];simp),(lV r p p).2];exact yV H
       have:=Mq (V.val _ _ (V.tie p q.1 q.2 Y));exact rB dP dS
      ·simp at Z
     ·simp at g
   ·simp at g
 ·rw[U p X]at hy;simp at hy
theorem Ep.mI {a:AN} (U:yf a)(Q:Norm a)(h:Ep a) {B N:Nat} (M:tH B N a) {c d:Nat} (hc:c<a.nc)(hd:d<2)(up:Bool)(J:(ko (lq a c d) (if up=true then 0 else 1)).2.2=0):Ep (a.mI c d up):=by
 obtain⟨hi,hp⟩:=U.en c d hc hd;obtain⟨a1,H,a3,a4,a5⟩:=M.r _ hi;obtain⟨ev,tj⟩:=Sl H (a.e c d).2 up;obtain⟨G,E,V⟩:=Fz (Q.emp (a.e c d).1) (a.e c d).2 up J;have X:=Mg (Q.emp (a.e c d).1) (a.e c d).2 up;have Z:∀q,(((a.R (a.e c d).1).iw (a.e c d).2 up).1.P q).pe=if q=(a.e c d).2 then nobody else((a.R (a.e c d).1).P q).pe:=λq=>by
  rw[V,(j4 _ _ _ _).2.2.2];by_cases g:q=(a.e c d).2
  ·rw[ag g,ag g]
  ·rw[ae g,ae g,kx,ae g]
 have A:∀q,q≠(a.e c d).2->(((a.R (a.e c d).1).iw (a.e c d).2 up).1.P q).L=((a.R (a.e c d).1).P q).L:=λq X=>by
  rw[V,(j4 _ _ _ _).2.1,kx,ae X]
 refine h.op U (FA _ _ _).1 (λj hj=>(M.r j hj).2.2.2.1) ev (λq y hy=> ?_) (λy hy=>absurd hy gN) λc' d' kh kP he Y=> ?_
 ·obtain⟨u,rfl⟩:=X q y hy;refine⟨pR _ u dS dS dS,?_⟩;by_cases g:q=(a.e c d).2
  ·rw[g,E]at hy;exact CH hy
  ·rw[G q g]at hy;simp at hy
 ·by_cases g:(a.e c' d').2=(a.e c d).2
  ·rw[g,Z,ag rfl]at Y;exact absurd rfl Y
  ·rw[Z,ae g]at Y;rw[A _ g];have:=h.gate c' d' kh kP;unfold yg lq at this;rw[he]at this;exact this Y
theorem Ep.iw {a:AN} (j:yf a)(hN:Norm a)(h:Ep a) {B N:Nat} (X:tH B N a)(hl:N<1000000) {c:Nat} (hc:c<a.nc)(up:Bool)(J:∀d,d<2->(ko (lq a c d) (if up=true then 0 else 1)).2.2=0):Ep (a.iw c up):=by
 obtain⟨b,hb⟩:=fP ((({a with jr:=jy a.jr c up}:AN).lM c 0 []).lM c 1 []);have U:yf b:=j.same (by rw[<-hb];rfl) (by rw[<-hb];rfl) (by rw[<-hb];rfl);have Q:Norm b:=by rw[<-hb];exact hN
 have V:c<b.nc:=by rw[<-hb];exact hc
 have M:∀c' d',lq b c' d'=lq a c' d':=λc' d'=>by rw[<-hb];rfl
 have G:Ep b:=h.less (by rw[<-hb];rfl) (by rw[<-hb];rfl) (by rw[<-hb];rfl) λx f y hy=>by
  rw[<-hb]at hy;have Z:y∈(if x=c/\f=1 then []else if x=c/\f=0 then []else a.F x f):=hy;split at Z
  ·simp at Z
  ·split at Z
   ·simp at Z
   ·exact Z
 have Y:∃C,tH C N b:=by
  have w1:=AA {a with jr:=jy a.jr c up} sw c 0;have w2:=AA (({a with jr:=jy a.jr c up}:AN).lM c 0 []) sw c 1;have w3:=X.b;rw[hb]at w2;have e1:({a with jr:=jy a.jr c up}:AN).W sw=a.W sw:=rfl;refine⟨B,by rw[<-hb];exact X.r,λx f hx hf y hy=> ?_,?_,X.one,by rw[<-hb];exact X.ms⟩
  ·rw[<-hb]at hy hx;have Z:y∈(if x=c/\f=1 then []else if x=c/\f=0 then []else a.F x f):=hy;split at Z
   ·simp at Z
   ·split at Z
    ·simp at Z
    ·exact X.f x f hx hf y Z
  ·have Z:sm (λi=>pI (b.R i)) (fG b.n)=sm (λi=>pI (a.R i)) (fG a.n):=by rw[<-hb];rfl
   omega
 obtain⟨C,Y⟩:=Y;have f0:=uL U Q V (by decide:0<2) up (by rw[M];exact J 0 dS);have A:=G.mI U Q Y V (by decide:0<2) up (by rw[M];exact J 0 dS);obtain⟨D,E⟩:=yW U Q Y hl V (by decide:0<2) up;have H:=(f0 c 1 V dS).1 dP;have u:=A.mI (a:=b.mI c 0 up) (U.same rfl rfl rfl) (qt Q _ _) E V (by decide:1<2) up (by rw[H.1,M];exact J 1 dS);unfold AN.iw;rw[hb];exact u
theorem mc.acS(s:mc a T S b)(Q:yf a)(M:Norm a)(V:tH B N a)(hl:N<1000000) {X:Marks} (A:sY X t a)(h:Ep a):Ep b:=by
 have KN:∀j,j<a.n->(a.R j).id=(j:Int)+1:=λj hj=>(V.r j hj).2.2.2.1;have hBl:=V.b;have YZ:∀c d,c<a.nc->d<2->a.jr c=true->KC ((a.R (a.e c d).1).P (a.e c d).2):=λc d hc hd hi=>by
  have p:=A.vu hc hd hi;have h6:=p.lu;have h9:=p.l.st;refine⟨?_,h.gate c d hc hd⟩;show r7 (lq a c d).st=true;unfold r7;simp only[Bool.or_eq_true,beq_iff_eq,Bool.and_eq_true,decide_eq_true_eq];omega
 have tG:∀c d,c<a.nc->d<2->n8 (a.jr c) ((a.R (a.e c d).1).P (a.e c d).2):=λc d hc hd=>by
  cases hi:a.jr c
  ·exact⟨by rw[ae gN];exact(A.dn c hc hi d hd).2.1,h.gate c d hc hd⟩
  ·exact n8.up.2 (YZ c d hc hd hi)
 cases s with
 |lost hl=>exact h.lost hl
 |tick i p hi hp=>
  obtain⟨a1,H,a3,a4,a5⟩:=V.r i hi;obtain⟨ev,hk⟩:=OI (M.emp i) a1 H a3 dP hp a5;obtain⟨C,c1,_⟩:=yU a1 H a3 dP hp a5;have iC:=U9 (M.emp i) c1;refine h.op Q (jm.iV (a.R i) p).id KN ev (λq y hy=>⟨hk q y hy,iC q y hy⟩) (λy hy=>absurd hy gN) λc d hc hd J Z=> ?_;have hE:=tG c d hc hd;rw[J]at hE;by_cases e:(a.e c d).2=p
  ·rw[e]at hE Z⊢;exact(D9 p hE).1.gate Z
  ·have hLq:(((a.R i).iV p).P (a.e c d).2).L=((a.R i).P (a.e c d).2).L:=by rw[KO,ae e]
   have hPq:(((a.R i).iV p).P (a.e c d).2).pe=((a.R i).P (a.e c d).2).pe:=by
    rw[kO];split
    ·rw[(j4 _ _ _ _).2.2.2,ae e];exact(lV _ _ _).2
    ·rw[((qO _ _).2.2.2.2 _).2.1,(j4 _ _ _ _).2.2.2,ae e];exact(lV _ _ _).2
   rw[hLq];rw[hPq]at Z;exact hE.gate Z
 |pop c d x l hc hd hF=>
  obtain⟨hi,hp⟩:=Q.en c (1-d) hc dP;obtain⟨a1,H,a3,a4,a5⟩:=V.r _ hi;have Z7:x∈a.F c d:=by rw[hF];simp
  have oE:=A.Sj hc hd Z7;obtain⟨ev,hk⟩:=OH (M.emp (a.e c (1-d)).1) H (a.e c (1-d)).2 x;obtain⟨m1,_⟩:=xS (M.emp (a.e c (1-d)).1) (a.e c (1-d)).2 x;have vv:Ep (a.lM c d l):=h.less rfl rfl rfl λy f z hz=>by
   rw[wJ]at hz;split at hz
   ·rename_i e;rw[e.1,e.2,hF];simp[hz]
   ·exact hz
  unfold AN.pop;refine vv.op (a:=a.lM c d l) (Q.same rfl rfl rfl) (IE H _ x).2.1 KN ev (λq y hy=>⟨hk q y hy,U8 (m1 q) (h.kn c d hc hd x Z7).2 y hy⟩) (λy hy=>⟨c,d,hc,hd,rfl,?_⟩) λc' d' kh Y J Z=> ?_
  ·injection hy with hy;rw[<-hy];exact(h.kn c d hc hd x Z7).1
  ·have hG:=D8 (r:=a.R (a.e c (1-d)).1) (a.e c (1-d)).2;cases x with
   |nil=>
    have:=h.gate c' d' kh Y;unfold yg lq at this;rw[show(a.e c' d').1=(a.e c (1-d)).1 from J]at this;exact this Z
   |cons k u=>
    obtain⟨g1,g2⟩:=hG k u (YZ c (1-d) hc dP oE);by_cases e:(a.e c' d').2=(a.e c (1-d)).2
    ·have e':((a.lM c d l).e c' d').2=(a.e c (1-d)).2:=e;rw[e']at Z⊢;exact g1.2 Z
    ·obtain⟨z1,z2⟩:=g2 _ e;have:=h.gate c' d' kh Y;unfold yg lq at this;rw[show(a.e c' d').1=(a.e c (1-d)).1 from J]at this;have hw':(((a.R (a.e c (1-d)).1).take (a.e c (1-d)).2 k u).P (a.e c' d').2).pe.who≠0:=Z;rw[z2]at hw';show(((a.R (a.e c (1-d)).1).take (a.e c (1-d)).2 k u).P (a.e c' d').2).L.st=9;rw[z1];exact this hw'
 |send i t tx hi ht1 ht6 hlen=>
  obtain⟨s1,s2,s3,s4,s5⟩:=oj (a.R i) (t,8,tx);obtain⟨j,g1,g2⟩:=AE (M.emp i) (t,8,tx);refine h.op Q s3 KN (tI.alike 0 ν s1 s2 λj=>(s5 j).2.1) (λq y hy=> ?_) (λy hy=>absurd hy gN) λc d hc hd J Z=> ?_
  ·by_cases e:q=j
   ·subst e;rcases g2 with g|⟨_,g⟩
    ·rw[g]at hy;simp at hy
    ·rw[g]at hy;rw[ax.1 hy];refine⟨pR _ _ dS dS dS,by simp only[eE];omega,λk b u e=> ?_⟩;rw[<-(aK (aK (aK e).2).2).1];show(jQ ((8:Int)-1)).toNat<=7;decide
   ·rw[g1 q e]at hy;simp at hy
  ·rw[(s5 _).2.1]at Z;rw[(s5 _).2.2];have:=h.gate c d hc hd;unfold yg lq at this;rw[J]at this;exact this Z
 |iw c hc hi _ _=>exact h.iw Q M V hl hc true λd hd=>(Bo (A.dn c hc hi d hd).2.1).1
 |draw c hc hi=>exact h.iw Q M V hl hc false λd hd=>(ry (YZ c d hc hd hi).1).1
 |anew i m hi hd=>
  obtain⟨b,hb⟩:=fP (({a with R:=jy a.R i (jt ((i:Int)+1) 3 (a.ms i)),ib:=jy a.ib i ((a.ib i).take m)}:AN));rw[hb];have e1:b.nc=a.nc:=by rw[<-hb]
  have G:b.e=a.e:=by rw[<-hb]
  have e4:b.F=a.F:=by rw[<-hb]
  have E:∀j,b.R j=if j=i then jt ((i:Int)+1) 3 (a.ms i)else a.R j:=λj=>by rw[<-hb];rfl
  have tj:∀c d,yg b c d=if(a.e c d).1=i then nobody else yg a c d:=λc d=>by
   unfold yg;rw[G,E];by_cases e:(a.e c d).1=i
   ·rw[ag e,ag e];rfl
   ·rw[ae e,ae e]
  have qd:∀c d,(a.e c d).1≠i->lq b c d=lq a c d:=λc d e=>by unfold lq;rw[G,E,ae e]
  have lE:∀c d,c<a.nc->d<2->(a.e c (1-d)).1=i->(yg a c d).both=false:=λc d hc Y e=>by
   have oE:=(hd c (1-d) hc dP e).1;have jX:=(A.dn c hc oE d Y).2.1;have Z:(yg a c d).who=0:=by
    by_cases g:(yg a c d).who=0
    ·exact g
    ·have:=h.gate c d hc Y g;omega
   have hx:=Q.en c d hc Y;have hp:=(V.r _ hx.1).2.1.pe (a.e c d).2 (by rw[(V.r _ hx.1).2.2.2.2];exact hx.2);cases hb:(yg a c d).both
   ·rfl
   ·have:=hp.both hb;unfold yg at Z;omega
  refine⟨λc d hc Y Z=> ?_,λc d hc Y Z=> ?_,λc d hc Y x hx=> ?_,λc d hc Y U y q h1 h2=> ?_⟩
  ·rw[e1]at hc;rw[tj]at Z;by_cases e:(a.e c d).1=i
   ·rw[ag e]at Z;exact absurd rfl Z
   ·rw[ae e]at Z;rw[qd c d e];exact h.gate c d hc Y Z
  ·rw[e1]at hc;rw[tj]at Z⊢;rw[G];by_cases e:(a.e c d).1=i
   ·rw[ag e]at Z;exact absurd rfl Z
   ·rw[ae e]at Z⊢;exact h.far c d hc Y Z
  ·rw[e1]at hc;rw[e4]at hx;rw[G];by_cases e:(a.e c d).1=i
   ·obtain⟨_,f0,f1⟩:=hd c d hc Y e;have:d=0 \/d=1:=dP;rcases this with rfl|rfl
    ·rw[f0]at hx;simp at hx
    ·rw[f1]at hx;simp at hx
   ·rw[E,ae e];exact h.kn c d hc Y x hx
  ·rw[e1]at hc;rw[tj]at U;rw[G]at h1 h2⊢;by_cases e:(a.e c d).1=i
   ·rw[ag e]at U;exact absurd U (by simp[nobody])
   ·rw[ae e]at U;rw[E,ae e]at h1 h2;by_cases e2:(a.e c (1-d)).1=i
    ·rw[lE c d hc Y e2]at U;exact absurd U gN
    ·rw[E,ae e2];exact h.o c d hc Y U y q h1 h2
structure Inv(N:Nat)(t:Nat×Nat->Nat)(a:AN):Prop where
 YO:yf a
 nrm:Norm a
 own:∃B,tH B N a
 lk:∃X,sY X t a
 fl:Ep a
theorem Inv.step(s:mc a T S b)(h:Inv N t a)(hl:N<1000000)(V:∀x,t x<=126):Inv (N+8*T.length) (pP t T) b:=by
 obtain⟨B,Z⟩:=h.own;obtain⟨X,Y⟩:=h.lk;exact⟨h.YO.same s.same.1 s.same.2.1 s.same.2.2.1,s.norm h.nrm,s.own h.YO h.nrm Z hl,s.links h.YO h.nrm Y V,s.acS h.YO h.nrm Z hl Y h.fl⟩
theorem Inv.path(s:jI a T S b)(h:Inv N t a)(hl:N+8*T.length<1000000)(Z:∀x,pP t T x<=126):Inv (N+8*T.length) (pP t T) b:=by
 induction s with
 |nil=>rw[sg];exact h
 |snoc p s ih=>
  rw[IW]at Z⊢;rw[ay]at hl⊢;have Y:=ih dP λx=>Nat.le_trans (Nat.le_add_right _ _) (Z x);have X:=Y.step s dP λx=>Nat.le_trans (Nat.le_add_right _ _) (Z x);have e:∀x y:Nat,N+8*(x+y)=N+8*x+8*y:=λx y=>dP;rw[e];exact X
theorem tH.mono {M:Nat} (h:tH B N a)(Z:N<=M):tH B M a:=⟨h.r,h.f,Nat.le_trans h.b Z,h.one,h.ms⟩
theorem Inv.mono {N M:Nat} {t u:Nat×Nat->Nat} {a:AN} (h:Inv N t a)(Y:N<=M)(Z:∀x,t x<=u x):Inv M u a:=by
 obtain⟨B,V⟩:=h.own;obtain⟨X,U⟩:=h.lk;exact⟨h.YO,h.nrm,⟨B,V.mono Y⟩,⟨X,U.mono Z⟩,h.fl⟩
theorem Inv.act {y:iB} {k:Nat} (hF:jE y)(X:GN y)(Q:jN y D 0)(Y:D<=800000000)(h:Inv N (λ_=>k) (jh y))(hl:N+144<1000000)(V:k+1<=126)(v:AV):Inv (N+144) (λ_=>k+1) (jh (qX y v)):=by
 obtain⟨T,Z,U⟩:=IB hF X Q Y v;have hlen:=Z.len;exact(h.path U dP λx=>Nat.le_trans (IX Z.nd k x) V).mono dP (IX Z.nd k)
structure St(D N k:Nat)(y:iB):Prop where
 ok:jN y D 0
 g:GN y
 f:jE y
 i:Inv N (λ_=>k) (jh y)
theorem St.act {D N k:Nat} {y:iB} (h:St D N k y)(Z:D<=800000000)(Y:N+144<1000000)(X:k+1<=126)(v:AV):St (D+1300000) (N+144) (k+1) (qX y v):=
 ⟨h.ok.act Z v,(h.g.act h.ok Z v).1,h.f.act h.g h.ok Z v,Inv.act h.f h.g h.ok Z h.i Y X v⟩
theorem OL {many:Nat} {L:List oH} (Z:jN (jx many L) D 0):St D 2 0 (jx many L):=by
 have J:∀i,i<many->(1:Int)<=(i:Int)+1/\(i:Int)+1<=6:=λi hi=>by have:=Z.n6;have:(jx many L).n=many:=rfl;omega
 have M:∀i p,i<many->p<3->1<=m8 L i p/\m8 L i p<=20:=λi p hi E=>Z.ms i p hi E;have hF:∀c d,(jh (jx many L)).F c d=[] :=λc d=>by
  show(if c<L.length/\d<2 then tu (jx many L) c d else [])=[]
  split
  ·rfl
  ·rfl
 have hRr:∀i,(jh (jx many L)).R i=jt ((i:Int)+1) 3 (m8 L i):=λi=>rfl;have U:∀c d,yg (jh (jx many L)) c d=nobody:=λc d=>rfl;have H:∀(i:Nat) (x:Int) (q:PS),(jt ((i:Int)+1) 3 (m8 L i)).K x=μ q->x=(i:Int)+1/\q=(1,[]):=λi x q h=>by
  have X:(if x=(i:Int)+1 then μ ((1:Int),([] :List jv))else ν)=μ q:=h;split at X
  ·rename_i e;injection X with X;exact⟨e,X.symm⟩
  ·exact absurd X gN
 have A:∀i,i<many->Own (jt ((i:Int)+1) 3 (m8 L i)):=λi hi=>by
  refine⟨λp x q h=>h,λx q h=> ?_,?_⟩
  ·obtain⟨V,Y⟩:=H i x q h;rw[V,Y];have:=J i hi;unfold ox;rw[ae dP,ae gN];rfl
  ·have V:zX (jt ((i:Int)+1) 3 (m8 L i)).K (jt ((i:Int)+1) 3 (m8 L i)).id=[] :=by
    show(match (if(i:Int)+1=(i:Int)+1 then some ((1:Int),([] :List jv))else none)with|none=>[] |some q=>q.2)=_;rw[ag rfl]
   rw[V];have Y:∀n k,jA (jt ((i:Int)+1) 3 (m8 L i)).P n k=ν:=λn k=>by
    induction k with
    |zero=>rfl
    |succ k ih=>unfold jA;rw[ae (λh=>absurd h.1 (show¬false=true by simp)),ih]
   unfold iX;simp only[Y,Option.map_none];rfl
 refine⟨Z,Cl many L,KF many L,Z.YO,Cp _,⟨1,λi hi=>⟨A i hi,xJ (J i hi) (M i · hi),λx q h=> ?_,rfl,rfl⟩,λc d _ _ x hx=> ?_,?_,Nat.le_refl _,M⟩,⟨λ_ _ _=>false,λc hc hi=> ?_,λc hc hi d hd=> ?_⟩,?_⟩
 ·obtain⟨_,Y⟩:=H i x q h;rw[Y];exact Int.le_refl _
 ·rw[hF]at hx;simp at hx
 ·have w0:(jh (jx many L)).W sw=0:=by
   unfold AN.W;rw[CC (g:=λ_=>0) λx _=>by show sm sw ((jh (jx many L)).F x.1 x.2)=0;rw[hF];rfl];generalize Te (jh (jx many L)).nc=m
   induction m with
   |nil=>rfl
   |cons x l ih=>simpa[sm]using ih
  have c0:sm (λi=>pI ((jh (jx many L)).R i)) (fG (jh (jx many L)).n)=0:=by
   rw[CC (g:=λ_=>0) λi _=>by rfl];generalize fG (jh (jx many L)).n=m
   induction m with
   |nil=>rfl
   |cons x l ih=>simpa[sm]using ih
  omega
 ·exact absurd (show false=true from hi) gN
 ·have Q:=Z.en c d hc hd;have G:=Z.n6;obtain⟨u,j,z3⟩:=IV (i:=((jh (jx many L)).e c d).1) (p:=((jh (jx many L)).e c d).2) (Nat.lt_of_lt_of_le Q.1 G) Q.2 (m8 L ((jh (jx many L)).e c d).1);have hl:lq (jh (jx many L)) c d=(DI ((((jh (jx many L)).e c d).1:Int)+1) (m8 L ((jh (jx many L)).e c d).1) ((jh (jx many L)).e c d).2).L:=rfl;rw[hl];exact⟨u,j,by rw[z3];exact Int.natCast_nonneg _,hF c d⟩
 ·refine⟨λc d _ _ h=>absurd (by rw[U];rfl) h,λc d _ _ h=>absurd (by rw[U];rfl) h,λc d _ _ x hx=> ?_,λc d _ _ h=> ?_⟩
  ·rw[hF]at hx;simp at hx
  ·rw[U]at h;exact absurd h (by simp[nobody])
