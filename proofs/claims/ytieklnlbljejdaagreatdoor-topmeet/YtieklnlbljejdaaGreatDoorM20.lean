import Derived.Test.YtieklnlbljejdaaGreatDoorM19
open Option renaming none → ν, some → μ
open List renaming length_cons → eZ
namespace Go.Proofs.YtieklnlbljejdaaGreatDoor
open Go.RowKit St
namespace Rt
variable {B D N W Z c d i k p:Nat} {K:Int->Option PS} {S:List (Int×List UInt8)} {T:List (Nat×Nat)} {X:Marks} {a b:AN} {es:List jE} {l:List k9} {own seq:Int} {q:PS} {r:iM} {t:Nat×Nat->Nat} {x:k9} {y:iP}
def yc(K:Int->Option PS)(y seq:Int)(es:List jE):Prop:=∃q,K y=μ q/\0<=lS q.1 q.2 seq es
theorem n8(s:Int)(e:List jE):lS s e s e=0:=Ax.2 ⟨rfl,rfl⟩
theorem uB {y:Int} (h:K y=μ q):yc K y q.1 q.2:=⟨q,h,by rw[n8];exact Int.le_refl _⟩
def pv(K K':Int->Option PS):Prop:=∀y q,K y=μ q->yc K' y q.1 q.2
theorem pv.refl(K:Int->Option PS):pv K K:=λ_ _ h=>uB h
theorem yc.mono {K':Int->Option PS} (h:pv K K') {y:Int} (g:yc K y seq es):yc K' y seq es:=by
 obtain⟨q,V,Q⟩:=g;obtain⟨u,Y,U⟩:=h y q V;exact⟨u,Y,(yj U Q).1⟩
theorem yc.trans {y s1 s2:Int} {e1 e2:List jE} (g:yc K y s1 e1)(h:0<=lS s1 e1 s2 e2):yc K y s2 e2:=by
 obtain⟨q,Y,V⟩:=g;exact⟨q,Y,(yj V h).1⟩
theorem pv.trans {L M:Int->Option PS} (h:pv K L)(g:pv L M):pv K M:=λy q Y=>(h y q Y).mono g
def ag4(x:Option k9)(y:Int)(q:PS):Prop:=∃s,(x=μ (83::s) \/x=μ (65::s))/\(il s).2.2.2=0/\(il s).1=y/\0<=lS (il s).2.1 (il s).2.2.1 q.1 q.2
def Hi(x:Option k9)(w:Int):Prop:=∃s,x=μ (72::s)/\(kG s).2.2=0/\(kG s).1=w
structure vF(r r':iM)(p:Nat)(x:Option k9):Prop where
 k:pv r.K r'.K
 o:∀j,(r'.P j).pe.both=true->∀y q,r'.K y=μ q->r'.O j y=ν->((r.P j).pe.both=true/\r.K y=μ q/\r.O j y=ν) \/(j=p/\ag4 x y q)
 w:∀j,(r'.P j).pe.who≠0->(r'.P j).pe.who=(r.P j).pe.who \/(j=p/\Hi x (r'.P j).pe.who)
theorem vF.refl(r:iM)(p:Nat)(x:Option k9):vF r r p x:=⟨pv.refl _,λ_ h _ _ Y V=>.inl ⟨h,Y,V⟩,λ_ _=>.inl rfl⟩
theorem vF.alike {s:iM} (p:Nat)(x:Option k9)(Y:s.K=r.K)(M:s.O=r.O)(V:∀j,(s.P j).pe=(r.P j).pe):vF r s p x:=
 ⟨by rw[Y];exact pv.refl _,λj h y q U Q=>.inl ⟨by rw[<-V];exact h,by rw[<-Y];exact U,by rw[<-M];exact Q⟩,λj _=>.inl (by rw[V])⟩
theorem vF.trans {a b c:iM} {p:Nat} {x:Option k9} (h:vF a b p x)(g:vF b c p x):vF a c p x:=by
 refine⟨h.k.trans g.k,λj hb y q V U=> ?_,λj Y=> ?_⟩
 ·rcases g.o j hb y q V U with⟨M,J,Q⟩|z
  ·exact h.o j M y q J Q
  ·exact .inr z
 ·rcases g.w j Y with z|z
  ·rcases h.w j (by rw[<-z];exact Y)with u|u
   ·exact .inl (z.trans u)
   ·exact .inr (by rw[z];exact u)
  ·exact .inr z
theorem Fv(J:ln r) {q:Int} (U:A1 r.K r.id<=q)(p:Nat)(x:Option k9):vF r (r.behind q) p x:=by
 unfold iM.behind;split
 ·obtain⟨u,hu,_⟩:=J.own;have Y:∀y,(r.Eo (q+1) (jx r)).K y=if y=r.id then μ (q+1,jx r)else r.K y:=λy=>rfl
  refine⟨λy v hv=> ?_,λj hb y v Q M=> ?_,λj _=>.inl rfl⟩
  ·by_cases e:y=r.id
   ·refine⟨(q+1,jx r),by rw[Y,ai e],?_⟩;have hsq:v.1<=q:=by
     rw[e]at hv;unfold A1 at U;rw[hv]at U;exact U
    unfold lS;have:lW (q+1) v.1=1:=by unfold lW;rw[af eh,ai eh]
    rw[ai (by rw[this];decide),this];decide
   ·exact⟨v,by rw[Y,af e];exact hv,by rw[n8];exact Int.le_refl _⟩
  ·have V:(if y=r.id then μ (q+1,jx r)else r.O j y)=ν:=M;by_cases e:y=r.id
   ·rw[ai e]at V;exact absurd V gY
   ·rw[af e]at V;rw[Y,af e]at Q;exact .inl ⟨hb,Q,V⟩
 ·exact vF.refl r p x
theorem Ol(Y:ln r)(p:Nat)(x:Option k9):vF r r.change p x:=by
 unfold iM.change;split
 ·exact vF.refl r p x
 ·exact Fv Y (Int.le_refl _) p x
theorem wW(iN:ln r) {q:lD} (hq:oj r.id q)(x:Option k9)(hw:q.who≠0->q.who=(r.P i).pe.who \/Hi x q.who):vF r (r.meet i q) i x:=by
 have J:=λj=>(kc r i q j).2.2.2;have hW:∀j,((r.meet i q).P j).pe.who≠0->((r.meet i q).P j).pe.who=(r.P j).pe.who \/(j=i/\Hi x ((r.meet i q).P j).pe.who):=λj h=>by
  rw[J]at h⊢;by_cases e:j=i
  ·subst e;rw[ai rfl]at h⊢;rcases hw h with z|z
   ·exact .inl z
   ·exact .inr ⟨rfl,z⟩
  ·rw[af e];exact .inl rfl
 by_cases H:q.who=(r.P i).pe.who/\q.both=(r.P i).pe.both
 ·have e:r.meet i q=r.iU i {r.P i with pe:=q}:=by unfold iM.meet;simp only;rw[ai H]
  refine⟨by rw[e];exact pv.refl _,λj hb y v U V=> ?_,hW⟩;rw[J]at hb;rw[e]at U V;refine .inl ⟨?_,U,V⟩;by_cases Y:j=i
  ·rw[ai Y]at hb;rw[Y,<-H.2];exact hb
  ·rw[af Y]at hb;exact hb
 ·obtain⟨z,M⟩:∃z:iM,({r.iU i {r.P i with pe:=q}with O:=λx=>if x=i then λ_=>ν else(r.iU i {r.P i with pe:=q}).O x}:iM)=z:=⟨_,rfl⟩
  have E:ln z:=by rw[<-M];exact(iN.iU i {r.P i with pe:=q} rfl λ_=>hq).yG _
  have ev:=Ol E i x;have zK:z.K=r.K:=by rw[<-M];rfl
  have e:r.meet i q=if q.both=true then {z.change with O:=λx=>if x=i then qw (z.change.O i) z.change.K else z.change.O x}else z.change:=by
   unfold iM.meet;simp only;rw[af H,M]
  have eK:(r.meet i q).K=z.change.K:=by rw[e];split<;>rfl
  have hzO:∀j,j≠i->z.O j=r.O j:=λj hj=>by
   rw[<-M];show(if j=i then λ_=>ν else r.O j)=_;rw[af hj]
  have G:∀j,j≠i->(z.P j).pe=(r.P j).pe:=λj hj=>by
   rw[<-M];show((r.iU i {r.P i with pe:=q}).P j).pe=_;rw[kN,af hj]
  refine⟨by rw[eK,<-zK];exact ev.k,λj hb y v U V=> ?_,hW⟩;rw[eK]at U;by_cases Y:j=i
  ·subst Y;rw[J,ai rfl]at hb;rw[e,ai hb]at V;have Q:(if j=j then qw (z.change.O j) z.change.K else z.change.O j) y=ν:=V;rw[ai rfl]at Q;unfold qw at Q;rw[ai (by rw[U];rfl),U]at Q;exact absurd Q gY
  ·have Q:z.change.O j y=ν:=by
    rw[e]at V;split at V
    ·have h3:(if j=i then qw (z.change.O i) z.change.K else z.change.O j) y=ν:=V;rw[af Y]at h3;exact h3
    ·exact V
   rw[J,af Y]at hb;have A:(z.change.P j).pe.both=true:=by rw[(wE z).2.2.2,G j Y];exact hb
   rcases ev.o j A y v U Q with⟨u1,u2,u3⟩|u
   ·exact .inl ⟨hb,by rw[<-zK];exact u2,by rw[<-hzO j Y];exact u3⟩
   ·exact absurd u.1 Y
theorem n9(h:K own=μ q):newF K own seq es=lS seq es q.1 q.2:=by unfold newF;rw[h]
theorem xF(iN:ln r)(i:Nat)(s:List UInt8):vF r (ji r i s) i (μ (83::s))/\∀y∈jk ((ji r i s).P i),jk ((ji r i s).P i)=[65::rb (il s).1 (il s).2.1 (il s).2.2.1]->(il s).2.2.2=0->0<=newF r.K (il s).1 (il s).2.1 (il s).2.2.1->¬((il s).1=r.id/\0<newF r.K (il s).1 (il s).2.1 (il s).2.2.1)->(r.P i).pe.both=true->yc (ji r i s).K (il s).1 (il s).2.1 (il s).2.2.1:=by
 unfold ji;simp only;split
 ·rename_i h
  refine⟨vF.refl _ _ _,λy _ _ A _ _ hb=> ?_⟩;rcases h with h|h
  ·exact absurd A h
  ·rw[hb]at h;exact absurd h gY
 ·rename_i h
  have A:(il s).2.2.2=0:=eh;split
  ·rename_i G
   refine⟨Fv iN ?_ _ _,λy _ _ _ _ ll _=>absurd G ll⟩;obtain⟨u,hu,_⟩:=iN.own;have M:=G.2;rw[G.1,n9 hu]at M;unfold A1;rw[hu];show u.1<=_;unfold lS at M;by_cases hc:lW (il s).2.1 u.1=0
   ·rw[nC.1 hc];exact Int.le_refl _
   ·rw[ai hc]at M;have:=tZ.1 M;omega
  ·rename_i G
   have J:∀q:PS,0<=lS (il s).2.1 (il s).2.2.1 q.1 q.2->ag4 (μ (83::s)) (il s).1 q:=λq Q=>⟨s,.inl rfl,A,rfl,Q⟩
   generalize (il s).1=own,(il s).2.1=seq,(il s).2.2.1=es at*;have hm:vF r {r with K:=lr r.K own seq es,O:=oR r.K r.O i own seq es} i (μ (83::s)):=by
    refine⟨λy q Q=> ?_,λj hb y q h1 M=> ?_,λj _=>.inl rfl⟩
    ·show yc (lr r.K own seq es) y q.1 q.2;unfold lr;by_cases g:0<newF r.K own seq es
     ·rw[ai g];by_cases e:y=own
      ·subst e;rw[n9 Q]at g;exact⟨(seq,es),by show(if y=y then _ else _)=_;rw[ai rfl],by show 0<=lS seq es q.1 q.2;omega⟩
      ·exact⟨q,by show(if y=own then _ else _)=_;rw[af e];exact Q,by rw[n8];exact Int.le_refl _⟩
     ·rw[af g];exact uB Q
    ·have V:lr r.K own seq es y=μ q:=h1;have Y:oR r.K r.O i own seq es j y=ν:=M;unfold lr at V;unfold oR at Y;by_cases g:0<newF r.K own seq es
     ·rw[ai g]at V Y;have V:(if y=own then μ (seq,es)else r.K y)=μ q:=V;by_cases e:y=own
      ·subst e;rw[ai rfl]at V;injection V with V
       by_cases U:j=i
       ·refine .inr ⟨U,J q ?_⟩;rw[<-V];show 0<=lS seq es seq es;rw[n8];exact Int.le_refl _
       ·rw[af U]at Y;have Y:(if y=y then μ (seq,es)else r.O j y)=ν:=Y;rw[ai rfl]at Y;exact absurd Y gY
      ·rw[af e]at V;refine .inl ⟨hb,V,?_⟩;by_cases U:j=i
       ·rw[ai U]at Y;have Y:(if y=own then ν else if y=own then μ (seq,es)else r.O i y)=ν:=Y;rw[af e,af e]at Y;rw[U];exact Y
       ·rw[af U]at Y;have Y:(if y=own then μ (seq,es)else r.O j y)=ν:=Y;rw[af e]at Y;exact Y
     ·rw[af g]at V Y;by_cases g2:newF r.K own seq es<0
      ·rw[ai g2]at Y;by_cases U:j=i
       ·rw[ai U]at Y;cases E:r.K own with
        |none=>rw[E]at Y;exact .inl ⟨hb,V,by rw[U];exact Y⟩
        |some u=>
         rw[E]at Y;have Y:(if y=own then μ u else r.O i y)=ν:=Y;by_cases e:y=own
         ·rw[ai e]at Y;exact absurd Y gY
         ·rw[af e]at Y;exact .inl ⟨hb,V,by rw[U];exact Y⟩
       ·rw[af U]at Y;exact .inl ⟨hb,V,Y⟩
      ·rw[af g2]at Y;by_cases U:j=i
       ·rw[ai U]at Y;have Y:(if y=own then ν else r.O i y)=ν:=Y;by_cases e:y=own
        ·subst e;rw[n9 V]at g2;exact .inr ⟨U,J q eh⟩
        ·rw[af e]at Y;exact .inl ⟨hb,V,by rw[U];exact Y⟩
       ·rw[af U]at Y;exact .inl ⟨hb,V,Y⟩
   have E:0<=newF r.K own seq es->yc (lr r.K own seq es) own seq es:=λH=>by
    unfold lr;by_cases g:0<newF r.K own seq es
    ·rw[ai g];exact⟨(seq,es),by show(if own=own then _ else _)=_;rw[ai rfl],by show 0<=lS seq es seq es;rw[n8];exact Int.le_refl _⟩
    ·rw[af g];cases Q:r.K own with
     |none=>unfold newF at g;rw[Q]at g;exact absurd (by decide:(0:Int)<1) g
     |some q=>
      rw[n9 Q]at g H;refine⟨q,Q,?_⟩;rw[ub];omega
   split
   ·refine⟨hm.trans (vF.alike _ _ rfl rfl λj=> ?_),λy _ _ _ H _ _=>E H⟩;rw[kN];split
    ·rename_i e;rw[e,(r8 _ _ _).2]
    ·rfl
   ·rename_i alW
    exact⟨hm,λy _ _ _ H _ _=>absurd H alW⟩
theorem SC(r:iM)(i:Nat)(s:List UInt8):vF r (kD r i s) i (μ (65::s)):=by
 unfold kD;simp only;split
 ·rename_i H
  refine⟨pv.refl _,λj hb y q M J=> ?_,λj _=>.inl rfl⟩;have Y:(if j=i/\0<=newF r.K (il s).1 (il s).2.1 (il s).2.2.1 then yC (r.O i) (il s).1 else r.O j) y=ν:=J;have U:r.K y=μ q:=M;by_cases e:j=i/\0<=newF r.K (il s).1 (il s).2.1 (il s).2.2.1
  ·rw[ai e]at Y;have Q:(if y=(il s).1 then ν else r.O i y)=ν:=Y;by_cases V:y=(il s).1
   ·refine .inr ⟨e.1,s,.inr rfl,H,V.symm,?_⟩;have:=e.2;rw[<-V,n9 U]at this;exact this
   ·rw[af V]at Q;exact .inl ⟨hb,U,by rw[e.1];exact Q⟩
  ·rw[af e]at Y;exact .inl ⟨hb,U,Y⟩
 ·exact vF.refl _ _ _
def ye(r:iM)(x:k9):Prop:=(∀s,(x=83::s \/x=65::s)->(il s).2.2.2=0->yc r.K (il s).1 (il s).2.1 (il s).2.2.1)/\∀s,x=72::s->(kG s).2.2=0->(kG s).1=r.id
theorem rE(r:iM) {c:UInt8} (s:List UInt8)(V:c≠83)(U:c≠65)(Y:c≠72):ye r (c::s):=
 ⟨λ_ e=>e.elim (λe=>absurd (aD e).1 V) λe=>absurd (aD e).1 U,λ_ e=>absurd (aD e).1 Y⟩
theorem SD(M:J2 r)(J:ln r)(i:Nat)(x:k9):vF r (jM r i x) i (μ x)/\∀p,∀y∈jk ((jM r i x).P p),ye (jM r i x) y:=by
 obtain⟨m1,_⟩:=qo M i x;have vZ:vF r (jM r i x) i (μ x):=by
  cases x with
  |nil=>exact vF.refl _ _ _
  |cons c s=>
   show vF r (r.take i c s) i _;obtain⟨_,_,k3,G,k5,_,_,_⟩:=z8 M i c s;have Y:vF r (j1 r i c s) i (μ (c::s)):=vF.alike _ _ G k5 λj=>(k3 j).1;have V:=J.link i c s;rw[lJ];obtain⟨r1,k8⟩:=gg (j1 r i c s);rw[k8]at Y V⊢;split
   ·exact Y.trans (wW V (oj.nobody V.id.1) _ λh=>absurd rfl h)
   ·unfold mA;split
    ·rename_i hc
     split
     ·rename_i U
      refine Y.trans (wW V (oj.YA (s:=(kG s).2.1) V.id.1 (EK U)) _ λQ=>.inr ⟨s,by rw[hc],U,?_⟩);unfold jg at Q⊢;split at Q
      ·exact absurd rfl Q
      ·rename_i g;rw[af g]
     ·exact Y
    ·split
     ·rename_i hc;rw[hc]at Y⊢;exact Y.trans (xF V i s).1
     ·split
      ·rename_i hc;rw[hc]at Y⊢;exact Y.trans (SC r1 i s)
      ·split
       ·unfold ru;split
        ·obtain⟨a,b,_,_,e⟩:=np r1 (((s.getD 0 0).toNat:Int),((s.getD 1 0).toNat:Int),s.drop 2);exact Y.trans (vF.alike _ _ a b λj=>(e j).2.1)
        ·exact Y
       ·exact Y
 refine⟨vZ,λp y hy=> ?_⟩;cases m1 p with
 |none h=>rw[h]at hy;simp at hy
 |link s _ _ _ h=>
  rw[h]at hy;obtain⟨u,rfl⟩:=rO hy;exact rE _ u eA eA eA
 |JA a b s _ _ _ _ h=>
  rw[h]at hy;rw[au.1 hy];exact rE _ _ eA eA eA
 |heard s hx hp h9 U hb E A h=>
  rw[h]at hy;rw[au.1 hy];have hv:oy (il s).1 (il s).2.1 (il s).2.2.1=0:=pO (by rw[<-U]);refine⟨λu e _=> ?_,λu e=>absurd (aD e).1 eA⟩;have hu:u=rb (il s).1 (il s).2.1 (il s).2.2.1:=by
   rcases e with e|e
   ·exact absurd (aD e).1 eA
   ·exact(aD e).2.symm
  rw[hu,nO _ _ _ hv];have H:jM r i x=ji r i s:=by
   rw[hx];show r.take i 83 s=_;rw[lJ,uz i s eA,af (by rw[h9];simp)];unfold mA;rw[af eA,ai rfl]
  rw[H]at h⊢;rw[hp]at h;exact(xF J i s).2 _ (by rw[h];exact au.2 rfl) h U A E hb
theorem SE(hE:J2 r)(h:Own r)(J:ln r)(hs:l8 B r)(hB:B<1000000)(hi:i<3)(hn:r.n=3):vF r (r.iV i) i ν/\∀p,∀y∈jk ((r.iV i).P p),ye (r.iV i) y:=by
 have A:=lR r i;have H:vF r (jb r i) i ν:=vF.alike _ _ rfl rfl λj=>(A j).2;have Y:=J.jb i;have B3:(iI ((jb r i).P i).pe).who≠0->(iI ((jb r i).P i).pe).who=((jb r i).P i).pe.who:=λV=>by
  unfold iI at V⊢;split at V
  ·exact absurd rfl V
  ·rename_i g;rw[af g]
 have vZ:vF r (r.iV i) i ν:=by
  rw[k7];split
  ·exact H.trans (wW Y (oj.nobody Y.id.1) _ λh=>absurd rfl h)
  ·have hp:=oj.tick Y.id.1 (Y.pe i (by show i<r.n;omega));obtain⟨t1,t2,_,_,t5⟩:=pG ((jb r i).meet i (iI ((jb r i).P i).pe)) i;exact(H.trans (wW Y hp _ λV=>.inl (B3 V))).trans (vF.alike _ _ t1 t2 λj=>(t5 j).2.1)
 refine⟨vZ,λp y hy=> ?_⟩;obtain⟨C,c1,c2,_⟩:=Bu h J hs hB hi hn;obtain⟨e1,e2⟩:=xB hE i;by_cases G:p=i
 ·subst G;rw[e2]at hy;rcases aw.1 hy with g|g
  ·obtain⟨u,rfl⟩:=rO g;exact rE _ u eA eA eA
  ·split at g
   ·rename_i h9
    rcases aP.1 g with g|g
    ·rw[g];refine⟨λu e=> ?_,λu e Q=> ?_⟩
     ·rcases e with e|e<;>exact absurd (aD e).1 eA
     ·rw[<-(aD e).2]at Q⊢;have pT:=J.id;have M:(r.iV p).id=r.id:=(jH.iV r p).id;rw[M];unfold kG at Q⊢;split at Q
      ·rename_i hh
       rw[ai hh];show((jY r.id).toNat:Int)=_;exact nD _ eh eh
      ·exact absurd Q gY
    ·split at g
     ·obtain⟨q,hq,U⟩:=aT.1 g;unfold Dv at U;split at U
      ·rw[au.1 U];have hO:(r.iV p).O p q.1=μ q.2:=by
        have ki:((jb r p).P p).L.st=9:=by
         unfold jb;rw[kN,ai rfl,sN];exact h9
        rw[k7,af (by rw[ki];simp),(A p).2];exact xC hq
       have E:=c1.tie p q.1 q.2 hO;refine⟨λu e _=> ?_,λu e=>absurd (aD e).1 eA⟩;have hu:u=rb q.1 q.2.1 q.2.2:=by
        rcases e with e|e
        ·exact(aD e).2.symm
        ·exact absurd (aD e).1 eA
       rw[hu,nO _ _ _ (c1.val _ _ E)];exact uB E
      ·simp at U
     ·simp at g
   ·simp at g
 ·rw[e1 p G]at hy;simp at hy
theorem Wt(Y:ln r)(i:Nat)(up:Bool):vF r (r.iL i up).1 i ν/\(((r.P i).iL up).2=0->((r.iL i up).1.P i).pe=nobody):=by
 unfold iM.iL;simp only;split
 ·rename_i h;exact⟨vF.refl _ _ _,λV=>absurd V h⟩
 ·have e:((r.P i).iL up).1.m=(r.P i).m/\((r.P i).iL up).1.pe=(r.P i).pe:=by
   unfold jw.iL;generalize kY (r.P i).L (if up=true then 0 else 1)=E;simp only;split
   ·exact⟨rfl,rfl⟩
   ·rw[(wD _ _).1,(wD _ _).2];exact⟨rfl,rfl⟩
  have k1:ln (r.iU i ((r.P i).iL up).1):=Y.iU i _ e.1 λhi=>by rw[e.2];exact Y.pe i hi
  have U:vF r (r.iU i ((r.P i).iL up).1) i ν:=vF.alike _ _ rfl rfl λj=>by
   rw[kN];split
   ·rename_i g;rw[g];exact e.2
   ·rfl
  refine⟨U.trans (wW k1 (oj.nobody k1.id.1) _ λh=>absurd rfl h),λ_=> ?_⟩;rw[(kc _ _ _ _).2.2.2,ai rfl]
def mK(a:AN)(c d:Nat):lD:=((a.R (a.e c d).1).P (a.e c d).2).pe
def Cq(x:k9):Prop:=x.length<=23/\∀k b s,x=77::k::b::s->b.toNat<=7
theorem tJ {c:UInt8} {s:List UInt8} (h:s.length<=22)(hc:c≠77):Cq (c::s):=⟨by simp only[eZ];omega,λ_ _ _ e=>absurd (aD e).1 hc⟩
structure Dx(a:AN):Prop where
 gate:∀c d,c<a.nc->d<2->(mK a c d).who≠0->(j0 a c d).st=9
 far:∀c d,c<a.nc->d<2->(mK a c d).who≠0->(mK a c d).who=((a.e c (1-d)).1:Int)+1
 kn:∀c d,c<a.nc->d<2->∀x∈a.F c d,ye (a.R (a.e c d).1) x/\Cq x
 o:∀c d,c<a.nc->d<2->(mK a c d).both=true->∀y q,(a.R (a.e c d).1).K y=μ q->(a.R (a.e c d).1).O (a.e c d).2 y=ν->yc (a.R (a.e c (1-d)).1).K y q.1 q.2
theorem ye.mono {r s:iM} (h:pv r.K s.K)(V:s.id=r.id) {x:k9} (g:ye r x):ye s x:=⟨λu e Y=>(g.1 u e Y).mono h,λu e Y=>by rw[V];exact g.2 u e Y⟩
theorem JJ(a:AN)(i:Nat)(s:iM)(j:Nat):(a.op i s).R j=if j=i then s.core else a.R j:=rfl
theorem Ah(a:AN)(i:Nat)(s:iM)(c d:Nat):mK (a.op i s) c d=if(a.e c d).1=i then(s.P (a.e c d).2).pe else mK a c d:=by
 unfold mK;rw[Sk,JJ];by_cases e:(a.e c d).1=i
 ·rw[ai e,ai e];rfl
 ·rw[af e,af e]
theorem Dx.op {a:AN} (u:tH a)(h:Dx a) {i:Nat} {s:iM} (pT:s.id=(a.R i).id)(Ok:∀j,j<a.n->(a.R j).id=(j:Int)+1) {p:Nat} {x:Option k9} (ev:vF (a.R i) s p x)(Xv:∀q,∀y∈jk (s.P q),ye s y/\Cq y)
 (hx:∀y,x=μ y->∃c d,c<a.nc/\d<2/\a.e c (1-d)=(i,p)/\ye (a.R (a.e c d).1) y)
 (hg:∀c d,c<a.nc->d<2->(a.e c d).1=i->(s.P (a.e c d).2).pe.who≠0->(s.P (a.e c d).2).L.st=9):Dx (a.op i s):=by
 have G:∀j,pv (a.R j).K ((a.op i s).R j).K:=λj=>by
  rw[JJ];by_cases e:j=i
  ·rw[ai e,e];exact ev.k
  ·rw[af e];exact pv.refl _
 have H:∀j,((a.op i s).R j).id=(a.R j).id:=λj=>by
  rw[JJ];by_cases e:j=i
  ·rw[ai e,e];exact pT
  ·rw[af e]
 have U:∀c d,c<a.nc->d<2->a.e c d=(i,p)->∀y,x=μ y->ye (a.R (a.e c (1-d)).1) y:=λc d hc hd he y hy=>by
  obtain⟨c',d',jX,kf,BQ,J⟩:=hx y hy;have:=u.ds c' (1-d') c d jX eh hc hd (BQ.trans he.symm);have GJ:d'=1-d:=eh;rw[this.1,GJ]at J;exact J
 refine⟨λc d hc hd Y=> ?_,λc d hc hd Y=> ?_,λc d hc hd y hy=> ?_,λc d hc hd hb y q E A=> ?_⟩
 ·rw[Ah]at Y;rw[Ij];by_cases e:(a.e c d).1=i
  ·rw[ai e]at Y⊢;exact hg c d hc hd e Y
  ·rw[af e]at Y⊢;exact h.gate c d hc hd Y
 ·rw[Ah]at Y⊢;rw[Sk];by_cases e:(a.e c d).1=i
  ·rw[ai e]at Y⊢;rcases ev.w _ Y with z|⟨M,s',V,Q,z4⟩
   ·rw[z]at Y⊢;have:=h.far c d hc hd;unfold mK at this;rw[e]at this;exact this Y
   ·have:=(U c d hc hd (aV e M) _ V).2 s' rfl Q;rw[<-z4,this];exact Ok _ (u.en c (1-d) hc eh).1
  ·rw[af e]at Y⊢;exact h.far c d hc hd Y
 ·rw[Sk];rw[vD]at hy;by_cases e:(a.e c d).1=i
  ·rw[ai ⟨⟨hc,hd⟩,e⟩]at hy;rcases aw.1 hy with g|g
   ·exact⟨(h.kn c d hc hd y g).1.mono (G _) (H _),(h.kn c d hc hd y g).2⟩
   ·rw[JJ,ai e];exact Xv _ y g
  ·rw[af (λz=>e z.2)]at hy;exact⟨(h.kn c d hc hd y hy).1.mono (G _) (H _),(h.kn c d hc hd y hy).2⟩
 ·rw[Sk];rw[Sk]at E A;rw[Ah]at hb;by_cases e:(a.e c d).1=i
  ·rw[ai e]at hb;rw[JJ,ai e]at E A;rcases ev.o _ hb y q E A with⟨M,V,Q⟩|⟨M,s',V,Q,z4,z5⟩
   ·have:=h.o c d hc hd;unfold mK at this;rw[e]at this;exact(this M y q V Q).mono (G _)
   ·have J:yc (a.R (a.e c (1-d)).1).K (il s').1 (il s').2.1 (il s').2.2.1:=by
     rcases V with V|V
     ·exact(U c d hc hd (aV e M) _ V).1 s' (.inl rfl) Q
     ·exact(U c d hc hd (aV e M) _ V).1 s' (.inr rfl) Q
    rw[z4]at J;exact(J.trans z5).mono (G _)
  ·rw[af e]at hb;rw[JJ,af e]at E A;exact(h.o c d hc hd hb y q E A).mono (G _)
theorem Dx.lost(h:Dx a)(hl:wO a b):Dx b:=by
 have hs:∀c d,(b.F c d).Sublist (a.F c d):=λc d=>by
  obtain⟨m,J⟩:=hl.2 c d;rw[J];exact List.take_sublist _ _
 have V:b.nc=a.nc:=by rw[hl.1]
 have Y:b.e=a.e:=by rw[hl.1]
 have U:b.R=a.R:=by rw[hl.1]
 have Q:∀c d,mK b c d=mK a c d:=λc d=>by unfold mK;rw[Y,U]
 have M:∀c d,j0 b c d=j0 a c d:=λc d=>by unfold j0;rw[Y,U]
 refine⟨λc d=> ?_,λc d=> ?_,λc d hc hd x hx=> ?_,λc d=> ?_⟩
 ·rw[V,Q,M];exact h.gate c d
 ·rw[V,Q,Y];exact h.far c d
 ·rw[Y,U];exact h.kn c d (by rw[<-V];exact hc) hd x ((hs c d).mem hx)
 ·rw[V,Q,Y,U];exact h.o c d
theorem Dx.less(h:Dx a)(V:b.nc=a.nc)(Y:b.e=a.e)(U:b.R=a.R)(hs:∀c d,∀x∈b.F c d,x∈a.F c d):Dx b:=by
 have Q:∀c d,mK b c d=mK a c d:=λc d=>by unfold mK;rw[Y,U]
 have M:∀c d,j0 b c d=j0 a c d:=λc d=>by unfold j0;rw[Y,U]
 refine⟨λc d=> ?_,λc d=> ?_,λc d hc hd x hx=> ?_,λc d=> ?_⟩
 ·rw[V,Q,M];exact h.gate c d
 ·rw[V,Q,Y];exact h.far c d
 ·rw[Y,U];exact h.kn c d (by rw[<-V];exact hc) hd x (hs c d x hx)
 ·rw[V,Q,Y,U];exact h.o c d
theorem SF {code id:Int} {os:List jE} (h:jS code id os=0):os.length<=8:=by
 unfold jS at h;split at h
 ·simp at h
 ·split at h
  ·simp at h
  ·omega
theorem Dy(h:oy own seq es=0):(rb own seq es).length<=16:=by
 have:=(jt h).2.2.1;unfold rb;simp only[eZ,yh];omega
theorem Zo(q:kM):∀x∈oo q,Cq x:=λx hx=>by
 unfold oo at hx;split at hx
 ·rename_i g
  rw[au.1 hx];have:=SF g.1;refine tJ ?_ eA;unfold mD;simp only[eZ,rT];omega
 ·simp at hx
theorem Fw {l:List kM} (h:x∈l.flatMap oo):Cq x:=by
 obtain⟨q,_,hx⟩:=aT.1 h;exact Zo q x hx
theorem Zq(h:Fh r i x p l)(hx:Cq x):∀y∈l,Cq y:=λy hy=>by
 cases h with
 |none h=>rw[h]at hy;simp at hy
 |link s _ _ _ h=>rw[h]at hy;exact Fw hy
 |heard s _ _ _ Y _ _ _ h=>
  rw[h]at hy;rw[au.1 hy];have hv:oy (il s).1 (il s).2.1 (il s).2.2.1=0:=pO (by rw[<-Y]);have:=Dy hv;exact tJ eh eA
 |JA a b s hs h9 h1 hl h=>
  rw[h]at hy;rw[au.1 hy];refine⟨by simp only[eZ];omega,λk c u e=> ?_⟩;have V:=(aD (aD (aD e).2).2).1;have hb:=hx.2 a b s hs;rw[<-V];have:=nD ((b.toNat:Int)-1) eh (by have:=b.toNat_lt;omega);omega
theorem Zr(M:J2 r)(Q:Own (r.iV i)):∀p,∀y∈jk ((r.iV i).P p),Cq y:=λp y hy=>by
 obtain⟨H,A⟩:=xB M i;by_cases U:p=i
 ·subst U;rw[A]at hy;rcases aw.1 hy with g|g
  ·exact Fw g
  ·split at g
   ·rename_i J
    rcases aP.1 g with g|g
    ·rw[g];exact tJ gY eA
    ·split at g
     ·obtain⟨q,G,Y⟩:=aT.1 g;unfold Dv at Y;split at Y
      ·rw[au.1 Y];have E:((jb r p).P p).L.st=9:=by
        unfold jb;rw[kN,ai rfl,sN];exact J
       have V:(r.iV p).O p q.1=μ q.2:=by
        rw[k7,af (by rw[E];simp),(lR r p p).2];exact xC G
       have:=Dy (Q.val _ _ (Q.tie p q.1 q.2 V));exact tJ eh eA
      ·simp at Y
     ·simp at g
   ·simp at g
 ·rw[H p U]at hy;simp at hy
theorem Dx.nI {a:AN} (M:tH a)(J:Norm a)(h:Dx a) {B N:Nat} (G:vE B N a) {c d:Nat} (hc:c<a.nc)(hd:d<2)(up:Bool)(U:(kY (j0 a c d) (if up=true then 0 else 1)).2.2=0):Dx (a.nI c d up):=by
 obtain⟨hi,hp⟩:=M.en c d hc hd;obtain⟨a1,a2,a3,a4,a5⟩:=G.r _ hi;obtain⟨ev,oP⟩:=Wt a2 (a.e c d).2 up;obtain⟨e1,e2,H⟩:=JB (J.emp (a.e c d).1) (a.e c d).2 up U;have Q:=PR (J.emp (a.e c d).1) (a.e c d).2 up;have Y:∀q,(((a.R (a.e c d).1).iL (a.e c d).2 up).1.P q).pe=if q=(a.e c d).2 then nobody else((a.R (a.e c d).1).P q).pe:=λq=>by
  rw[H,(kc _ _ _ _).2.2.2];by_cases g:q=(a.e c d).2
  ·rw[ai g,ai g]
  ·rw[af g,af g,kN,af g]
 have hL:∀q,q≠(a.e c d).2->(((a.R (a.e c d).1).iL (a.e c d).2 up).1.P q).L=((a.R (a.e c d).1).P q).L:=λq Q=>by
  rw[H,(kc _ _ _ _).2.1,kN,af Q]
 refine h.op M (JC _ _ _).1 (λj hj=>(G.r j hj).2.2.2.1) ev (λq y hy=> ?_) (λy hy=>absurd hy gY) λc' d' A E he V=> ?_
 ·obtain⟨u,rfl⟩:=Q q y hy;refine⟨rE _ u eA eA eA,?_⟩;by_cases g:q=(a.e c d).2
  ·rw[g,e2]at hy;exact Fw hy
  ·rw[e1 q g]at hy;simp at hy
 ·by_cases g:(a.e c' d').2=(a.e c d).2
  ·rw[g,Y,ai rfl]at V;exact absurd rfl V
  ·rw[Y,af g]at V;rw[hL _ g];have:=h.gate c' d' A E;unfold mK j0 at this;rw[he]at this;exact this V
theorem Dx.iL {a:AN} (hB:tH a)(hN:Norm a)(h:Dx a) {B N:Nat} (M:vE B N a)(hl:N<1000000) {c:Nat} (hc:c<a.nc)(up:Bool)(U:∀d,d<2->(kY (j0 a c d) (if up=true then 0 else 1)).2.2=0):Dx (a.iL c up):=by
 obtain⟨b,hb⟩:=gg ((({a with iQ:=jU a.iQ c up}:AN).lv c 0 []).lv c 1 []);have H:tH b:=hB.same (by rw[<-hb];rfl) (by rw[<-hb];rfl) (by rw[<-hb];rfl);have J:Norm b:=by rw[<-hb];exact hN
 have Q:c<b.nc:=by rw[<-hb];exact hc
 have E:∀c' d',j0 b c' d'=j0 a c' d':=λc' d'=>by rw[<-hb];rfl
 have xf:Dx b:=h.less (by rw[<-hb];rfl) (by rw[<-hb];rfl) (by rw[<-hb];rfl) λx f y hy=>by
  rw[<-hb]at hy;have Y:y∈(if x=c/\f=1 then []else if x=c/\f=0 then []else a.F x f):=hy;split at Y
  ·simp at Y
  ·split at Y
   ·simp at Y
   ·exact Y
 have V:∃C,vE C N b:=by
  have w1:=Du {a with iQ:=jU a.iQ c up} sw c 0;have w2:=Du (({a with iQ:=jU a.iQ c up}:AN).lv c 0 []) sw c 1;have w3:=M.b;rw[hb]at w2;have e1:({a with iQ:=jU a.iQ c up}:AN).W sw=a.W sw:=rfl;refine⟨B,by rw[<-hb];exact M.r,λx f hx hf y hy=> ?_,?_,M.one,by rw[<-hb];exact M.ms⟩
  ·rw[<-hb]at hy hx;have Y:y∈(if x=c/\f=1 then []else if x=c/\f=0 then []else a.F x f):=hy;split at Y
   ·simp at Y
   ·split at Y
    ·simp at Y
    ·exact M.f x f hx hf y Y
  ·have Y:sm (λi=>qW (b.R i)) (List.range b.n)=sm (λi=>qW (a.R i)) (List.range a.n):=by rw[<-hb];rfl
   omega
 obtain⟨C,V⟩:=V;have f0:=wV H J Q (by decide:0<2) up (by rw[E];exact U 0 eA);have u:=xf.nI H J V Q (by decide:0<2) up (by rw[E];exact U 0 eA);obtain⟨D,G⟩:=Bv H J V hl Q (by decide:0<2) up;have A:=(f0 c 1 Q eA).1 eh;have j:=u.nI (a:=b.nI c 0 up) (H.same rfl rfl rfl) (qV J _ _) G Q (by decide:1<2) up (by rw[A.1,E];exact U 1 eA);unfold AN.iL;rw[hb];exact j
theorem mQ.aaV(s:mQ a T S b)(Q:tH a)(H:Norm a)(U:vE B N a)(hl:N<1000000)(E:qX X t a)(h:Dx a):Dx b:=by
 have Ok:∀j,j<a.n->(a.R j).id=(j:Int)+1:=λj hj=>(U.r j hj).2.2.2.1;have hBl:=U.b;have M:∀c d,c<a.nc->d<2->a.iQ c=true->Oe ((a.R (a.e c d).1).P (a.e c d).2):=λc d hc hd hi=>by
  have p:=E.tL hc hd hi;have h6:=p.lu;have h9:=p.l.st;refine⟨?_,h.gate c d hc hd⟩;show uv (j0 a c d).st=true;unfold uv;simp only[Bool.or_eq_true,beq_iff_eq,Bool.and_eq_true,decide_eq_true_eq];omega
 have tS:∀c d,c<a.nc->d<2->pj (a.iQ c) ((a.R (a.e c d).1).P (a.e c d).2):=λc d hc hd=>by
  cases hi:a.iQ c
  ·exact⟨by rw[af gY];exact(E.dn c hc hi d hd).2.1,h.gate c d hc hd⟩
  ·exact pj.up.2 (M c d hc hd hi)
 cases s with
 |lost hl=>exact h.lost hl
 |tick i p hi A=>
  obtain⟨a1,a2,a3,a4,a5⟩:=U.r i hi;obtain⟨ev,hk⟩:=SE (H.emp i) a1 a2 a3 eh A a5;obtain⟨C,c1,_⟩:=Bu a1 a2 a3 eh A a5;have iN:=Zr (H.emp i) c1;refine h.op Q (jH.iV (a.R i) p).id Ok ev (λq y hy=>⟨hk q y hy,iN q y hy⟩) (λy hy=>absurd hy gY) λc d hc hd G Y=> ?_;have hE:=tS c d hc hd;rw[G]at hE;by_cases e:(a.e c d).2=p
  ·rw[e]at hE Y⊢;exact(H6 p hE).1.gate Y
  ·have hLq:(((a.R i).iV p).P (a.e c d).2).L=((a.R i).P (a.e c d).2).L:=by rw[Bw,af e]
   have hPq:(((a.R i).iV p).P (a.e c d).2).pe=((a.R i).P (a.e c d).2).pe:=by
    rw[k7];split
    ·rw[(kc _ _ _ _).2.2.2,af e];exact(lR _ _ _).2
    ·rw[((pG _ _).2.2.2.2 _).2.1,(kc _ _ _ _).2.2.2,af e];exact(lR _ _ _).2
   rw[hLq];rw[hPq]at Y;exact hE.gate Y
 |pop c d x l hc hd hF=>
  obtain⟨hi,A⟩:=Q.en c (1-d) hc eh;obtain⟨a1,a2,a3,a4,a5⟩:=U.r _ hi;have Wu:x∈a.F c d:=by rw[hF];simp
  have kP:=E.yW hc hd Wu;obtain⟨ev,hk⟩:=SD (H.emp (a.e c (1-d)).1) a2 (a.e c (1-d)).2 x;obtain⟨m1,_⟩:=qo (H.emp (a.e c (1-d)).1) (a.e c (1-d)).2 x;have vN:Dx (a.lv c d l):=h.less rfl rfl rfl λy f z hz=>by
   rw[sO]at hz;split at hz
   ·rename_i e;rw[e.1,e.2,hF];simp[hz]
   ·exact hz
  unfold AN.pop;refine vN.op (a:=a.lv c d l) (Q.same rfl rfl rfl) (L5 a2 _ x).2.1 Ok ev (λq y hy=>⟨hk q y hy,Zq (m1 q) (h.kn c d hc hd x Wu).2 y hy⟩) (λy hy=>⟨c,d,hc,hd,rfl,?_⟩) λc' d' jX V G Y=> ?_
  ·injection hy with hy;rw[<-hy];exact(h.kn c d hc hd x Wu).1
  ·have hG:=H5 (r:=a.R (a.e c (1-d)).1) (a.e c (1-d)).2;cases x with
   |nil=>
    have:=h.gate c' d' jX V;unfold mK j0 at this;rw[show(a.e c' d').1=(a.e c (1-d)).1 from G]at this;exact this Y
   |cons k u=>
    obtain⟨g1,g2⟩:=hG k u (M c (1-d) hc eh kP);by_cases e:(a.e c' d').2=(a.e c (1-d)).2
    ·have e':((a.lv c d l).e c' d').2=(a.e c (1-d)).2:=e;rw[e']at Y⊢;exact g1.2 Y
    ·obtain⟨z1,z2⟩:=g2 _ e;have:=h.gate c' d' jX V;unfold mK j0 at this;rw[show(a.e c' d').1=(a.e c (1-d)).1 from G]at this;have hw':(((a.R (a.e c (1-d)).1).take (a.e c (1-d)).2 k u).P (a.e c' d').2).pe.who≠0:=Y;rw[z2]at hw';show(((a.R (a.e c (1-d)).1).take (a.e c (1-d)).2 k u).P (a.e c' d').2).L.st=9;rw[z1];exact this hw'
 |send i t tx hi ht1 ht6 hlen=>
  obtain⟨s1,s2,s3,s4,s5⟩:=np (a.R i) (t,8,tx);obtain⟨j,g1,g2⟩:=Dw (H.emp i) (t,8,tx);refine h.op Q s3 Ok (vF.alike 0 ν s1 s2 λj=>(s5 j).2.1) (λq y hy=> ?_) (λy hy=>absurd hy gY) λc d hc hd G Y=> ?_
  ·by_cases e:q=j
   ·subst e;rcases g2 with g|⟨_,g⟩
    ·rw[g]at hy;simp at hy
    ·rw[g]at hy;rw[au.1 hy];refine⟨rE _ _ eA eA eA,by simp only[eZ];omega,λk b u e=> ?_⟩;rw[<-(aD (aD (aD e).2).2).1];show(jY ((8:Int)-1)).toNat<=7;decide
   ·rw[g1 q e]at hy;simp at hy
  ·rw[(s5 _).2.1]at Y;rw[(s5 _).2.2];have:=h.gate c d hc hd;unfold mK j0 at this;rw[G]at this;exact this Y
 |iL c hc hi _ _=>exact h.iL Q H U hl hc true λd hd=>(Ef (E.dn c hc hi d hd).2.1).1
 |draw c hc hi=>exact h.iL Q H U hl hc false λd hd=>(tG (M c d hc hd hi).1).1
 |anew i m hi hd=>
  obtain⟨b,hb⟩:=gg (({a with R:=jU a.R i (jN ((i:Int)+1) 3 (a.ms i)),ib:=jU a.ib i ((a.ib i).take m)}:AN));rw[hb];have e1:b.nc=a.nc:=by rw[<-hb]
  have e3:b.e=a.e:=by rw[<-hb]
  have e4:b.F=a.F:=by rw[<-hb]
  have hR:∀j,b.R j=if j=i then jN ((i:Int)+1) 3 (a.ms i)else a.R j:=λj=>by rw[<-hb];rfl
  have oP:∀c d,mK b c d=if(a.e c d).1=i then nobody else mK a c d:=λc d=>by
   unfold mK;rw[e3,hR];by_cases e:(a.e c d).1=i
   ·rw[ai e,ai e];rfl
   ·rw[af e,af e]
  have pB:∀c d,(a.e c d).1≠i->j0 b c d=j0 a c d:=λc d e=>by unfold j0;rw[e3,hR,af e]
  have ll:∀c d,c<a.nc->d<2->(a.e c (1-d)).1=i->(mK a c d).both=false:=λc d hc V e=>by
   have kP:=(hd c (1-d) hc eh e).1;have ki:=(E.dn c hc kP d V).2.1;have Y:(mK a c d).who=0:=by
    by_cases g:(mK a c d).who=0
    ·exact g
    ·have:=h.gate c d hc V g;omega
   have hx:=Q.en c d hc V;have A:=(U.r _ hx.1).2.1.pe (a.e c d).2 (by rw[(U.r _ hx.1).2.2.2.2];exact hx.2);cases hb:(mK a c d).both
   ·rfl
   ·have:=A.both hb;unfold mK at Y;omega
  refine⟨λc d hc V Y=> ?_,λc d hc V Y=> ?_,λc d hc V x hx=> ?_,λc d hc V J y q h1 h2=> ?_⟩
  ·rw[e1]at hc;rw[oP]at Y;by_cases e:(a.e c d).1=i
   ·rw[ai e]at Y;exact absurd rfl Y
   ·rw[af e]at Y;rw[pB c d e];exact h.gate c d hc V Y
  ·rw[e1]at hc;rw[oP]at Y⊢;rw[e3];by_cases e:(a.e c d).1=i
   ·rw[ai e]at Y;exact absurd rfl Y
   ·rw[af e]at Y⊢;exact h.far c d hc V Y
  ·rw[e1]at hc;rw[e4]at hx;rw[e3];by_cases e:(a.e c d).1=i
   ·obtain⟨_,f0,f1⟩:=hd c d hc V e;have:d=0 \/d=1:=eh;rcases this with rfl|rfl
    ·rw[f0]at hx;simp at hx
    ·rw[f1]at hx;simp at hx
   ·rw[hR,af e];exact h.kn c d hc V x hx
  ·rw[e1]at hc;rw[oP]at J;rw[e3]at h1 h2⊢;by_cases e:(a.e c d).1=i
   ·rw[ai e]at J;exact absurd J (by simp[nobody])
   ·rw[af e]at J;rw[hR,af e]at h1 h2;by_cases e2:(a.e c (1-d)).1=i
    ·rw[ll c d hc V e2]at J;exact absurd J gY
    ·rw[hR,af e2];exact h.o c d hc V J y q h1 h2
structure Inv(N:Nat)(t:Nat×Nat->Nat)(a:AN):Prop where
 qP:tH a
 nrm:Norm a
 own:∃B,vE B N a
 lk:∃X,qX X t a
 fl:Dx a
theorem Inv.step(s:mQ a T S b)(h:Inv N t a)(hl:N<1000000)(U:∀x,t x<=126):Inv (N+8*T.length) (qu t T) b:=by
 obtain⟨B,V⟩:=h.own;obtain⟨X,Y⟩:=h.lk;exact⟨h.qP.same s.same.1 s.same.2.1 s.same.2.2.1,s.norm h.nrm,s.own h.qP h.nrm V hl,s.links h.qP h.nrm Y U,s.aaV h.qP h.nrm V hl Y h.fl⟩
theorem Inv.path(s:jT a T S b)(h:Inv N t a)(hl:N+8*T.length<1000000)(Y:∀x,qu t T x<=126):Inv (N+8*T.length) (qu t T) b:=by
 induction s with
 |nil=>rw[pq];exact h
 |snoc p s ih=>
  rw[Cp]at Y⊢;rw[aA]at hl⊢;have V:=ih eh λx=>Nat.le_trans (Nat.le_add_right _ _) (Y x);have U:=V.step s eh λx=>Nat.le_trans (Nat.le_add_right _ _) (Y x);have e:∀x y:Nat,N+8*(x+y)=N+8*x+8*y:=λx y=>eh;rw[e];exact U
theorem vE.mono {M:Nat} (h:vE B N a)(Y:N<=M):vE B M a:=⟨h.r,h.f,Nat.le_trans h.b Y,h.one,h.ms⟩
theorem Inv.mono {N M:Nat} {t u:Nat×Nat->Nat} {a:AN} (h:Inv N t a)(Q:N<=M)(U:∀x,t x<=u x):Inv M u a:=by
 obtain⟨B,Y⟩:=h.own;obtain⟨X,V⟩:=h.lk;exact⟨h.qP,h.nrm,⟨B,Y.mono Q⟩,⟨X,V.mono U⟩,h.fl⟩
theorem Inv.act(hF:jA y)(Q:GN y)(J:j3 y D 0)(V:D<=800000000)(h:Inv N (λ_=>k) (iH y))(hl:N+144<1000000)(M:k+1<=126)(v:AV):Inv (N+144) (λ_=>k+1) (iH (tg y v)):=by
 obtain⟨T,Y,U⟩:=LY hF Q J V v;have hlen:=Y.len;exact(h.path U eh λx=>Nat.le_trans (nK Y.nd k x) M).mono eh (nK Y.nd k)
def Deep(t:Nat×Nat->Nat)(a:AN)(D:Nat->Nat->Nat):Prop:=∃X,qX X t a/\∀c d,c<a.nc->d<2->∀x∈a.F c d,xO (X c d) x<=D c d
theorem Zs(X:Int->Bool)(x:k9):1<=xO X x:=by
 unfold xO;cases Cn 1 x with
 |some i=>simp only;split<;>decide
 |none=>
  simp only;split<;>omega
theorem yS.deep(h:yS c d l a b)(A:tH a)(j:Norm a)(ht:∀x,t x<=127)(H:qX X t a)(hc:c<a.nc)(hd:d<2)(rest:List k9)(hF:a.F c d=l++rest)(k:Nat)(E:∀x∈l,xO (X c d) x<=k+1):
 ∃Y,qX Y t b/\∀c' d',c'<a.nc->d'<2->∃u,Mc X Y a b c' d' (if c'=c/\d'=d then rest else a.F c' d') u/\∀y∈u,xO (Y c' d') y<=k:=by
 induction h generalizing X rest with
 |nil a=>
  refine⟨X,H,λc' d' _ _=>⟨[],⟨?_,λ_ _=>⟨rfl,rfl⟩⟩,λ_ h=>by simp at h⟩⟩;rw[aC];split
  ·rename_i e;rw[e.1,e.2,hF];rfl
  ·rfl
 | @cons a b x l r h1 h2 h3 h4 ih=>
   have Q:r=l++rest:=by rw[hF]at h3;exact(aD h3).2.symm
   obtain⟨Y,hY,pp⟩:=H.pop A j ht hc hd h3;have tX:(a.pop c d x r).nc=a.nc:=rfl;obtain⟨U,V,de0⟩:=pp.fl c d hc hd;rw[ai ⟨rfl,rfl⟩]at V;have hx:=E x gY;have Sl:(a.pop c d x r).F c d=l++(rest++U):=by rw[V.f,Q,aE]
   obtain⟨Z,hZ,q⟩:=ih (A.same rfl rfl rfl) (qV (a:=a.lv c d r) j _ _) hY hc (rest++U) Sl λy hy=>by
    rw[(V.o y (by rw[Q];simp[hy])).1];exact E y (by simp[hy])
   refine⟨Z,hZ,λc' d' jX J=> ?_⟩;obtain⟨e1,f1,g1⟩:=q c' d' jX J;obtain⟨M,f2,G⟩:=pp.fl c' d' jX J;by_cases e:c'=c/\d'=d
   ·rw[ai e]at f1 f2⊢;obtain⟨z1,z2⟩:=e;subst z1 z2;have he:M=U:=by
     have:=f2.f.symm.trans V.f;exact List.append_cancel_left this
    subst he;refine⟨M++e1,⟨by rw[f1.f,aE],λy hy=> ?_⟩,λy hy=> ?_⟩
    ·have o1:=f1.o y (by simp[hy]);have o2:=f2.o y (by rw[Q];simp[hy]);exact⟨o1.1.trans o2.1,o1.2.trans o2.2⟩
    ·rcases aw.1 hy with g|g
     ·rw[(f1.o y (by simp[g])).1];have:=G y g;omega
     ·exact g1 y g
   ·rw[af e]at f1 f2⊢;refine⟨M++e1,⟨by rw[f1.f,f2.f,aE],λy hy=> ?_⟩,λy hy=> ?_⟩
    ·have o1:=f1.o y (by rw[f2.f];simp[hy]);have o2:=f2.o y hy;exact⟨o1.1.trans o2.1,o1.2.trans o2.2⟩
    ·rcases aw.1 hy with g|g
     ·rw[(f1.o y (by rw[f2.f];simp[g])).1];have:=G y g;omega
     ·exact g1 y g
theorem Deep.lost {t:Nat×Nat->Nat} {a b:AN} {D:Nat->Nat->Nat} (h:Deep t a D)(hl:wO a b):Deep t b D:=by
 obtain⟨X,Y,U⟩:=h;refine⟨X,Y.lost hl,λc d hc hd x hx=>U c d (by rw[hl.1]at hc;exact hc) hd x ?_⟩;obtain⟨m,V⟩:=hl.2 c d;rw[V]at hx;exact dh hx
structure Full(y:iP)(c d:Nat)(y':iP):Prop where
 ps:yS c d ((iH y).F c d) (iH y) (iH (y.jo c d ((y.C c).on d).length))/\wO (iH (y.jo c d ((y.C c).on d).length)) (iH y')/\(Room (y.jo c d ((y.C c).on d).length)->iH y'=iH (y.jo c d ((y.C c).on d).length))
 rv:∀x f,x<y.nc->f<2->jW (y.jo c d ((y.C c).on d).length) x f=(if x=c/\f=d then lH else jW y x f)/\((y.jo c d ((y.C c).on d).length).C x).on f=if x=c/\f=d then []else(y.C x).on f
 rd:∀x f,x<y.nc->f<2->jW y' x f=if x=c/\f=d then lH else jW y x f
 on:∀x f,x<y.nc->f<2->∃ps:List k9,(∀p∈ps,yb p)/\(y'.C x).on f=(if x=c/\f=d then []else(y.C x).on f)++ps.flatMap Plain.lL
theorem Bz {y1:iP} (G:jA y1)(x f:Nat)(hx:x<y1.nc)(hf:f<2):jW y1.gather x f=jW y1 x f/\∃ps:List k9,(∀p∈ps,yb p)/\(y1.gather.C x).on f=(y1.C x).on f++ps.flatMap Plain.lL:=by
 have Y:∀k,k<=y1.nc->(∀x f,x<y1.nc->f<2->jW (y1.j2 k) x f=jW y1 x f/\∃ps:List k9,(∀p∈ps,yb p)/\((y1.j2 k).C x).on f=(y1.C x).on f++ps.flatMap Plain.lL):=λk=>by
  induction k with
  |zero=>intro _ x f _ _;exact⟨rfl,[],λ_ h=>by simp at h,by show(y1.C x).on f=_;simp⟩
  |succ k ih=>
   intro hk x f hx hf;have one:∀(z:iP) (i:Nat),jA z->i<2->z.nc=y1.nc->jW (z.kZ k i) x f=jW z x f/\∃ps:List k9,(∀p∈ps,yb p)/\((z.kZ k i).C x).on f=(z.C x).on f++ps.flatMap Plain.lL:=λz i A hi RU=>by
    refine⟨?_,?_⟩
    ·unfold jW;rw[((mW z k i).2.2.2.2 x).1,Bh];split<;>rfl
    ·rw[Dr];split
     ·rename_i e
      obtain⟨ps,Q⟩:=A.o ((z.C k).e i).1 ((z.C k).e i).2;exact⟨ps,Q.2,by rw[e.1,e.2.1,Q.1]⟩
     ·exact⟨[],λ_ h=>by simp at h,gY⟩
   have U:=jA.j2 G k eh;have V:(y1.j2 k).nc=y1.nc:=(j4 y1 k).2.1;obtain⟨i1,p1,j,H⟩:=ih eh x f hx hf;obtain⟨E,p2,a2,u⟩:=one (y1.j2 k) 0 U eA V;obtain⟨b1,p3,b2,b3⟩:=one ((y1.j2 k).kZ k 0) 1 (U.kZ k 0 (by rw[V];omega)) eA V;refine⟨b1.trans (E.trans i1),p1++p2++p3,λp hp=> ?_,?_⟩
   ·rcases aw.1 hp with g|g
    ·exact(aw.1 g).elim (j p) (a2 p)
    ·exact b2 p g
   ·show(((y1.j2 k).kZ k 0).kZ k 1|>.C x).on f=_;rw[b3,u,H];simp
 have M:∀x f,jW ((y1.j2 y1.nc).mZ y1.n) x f=jW (y1.j2 y1.nc) x f/\(((y1.j2 y1.nc).mZ y1.n).C x).on f=((y1.j2 y1.nc).C x).on f:=λx f=>by
  obtain⟨_,_,_,J⟩:=nY (y1.j2 y1.nc) y1.n;refine⟨?_,by rw[J]⟩;unfold jW;rw[J,(wH (y1.j2 y1.nc) _ y1.n).1];split<;>rfl
 unfold iP.gather;rw[(M x f).1,(M x f).2];exact Y y1.nc (Nat.le_refl _) x f hx hf
theorem uX(hF:jA y)(G:j3 y D 0)(hD:D<=900000000)(hc:c<y.nc)(hd:d<2):Full y c d (y.deliver c d 2000).1:=by
 have A:=G.oI;have hlen:=G.ol c d hc hd;have he:(y.deliver c d 2000).1=(y.jo c d ((y.C c).on d).length).gather:=by
  unfold iP.deliver;rw[af eh];show(y.jo ((c:Int)).toNat ((d:Int)).toNat (min (2000:Int).toNat ((y.C ((c:Int)).toNat).on ((d:Int)).toNat).length)).gather=_;rw[Int.toNat_natCast,Int.toNat_natCast,Nat.min_eq_right (by show _<=2000;exact hlen)]
 rw[he];obtain⟨l,rest,h1,h2,h3⟩:=Fb hF A c d ((y.C c).on d).length hc hd;have hq:=hF.q c d hc hd;have ho:=G.Ze c d hc hd;have Wc:tT y c d=(kx (jW y c d) ((y.C c).on d)).1:=by unfold tT;rw[jz ho,aC]
 have hl:l=(kx (jW y c d) ((y.C c).on d)).1:=by rw[h2,cr]
 have hr:rest=[] :=by
  rw[Wc,<-hl]at h1;have:=congrArg List.length h1;rw[aA]at this;exact aI eh
 have U:(iH y).F c d=l:=by
  show(if c<y.nc/\d<2 then tT y c d else [])=_;rw[ai ⟨hc,hd⟩,Wc,hl]
 have hp:=ade l [] (iH y) c d (wP y) hc hd (by rw[U,aC]);have kX:=G.jo (q:=((y.C c).on d).length) eh hc hd;have H:=hF.jo A c d ((y.C c).on d).length hc hd;have hg:=pF H kX.oI;obtain⟨V,Y⟩:=gg (y.jo c d ((y.C c).on d).length);obtain⟨s1,s2,s3,s4⟩:=ry y c d ((y.C c).on d).length;have Q:∀x e,(V.C x).on e=if x=c/\e=d then []else(y.C x).on e:=λx e=>by
  rw[<-Y];show((if x=c then {y.C c with on:=jU (y.C c).on d (((y.C c).on d).drop ((y.C c).on d).length)}else y.C x):qA).on e=_;by_cases ex:x=c
  ·rw[ai ex];show jU (y.C c).on d _ e=_;by_cases ed:e=d
   ·rw[ed,iE,ai ⟨ex,rfl⟩,List.drop_length]
   ·rw[iC _ _ ed,af (λh=>ed h.2),ex]
  ·rw[af ex,af (λh=>ex h.1)]
 have M:∀x f,x<y.nc->f<2->jW V x f=if x=c/\f=d then lH else jW y x f:=λx f hx hf=>by
  obtain⟨g1,u,_⟩:=H9 (y.R ((y.C c).e (1-d)).1) ((y.C c).e (1-d)).2 (((y.C c).on d).take ((y.C c).on d).length);have hR:∀j,V.R j=if j=((y.C c).e (1-d)).1 then(y.R ((y.C c).e (1-d)).1).recv ((y.C c).e (1-d)).2 (((y.C c).on d).take ((y.C c).on d).length)else y.R j:=λj=>by rw[<-Y];rfl
  unfold jW;rw[show(V.C x).e=(y.C x).e by rw[<-Y];exact(s4 x).1,hR];by_cases e:x=c/\f=d
  ·rw[ai e,e.1,e.2,ai rfl,g1,cr];have:=hq.1;unfold jW at this;rw[this]
  ·rw[af e];by_cases J:((y.C x).e (1-f)).1=((y.C c).e (1-d)).1
   ·rw[ai J,u _ (λe3=> ?_),J];have:=A.ds x (1-f) c (1-d) hx eh hc eh (aV J e3);exact e ⟨this.1,eh⟩
   ·rw[af J]
 rw[hr]at h3;rw[Y]at h3 H kX hg⊢;have mM:V.nc=y.nc:=by rw[<-Y];exact s2
 have E:yS c d l (iH y) (iH V):=by rw[h3];exact hp
 refine⟨by rw[U,Y];exact⟨E,hg.1,hg.2⟩,λx f hx hf=>by rw[Y];exact⟨M x f hx hf,Q x f⟩,λx f hx hf=> ?_,λx f hx hf=> ?_⟩
 ·rw[(Bz H x f (by rw[mM];exact hx) hf).1];exact M x f hx hf
 ·obtain⟨_,ps,g1,u⟩:=Bz H x f (by rw[mM];exact hx) hf;exact⟨ps,g1,by rw[u,Q]⟩
theorem Full.deep {y y':iP} {c d:Nat} (h:Full y c d y')(H:tH (iH y))(hc:c<y.nc)(hd:d<2) {t:Nat×Nat->Nat} (J:∀x,t x<=127) {D:Nat->Nat->Nat} {k:Nat} (hk:∀x f,D x f<=k+1)(G:∀x f,k<=D x f)(g:Deep t (iH y) D):Deep t (iH y') λx f=>if x=c/\f=d then k else D x f:=by
 obtain⟨z,j⟩:=gg (iH (y.jo c d ((y.C c).on d).length));obtain⟨Q,M,_⟩:=h.ps;rw[j]at Q M;obtain⟨X,A,V⟩:=g;obtain⟨Y,hY,q⟩:=Q.deep H (wP y) J A hc hd [] (by rw[aC]) k λx hx=>Nat.le_trans (V c d hc hd x hx) (hk c d);have E:z.nc=y.nc:=Q.path.same.2.1;refine Deep.lost ⟨Y,hY,λx f hx hf p U=> ?_⟩ M;rw[E]at hx;obtain⟨em,f1,g1⟩:=q x f hx hf;rw[f1.f]at U;show xO (Y x f) p<=if x=c/\f=d then k else D x f
 by_cases e:x=c/\f=d
 ·rw[ai e];rw[ai e]at U;exact g1 p (by simpa using U)
 ·rw[af e];rw[af e]at U f1;rcases aw.1 U with u|u
  ·rw[(f1.o p u).1];exact V x f hx hf p u
  ·exact Nat.le_trans (g1 p u) (G x f)
def uY(y:iP)(x f:Nat):Prop:=jW y x f=lH/\∃ps,Frames ((y.C x).on f) ps
theorem Full.rest {y':iP} (h:Full y c d y') {x f:Nat} (hx:x<y.nc)(hf:f<2)(g:(x=c/\f=d) \/uY y x f):uY y' x f:=by
 have V:=h.rd x f hx hf;obtain⟨ps,Y,M⟩:=h.on x f hx hf;unfold uY;rw[V,M];by_cases e:x=c/\f=d
 ·rw[ai e,ai e];exact⟨rfl,ps,rfl,Y⟩
 ·rw[af e,af e];obtain⟨g1,qs,U,J⟩:=g.resolve_left e;exact⟨g1,qs++ps,by rw[U,cu],λp Q=>(aw.1 Q).elim (J p) (Y p)⟩
theorem Fx {y:iP} {Z:Nat} (hF:jA y)(V:j3 y Z 0)(M:Z<=890000000) {t:Nat×Nat->Nat} (Q:∀x,t x<=127)(k:Nat)(g:Deep t (iH y) λ_ _=>k+1):∀q,q<=y.nc->Deep t (iH (y.jO q)) (λx _=>if x<q then k else k+1)/\∀x f,x<q->f<2->uY (y.jO q) x f
 |0,_=>⟨by simp only[Nat.not_lt_zero,if_false];exact g,λx f h=>eh⟩
 |q+1,hq=>by
  have c9:=V.c9;obtain⟨E,r1⟩:=Fx hF V M Q k g q eh;have f1:=jA.jO hF V M q eh;have k1:=V.jO M q eh;have n1:(y.jO q).nc=y.nc:=(lQ y q).2.1;have d1:=uX f1 k1 eh (c:=q) (d:=0) (by rw[n1];omega) eA;have f2:=f1.deliver k1 (q:Int) 0 2000;have k2:=k1.deliver eh (q:Int) 0 2000;have J:((y.jO q).deliver (q:Int) 0 2000).1.nc=y.nc:=(m7 (y.jO q) (q:Int) 0 2000).2.1.trans n1;have d2:=uX f2 k2 eh (c:=q) (d:=1) (by rw[J];omega) eA;have b1:∀x:Nat,(if x<q then k else k+1)<=k+1/\k<=(if x<q then k else k+1):=λx=>by split<;>exact⟨eh,eh⟩
  have b2:∀x f:Nat,(if x=q/\f=0 then k else if x<q then k else k+1)<=k+1/\k<=(if x=q/\f=0 then k else if x<q then k else k+1):=λx f=>by
   split
   ·exact⟨eh,eh⟩
   ·exact b1 x
  have j:=d1.deep k1.qP (by rw[n1];omega) eA Q (k:=k) (λx _=>(b1 x).1) (λx _=>(b1 x).2) E;have e2:=d2.deep k2.qP (by rw[J];omega) eA Q (k:=k) (λx f=>(b2 x f).1) (λx f=>(b2 x f).2) j;refine⟨?_,λx f hx hf=> ?_⟩
  ·obtain⟨X,u,hd⟩:=e2;refine⟨X,u,λc d hc A p hp=> ?_⟩;have:=hd c d hc A p hp;simp only at this;have H:d=0 \/d=1:=eh;show xO (X c d) p<=if c<q+1 then k else k+1
   by_cases Y:c<q
   ·rw[af eh,af eh,ai Y]at this;rw[ai eh];exact this
   ·by_cases G:c=q
    ·rw[ai eh];rcases H with rfl|rfl
     ·rw[af eh,ai ⟨G,rfl⟩]at this;exact this
     ·rw[ai ⟨G,rfl⟩]at this;exact this
    ·rw[af eh,af eh,af Y]at this;rw[af eh];exact this
  ·have U:x<y.nc:=eh;have H:f=0 \/f=1:=eh;refine d2.rest (by rw[J];exact U) hf ?_;by_cases e:x=q
   ·rcases H with rfl|rfl
    ·exact .inr (d1.rest (by rw[n1];exact U) hf (.inl ⟨e,rfl⟩))
    ·exact .inl ⟨e,rfl⟩
   ·exact .inr (d1.rest (by rw[n1];exact U) hf (.inr (r1 x f eh hf)))
theorem Deep.mono {D E:Nat->Nat->Nat} (h:Deep t a D)(V:∀c d,c<a.nc->D c d<=E c d):Deep t a E:=by
 obtain⟨X,Y,U⟩:=h;exact⟨X,Y,λc d hc hd x hx=>Nat.le_trans (U c d hc hd x hx) (V c d hc)⟩
theorem Fy {y:iP} {Z:Nat} (hF:jA y)(V:j3 y Z 0)(Y:Z<=810000000) {t:Nat×Nat->Nat} (U:∀x,t x<=127)(g:Deep t (iH y) λ_ _=>8):∀j,j<=12->Deep t (iH (y.turns j)) (λ_ _=>8-j)/\(1<=j->∀x f,x<y.nc->f<2->uY (y.turns j) x f)
 |0,_=>⟨g,λh=>eh⟩
 |j+1,hj=>by
  obtain⟨M,_⟩:=Fy hF V Y U g j eh;have n1:(y.turns j).nc=y.nc:=(qN y j).2.1;have Q:=Fx (jA.turns hF V Y j eh) (V.turns Y j eh) eh U (8-j-1) (M.mono λ_ _ _=>eh) y.nc (by rw[n1];exact Nat.le_refl _);have H:((y.turns j).jO y.nc).nc=y.nc:=(lQ (y.turns j) y.nc).2.1.trans n1;refine⟨Q.1.mono λc _ hc=> ?_,λ_ x f hx hf=>Q.2 x f hx hf⟩;have J:c<y.nc:=by rw[<-H];exact hc
  show(if c<y.nc then 8-j-1 else 8-j-1+1)<=8-(j+1);rw[ai J];omega
structure Still(y:iP):Prop where
 f:∀c d,c<y.nc->d<2->(iH y).F c d=[]
 r:∀c d,c<y.nc->d<2->uY y c d
theorem Dx.deep(V:qX X t a)(h:Dx a):Deep t a λ_ _=>8:=by
 refine⟨X,V,λc d hc hd x hx=> ?_⟩;have Y:=(h.kn c d hc hd x hx).2.2;unfold xO;cases Cn 1 x with
 |some i=>simp only;split<;>decide
 |none=>
  simp only;split
  ·decide
  ·rename_i k b s
   have:=Y k b s rfl;omega
  ·decide
theorem Cr(hF:jA y)(U:j3 y Z 0)(M:Z<=800000000)(h:Inv N (λ_=>k) (iH y))(hl:N+144<1000000)(A:k+1<=126):Still y.round:=by
 have n6:=U.n6;have E:=yT hF U M y.n (Nat.le_refl _);obtain⟨t1,t2,_⟩:=pz y.n;have Q:=h.path E (by rw[t2];omega) λx=>Nat.le_trans (nK t1 k x) A;obtain⟨X,J⟩:=Q.lk;have hd:=Q.fl.deep J;obtain⟨d1,d2⟩:=Fy (hF.ja y.n) (U.ja M y.n n6) eh (λx=>by have:=nK t1 k x;omega) hd 12 (Nat.le_refl _);have n1:(y.ja y.n).nc=y.nc:=(oH y y.n).2.1;have H:y.round.nc=y.nc:=(kJ y).2.1;refine⟨λc d hc V=> ?_,λc d hc V=>d2 eA c d (by rw[n1,<-H];exact hc) V⟩;obtain⟨Y,_,u⟩:=d1;cases G:(iH y.round).F c d with
 |nil=>rfl
 |cons x l=>
  have h3:xO (Y c d) x<=8-12:=u c d hc V x (by show x∈(iH y.round).F c d;rw[G];simp);have h4:=Zs (Y c d) x;omega
def uZ:k9->Nat
 |77::_=>1
 |_=>0
theorem uC {c:UInt8} (s:List UInt8)(h:c≠77):uZ (c::s)=0:=by
 unfold uZ;split
 ·rename_i e;exact absurd (aD e).1 h
 ·rfl
theorem Wv {α:Type} {f g:α->Nat}:∀ {l:List α},(∀x∈l,1<=f x+g x)->l.length<=sm f l+sm g l
 |[],_=>Nat.zero_le _
 |x::l,h=>by
  have:=Wv (l:=l) λy hy=>h y (by simp[hy]);have h1:=h x gY;show l.length+1<=(f x+sm f l)+(g x+sm g l);omega
theorem Zu(X:Int->Bool)(x:k9):1<=oN X x+uZ x:=by
 unfold oN;cases Cn 1 x with
 |some i=>simp only;split<;>omega
 |none=>
  simp only;split
  ·omega
  ·show 1<=0+1;omega
  ·omega
theorem ag7(a:AN)(hc:c<a.nc)(hd:d<2):sm uZ (a.F c d)<=a.W uZ:=by
 have h1:0+sm uZ (a.F c d)<=a.W uZ:=by
  have:=zZ (f:=λ_:Nat×Nat=>0) (g:=λx:Nat×Nat=>sm uZ (a.F x.1 x.2)) (y:=(c,d)) (k:=sm uZ (a.F c d)) (xA a.nc) (ql.2 ⟨hc,hd⟩) λx _=>by
   show 0+(if x=(c,d)then _ else 0)<=sm uZ (a.F x.1 x.2);by_cases e:x=(c,d)
   ·subst e;rw[ai rfl];exact Nat.le_of_eq (Nat.zero_add _)
   ·rw[af e];omega
  have e0:sm (λ_:Nat×Nat=>0) (Sx a.nc)=0:=by
   generalize Sx a.nc=l
   induction l with
   |nil=>rfl
   |cons x l ih=>simpa[sm]using ih
  unfold AN.W;omega
 omega
theorem SG(h:x.length<=23):(Plain.lL x).length<=52:=by
 have h1:=Plain.Dc (Plain.lT x);have h2:=Plain.oz x;have h3:=xS x;omega
theorem Fz:∀ {l:List k9},(∀x∈l,x.length<=23)->(l.flatMap Plain.lL).length<=52*l.length
 |[],_=>Nat.le_refl _
 |x::l,h=>by
  have:=Fz (l:=l) λy hy=>h y (by simp[hy]);have h1:=SG (h x gY);rw[b9,aA,cO];omega
structure Calm(t:Nat×Nat->Nat)(W:Nat)(a:AN):Prop where
 lk:∃X,qX X t a/\∀c,c<a.nc->wc X a c<=W
 ml:a.W uZ<=1
theorem Calm.few(h:Calm t W a)(hc:c<a.nc)(hd:d<2):(a.F c d).length<=W+1/\(a.F c d≠ []->a.iQ c=true):=by
 obtain⟨X,Q,U⟩:=h.lk;have h1:=Wv (l:=a.F c d) λx _=>Zu (X c d) x;have h2:=ag7 a hc hd;have h3:=h.ml;have h4:sm (oN (X c d)) (a.F c d)<=wc X a c:=by
  have:d=0 \/d=1:=eh;unfold wc;rcases this with rfl|rfl<;>omega
 have h5:=U c hc;refine⟨eh,λV=> ?_⟩;cases Y:a.F c d with
 |nil=>exact absurd Y V
 |cons x l=>exact Q.yW hc hd (x:=x) (by rw[Y];simp)
theorem Calm.room {z:iP} (h:Calm t 34 (iH z))(hF:∀i p,∃ps,Frames ((z.R i).P p).out ps)(U:∀c d,c<z.nc->d<2->uY z c d)(Q:Dx (iH z)):Room z:=λc d hc hd=>by
 obtain⟨r1,ps,Y,V⟩:=U c d hc hd;obtain⟨qs,q1,q2⟩:=hF ((z.C c).e d).1 ((z.C c).e d).2;have hf:(iH z).F c d=ps++qs:=by
  show(if c<z.nc/\d<2 then tT z c d else [])=_;rw[ai ⟨hc,hd⟩];unfold tT;rw[r1,Y,rA ps V,m8 ⟨q1,q2⟩]
 obtain⟨f1,f2⟩:=h.few hc hd;rw[hf]at f1 f2;cases qs with
 |nil=>left;rw[q1];rfl
 |cons x l=>
  right;refine⟨f2 gY,?_⟩;rw[Y,q1,<-aA,<-cu];have:=Fz (l:=ps++x::l) λy hy=>(Q.kn c d hc hd y (by rw[hf];exact hy)).2.1;omega
inductive vI:AN->AN->Prop
 |nil (a:AN):vI a a
 |snoc {a b:AN} (c d:Nat) (x:k9) (l:List k9):vI a b->c<b.nc->d<2->b.F c d=x::l->vI a (b.pop c d x l)
theorem vI.path(h:vI a b):jT a [] [] b:=by
 induction h with
 |nil=>exact jT.nil a
 |snoc c d x l _ hc hd hF ih=>exact ih.snoc (mQ.pop c d x l hc hd hF)
theorem vI.trans {c:AN} (h:vI a b)(g:vI b c):vI a c:=by
 induction g with
 |nil=>exact h
 |snoc c d x l _ hc hd hF ih=>exact ih.snoc c d x l hc hd hF
theorem yS.pps(h:yS c d l a b):vI a b:=by
 induction h with
 |nil a=>exact vI.nil a
 |cons V U Y _ ih=>exact((vI.nil _).snoc _ _ _ _ V U Y).trans ih
theorem Ww(h:Fh r i x p l):sm uZ l<=uZ x:=by
 cases h with
 |none h=>rw[h];exact Nat.zero_le _
 |link s _ _ _ h=>
  rw[h];have:∀l:List kM,sm uZ (l.flatMap oo)=0:=λl=>by
   have e:∀y∈l.flatMap oo,uZ y=0:=λy hy=>by obtain⟨s,rfl⟩:=rO hy;exact uC s eA
   rw[sQ (g:=λ_=>0) e];generalize l.flatMap oo=m
   induction m with
   |nil=>rfl
   |cons x l ih=>simpa[sm]using ih
  rw[this];exact Nat.zero_le _
 |heard s _ _ _ _ _ _ _ h=>rw[h];show uZ (65::_)+0<=_;rw[uC _ eA];exact Nat.zero_le _
 |JA a b s hx _ _ _ h=>rw[h,hx];exact Nat.le_refl _
theorem Wx(G:tH a)(H:Norm a)(hc:c<a.nc)(hd:d<2)(hF:a.F c d=x::l):(a.pop c d x l).W uZ<=a.W uZ:=by
 obtain⟨m1,m2⟩:=qo (H.emp (a.e c (1-d)).1) (a.e c (1-d)).2 x;have M:=adn (a:=a.lv c d l) (G.same rfl rfl rfl) (a.e c (1-d)).1 (jM (a.R (a.e c (1-d)).1) (a.e c (1-d)).2 x) uZ;have h2:=aaM uZ hc hd hF;have Y:=λp=>Ww (m1 p);obtain⟨r',J⟩:∃r',jM (a.R (a.e c (1-d)).1) (a.e c (1-d)).2 x=r':=⟨_,rfl⟩
 unfold AN.pop;rw[J]at m2 M Y⊢;have h4:sm uZ (jk (r'.P 0))+sm uZ (jk (r'.P 1))+sm uZ (jk (r'.P 2))<=uZ x:=by
  have z:∀p,jk (r'.P p)=[]->sm uZ (jk (r'.P p))=0:=λp h=>by rw[h];rfl
  have a0:=Y 0;have a1:=Y 1;have a2:=Y 2;by_cases U:jk (r'.P 0)=[]
  ·rw[z 0 U];by_cases V:jk (r'.P 1)=[]
   ·rw[z 1 V];omega
   ·have Q:jk (r'.P 2)=[] :=by
     by_cases e:jk (r'.P 2)=[]
     ·exact e
     ·exact absurd (m2 1 2 V e) eA
    rw[z 2 Q];omega
  ·have V:jk (r'.P 1)=[] :=by
    by_cases e:jk (r'.P 1)=[]
    ·exact e
    ·exact absurd (m2 0 1 U e) eA
   have Q:jk (r'.P 2)=[] :=by
    by_cases e:jk (r'.P 2)=[]
    ·exact e
    ·exact absurd (m2 0 2 U e) eA
   rw[z 1 V,z 2 Q];omega
 omega
theorem vI.calm(h:vI a b)(hB:tH a)(j:Norm a)(G:∀x,t x<=127)(hc:Calm t W a):Calm t W b:=by
 induction h with
 |nil=>exact hc
 |snoc c d x l p U Q V ih=>
  obtain⟨⟨X,u,A⟩,E⟩:=ih;have M:=p.path.qP hB;have H:=p.path.norm j;obtain⟨Y,hY,pp⟩:=u.pop M H G U Q V;exact⟨⟨Y,hY,λc' J=>Nat.le_trans (pp.w c' J) (A c' J)⟩,Nat.le_trans (Wx M H U Q V) E⟩
theorem PZ(X:Int->Bool):∀l:List (Int×PS),sm (oN X) (l.flatMap Dv)<=2*l.length
 |[] =>Nat.le_refl _
 |q::l=>by
  have:=PZ X l;rw[b9,pP];have h1:sm (oN X) (Dv q)<=2:=by
   unfold Dv;split
   ·show oN X (83::_)+0<=2;unfold oN;rw[xD 1 _ eA];exact Nat.le_refl _
   ·exact Nat.zero_le _
  simp only[eZ];omega
theorem P2(X:Int->Bool)(r:iM)(p:Nat):sm (oN X) (Au r p)<=13/\sm uZ (Au r p)=0:=by
 have U:sm uZ (Au r p)=0:=by
  have e:∀y∈Au r p,uZ y=0:=λy hy=>by
   unfold Au at hy;split at hy
   ·rcases aP.1 hy with g|g
    ·rw[g];exact uC _ eA
    ·split at g
     ·obtain⟨q,_,Y⟩:=aT.1 g;unfold Dv at Y;split at Y
      ·rw[au.1 Y];exact uC _ eA
      ·simp at Y
     ·simp at g
   ·simp at hy
  rw[sQ (g:=λ_=>0) e];generalize Au r p=m
  induction m with
  |nil=>rfl
  |cons x l ih=>simpa[sm]using ih
 refine⟨?_,U⟩;unfold Au;split
 ·have V:∀s,oN X (72::s)=1:=λs=>by unfold oN;rw[xD 1 s eA];rfl
  show oN X (72::_)+sm (oN X) (if _ then _ else _)<=13;rw[V];split
  ·have:=PZ X (lE (((jb r p).meet p (iI (r.P p).pe)).O p));have:=Bc (((jb r p).meet p (iI (r.P p).pe)).O p);omega
  ·show 1+0<=13;omega
 ·exact Nat.zero_le _
theorem xN.light(h:xN T a b)(U:tH a)(H:Norm a)(Q:∀x,qu t T x<=126)(M:qX X t a)(A:∀c d,c<a.nc->d<2->sm (oN (X c d)) (a.F c d)=0):(∃Y,qX Y (qu t T) b/\∀c d,c<a.nc->d<2->sm (oN (Y c d)) (b.F c d)<=17*T.count (a.e c d))/\b.W uZ<=a.W uZ:=by
 induction h with
 |nil=>exact⟨⟨X,by rw[pq];exact M,λc d hc hd=>by rw[A c d hc hd];exact Nat.zero_le _⟩,Nat.le_refl _⟩
 | @snoc T a b i p tk hi hp ih=>
   rw[Cp]at Q⊢;obtain⟨⟨Y,hY,hs⟩,hm⟩:=ih U H (λx=>Nat.le_trans (Nat.le_add_right _ _) (Q x)) M A;have E:=tk.path.qP U;have G:=tk.path.norm H;have J:=tk.path.same;obtain⟨Z,hZ,hf⟩:=hY.tick E G (i:=i) (p:=p) λx=>Nat.le_trans (Nat.le_add_right _ _) (Q x);refine⟨⟨Z,hZ,λc d hc hd=> ?_⟩,?_⟩
   ·have jX:c<b.nc:=by rw[J.2.1];exact hc
    obtain⟨f1,f2⟩:=hf c d jX hd;rw[List.count_append];have h1:=hs c d hc hd;rw[J.2.2.1]at f1 f2;by_cases e:a.e c d=(i,p)
    ·obtain⟨j,g1,u⟩:=f2 e;have V:=u.w;have Xv:sm (oN (Z c d)) j<=4:=by
      rcases g1 with g|g
      ·rw[g];exact Nat.zero_le _
      ·rw[g];show oN _ (mJ _ _)+0<=4;have hg:=rC U hc hd;unfold oN;split
       ·split<;>omega
       ·split<;>omega
     have zb:=(P2 (Z c d) (b.R i) p).1;rw[pP]at V;have h2:([(i,p)] :List (Nat×Nat)).count (a.e c d)=1:=by rw[e];simp
     rw[h2];omega
    ·have V:=(f1 e).w;have:sm (oN (Z c d)) [] =0:=rfl;omega
   ·obtain⟨e1,e2⟩:=xB (G.emp i) p;have V:=adn E i ((b.R i).iV p) uZ;have z:∀q,sm uZ (jk (((b.R i).iV p).P q))=0:=λq=>by
     by_cases e:q=p
     ·subst e;have e3:jk (((b.R i).iV q).P q)=(jd ((b.R i).P q).L).2.flatMap oo++Au (b.R i) q:=e2;rw[e3,pP,(P2 (λ_=>false) (b.R i) q).2];have e:∀y∈(jd ((b.R i).P q).L).2.flatMap oo,uZ y=0:=λy hy=>by obtain⟨s,rfl⟩:=rO hy;exact uC s eA
      rw[sQ (g:=λ_=>0) e];generalize (jd ((b.R i).P q).L).2.flatMap oo=m
      induction m with
      |nil=>rfl
      |cons x l ih=>simpa[sm]using ih
     ·rw[e1 q e];rfl
    rw[z,z,z]at V;omega
def pH(y:iP):Prop:=∀c d,c<y.nc->d<2->uY y c d
theorem Gz(hF:jA y)(h:pH y):pH y.gather:=λc d hc hd=>by
 have Y:c<y.nc:=by rw[<-(lP y).2.1];exact hc
 obtain⟨g1,ps,U,V⟩:=Bz hF c d Y hd;obtain⟨r1,qs,M,J⟩:=h c d Y hd;exact⟨g1.trans r1,qs++ps,by rw[V,M,cu],λp Q=>(aw.1 Q).elim (J p) (U p)⟩
theorem Me(h:pH y)(i:Nat)(V:nu (y.R i) r):pH (y.jB i r):=λc d hc hd=>by
 obtain⟨r1,Y⟩:=h c d hc hd;refine⟨?_,Y⟩;rw[<-r1];show((jU y.R i r ((y.C c).e (1-d)).1).P ((y.C c).e (1-d)).2).rd=((y.R ((y.C c).e (1-d)).1).P ((y.C c).e (1-d)).2).rd;by_cases e:((y.C c).e (1-d)).1=i
 ·rw[e,iE];exact V.rd _
 ·rw[iC _ _ e]
theorem count_le(h:T.Nodup)(x:Nat×Nat):T.count x<=1:=List.nodup_iff_count.1 h x
theorem FA(h:xN T a b)(V:T.Nodup)(G:tH a)(J:Norm a)(H:k+1<=126)(M:qX X (λ_=>k) a)(Q:∀c d,c<a.nc->d<2->sm (oN (X c d)) (a.F c d)=0)(E:a.W uZ<=1):Calm (λ_=>k+1) 34 b:=by
 obtain⟨⟨Y,A,hs⟩,U⟩:=h.light G J (λx=>Nat.le_trans (nK V k x) H) M Q;refine⟨⟨Y,A.mono (nK V k),λc hc=> ?_⟩,Nat.le_trans U E⟩;rw[h.path.same.2.1]at hc;have h1:=hs c 0 hc eA;have h2:=hs c 1 hc eA;have c1:=count_le V (a.e c 0);have c2:=count_le V (a.e c 1);unfold wc;omega
theorem Ct {y:iP} {Z N k:Nat} (hF:jA y)(M:j3 y Z 0)(h:Z<=800000000)(V:Inv N (λ_=>k) (iH y))(hl:N+144<1000000)(Q:k+1<=126)(j:pH y) {X:Marks} (u:qX X (λ_=>k) (iH y))(E:∀c d,c<y.nc->d<2->sm (oN (X c d)) ((iH y).F c d)=0)(H:(iH y).W uZ<=1):∀q,q<=y.n->xN (mN q) (iH y) (iH (y.ja q))/\pH (y.ja q)
 |0,_=>⟨xN.nil _,j⟩
 |q+1,hq=>by
  have n6:=M.n6;obtain⟨J,r1⟩:=Ct hF M h V hl Q j u E H q eh;have fz:=jA.ja hF q;have G:=M.ja h q eh;have nz:(y.ja q).n=y.n:=(oH y q).1;obtain⟨z,A⟩:=gg (y.ja q);rw[A]at J r1 fz G nz;obtain⟨t1,e1,f1⟩:=Fe fz G eh q eh;have r2:=Me r1 q (nu.ja (z.R q) (z.R q).n);have Y:=J.trans t1;rw[<-Bs]at Y;obtain⟨nd,len,_⟩:=pz (q+1);have hc:=FA Y nd V.qP V.nrm Q u E H;have xf:=(V.path Y.path (by rw[len];omega) λx=>Nat.le_trans (nK nd k x) Q).fl;have U:=hc.room f1.o r2 xf;have ki:(y.ja (q+1))=(z.jB q (z.R q).tick).gather:=by
   show((y.ja q).tick ((q:Int)+1)).1=_;rw[A];unfold iP.tick;rw[af eh];show(z.jB ((q:Int)+1-1).toNat (z.R ((q:Int)+1-1).toNat).tick).gather=_;rw[show((q:Int)+1-1).toNat=q by omega]
  rw[ki];exact⟨by rw[(pF f1 e1).2 U];exact Y,Gz f1 r2⟩
theorem yf(hF:jA y)(H:j3 y Z 0)(h:Z<=900000000)(Q:Inv N (λ_=>k) (iH y))(hl:N<1000000)(hk:k<=126)(E:pH y)(hc:Calm (λ_=>k) 34 (iH y))(V:c<y.nc)(hd:d<2):vI (iH y) (iH (y.deliver c d 2000).1)/\pH (y.deliver c d 2000).1:=by
 have hf:=uX hF H h V hd;obtain⟨G,_,p3⟩:=hf.ps;have A:=H.oI;have f1:=hF.jo A c d ((y.C c).on d).length V hd;have rr:=hf.rv;obtain⟨s1,u,_,_⟩:=ry y c d ((y.C c).on d).length;have U:=G.pps;have M:=U.calm Q.qP Q.nrm (λ_=>eh) hc;have xf:Dx (iH (y.jo c d ((y.C c).on d).length)):=(Q.path G.path (by simpa using hl) λx=>by rw[pq];exact hk).fl;have r1:pH (y.jo c d ((y.C c).on d).length):=λx f hx Y=>by
  rw[u]at hx;obtain⟨g1,j⟩:=rr x f hx Y;unfold uY;rw[g1,j];by_cases e:x=c/\f=d
  ·rw[ai e,ai e];exact⟨rfl,[],Frames.nil⟩
  ·rw[af e,af e];exact E x f hx Y
 rw[p3 (M.room f1.o r1 xf)];refine⟨U,λx f hx Y=> ?_⟩;have J:x<y.nc:=by rw[<-(m7 y c d 2000).2.1];exact hx
 exact hf.rest J Y (.inr (E x f J Y))
theorem Inv.pps(h:Inv N (λ_=>k) a)(p:vI a b)(hl:N<1000000)(Y:k<=126):Inv N (λ_=>k) b:=by
 have:=h.path p.path (by simpa using hl) λx=>by rw[pq];exact Y
 rw[pq]at this;simpa using this
theorem Ai {y:iP} {Z N k:Nat} (hF:jA y)(Q:j3 y Z 0)(J:Z<=890000000)(V:Inv N (λ_=>k) (iH y))(hl:N<1000000)(U:k<=126)(H:pH y)(hc:Calm (λ_=>k) 34 (iH y)):∀q,q<=y.nc->vI (iH y) (iH (y.jO q))/\pH (y.jO q)
 |0,_=>⟨vI.nil _,H⟩
 |q+1,hq=>by
  have c9:=Q.c9;obtain⟨M,r1⟩:=Ai hF Q J V hl U H hc q eh;have f1:=jA.jO hF Q J q eh;have k1:=Q.jO J q eh;have n1:(y.jO q).nc=y.nc:=(lQ y q).2.1;obtain⟨E,A⟩:=yf f1 k1 eh (V.pps M hl U) hl U r1 (M.calm V.qP V.nrm (λ_=>eh) hc) (c:=q) (d:=0) eh eA;have f2:=f1.deliver k1 (q:Int) 0 2000;have k2:=k1.deliver eh (q:Int) 0 2000;have n2:((y.jO q).deliver (q:Int) 0 2000).1.nc=y.nc:=(m7 (y.jO q) (q:Int) 0 2000).2.1.trans n1;have Y:=M.trans E;obtain⟨G,u⟩:=yf f2 k2 eh (V.pps Y hl U) hl U A (Y.calm V.qP V.nrm (λ_=>eh) hc) (c:=q) (d:=1) eh eA;exact⟨Y.trans G,u⟩
theorem Cu {y:iP} {Z N k:Nat} (hF:jA y)(U:j3 y Z 0)(Q:Z<=810000000)(Y:Inv N (λ_=>k) (iH y))(hl:N<1000000)(M:k<=126)(J:pH y)(hc:Calm (λ_=>k) 34 (iH y)):∀j,j<=12->vI (iH y) (iH (y.turns j))/\pH (y.turns j)
 |0,_=>⟨vI.nil _,J⟩
 |j+1,hj=>by
  obtain⟨V,r1⟩:=Cu hF U Q Y hl M J hc j eh;have n1:(y.turns j).nc=y.nc:=(qN y j).2.1;obtain⟨H,G⟩:=Ai (jA.turns hF U Q j eh) (U.turns Q j eh) eh (Y.pps V hl M) hl M r1 (V.calm Y.qP Y.nrm (λ_=>eh) hc) y.nc eh;exact⟨V.trans H,G⟩
theorem Mf(hF:jA y)(U:j3 y Z 0)(J:Z<=800000000)(Y:Inv N (λ_=>k) (iH y))(hl:N+144<1000000)(V:k+1<=126)(u:pH y)(G:qX X (λ_=>k) (iH y))(H:∀c d,c<y.nc->d<2->sm (oN (X c d)) ((iH y).F c d)=0)(E:(iH y).W uZ<=1):∃m,xN (mN y.n) (iH y) m/\vI m (iH y.round)/\Still y.round:=by
 have n6:=U.n6;obtain⟨Q,r1⟩:=Ct hF U J Y hl V u G H E y.n (Nat.le_refl _);obtain⟨nd,len,_⟩:=pz y.n;have hc:=FA Q nd Y.qP Y.nrm V G H E;have M:Inv (N+144) (λ_=>k+1) (iH (y.ja y.n)):=(Y.path Q.path (by rw[len];omega) λx=>Nat.le_trans (nK nd k x) V).mono (by rw[len];omega) (nK nd k);obtain⟨A,_⟩:=Cu (hF.ja y.n) (U.ja J y.n n6) eh M hl V r1 hc 12 (Nat.le_refl _);exact⟨_,Q,A,Cr hF U J Y hl V⟩
theorem Still.ady(h:Still y):pH y:=h.r
theorem Still.zero(h:Still y)(X:Marks):(∀c d,c<y.nc->d<2->sm (oN (X c d)) ((iH y).F c d)=0)/\(iH y).W uZ<=1:=by
 refine⟨λc d hc hd=>by rw[h.f c d hc hd];rfl,?_⟩;have e:(iH y).W uZ=0:=by
  unfold AN.W;rw[sQ (g:=λ_=>0) λx hx=>by
   have:=ql.1 hx;show sm uZ ((iH y).F x.1 x.2)=0;rw[h.f x.1 x.2 this.1 this.2];rfl]
  generalize Sx (iH y).nc=m
  induction m with
  |nil=>rfl
  |cons x l ih=>simpa[sm]using ih
 omega
