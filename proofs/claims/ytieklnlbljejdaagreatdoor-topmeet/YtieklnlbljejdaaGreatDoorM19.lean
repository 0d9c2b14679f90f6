import Derived.Test.YtieklnlbljejdaaGreatDoorM18
open Option renaming none → ν, some → μ
open List renaming length_cons → eZ, range → fW, sublist_nil → iy, flatMap → iz
namespace Go.Proofs.YtieklnlbljejdaaGreatDoor
open Go.RowKit St
namespace Rt
variable {B C N c d d' i p t:Nat} {F Fi Fo G em l ps:List k9} {L L' M:LS} {S:List (Int×List UInt8)} {T:List (Nat×Nat)} {X Y:Int->Bool} {a b:AN} {code g g' h id ow:Int} {r s:iM} {x:k9}
def J2(r:iM):Prop:=∀p,(r.P p).out=[]
theorem Norm.emp(h:Norm a)(i:Nat):J2 (a.R i):=h.out i
def Fr(p:jw):Prop:=∃ps,Frames p.out ps
theorem J2.fr(h:J2 r)(p:Nat):Fr (r.P p):=⟨[],by rw[h];exact Frames.nil⟩
theorem Fr.put {p:jw} (h:Fr p)(c:UInt8)(s:List UInt8):Fr (p.put c s):=(r7.put p c s).fr h
theorem nJ {p q:jw} (h:q.out=p.out):jk q=jk p:=by unfold jk;rw[h]
theorem uy {p:jw} (h:Fr p)(c:UInt8)(s:List UInt8):jk (p.put c s)=jk p++(if(c≠76/\p.L.st≠9) \/60<s.length+1 then []else [c::s]):=by
 obtain⟨ps,Z⟩:=h;unfold jw.put;split
 ·rename_i g;rw[ai (.inl g)];simp
 ·rename_i g
  split
  ·rename_i hl
   rw[af (λz=>z.elim g eh)];have V:Frames ({p with out:=p.out++Plain.lL (c::s)}:jw).out (ps++ [c::s]):=Z.snoc ⟨gY,by simpa using hl⟩;rw[m8 V,m8 Z]
  ·rw[ai (.inr eh)];simp
def oo(q:kM):List k9:=if jS q.1 q.2.1 q.2.2=0/\(mD q.1 q.2.1 q.2.2).length+1<=60 then [76::mD q.1 q.2.1 q.2.2]else []
theorem wR:∀(l:List kM) {p:jw},Fr p->jk (p.say l)=jk p++l.flatMap oo/\Fr (p.say l)
 |[],p,h=>⟨by simp[jw.say],h⟩
 |q::r,p,h=>by
  show jk ((if jS q.1 q.2.1 q.2.2=0 then p.put 76 (mD q.1 q.2.1 q.2.2)else p).say r)=_/\Fr ((if jS q.1 q.2.1 q.2.2=0 then p.put 76 (mD q.1 q.2.1 q.2.2)else p).say r);rw[b9];unfold oo;split
  ·rename_i g
   obtain⟨a,b⟩:=wR r (h.put 76 (mD q.1 q.2.1 q.2.2));refine⟨?_,b⟩;rw[a,uy h,aE];congr 2;by_cases hl:(mD q.1 q.2.1 q.2.2).length+1<=60
   ·rw[af (by simp;omega),ai ⟨g,hl⟩]
   ·rw[ai (.inr eh),af (λz=>hl z.2)]
  ·rename_i g
   obtain⟨a,b⟩:=wR r h;exact⟨by rw[a,af (λz=>g z.1)];rfl,b⟩
def Dv(q:Int×PS):List k9:=if(rb q.1 q.2.1 q.2.2).length+1<=60 then [83::rb q.1 q.2.1 q.2.2]else []
theorem Ck:∀(l:List (Int×PS)) {p:jw},Fr p->p.L.st=9->jk (p.kH l)=jk p++l.flatMap Dv
 |[],p,h,_=>by simp[jw.kH]
 |q::r,p,h,h9=>by
  show jk ((p.put 83 (rb q.1 q.2.1 q.2.2)).kH r)=_;rw[Ck r (h.put 83 _) (by rw[wK];exact h9),uy h,b9,aE];congr 2;unfold Dv;by_cases hl:(rb q.1 q.2.1 q.2.2).length+1<=60
  ·rw[af eh,ai hl]
  ·rw[ai (.inr eh),af hl]
theorem kc(r:iM)(i:Nat)(q:lD)(p:Nat):((r.meet i q).P p).out=(r.P p).out/\((r.meet i q).P p).L=(r.P p).L/\((r.meet i q).P p).m=(r.P p).m/\((r.meet i q).P p).pe=if p=i then q else(r.P p).pe:=by
 rw[(mV r i q).2.2.2];by_cases e:p=i
 ·subst e;rw[jy,ai rfl];exact⟨rfl,rfl,rfl,rfl⟩
 ·rw[jq _ _ e,af e];exact⟨rfl,rfl,rfl,rfl⟩
theorem kN(r:iM)(i:Nat)(q:jw)(p:Nat):(r.iU i q).P p=if p=i then q else r.P p:=rfl
theorem z8(h:J2 r)(i:Nat)(c:UInt8)(s:List UInt8):(∀p,jk ((j1 r i c s).P p)=if p=i/\c=76/\(iY s).2.2.2=0 then(jK (r.P i).L ((iY s).1,(iY s).2.1,(iY s).2.2.1)).2.1.flatMap oo else [])/\(∀p,Fr ((j1 r i c s).P p))/\(∀p,((j1 r i c s).P p).pe=(r.P p).pe/\((j1 r i c s).P p).m=(r.P p).m/\((j1 r i c s).P p).L=if p=i/\c=76/\(iY s).2.2.2=0 then(jK (r.P i).L ((iY s).1,(iY s).2.1,(iY s).2.2.1)).1 else(r.P p).L)/\(j1 r i c s).K=r.K/\(j1 r i c s).O=r.O/\(j1 r i c s).j8=r.j8/\(j1 r i c s).id=r.id/\(j1 r i c s).n=r.n:=by
 unfold j1;by_cases hc:c=76
 ·rw[ai hc];obtain⟨E,V⟩:=gg (jK (r.P i).L ((iY s).1,(iY s).2.1,(iY s).2.2.1));rw[V];have Z:(r.P i).packet s=if(iY s).2.2.2=0 then({r.P i with L:=E.1}:jw).say E.2.1 else r.P i:=by
   unfold jw.packet;simp only;rw[V]
  have hs:=wR E.2.1 (p:={r.P i with L:=E.1}) (show Fr _ from h.fr i);have Q:jk ({r.P i with L:=E.1}:jw)=[] :=jz (h i);have U:=wD E.2.1 ({r.P i with L:=E.1}:jw);have J:=E3 E.2.1 ({r.P i with L:=E.1}:jw);refine⟨λp=> ?_,λp=> ?_,λp=> ?_,rfl,rfl,rfl,rfl,rfl⟩
  ·rw[kN];by_cases e:p=i
   ·rw[ai e,Z];by_cases f:(iY s).2.2.2=0
    ·rw[ai f,ai ⟨e,hc,f⟩,hs.1,Q];rfl
    ·rw[af f,af (λz=>f z.2.2),jz (h i)]
   ·rw[af e,af (λz=>e z.1),jz (h p)]
  ·rw[kN,Z];split
   ·split
    ·exact hs.2
    ·exact h.fr i
   ·exact h.fr p
  ·rw[kN,Z];by_cases e:p=i
   ·subst e;rw[ai rfl];by_cases f:(iY s).2.2.2=0
    ·rw[ai f,ai ⟨rfl,hc,f⟩,U.1,U.2,J];exact⟨rfl,rfl,rfl⟩
    ·rw[af f,af (λz=>f z.2.2)];exact⟨rfl,rfl,rfl⟩
   ·rw[af e,af (λz=>e z.1)];exact⟨rfl,rfl,rfl⟩
 ·rw[af hc];refine⟨λp=> ?_,λp=>h.fr p,λp=> ?_,rfl,rfl,rfl,rfl,rfl⟩
  ·rw[af (λz=>hc z.2.1),jz (h p)]
  ·rw[af (λz=>hc z.2.1)];exact⟨rfl,rfl,rfl⟩
theorem uz(i:Nat) {c:UInt8} (s:List UInt8)(hc:c≠76):j1 r i c s=r:=by unfold j1;rw[af hc]
theorem Wg(h:J2 r)(i:Nat)(s:List UInt8)(p:Nat):jk ((ji r i s).P p)=[] \/(p=i/\(il s).2.2.2=0/\(r.P i).pe.both=true/\¬((il s).1=r.id/\0<newF r.K (il s).1 (il s).2.1 (il s).2.2.1)/\0<=newF r.K (il s).1 (il s).2.1 (il s).2.2.1/\jk ((ji r i s).P p)=[65::rb (il s).1 (il s).2.1 (il s).2.2.1]):=by
 unfold ji;simp only;split
 ·exact .inl (jz (h p))
 ·rename_i V
  split
  ·left;rw[(oE r _).2.2.2];exact jz (h p)
  ·rename_i U
   split
   ·rename_i Z
    rw[kN];by_cases e:p=i
    ·rw[ai e,uy (h.fr i),jz (h i)];split
     ·exact .inl rfl
     ·refine .inr ⟨e,eh,?_,U,Z,rfl⟩;cases hb:(r.P i).pe.both
      ·exact absurd (.inr hb) V
      ·rfl
    ·rw[af e];exact .inl (jz (h p))
   ·exact .inl (jz (h p))
theorem Dw(h:J2 r)(t:za):∃j,(∀p,p≠j->jk ((r.send t).P p)=[])/\(jk ((r.send t).P j)=[] \/(((r.P j).L.st=9/\1<=t.2.1)/\jk ((r.send t).P j)=[77::jY t.1::jY (t.2.1-1)::t.2.2])):=by
 unfold iM.send;split
 ·exact⟨0,λp _=>jz (h p),.inl (jz (h 0))⟩
 ·cases hv:(if 1<=t.2.1 then(AL (mc r) t.1).bind λh=>jP r.P h.rG r.n else ν)with
  |none=>exact⟨0,λp _=>jz (h p),.inl (jz (h 0))⟩
  |some i=>
   have V:1<=t.2.1:=by
    by_cases g:1<=t.2.1
    ·exact g
    ·rw[af g]at hv;simp at hv
   refine⟨i,λp U=> ?_,?_⟩
   ·show jk ((r.iU i _).P p)=[]
    rw[kN,af U];exact jz (h p)
   ·show jk ((r.iU i _).P i)=[] \/(((r.P i).L.st=9/\1<=t.2.1)/\jk ((r.iU i _).P i)=_);rw[kN,ai rfl,uy (h.fr i),jz (h i)];split
    ·exact .inl rfl
    ·rename_i g
     refine .inr ⟨⟨?_,V⟩,rfl⟩;by_cases Z:(r.P i).L.st=9
     ·exact Z
     ·exact absurd (.inl ⟨eA,Z⟩) g
inductive Fh(r:iM)(i:Nat)(x:k9)(p:Nat)(l:List k9):Prop
 |none:l=[]->Fh r i x p l
 |link (s:List UInt8):x=76::s->p=i->(iY s).2.2.2=0->l=(jK (r.P i).L ((iY s).1,(iY s).2.1,(iY s).2.2.1)).2.1.flatMap oo->Fh r i x p l
 |heard (s:List UInt8):x=83::s->p=i->(r.P i).L.st=9->(il s).2.2.2=0->(r.P i).pe.both=true->¬((il s).1=r.id/\0<newF r.K (il s).1 (il s).2.1 (il s).2.2.1)->0<=newF r.K (il s).1 (il s).2.1 (il s).2.2.1->l=[65::rb (il s).1 (il s).2.1 (il s).2.2.1]->Fh r i x p l
 |JA (a b:UInt8) (s:List UInt8):x=77::a::b::s->(r.P p).L.st=9->1<=b.toNat->s.length<=20->l=[77::a::jY ((b.toNat:Int)-1)::s]->Fh r i x p l
theorem qo(h:J2 r)(i:Nat)(x:k9):(∀p,Fh r i x p (jk ((jM r i x).P p)))/\∀p q,jk ((jM r i x).P p)≠ []->jk ((jM r i x).P q)≠ []->p=q:=by
 have V:∀r':iM,(∀p,jk (r'.P p)=[])->(∀p,Fh r i x p (jk (r'.P p)))/\∀p q,jk (r'.P p)≠ []->jk (r'.P q)≠ []->p=q:=λr' E=>⟨λp=>.none (E p),λp q Z=>absurd (E p) Z⟩
 cases x with
 |nil=>exact V r λp=>jz (h p)
 |cons c s=>
  show(∀p,Fh r i (c::s) p (jk ((r.take i c s).P p)))/\_;have A:jM r i (c::s)=r.take i c s:=rfl;rw[A];by_cases hc:c=76
  ·obtain⟨H,a2,a3,_⟩:=z8 h i c s;have D:∀p,jk ((r.take i c s).P p)=jk ((j1 r i c s).P p):=λp=>by
    rw[lJ];split
    ·exact nJ (kc _ _ _ _).1
    ·unfold mA;rw[af (by rw[hc];decide),af (by rw[hc];decide),af (by rw[hc];decide),af (by rw[hc];decide)]
   refine⟨λp=> ?_,λp q Z U=> ?_⟩
   ·rw[D,H];split
    ·rename_i g
     exact .link s (by rw[hc]) g.1 g.2.2 rfl
    ·exact .none rfl
   ·rw[D,H]at Z U;split at Z
    ·rename_i g
     split at U
     ·rename_i Q;exact g.1.trans Q.1.symm
     ·exact absurd rfl U
    ·exact absurd rfl Z
  ·rw[lJ,uz i s hc];by_cases J:(r.P i).L.st=9
   ·rw[af (by rw[J];simp)];unfold mA;split
    ·split
     ·exact V _ λp=>by rw[nJ (kc _ _ _ _).1];exact jz (h p)
     ·exact V _ λp=>jz (h p)
    ·split
     ·rename_i y
      have hs:=Wg h i s;refine⟨λp=> ?_,λp q Z U=> ?_⟩
      ·rcases hs p with g|⟨g1,Q,g3,g4,g5,g6⟩
       ·exact .none g
       ·exact .heard s (by rw[y]) g1 J Q g3 g4 g5 g6
      ·rcases hs p with g|g
       ·exact absurd g Z
       ·rcases hs q with f|f
        ·exact absurd f U
        ·exact g.1.trans f.1.symm
     ·split
      ·refine V _ λp=> ?_;unfold kD;simp only;split<;>exact jz (h p)
      ·split
       ·rename_i hM
        unfold ru;split
        ·rename_i hl
         match s,hl with
         |a::b::u,hl=>
          obtain⟨j,g1,Q⟩:=Dw h (((((a::b::u).getD 0 0).toNat:Nat):Int),((((a::b::u).getD 1 0).toNat:Nat):Int),(a::b::u).drop 2);have e1:((a::b::u).getD 0 0)=a:=rfl;have e2:((a::b::u).getD 1 0)=b:=rfl;have e3:(a::b::u).drop 2=u:=rfl;rw[e1,e2,e3]at g1 Q⊢;refine⟨λp=> ?_,λp q Z U=> ?_⟩
          ·by_cases e:p=j
           ·subst e;rcases Q with g|⟨g,f⟩
            ·exact .none g
            ·obtain⟨g9,g⟩:=g;have ea:jY ((a.toNat:Nat):Int)=a:=by unfold jY;simp
             refine .JA a b u (by rw[hM]) g9 (by simp only at g;omega) ?_ ?_
             ·simp only[eZ]at hl;omega
             ·rw[f];show [77::jY ((a.toNat:Nat):Int)::_::u] =_;rw[ea]
           ·exact .none (g1 p e)
          ·by_cases e:p=j
           ·by_cases f:q=j
            ·rw[e,f]
            ·exact absurd (g1 q f) U
           ·exact absurd (g1 p e) Z
        ·exact V _ λp=>jz (h p)
       ·exact V _ λp=>jz (h p)
   ·rw[ai J];exact V _ λp=>by rw[nJ (kc _ _ _ _).1];exact jz (h p)
theorem xB(h:J2 r)(i:Nat):(∀p,p≠i->jk ((r.iV i).P p)=[])/\jk ((r.iV i).P i)=(jd (r.P i).L).2.flatMap oo++(if(jd (r.P i).L).1.st=9 then(72::[jY r.id,jY (iI (r.P i).pe).who])::(if(iI (r.P i).pe).both=true then(lE (((jb r i).meet i (iI (r.P i).pe)).O i)).flatMap Dv else [])else []):=by
 have hs:=wR (jd (r.P i).L).2 (p:={r.P i with L:=(jd (r.P i).L).1}) (show Fr _ from h.fr i);have h0:jk ({r.P i with L:=(jd (r.P i).L).1}:jw)=[] :=jz (h i);have hm:=(wD (jd (r.P i).L).2 ({r.P i with L:=(jd (r.P i).L).1}:jw)).2;have hL:=E3 (jd (r.P i).L).2 ({r.P i with L:=(jd (r.P i).L).1}:jw);have U:∀p,(jb r i).P p=if p=i then({r.P i with L:=(jd (r.P i).L).1}:jw).say (jd (r.P i).L).2 else r.P p:=λp=>by
  unfold jb;rw[kN];rfl
 have j:((jb r i).P i).pe=(r.P i).pe:=by rw[U,ai rfl,hm]
 have y:((jb r i).P i).L.st=(jd (r.P i).L).1.st:=by rw[U,ai rfl,hL]
 have pT:(jb r i).id=r.id:=rfl;have E:jk ((jb r i).P i)=(jd (r.P i).L).2.flatMap oo/\Fr ((jb r i).P i):=by
  rw[U,ai rfl,hs.1,h0];exact⟨rfl,hs.2⟩
 rw[k7,y,j];by_cases Z:(jd (r.P i).L).1.st=9
 ·rw[af (by rw[Z];simp),ai Z];obtain⟨x,hx⟩:=gg ((jb r i).meet i (iI (r.P i).pe));obtain⟨m1,m2,_,H⟩:=kc (jb r i) i (iI (r.P i).pe) i;have D:x.id=r.id:=by rw[<-hx];exact(jH.meet (jb r i) i _).id
  rw[hx]at m1 m2 H;rw[ai rfl]at H;have A:jk (x.P i)=(jd (r.P i).L).2.flatMap oo:=by rw[nJ m1];exact E.1
  have u:Fr (x.P i):=by obtain⟨ps,uF⟩:=E.2;exact⟨ps,by rw[m1];exact uF⟩
  have V:(x.P i).L.st=9:=by rw[m2,y];exact Z
  rw[hx];unfold mI;simp only;refine⟨λp Q=> ?_,?_⟩
  ·rw[kN,af Q,<-hx,nJ (kc _ _ _ _).1,U,af Q];exact jz (h p)
  ·rw[kN,ai rfl,H,D];have J:=uy u 72 [jY r.id,jY (iI (r.P i).pe).who];rw[af (by rw[V];simp),A]at J;split
   ·rw[Ck _ (u.put 72 _) (by rw[wK];exact V),J,aE];rfl
   ·rw[J]
 ·rw[ai Z,af Z];refine⟨λp Q=> ?_,?_⟩
  ·rw[nJ (kc _ _ _ _).1,U,af Q];exact jz (h p)
  ·rw[nJ (kc _ _ _ _).1,E.1,aC]
theorem JB(h:J2 r)(i:Nat)(up:Bool)(V:(kY (r.P i).L (if up=true then 0 else 1)).2.2=0):(∀p,p≠i->jk ((r.iL i up).1.P p)=[])/\jk ((r.iL i up).1.P i)=(kY (r.P i).L (if up=true then 0 else 1)).2.1.flatMap oo/\(r.iL i up).1=((r.iU i (({r.P i with L:=(kY (r.P i).L (if up=true then 0 else 1)).1,rd:=lH}:jw).say (kY (r.P i).L (if up=true then 0 else 1)).2.1)).meet i nobody):=by
 obtain⟨E,U⟩:=gg (kY (r.P i).L (if up=true then 0 else 1));rw[U]at V⊢;have hs:=wR E.2.1 (p:={r.P i with L:=E.1,rd:=lH}) (show Fr _ from h.fr i);have Q:jk ({r.P i with L:=E.1,rd:=lH}:jw)=[] :=jz (h i);have e:(r.P i).iL up=(({r.P i with L:=E.1,rd:=lH}:jw).say E.2.1,0):=by
  unfold jw.iL;rw[U];simp only;rw[af (by simp[V])];rfl
 have Z:(r.iL i up).1=(r.iU i (({r.P i with L:=E.1,rd:=lH}:jw).say E.2.1)).meet i nobody:=by
  unfold iM.iL;rw[e];simp only;rw[af gY]
 refine⟨λp J=> ?_,?_,Z⟩
 ·rw[Z,nJ (kc _ _ _ _).1,kN,af J];exact jz (h p)
 ·rw[Z,nJ (kc _ _ _ _).1,kN,ai rfl,hs.1,Q];rfl
structure Own(r:iM):Prop where
 tie:∀p x q,r.O p x=μ q->r.K x=μ q
 val:∀x q,r.K x=μ q->oy x q.1 q.2=0
 own:CS r.K r.id=jx r
def l8(B:Nat)(r:iM):Prop:=∀x q,r.K x=μ q->q.1<=(B:Int)
theorem l8.mono(h:l8 B r)(hc:B<=C):l8 C r:=λx q Z=>by have:=h x q Z;omega
theorem Cm {P Q:Nat->jw} (n:Int)(h:∀p,(Q p).m=(P p).m/\(Q p).pe.who=(P p).pe.who/\(Q p).pe.both=(P p).pe.both):∀k,jP Q n k=jP P n k
 |0=>rfl
 |k+1=>by
  have ih:=Cm n h k;unfold jP;rw[ih,(h k).1,(h k).2.1,(h k).2.2];cases jP P n k with
  |none=>rfl
  |some b=>simp only[(h b).1]
theorem oM(Z:s.n=r.n)(h:∀p,(s.P p).m=(r.P p).m/\(s.P p).pe.who=(r.P p).pe.who/\(s.P p).pe.both=(r.P p).pe.both):jx s=jx r:=by
 unfold jx;congr 1
 funext j
 rw[Z,Cm _ h];cases jP r.P ((j:Int)+1) r.n with
 |none=>rfl
 |some b=>simp only[Option.map_some,(h b).1]
theorem Own.alike(h:Own r)(Z:s.K=r.K)(Q:s.O=r.O)(hi:s.id=r.id)(V:s.n=r.n)(U:∀p,(s.P p).m=(r.P p).m/\(s.P p).pe.who=(r.P p).pe.who/\(s.P p).pe.both=(r.P p).pe.both):Own s:=
 ⟨by rw[Z,Q];exact h.tie,by rw[Z];exact h.val,by rw[Z,hi,oM V U];exact h.own⟩
theorem l8.alike(h:l8 B r)(Z:s.K=r.K):l8 B s:=by unfold l8;rw[Z];exact h
structure ado(r:iM):Prop where
 tie:∀p x q,r.O p x=μ q->r.K x=μ q
 val:∀x q,r.K x=μ q->oy x q.1 q.2=0
theorem Fj(h:ado r)(U:ln r)(hs:l8 B r) {q:Int} (h0:0<=q)(hq:q<=B)(hB:B<1000000):Own (r.behind q)/\l8 (B+1) (r.behind q):=by
 unfold iM.behind;rw[ai eh];have hv:=zJ U (seq:=q+1) eh;refine⟨⟨λp x u Z=> ?_,λx u Z=> ?_,?_⟩,λx u Z=> ?_⟩
 ·have e:(if x=r.id then μ (q+1,jx r)else r.O p x)=μ u:=Z;show(if x=r.id then μ (q+1,jx r)else r.K x)=μ u;split
  ·rename_i g;rw[ai g]at e;exact e
  ·rename_i g;rw[af g]at e;exact h.tie p x u e
 ·have e:(if x=r.id then μ (q+1,jx r)else r.K x)=μ u:=Z;by_cases g:x=r.id
  ·rw[ai g]at e;injection e with e;rw[<-e,g];exact hv
  ·rw[af g]at e;exact h.val x u e
 ·have V:jx (r.Eo (q+1) (jx r))=jx r:=oM rfl λ_=>⟨rfl,rfl,rfl⟩
  rw[V];show CS (wk r.K r.id (q+1,jx r)) r.id=_;unfold CS wk;rw[ai rfl]
 ·have e:(if x=r.id then μ (q+1,jx r)else r.K x)=μ u:=Z;by_cases g:x=r.id
  ·rw[ai g]at e;injection e with e;rw[<-e];push_cast;show q+1<=_;omega
  ·rw[af g]at e;have:=hs x u e;push_cast;omega
theorem PJ(h:l8 B r)(Z:ln r):A1 r.K r.id<=B/\0<=A1 r.K r.id:=by
 obtain⟨q,V,_⟩:=Z.own;have h2:=Z.seq;refine⟨?_,eh⟩;unfold A1;rw[V];exact h _ _ V
theorem Oj(h:ado r)(Z:ln r)(hs:l8 B r)(V:B<1000000):Own r.change/\l8 (B+1) r.change:=by
 unfold iM.change;split
 ·rename_i g;exact⟨⟨h.tie,h.val,g⟩,hs.mono eh⟩
 ·exact Fj h Z hs (PJ hs Z).2 (PJ hs Z).1 V
def dif(a b:lD):Nat:=if a.who=b.who/\a.both=b.both then 0 else 1
theorem Fk(h:Own r)(E:ln r)(hs:l8 B r)(H:B<1000000)(i:Nat) {q:lD} (J:oj r.id q):Own (r.meet i q)/\l8 (B+dif q (r.P i).pe) (r.meet i q):=by
 unfold iM.meet dif;simp only;split
 ·rename_i g
  refine⟨h.alike rfl rfl rfl rfl λp=> ?_,hs.alike rfl⟩;rw[kN];split
  ·rename_i e;rw[e];exact⟨rfl,g.1,g.2⟩
  ·exact⟨rfl,rfl,rfl⟩
 ·have U:ln (r.iU i {r.P i with pe:=q}):=E.iU i _ rfl λ_=>J;obtain⟨x,hx⟩:∃x:iM,({r.iU i {r.P i with pe:=q}with O:=λx=>if x=i then λ_=>ν else(r.iU i {r.P i with pe:=q}).O x}:iM)=x:=⟨_,rfl⟩
  have V:ln x:=by rw[<-hx];exact U.yG _
  have o2:ado x:=by
   refine⟨λp y u Z=> ?_,λy u Z=> ?_⟩
   ·rw[<-hx]at Z⊢;have e:(if p=i then λ_=>ν else r.O p) y=μ u:=Z;split at e
    ·exact absurd e gY
    ·exact h.tie p y u e
   ·rw[<-hx]at Z;exact h.val y u Z
  have Q:l8 B x:=by rw[<-hx];exact hs.alike rfl
  obtain⟨c1,c2⟩:=Oj o2 V Q H;rw[hx];split
  ·refine⟨⟨λp y u Z=> ?_,c1.val,?_⟩,c2⟩
   ·have e:(if p=i then qw (x.change.O i) x.change.K else x.change.O p) y=μ u:=Z;show x.change.K y=μ u;split at e
    ·unfold qw at e;split at e
     ·exact e
     ·exact c1.tie i y u e
    ·exact c1.tie p y u e
   ·exact(c1.own).trans (oM rfl λ_=>⟨rfl,rfl,rfl⟩).symm
  ·exact⟨c1,c2⟩
theorem Sy(h:Own r)(iN:ln r)(hs:l8 B r)(hB:B<1000000)(i:Nat)(l:List UInt8)(hl:(il l).2.2.2=0->(il l).2.1<=B):Own (ji r i l)/\l8 (B+1) (ji r i l):=by
 unfold ji;simp only;split
 ·exact⟨h,hs.mono eh⟩
 ·rename_i h1
  have y:(il l).2.2.2=0:=eh;have hv:oy (il l).1 (il l).2.1 (il l).2.2.1=0:=pO (by rw[<-y]);have J:=hl y;have qq:=(jt hv).2.1;split
  ·exact Fj ⟨h.tie,h.val⟩ iN hs eh J hB
  ·rename_i j
   generalize (il l).1=own,(il l).2.1=seq,(il l).2.2.1=es at*;have A:∀x u,lr r.K own seq es x=μ u->r.K x=μ u \/(x=own/\u=(seq,es)/\0<newF r.K own seq es):=λx u U=>by
    unfold lr at U;split at U
    ·rename_i g
     have e:(if x=own then μ (seq,es)else r.K x)=μ u:=U;split at e
     ·rename_i Z;injection e with e;exact .inr ⟨Z,e.symm,g⟩
     ·exact .inl e
    ·exact .inl U
   have H:Own {r with K:=lr r.K own seq es,O:=oR r.K r.O i own seq es} /\l8 B {r with K:=lr r.K own seq es,O:=oR r.K r.O i own seq es}:=by
    refine⟨⟨λp x u U=> ?_,λx u U=> ?_,?_⟩,λx u U=> ?_⟩
    ·have V:oR r.K r.O i own seq es p x=μ u:=U;show lr r.K own seq es x=μ u;unfold oR at V;unfold lr;by_cases g:0<newF r.K own seq es
     ·rw[ai g]at V⊢;show(if x=own then μ (seq,es)else r.K x)=μ u;split at V
      ·have e:(if x=own then ν else if x=own then μ (seq,es)else r.O i x)=μ u:=V;by_cases Z:x=own
       ·rw[ai Z]at e;exact absurd e gY
       ·rw[af Z,af Z]at e;rw[af Z];exact h.tie i x u e
      ·have e:(if x=own then μ (seq,es)else r.O p x)=μ u:=V;by_cases Z:x=own
       ·rw[ai Z]at e⊢;exact e
       ·rw[af Z]at e⊢;exact h.tie p x u e
     ·rw[af g]at V⊢;by_cases Q:newF r.K own seq es<0
      ·rw[ai Q]at V;split at V
       ·cases E:r.K own with
        |none=>rw[E]at V;exact h.tie i x u V
        |some q=>
         rw[E]at V;have e:(if x=own then μ q else r.O i x)=μ u:=V;by_cases Z:x=own
         ·rw[ai Z]at e;rw[Z,E];exact e
         ·rw[af Z]at e;exact h.tie i x u e
       ·exact h.tie p x u V
      ·rw[af Q]at V;split at V
       ·have e:(if x=own then ν else r.O i x)=μ u:=V;by_cases Z:x=own
        ·rw[ai Z]at e;exact absurd e gY
        ·rw[af Z]at e;exact h.tie i x u e
       ·exact h.tie p x u V
    ·rcases A x u U with g|⟨g1,Q,_⟩
     ·exact h.val x u g
     ·rw[g1,Q];exact hv
    ·have e1:jx {r with K:=lr r.K own seq es,O:=oR r.K r.O i own seq es}=jx r:=oM rfl λ_=>⟨rfl,rfl,rfl⟩
     rw[e1,<-h.own];show CS (lr r.K own seq es) r.id=_;have:lr r.K own seq es r.id=r.K r.id:=by
      unfold lr;split
      ·rename_i g
       have Z:r.id≠own:=λe=>j ⟨e.symm,g⟩;show(if r.id=own then _ else _)=_;rw[af Z]
      ·rfl
     unfold CS;rw[this]
    ·rcases A x u U with g|⟨_,Q,_⟩
     ·exact hs x u g
     ·rw[Q];exact J
   split
   ·refine⟨H.1.alike rfl rfl rfl rfl λp=> ?_,(H.2.alike (s:=iM.iU _ i _) rfl).mono eh⟩;rw[kN];split
    ·rename_i e
     rw[e];have D:∀(p:jw) c s,(p.put c s).m=p.m/\(p.put c s).pe=p.pe:=λp c s=>by unfold jw.put;split<;>(try split)<;>exact⟨rfl,rfl⟩
     rw[(D _ _ _).1,(D _ _ _).2];exact⟨rfl,rfl,rfl⟩
    ·exact⟨rfl,rfl,rfl⟩
   ·exact⟨H.1,H.2.mono eh⟩
theorem Sz(h:Own r)(i:Nat)(l:List UInt8):Own (kD r i l)/\(kD r i l).K=r.K:=by
 unfold kD;simp only;split
 ·refine⟨⟨λp x u V=> ?_,h.val,h.own.trans (oM rfl λ_=>⟨rfl,rfl,rfl⟩).symm⟩,rfl⟩;have e:(if p=i/\0<=newF r.K (il l).1 (il l).2.1 (il l).2.2.1 then yC (r.O i) (il l).1 else r.O p) x=μ u:=V;show r.K x=μ u;split at e
  ·have Z:(if x=(il l).1 then ν else r.O i x)=μ u:=e;split at Z
   ·exact absurd Z gY
   ·exact h.tie i x u Z
  ·exact h.tie p x u e
 ·exact⟨h,rfl⟩
theorem r8(p:jw)(c:UInt8)(s:List UInt8):(p.put c s).m=p.m/\(p.put c s).pe=p.pe:=by unfold jw.put;split<;>(try split)<;>exact⟨rfl,rfl⟩
theorem np(r:iM)(t:za):(r.send t).K=r.K/\(r.send t).O=r.O/\(r.send t).id=r.id/\(r.send t).n=r.n/\∀p,((r.send t).P p).m=(r.P p).m/\((r.send t).P p).pe=(r.P p).pe/\((r.send t).P p).L=(r.P p).L:=by
 unfold iM.send;split
 ·exact⟨rfl,rfl,rfl,rfl,λ_=>⟨rfl,rfl,rfl⟩⟩
 ·split
  ·exact⟨rfl,rfl,rfl,rfl,λ_=>⟨rfl,rfl,rfl⟩⟩
  ·refine⟨rfl,rfl,rfl,rfl,λp=> ?_⟩;rw[kN];split
   ·rename_i e;rw[e,(r8 _ _ _).1,(r8 _ _ _).2,wK];exact⟨rfl,rfl,rfl⟩
   ·exact⟨rfl,rfl,rfl⟩
theorem LZ(h:Own r)(t:za):Own (r.send t):=by
 obtain⟨a,b,c,d,e⟩:=np r t;exact h.alike a b c d λp=>by rw[(e p).1,(e p).2.1];exact⟨rfl,rfl,rfl⟩
def SA(q:lD):Nat:=if q.who=0/\q.both=false then 0 else 1
def qW(r:iM):Nat:=SA (r.P 0).pe+SA (r.P 1).pe+SA (r.P 2).pe
theorem pQ(h:∀p,(s.P p).pe=(r.P p).pe):qW s=qW r:=by unfold qW;rw[h,h,h]
theorem Fm(hi:i<3)(q:lD):qW (r.meet i q)+SA (r.P i).pe=qW r+SA q:=by
 have h:=λp=>(kc r i q p).2.2.2;unfold qW;rw[h,h,h];have:i=0 \/i=1 \/i=2:=eh;rcases this with rfl|rfl|rfl
 ·rw[ai rfl,af eA,af eA];omega
 ·rw[af eA,ai rfl,af eA];omega
 ·rw[af eA,af eA,ai rfl];omega
theorem adp(a b:lD):dif a b<=1:=by unfold dif;split<;>decide
theorem adq(a:lD):SA a<=1:=by unfold SA;split<;>decide
theorem Fp(q:lD):dif nobody q+SA nobody<=SA q:=by
 unfold dif SA;show(if(0:Int)=q.who/\false=q.both then 0 else 1)+(if(0:Int)=0/\false=false then 0 else 1)<=_;rw[ai (⟨rfl,rfl⟩:(0:Int)=0/\false=false)];by_cases e:q.who=0/\q.both=false
 ·rw[ai ⟨e.1.symm,e.2.symm⟩];omega
 ·rw[af (λh=>e ⟨h.1.symm,h.2.symm⟩),af e];exact Nat.le_refl _
theorem Wi(q:lD):dif (iI q) q+SA (iI q)<=SA q:=by
 unfold iI;split
 ·exact Fp q
 ·unfold dif SA;rw[ai ⟨rfl,rfl⟩];simp
def sw:k9->Nat
 |72::_=>2
 |83::_=>1
 |_=>0
def z9(B:Nat)(x:k9):Prop:=∀s,x=83::s->(il s).2.2.2=0->(il s).2.1<=(B:Int)
theorem z9.mono(h:z9 B x)(hc:B<=C):z9 C x:=λs e Z=>by have:=h s e Z;omega
theorem Bt(h:Own r)(Z:ln r)(hs:l8 B r)(V:B<1000000)(hi:i<3):∃C,Own (r.meet i nobody)/\l8 C (r.meet i nobody)/\B<=C/\C+qW (r.meet i nobody)<=B+qW r:=by
 obtain⟨a,b⟩:=Fk h Z hs V i (oj.nobody Z.id.1);have h1:=Fm (r:=r) hi nobody;have h2:=Fp (r.P i).pe;exact⟨_,a,b,eh,eh⟩
theorem SB(h:Own r)(H:ln r)(hs:l8 B r)(Q:B<1000000)(hi:i<3)(x:k9)(hx:z9 B x):∃C,Own (jM r i x)/\l8 C (jM r i x)/\B<=C/\C+qW (jM r i x)<=B+qW r+sw x:=by
 cases x with
 |nil=>exact⟨B,h,hs,Nat.le_refl _,by show B+qW r<=_;omega⟩
 |cons c s=>
  show∃C,Own (r.take i c s)/\l8 C (r.take i c s)/\B<=C/\C+qW (r.take i c s)<=B+qW r+sw (c::s);have hl:Own (j1 r i c s)/\l8 B (j1 r i c s)/\qW (j1 r i c s)=qW r:=by
   unfold j1;split
   ·have e:∀p,((r.iU i ((r.P i).packet s)).P p).m=(r.P p).m/\((r.iU i ((r.P i).packet s)).P p).pe=(r.P p).pe:=λp=>by
     rw[kN];split
     ·rename_i e;rw[e,(ur _ _).1,(ur _ _).2];exact⟨rfl,rfl⟩
     ·exact⟨rfl,rfl⟩
    exact⟨h.alike rfl rfl rfl rfl λp=>by rw[(e p).1,(e p).2];exact⟨rfl,rfl,rfl⟩,hs.alike rfl,pQ λp=>(e p).2⟩
   ·exact⟨h,hs,rfl⟩
  have V:=H.link i c s;rw[lJ];obtain⟨r1,J⟩:=gg (j1 r i c s);have pT:r1.id=r.id:=by rw[<-J];exact(jH.link r i c s).id
  rw[J]at hl V⊢;obtain⟨l1,l2,l3⟩:=hl;split
  ·obtain⟨C,a,b,c1,c2⟩:=Bt l1 V l2 Q hi;exact⟨C,a,b,c1,eh⟩
  ·unfold mA;split
   ·rename_i hc
    split
    ·rename_i U
     obtain⟨a,b⟩:=Fk l1 V l2 Q i (oj.YA (s:=(kG s).2.1) V.id.1 (EK U));have h1:=Fm (r:=r1) hi (jg r1.id (kG s).1 (kG s).2.1);have h2:=adp (jg r1.id (kG s).1 (kG s).2.1) (r1.P i).pe;have h3:=adq (jg r1.id (kG s).1 (kG s).2.1);exact⟨_,a,b,eh,by rw[hc];show _<=B+qW r+2;omega⟩
    ·exact⟨B,l1,l2,Nat.le_refl _,eh⟩
   ·split
    ·rename_i hc
     obtain⟨a,b⟩:=Sy l1 V l2 Q i s λU=>hx s (by rw[hc]) U;have e:qW (ji r1 i s)=qW r1:=pQ λp=>(kg.state r1 i s p).2;exact⟨_,a,b,eh,by rw[hc,e];show _<=B+qW r+1;omega⟩
    ·split
     ·obtain⟨a,b⟩:=Sz l1 i s;have e:qW (kD r1 i s)=qW r1:=pQ λp=>by unfold kD;simp only;split<;>rfl
      exact⟨B,a,l2.alike b,Nat.le_refl _,by rw[e];omega⟩
     ·split
      ·unfold ru;split
       ·have Z:=np r1 (((s.getD 0 0).toNat:Int),((s.getD 1 0).toNat:Int),s.drop 2);exact⟨B,LZ l1 _,l2.alike Z.1,Nat.le_refl _,by rw[pQ λp=>(Z.2.2.2.2 p).2.1];omega⟩
       ·exact⟨B,l1,l2,Nat.le_refl _,eh⟩
      ·exact⟨B,l1,l2,Nat.le_refl _,eh⟩
theorem lR(r:iM)(i p:Nat):((jb r i).P p).m=(r.P p).m/\((jb r i).P p).pe=(r.P p).pe:=by
 unfold jb;rw[kN];split
 ·rename_i e;rw[e,(sL _).1,(sL _).2.1];exact⟨rfl,rfl⟩
 ·exact⟨rfl,rfl⟩
theorem pG(r:iM)(i:Nat):(mI r i).K=r.K/\(mI r i).O=r.O/\(mI r i).id=r.id/\(mI r i).n=r.n/\∀p,((mI r i).P p).m=(r.P p).m/\((mI r i).P p).pe=(r.P p).pe/\((mI r i).P p).L=(r.P p).L:=by
 have hA:∀(l:List (Int×PS)) (p:jw),(p.kH l).m=p.m:=λl=>by
  induction l with
  |nil=>intro p;rfl
  |cons q r ih=>intro p;show((p.put 83 _).kH r).m=_;rw[ih,(r8 _ _ _).1]
 refine⟨rfl,rfl,rfl,rfl,λp=> ?_⟩;unfold mI;simp only;rw[kN];split
 ·rename_i e
  rw[e];split
  ·rw[hA,(wL _ _).1,(wL _ _).2,(r8 _ _ _).1,(r8 _ _ _).2,wK];exact⟨rfl,rfl,rfl⟩
  ·rw[(r8 _ _ _).1,(r8 _ _ _).2,wK];exact⟨rfl,rfl,rfl⟩
 ·exact⟨rfl,rfl,rfl⟩
theorem Bu(h:Own r)(D:ln r)(hs:l8 B r)(Q:B<1000000)(hi:i<3)(hn:r.n=3):∃C,Own (r.iV i)/\l8 C (r.iV i)/\B<=C/\C+qW (r.iV i)<=B+qW r/\ln (r.iV i):=by
 rw[k7];have Z:Own (jb r i):=h.alike rfl rfl rfl rfl λp=>by rw[(lR r i p).1,(lR r i p).2];exact⟨rfl,rfl,rfl⟩
 have s1:l8 B (jb r i):=hs.alike rfl;have k1:=D.jb i;have c1:qW (jb r i)=qW r:=pQ λp=>(lR r i p).2;have n1:(jb r i).n=r.n:=rfl;obtain⟨r1,J⟩:=gg (jb r i);rw[J]at Z s1 k1 c1 n1⊢;split
 ·obtain⟨C,a,b,c,d⟩:=Bt Z k1 s1 Q hi;exact⟨C,a,b,c,eh,k1.meet i (oj.nobody k1.id.1)⟩
 ·have U:=oj.tick k1.id.1 (k1.pe i eh);obtain⟨a,b⟩:=Fk Z k1 s1 Q i U;have h2:=Fm (r:=r1) hi (iI (r1.P i).pe);have h3:=Wi (r1.P i).pe;obtain⟨t1,t2,E,H,V⟩:=pG (r1.meet i (iI (r1.P i).pe)) i;refine⟨_,a.alike t1 t2 E H λp=> ?_,b.alike t1,eh,?_,(k1.meet i U).tell i⟩
  ·rw[(V p).1,(V p).2.1];exact⟨rfl,rfl,rfl⟩
  ·rw[pQ λp=>(V p).2.1];omega
theorem Wj(h:Own r)(V:ln r)(hs:l8 B r)(U:B<1000000)(hi:i<3)(up:Bool):∃C,Own (r.iL i up).1/\l8 C (r.iL i up).1/\B<=C/\C+qW (r.iL i up).1<=B+qW r/\ln (r.iL i up).1:=by
 unfold iM.iL;simp only;split
 ·exact⟨B,h,hs,Nat.le_refl _,Nat.le_refl _,V⟩
 ·have e:((r.P i).iL up).1.m=(r.P i).m/\((r.P i).iL up).1.pe=(r.P i).pe:=by
   unfold jw.iL;generalize kY (r.P i).L (if up=true then 0 else 1)=E;simp only;split
   ·exact⟨rfl,rfl⟩
   ·rw[(wD _ _).1,(wD _ _).2];exact⟨rfl,rfl⟩
  have Z:∀p,((r.iU i ((r.P i).iL up).1).P p).m=(r.P p).m/\((r.iU i ((r.P i).iL up).1).P p).pe=(r.P p).pe:=λp=>by
   rw[kN];split
   ·rename_i g;rw[g];exact e
   ·exact⟨rfl,rfl⟩
  have Q:Own (r.iU i ((r.P i).iL up).1):=h.alike rfl rfl rfl rfl λp=>by rw[(Z p).1,(Z p).2];exact⟨rfl,rfl,rfl⟩
  have k1:ln (r.iU i ((r.P i).iL up).1):=V.iU i _ e.1 λhi=>by rw[e.2];exact V.pe i hi
  obtain⟨C,a,b,c,d⟩:=Bt Q k1 (hs.alike (s:=r.iU i _) rfl) U hi;exact⟨C,a,b,c,by rw[pQ λp=>(Z p).2]at d;exact d,k1.meet i (oj.nobody k1.id.1)⟩
structure vE(B N:Nat)(a:AN):Prop where
 r:∀i,i<a.n->Own (a.R i)/\ln (a.R i)/\l8 B (a.R i)/\(a.R i).id=(i:Int)+1/\(a.R i).n=3
 f:∀c d,c<a.nc->d<2->∀x∈a.F c d,z9 B x
 b:B+a.W sw+sm (λi=>qW (a.R i)) (fW a.n)<=N
 one:1<=B
 ms:∀i p,i<a.n->p<3->1<=a.ms i p/\a.ms i p<=20
theorem Wk(h:Own s):Own s.core:=h.alike rfl rfl rfl rfl λ_=>⟨rfl,rfl,rfl⟩
theorem Zf(h:ln s):ln s.core:=⟨h.id,h.m,h.pe,h.own,h.Po⟩
theorem own_op(hB:tH a)(h:vE B N a)(i:Nat)(hi:i<a.n)(s:iM)(C k:Nat)(Q:Own s)(J:ln s)(U:l8 C s)(h4:s.id=(i:Int)+1)(u:s.n=3)(Z:B<=C)(E:∀p,∀x∈jk (s.P p),z9 C x)(hb:C+qW s+(sm sw (jk (s.P 0))+sm sw (jk (s.P 1))+sm sw (jk (s.P 2)))<=B+qW (a.R i)+k):vE C (N+k) (a.op i s):=by
 refine⟨λj hj=> ?_,λc d hc hd x hx=> ?_,?_,by have:=h.one;omega,h.ms⟩
 ·show Own (jU a.R i s.core j)/\ln (jU a.R i s.core j)/\l8 C (jU a.R i s.core j)/\(jU a.R i s.core j).id=_/\(jU a.R i s.core j).n=3;by_cases e:j=i
  ·rw[e,iE];exact⟨Wk Q,Zf J,U.alike (s:=s.core) rfl,h4,u⟩
  ·rw[iC _ _ e];obtain⟨H,a2,D,A,y⟩:=h.r j hj;exact⟨H,a2,D.mono Z,A,y⟩
 ·rw[vD]at hx;split at hx
  ·rcases aw.1 hx with e|e
   ·exact(h.f c d hc hd x e).mono Z
   ·exact E _ x e
  ·exact(h.f c d hc hd x hx).mono Z
 ·have h6:=adn hB i s sw;have h7:sm (λj=>qW ((a.op i s).R j)) (fW a.n)+qW (a.R i)<=sm (λj=>qW (a.R j)) (fW a.n)+qW s:=by
   have V:sm (λj=>qW ((a.op i s).R j)+(if j=i then qW (a.R i)else 0)) (fW a.n)<=sm (λj=>qW (a.R j)+(if j=i then qW s else 0)) (fW a.n):=vu λj _=>by
    show qW (jU a.R i s.core j)+_<=_;by_cases e:j=i
    ·subst e;rw[iE,ai rfl,ai rfl];have:qW s.core=qW s:=rfl;omega
    ·rw[iC _ _ e,af e,af e];exact Nat.le_refl _
   rw[Fg,Fg,Jz i _ bX,Jz i _ bX,ai (aQ.2 hi),ai (aQ.2 hi)]at V;exact V
  have h8:=h.b;show C+(a.op i s).W sw+sm (λj=>qW ((a.op i s).R j)) (fW a.n)<=N+k;omega
theorem xC {F:Int->Option PS} {y:Int×PS} (h:y∈lE F):F y.1=μ y.2:=by
 unfold lE at h;obtain⟨j,_,Z⟩:=cD.1 h;cases e:F ((j:Int)+1)with
 |none=>rw[e]at Z;simp at Z
 |some q=>rw[e]at Z;simp only[Option.map_some,Option.some.injEq]at Z;rw[<-Z];exact e
theorem rO {l:List kM} (h:x∈l.flatMap oo):∃s,x=76::s:=by
 obtain⟨q,_,Z⟩:=aT.1 h;unfold oo at Z;split at Z
 ·exact⟨_,au.1 Z⟩
 ·simp at Z
theorem Aa:∀ {l:List k9},(∀x∈l,sw x=0)->sm sw l=0
 |[],_=>rfl
 |x::l,h=>by
  have:=Aa (l:=l) λy hy=>h y (by simp[hy]);have h1:=h x gY;show sw x+sm sw l=0;omega
theorem PN:∀l:List (Int×PS),sm sw (l.flatMap Dv)<=l.length
 |[] =>Nat.le_refl _
 |q::l=>by
  have:=PN l;rw[b9,pP];have h1:sm sw (Dv q)<=1:=by
   unfold Dv;split
   ·exact Nat.le_refl _
   ·exact Nat.zero_le _
  simp only[eZ];omega
theorem PO(h:Fh r i x p l):(∀y∈l,sw y=0)/\∀B,∀y∈l,z9 B y:=by
 have Z:∀(c:UInt8) (s:List UInt8),c≠72->c≠83->sw (c::s)=0/\∀B,z9 B (c::s):=λc s U V=>by
  refine⟨?_,λB t e=>absurd (aD e).1 V⟩;unfold sw;split
  ·rename_i e;exact absurd (aD e).1 U
  ·rename_i e;exact absurd (aD e).1 V
  ·rfl
 cases h with
 |none h=>rw[h];exact⟨λ_ h=>by simp at h,λ_ _ h=>by simp at h⟩
 |link s _ _ _ h=>
  rw[h];exact⟨λy hy=>by obtain⟨s,rfl⟩:=rO hy;exact(Z 76 s eA eA).1,λB y hy=>by obtain⟨s,rfl⟩:=rO hy;exact(Z 76 s eA eA).2 B⟩
 |heard s _ _ _ _ _ _ _ h=>
  rw[h];exact⟨λy hy=>by rw[au.1 hy];exact(Z 65 _ eA eA).1,λB y hy=>by rw[au.1 hy];exact(Z 65 _ eA eA).2 B⟩
 |JA a b s _ _ _ _ h=>
  rw[h];exact⟨λy hy=>by rw[au.1 hy];exact(Z 77 _ eA eA).1,λB y hy=>by rw[au.1 hy];exact(Z 77 _ eA eA).2 B⟩
theorem L5(h:ln r)(i:Nat)(x:k9):ln (jM r i x)/\(jM r i x).id=r.id/\(jM r i x).n=r.n:=by
 cases x with
 |nil=>exact⟨h,rfl,rfl⟩
 |cons c s=>exact⟨h.take i c s,(N1 r i c s).2,(N1 r i c s).1⟩
theorem JC(r:iM)(i:Nat)(up:Bool):(r.iL i up).1.id=r.id/\(r.iL i up).1.n=r.n:=⟨(jH.iL r i up).id,(jH.iL r i up).n⟩
theorem JD(h:∀p,∀y∈jk (s.P p),sw y=0):sm sw (jk (s.P 0))+sm sw (jk (s.P 1))+sm sw (jk (s.P 2))=0:=by
 rw[Aa (h 0),Aa (h 1),Aa (h 2)]
theorem PR(h:J2 r)(i:Nat)(up:Bool):∀p,∀y∈jk ((r.iL i up).1.P p),∃s,y=76::s:=λp y hy=>by
 by_cases Z:(kY (r.P i).L (if up=true then 0 else 1)).2.2=0
 ·obtain⟨a,b,_⟩:=JB h i up Z;by_cases e:p=i
  ·subst e;rw[b]at hy;exact rO hy
  ·rw[a p e]at hy;simp at hy
 ·have:(r.iL i up).1=r:=by
   unfold iM.iL jw.iL;generalize kY (r.P i).L (if up=true then 0 else 1)=E at*;simp only;rw[ai Z];simp only;rw[ai Z]
  rw[this,jz (h p)]at hy;simp at hy
theorem Wl(s:List UInt8):sw (76::s)=0/\∀B,z9 B (76::s):=⟨rfl,λB t e=>absurd (aD e).1 eA⟩
theorem Bv(V:tH a)(H:Norm a)(h:vE B N a)(hl:N<1000000)(hc:c<a.nc)(hd:d<2)(up:Bool):∃C,vE C N (a.nI c d up):=by
 obtain⟨hi,A⟩:=V.en c d hc hd;obtain⟨U,u,J,E,D⟩:=h.r _ hi;obtain⟨C,c1,c2,c3,c4,Q⟩:=Wj U u J (by have:=h.b;omega) A up;have Z:=PR (H.emp (a.e c d).1) (a.e c d).2 up;refine⟨C,own_op V h _ hi _ C 0 c1 Q c2 ((JC _ _ _).1.trans E) ((JC _ _ _).2.trans D) c3 (λp x hx=> ?_) ?_⟩
 ·obtain⟨s,rfl⟩:=Z p x hx;exact(Wl s).2 C
 ·rw[JD λp y hy=>by obtain⟨s,rfl⟩:=Z p y hy;rfl];omega
theorem L6(u:tH a)(A:Norm a)(h:vE B N a)(hl:N<1000000)(hc:c<a.nc)(up:Bool):∃C,vE C N (a.iL c up):=by
 obtain⟨b,hb⟩:=gg ((({a with iQ:=jU a.iQ c up}:AN).lv c 0 []).lv c 1 []);have U:tH b:=u.same (by rw[<-hb];rfl) (by rw[<-hb];rfl) (by rw[<-hb];rfl);have Q:Norm b:=by rw[<-hb];exact A
 have V:c<b.nc:=by rw[<-hb];exact hc
 have E:vE B N b:=by
  have w1:=Du {a with iQ:=jU a.iQ c up} sw c 0;have H:=Du (({a with iQ:=jU a.iQ c up}:AN).lv c 0 []) sw c 1;have w3:=h.b;rw[hb]at H;have e1:({a with iQ:=jU a.iQ c up}:AN).W sw=a.W sw:=rfl;refine⟨by rw[<-hb];exact h.r,λx f hx hf y hy=> ?_,?_,h.one,by rw[<-hb];exact h.ms⟩
  ·have D:y∈a.F x f \/y∈([] :List k9):=by
    rw[<-hb]at hy;have Z:y∈(if x=c/\f=1 then []else if x=c/\f=0 then []else a.F x f):=hy;split at Z
    ·exact .inr Z
    ·split at Z
     ·exact .inr Z
     ·exact .inl Z
   rcases D with g|g
   ·exact h.f x f (by rw[<-hb]at hx;exact hx) hf y g
   ·simp at g
  ·have Z:sm (λi=>qW (b.R i)) (fW b.n)=sm (λi=>qW (a.R i)) (fW a.n):=by rw[<-hb];rfl
   omega
 obtain⟨C,J⟩:=Bv U Q E hl V (by decide:0<2) up;unfold AN.iL;rw[hb];exact Bv (a:=b.nI c 0 up) (U.same rfl rfl rfl) (qV Q _ _) J hl V (by decide:1<2) up
theorem mQ.own(h:mQ a T S b)(U:tH a)(D:Norm a)(Z:vE B N a)(hl:N<1000000):∃C,vE C (N+8*T.length) b:=by
 have hBl:=Z.b;cases h with
 |lost h=>
  refine⟨B,by rw[h.1];exact Z.r,λc d hc hd x hx=> ?_,?_,Z.one,by rw[h.1];exact Z.ms⟩
  ·obtain⟨m,hm⟩:=h.2 c d;rw[hm]at hx;rw[h.1]at hc;exact Z.f c d hc hd x (dh hx)
  ·have h1:=adl h sw;have e:sm (λi=>qW (b.R i)) (fW b.n)=sm (λi=>qW (a.R i)) (fW a.n):=by rw[h.1]
   show _<=N+0;omega
 |tick i p hi hp=>
  obtain⟨E,J,A,u,Q⟩:=Z.r i hi;obtain⟨C,c1,c2,c3,c4,c5⟩:=Bu E J A eh hp Q;obtain⟨e1,e2⟩:=xB (D.emp i) p;have pT:((a.R i).iV p).id=(i:Int)+1/\((a.R i).iV p).n=3:=⟨(jH.iV (a.R i) p).id.trans u,(jH.iV (a.R i) p).n.trans Q⟩
  have hOp:((a.R i).iV p).O=((jb (a.R i) p).meet p (iI ((a.R i).P p).pe)).O \/(jd ((a.R i).P p).L).1.st≠9:=by
   by_cases h9:(jd ((a.R i).P p).L).1.st=9
   ·left;have ki:((jb (a.R i) p).P p).L.st=9:=by
     unfold jb;rw[kN,ai rfl];rw[sN];exact h9
    rw[k7,af (by rw[ki];simp),(lR _ _ _).2];rfl
   ·exact .inr h9
  refine⟨C,own_op U Z i hi _ C 8 c1 c5 c2 pT.1 pT.2 c3 (λq x hx=> ?_) ?_⟩
  ·by_cases e:q=p
   ·subst e;rw[e2]at hx;rcases aw.1 hx with g|g
    ·obtain⟨s,rfl⟩:=rO g;exact(Wl s).2 C
    ·split at g
     ·rename_i h9
      rcases aP.1 g with g|g
      ·rw[g];intro s e;exact absurd (aD e).1 eA
      ·split at g
       ·obtain⟨y,hy,C2⟩:=aT.1 g;unfold Dv at C2;split at C2
        ·rw[au.1 C2];intro s e hz;rw[<-(aD e).2];have hK:=c1.tie q y.1 y.2 (by rw[hOp.resolve_right (by rw[h9];simp)];exact xC hy);rw[nO _ _ _ (c1.val _ _ hK)];exact c2 _ _ hK
        ·simp at C2
       ·simp at g
     ·simp at g
   ·rw[e1 q e]at hx;simp at hx
  ·have hp3:p=0 \/p=1 \/p=2:=eh;have hs:sm sw (jk (((a.R i).iV p).P p))<=8:=by
    rw[e2,pP,Aa λx hx=>by obtain⟨s,rfl⟩:=rO hx;rfl];split
    ·have e3:∀(x:k9) l,sm sw (x::l)=sw x+sm sw l:=λ_ _=>rfl;rw[e3];have e4:sw (72::[jY (a.R i).id,jY (iI ((a.R i).P p).pe).who])=2:=rfl;split
     ·have:=PN (lE (((jb (a.R i) p).meet p (iI ((a.R i).P p).pe)).O p));have:=Bc (((jb (a.R i) p).meet p (iI ((a.R i).P p).pe)).O p);omega
     ·have e5:sm sw [] =0:=rfl;omega
    ·have e5:sm sw [] =0:=rfl;omega
   have H:∀q,q≠p->sm sw (jk (((a.R i).iV p).P q))=0:=λq hq=>by rw[e1 q hq];rfl
   rcases hp3 with rfl|rfl|rfl
   ·rw[H 1 eA,H 2 eA];omega
   ·rw[H 0 eA,H 2 eA];omega
   ·rw[H 0 eA,H 1 eA];omega
 |pop c d x l hc hd hF=>
  obtain⟨hi,hp⟩:=U.en c (1-d) hc eh;have hw:=aaM sw hc hd hF;have h1:vE B (N-sw x) (a.lv c d l):=by
   refine⟨Z.r,λy f hy hf z hz=> ?_,?_,Z.one,Z.ms⟩
   ·rw[sO]at hz;split at hz
    ·rename_i e
     exact Z.f c d hc hd z (by rw[hF];simp[hz])
    ·exact Z.f y f hy hf z hz
   ·show B+(a.lv c d l).W sw+sm (λi=>qW (a.R i)) (fW a.n)<=_;omega
  obtain⟨E,J,A,u,Q⟩:=Z.r _ hi;obtain⟨C,c1,c2,c3,c4⟩:=SB E J A eh hp x (Z.f c d hc hd x (by rw[hF];simp));obtain⟨t1,t2,t3⟩:=L5 J (a.e c (1-d)).2 x;obtain⟨m1,_⟩:=qo (D.emp (a.e c (1-d)).1) (a.e c (1-d)).2 x;have h2:=own_op (a:=a.lv c d l) (U.same rfl rfl rfl) h1 _ hi (jM (a.R (a.e c (1-d)).1) (a.e c (1-d)).2 x) C (sw x) c1 t1 c2 (t2.trans u) (t3.trans Q) c3 (λq y hy=>(PO (m1 q)).2 C y hy) (by
   rw[JD λq y hy=>(PO (m1 q)).1 y hy];show C+_+0<=B+qW (a.R (a.e c (1-d)).1)+sw x;omega)
  refine⟨C,?_⟩;have e:N-sw x+sw x=N+8*0:=eh;rw[e]at h2;exact h2
 |send i t tx hi _ _ _=>
  obtain⟨E,J,A,u,Q⟩:=Z.r i hi;obtain⟨s1,s2,s3,s4,s5⟩:=np (a.R i) (t,8,tx);obtain⟨j,g1,g2⟩:=Dw (D.emp i) (t,8,tx);have hq:∀p,∀y∈jk (((a.R i).send (t,8,tx)).P p),∃s,y=77::s:=λp y hy=>by
   by_cases e:p=j
   ·subst e;rcases g2 with g|⟨_,g⟩
    ·rw[g]at hy;simp at hy
    ·rw[g]at hy;exact⟨_,au.1 hy⟩
   ·rw[g1 p e]at hy;simp at hy
  refine⟨B,own_op U Z i hi _ B 0 (LZ E _) (J.send _) (A.alike s1) (s3.trans u) (s4.trans Q) (Nat.le_refl _) (λp x hx=> ?_) ?_⟩
  ·obtain⟨s,rfl⟩:=hq p x hx;intro t e;exact absurd (aD e).1 eA
  ·rw[JD λp y hy=>by obtain⟨s,rfl⟩:=hq p y hy;rfl,pQ λp=>(s5 p).2.1];omega
 |iL c hc _ _ _=>
  obtain⟨C,h⟩:=L6 U D Z hl hc true;exact⟨C,h.r,h.f,Nat.le_trans h.b (Nat.le_add_right _ _),h.one,h.ms⟩
 |draw c hc _=>exact L6 U D Z hl hc false
 |anew i m hi hd=>
  have pT:(1:Int)<=(i:Int)+1/\(i:Int)+1<=6:=by have:=U.n6;omega
  have hR:∀j,({a with R:=jU a.R i (jN ((i:Int)+1) 3 (a.ms i)),ib:=jU a.ib i ((a.ib i).take m)}:AN).R j=if j=i then jN ((i:Int)+1) 3 (a.ms i)else a.R j:=λj=>rfl
  refine⟨B,λj hj=> ?_,Z.f,?_,Z.one,Z.ms⟩
  ·rw[hR];by_cases e:j=i
   ·subst e;rw[ai rfl];refine⟨⟨λp x q h=>h,λx q h=> ?_,?_⟩,zQ pT (Z.ms j · hi),λx q h=> ?_,rfl,rfl⟩
    ·have V:(if x=(j:Int)+1 then μ ((1:Int),([] :List jE))else ν)=μ q:=h;split at V
     ·rename_i e;injection V with V;rw[<-V,e]
      unfold oy;rw[af eh,af gY];rfl
     ·exact absurd V gY
    ·have e1:CS (jN ((j:Int)+1) 3 (a.ms j)).K (jN ((j:Int)+1) 3 (a.ms j)).id=[] :=by
      show(match (if(j:Int)+1=(j:Int)+1 then some ((1:Int),([] :List jE))else none)with|none=>[] |some q=>q.2)=_;rw[ai rfl]
     rw[e1];have e2:∀n k,jP (jN ((j:Int)+1) 3 (a.ms j)).P n k=ν:=λn k=>by
      induction k with
      |zero=>rfl
      |succ k ih=>unfold jP;rw[af (λh=>absurd h.1 (show¬false=true by simp)),ih]
     unfold jx;simp only[e2,Option.map_none];rfl
    ·have V:(if x=(j:Int)+1 then μ ((1:Int),([] :List jE))else ν)=μ q:=h;split at V
     ·injection V with V;rw[<-V];have:=Z.one;show(1:Int)<=_;omega
     ·exact absurd V gY
   ·rw[af e];exact Z.r j hj
  ·have e1:sm (λj=>qW (({a with R:=jU a.R i (jN ((i:Int)+1) 3 (a.ms i)),ib:=jU a.ib i ((a.ib i).take m)}:AN).R j)) (fW a.n)<=sm (λj=>qW (a.R j)) (fW a.n):=vu λj _=>by
    rw[hR];split
    ·exact Nat.zero_le _
    ·exact Nat.le_refl _
   show B+a.W sw+sm (λj=>qW (({a with R:=jU a.R i (jN ((i:Int)+1) 3 (a.ms i)),ib:=jU a.ib i ((a.ib i).take m)}:AN).R j)) (fW a.n)<=N+0;omega
def nZ(g:Int):List jE:=[(1,255),(5,g)]
structure LI(g:Int)(L:LS):Prop where
 fs:L.fs=255
 fm:L.fm=g
 ns:L.ns=255
 nm:L.nm=g
 q:6<=L.st->L.qs=255/\L.qm=g
 st:L.st=1 \/(6<=L.st/\L.st<=9)
 k:zt L
theorem Ih {s:LS} {ev:Int} {l:List UInt8} {nx:Int} (zo:kM)(h:jh s.st ev=(l,nx,0)):sW s ev zo=(qJ l (s.next nx),yu l (s.next nx) zo,0):=by
 rw[tO zo (by rw[h])];unfold nW pL;rw[h]
theorem yV:(jh 6 6=([97],8,0)/\jh 7 6=([97,117],9,0)/\jh 8 6=([97],8,0)/\jh 9 6=([100,114,97],8,0))/\(jh 6 8=([105],7,0)/\jh 8 8=([105,117],9,0))/\(jh 6 4=([114],6,0)/\jh 7 4=([114],6,0)/\jh 8 4=([114],8,0))/\(jh 6 5=([102],3,0)/\jh 7 5=([102],3,0)/\jh 8 5=([102],3,0))/\(jh 3 1=([115],1,0)/\jh 1 0=([105,114],6,0))/\(jh 6 1=([],1,0)/\jh 7 1=([],1,0)/\jh 8 1=([],1,0)/\jh 9 1=([100],1,0)):=by
 refine⟨⟨?_,?_,?_,?_⟩,⟨?_,?_⟩,⟨?_,?_,?_⟩,⟨?_,?_,?_⟩,⟨?_,?_⟩,?_,?_,?_,?_⟩<;>rfl
theorem JE(hg:1<=g/\g<=255):od 255 g=nZ g:=by
 unfold od nZ;rw[ai eA,ai eh];rfl
theorem PT {x:Int} (h:6<=x/\x<=9):x=6 \/x=7 \/x=8 \/x=9:=eh
theorem aaO(V:1<=g/\g<=255)(h:LI g L)(Q:L.st=1):LI g (kY L 0).1/\(kY L 0).2.1=[(1,(L.ow+1) %256,nZ g)] /\(kY L 0).1.ow=(L.ow+1) %256/\(kY L 0).1.st=6/\(kY L 0).1.wt=3:=by
 have Z:=h.k.kY 0;have e:kY L 0=sW L 0 (0,0,[]):=rfl;have U:jh L.st 0=([105,114],6,0):=by rw[Q];exact yV.2.2.2.2.1.2
 rw[e,Ih _ U]at Z⊢;have en:L.next 6={L with st:=6}:=by unfold LS.next;rw[af eA]
 rw[en]at Z⊢;refine⟨⟨h.fs,h.fm,h.ns,h.nm,λ_=>⟨h.ns,h.nm⟩,.inr ⟨by show(6:Int)<=6;decide,by show(6:Int)<=9;decide⟩,Z⟩,?_,rfl,rfl,rfl⟩;show [(1,(L.ow+1) %256,od L.ns L.nm)] =_;rw[h.ns,h.nm,JE V]
theorem Zg(h:LI g L)(U:6<=L.st):LI g (kY L 1).1/\(kY L 1).1.st=1/\(kY L 1).1.ow=L.ow:=by
 have Z:=h.k.kY 1;have e:kY L 1=sW L 1 (0,0,[]):=rfl;obtain⟨a,b,c,d⟩:=yV.2.2.2.2.2;have J:=PT ⟨U,by have:=h.st;omega⟩;have hl:∃l,jh L.st 1=(l,1,0)/\(l=[] \/l=[100]):=by
  rcases J with g|g|g|g<;>rw[g]
  ·exact⟨_,a,.inl rfl⟩
  ·exact⟨_,b,.inl rfl⟩
  ·exact⟨_,c,.inl rfl⟩
  ·exact⟨_,d,.inr rfl⟩
 obtain⟨l,H,Q⟩:=hl;rw[e,Ih _ H]at Z⊢;have en:L.next 1={L with st:=1,ns:=L.fs,nm:=L.fm,sz:=255}:=by unfold LS.next;rw[ai eA]
 have V:qJ l (L.next 1)=L.next 1:=by rcases Q with rfl|rfl<;>rfl
 rw[V,en]at Z;rw[V,en];exact⟨⟨h.fs,h.fm,h.fs,h.fm,λh=>absurd h (by show¬(6:Int)<=1;decide),.inl rfl,Z⟩,rfl,rfl⟩
structure agW(g:Int)(L L':LS)(out:List kM):Prop where
 li:LI g L'
 or:(out=[] /\L'.ow=L.ow/\L'.st=L.st/\(L.st=1 \/L.st=9->L'=L)/\(6<=L.st/\L.st<=8->1<L.wt/\L'.wt=L.wt-1)) \/((6<=L.st/\L.st<=8)/\L.wt=1/\out=[(1,(L.ow+1) %256,nZ g)] /\L'.ow=(L.ow+1) %256/\L'.wt=3/\(L'.st=6 \/(L.st=8/\L'.st=8)))
theorem JF(hg:1<=g/\g<=255)(h:LI g L):agW g L (jd L).1 (jd L).2:=by
 obtain⟨o1,o2,o3,o4,o5,o6,o7,o8⟩:=(sH _ _ _).1 h.k.ok;by_cases u:6<=L.st/\L.st<=8
 ·have hb:¬(decide (4<=L.st)&&decide (L.st<=8))=false:=by simp;omega
  by_cases E:0<L.wt-1
  ·have Z:kj L={L with wt:=L.wt-1}:=by unfold kj;rw[af hb,ai E]
   have Q:lM L=[] :=by unfold lM;rw[af hb,ai E]
   have y:=h.k.tick;have J:jd L=({L with wt:=L.wt-1},[]):=by
    unfold jd;rw[Z,Q,af (show¬L.st=3 by omega)]
   rw[Z]at y;rw[J];exact⟨⟨h.fs,h.fm,h.ns,h.nm,h.q,h.st,y⟩,.inl ⟨rfl,rfl,rfl,λh=>eh,λ_=>⟨eh,rfl⟩⟩⟩
  ·have mP:L.wt=1:=eh;by_cases hf:0<L.lf
   ·have A:∃nx,jh L.st 4=([114],nx,0)/\(nx=6 \/(L.st=8/\nx=8)):=by
     obtain⟨a,b,c⟩:=yV.2.2.1;have:L.st=6 \/L.st=7 \/L.st=8:=eh;rcases this with g|g|g<;>rw[g]
     ·exact⟨_,a,.inl rfl⟩
     ·exact⟨_,b,.inl rfl⟩
     ·exact⟨_,c,.inr ⟨rfl,rfl⟩⟩
    obtain⟨nx,mM,vG⟩:=A;have y:=h.k.tick;have en:({L with wt:=L.wt-1}:LS).next nx={L with wt:=L.wt-1,st:=nx}:=by unfold LS.next;rw[af eh]
    have Z:kj L=qJ [114] {L with wt:=L.wt-1,st:=nx}:=by
     unfold kj;rw[af hb,af E,ai hf];unfold nW;rw[show({L with wt:=L.wt-1}:LS).st=L.st from rfl,mM];simp only;rw[en]
    have Q:lM L=[(1,(L.ow+1) %256,od L.ns L.nm)] :=by
     unfold lM;rw[af hb,af E,ai hf];unfold pL;rw[show({L with wt:=L.wt-1}:LS).st=L.st from rfl,mM];simp only;rw[en];rfl
    have J:jd L=(kj L,lM L):=by
     unfold jd;rw[af (by rw[Z];show¬nx=3;omega)]
    rw[J];refine⟨⟨?_,?_,?_,?_,?_,?_,y⟩,.inr ⟨u,mP,?_,?_,?_,?_⟩⟩
    ·rw[Z];exact h.fs
    ·rw[Z];exact h.fm
    ·rw[Z];exact h.ns
    ·rw[Z];exact h.nm
    ·rw[Z];exact λ_=>⟨h.ns,h.nm⟩
    ·rw[Z];show nx=1 \/(6<=nx/\nx<=9);omega
    ·show lM L=_;rw[Q,h.ns,h.nm,JE hg]
    ·rw[Z];rfl
    ·rw[Z];rfl
    ·rw[Z];exact vG
   ·have A:jh L.st 5=([102],3,0):=by
     obtain⟨a,b,c⟩:=yV.2.2.2.1;have:L.st=6 \/L.st=7 \/L.st=8:=eh;rcases this with g|g|g<;>rw[g] <;>assumption
    have en:({L with wt:=L.wt-1}:LS).next 3={L with wt:=L.wt-1,st:=3,ns:=L.fs,nm:=L.fm,sz:=255}:=by unfold LS.next;rw[ai eA]
    have Z:kj L={L with wt:=L.wt-1,st:=3,ns:=L.fs,nm:=L.fm,sz:=255}:=by
     unfold kj;rw[af hb,af E,af hf];unfold nW;rw[show({L with wt:=L.wt-1}:LS).st=L.st from rfl,A];simp only;rw[en];rfl
    have Q:lM L=[] :=by
     unfold lM;rw[af hb,af E,af hf];unfold pL;rw[show({L with wt:=L.wt-1}:LS).st=L.st from rfl,A];simp only;rw[en];rfl
    obtain⟨L3,U⟩:∃L3:LS,({L with wt:=L.wt-1,st:=3,ns:=L.fs,nm:=L.fm,sz:=255}:LS)=L3:=⟨_,rfl⟩
    rw[U]at Z;have k3:zt L3:=by rw[<-Z];exact h.k.tick
    have D:L3.st=3:=by rw[<-U]
    have d1:kY L3 1=({L3 with st:=1,ns:=L3.fs,nm:=L3.fm,sz:=255},[],0):=by
     show sW L3 1 (0,0,[])=_;rw[Ih _ (show jh L3.st 1=_ by rw[D];exact yV.2.2.2.2.1.1)];have:L3.next 1={L3 with st:=1,ns:=L3.fs,nm:=L3.fm,sz:=255}:=by unfold LS.next;rw[ai eA]
     rw[this];rfl
    have k1:=k3.kY 1;obtain⟨L1,H⟩:=gg ((kY L3 1).1);rw[H]at k1;have V:L1={L3 with st:=1,ns:=L3.fs,nm:=L3.fm,sz:=255}:=by rw[<-H,d1]
    have j:LI g L1:=by
     refine⟨?_,?_,?_,?_,?_,?_,k1⟩
     ·rw[V,<-U];exact h.fs
     ·rw[V,<-U];exact h.fm
     ·rw[V,<-U];exact h.fs
     ·rw[V,<-U];exact h.fm
     ·rw[V];exact λh=>absurd h (by show¬(6:Int)<=1;decide)
     ·rw[V];exact .inl rfl
    have how:L1.ow=L.ow:=by rw[V,<-U]
    obtain⟨u1,u2,u3,u4,u5⟩:=aaO hg j (by rw[V]);have J:jd L=((kY L1 0).1,(kY L1 0).2.1):=by
     unfold jd;rw[Z,ai D,Q,H,d1];rfl
    rw[J];exact⟨u1,.inr ⟨u,mP,by rw[u2,how],by rw[u3,how],u5,.inl u4⟩⟩
 ·have hb:(decide (4<=L.st)&&decide (L.st<=8))=false:=by
   have:=h.st;simp only[Bool.and_eq_false_iff,decide_eq_false_iff_not];omega
  have Z:kj L=L:=by unfold kj;rw[ai hb]
  have Q:lM L=[] :=by unfold lM;rw[ai hb]
  have J:jd L=(L,[]):=by
   unfold jd;rw[Z,Q,af (show¬L.st=3 by have:=h.st;omega)]
  rw[J];exact⟨h,.inl ⟨rfl,rfl,rfl,λ_=>rfl,λh=>absurd h u⟩⟩
theorem Fq {x:Int} (h0:0<=x)(h1:x<=255):yq x=true:=by
 unfold yq;simp;omega
theorem Ab(hc:code=1 \/code=2)(hi:0<=id/\id<=255)(J:1<=g/\g<=255):jS code id (nZ g)=0:=by
 have V:=Fq hi.1 hi.2;have U:yq g=true:=Fq eh J.2;unfold jS nZ;rw[af (by rw[V];simp;omega),af gY,af eh];have H:yq 1=true:=Fq eA eA;have Q:yq 5=true:=Fq eA eA;have Z:yq 255=true:=Fq eA eA;simp[pW,H,Q,Z,U]
theorem Zh(hg:1<=g'/\g'<=255)(ju:g'≠g):l9 g (nZ g')=(2,nZ g'):=by
 unfold l9 nZ tK qZ J9 xH;rw[af gY,af];simp;omega
structure alN(g:Int)(L L':LS)(out:List kM)(a:kM):Prop where
 li:LI g L'
 or:(L.st=9/\out=[(1,(L.ow+1) %256,nZ g),a] /\L'.st=8/\L'.ow=(L.ow+1) %256/\L'.wt=3) \/(L.st=7/\out=[a] /\L'.st=9/\L'.ow=L.ow) \/((L.st=6 \/L.st=8)/\out=[a] /\L'.st=8/\L'.ow=L.ow/\L'.wt=L.wt)
theorem Wm(A:1<=g/\g<=255)(U:1<=g'/\g'<=255)(Q:g'≠g)(hi:0<=id/\id<=255)(h:LI g L)(V:6<=L.st):alN g L (jK L (1,id,nZ g')).1 (jK L (1,id,nZ g')).2.1 (2,id,nZ g'):=by
 have Z:=h.k.jK (1,id,nZ g');have y:jK L (1,id,nZ g')=uk L id (nZ g'):=by
  unfold jK;rw[af (by rw[Ab (.inl rfl) hi U];simp),ai rfl]
 rw[y]at Z⊢;have ki:=PT ⟨V,by have:=h.st;omega⟩;have hj:(l9 L.nm (nZ g')).1=2:=by rw[h.nm,Zh U Q]
 obtain⟨j,t7,J,t9⟩:=yV.1;have key:∀(l:List UInt8) (nx:Int),jh L.st 6=(l,nx,0)->uk L id (nZ g')=((qJ l (L.next nx)).sized (nZ g'),yu l (L.next nx) (2,id,nZ g'),0):=λl nx hs=>by
  unfold uk;rw[ai hj,Ih _ hs,ai rfl]
 have nx:∀n:Int,¬n<=3->L.next n={L with st:=n}:=λn u=>by unfold LS.next;rw[af u]
 have sz:∀s:LS,(s.sized (nZ g')).fs=s.fs/\(s.sized (nZ g')).fm=s.fm/\(s.sized (nZ g')).ns=s.ns/\(s.sized (nZ g')).nm=s.nm/\(s.sized (nZ g')).qs=s.qs/\(s.sized (nZ g')).qm=s.qm/\(s.sized (nZ g')).st=s.st/\(s.sized (nZ g')).ow=s.ow/\(s.sized (nZ g')).wt=s.wt:=λs=>by
  unfold LS.sized;split<;>exact⟨rfl,rfl,rfl,rfl,rfl,rfl,rfl,rfl,rfl⟩
 have build:∀s:LS,zt (s.sized (nZ g'))->s.fs=L.fs->s.fm=L.fm->s.ns=L.ns->s.nm=L.nm->(s.qs=255/\s.qm=g)->(6<=s.st/\s.st<=9)->LI g (s.sized (nZ g')):=λs Z a b c d e f=>by
  obtain⟨z1,z2,D,z4,z5,E,H,_,_⟩:=sz s;exact⟨by rw[z1,a,h.fs],by rw[z2,b,h.fm],by rw[D,c,h.ns],by rw[z4,d,h.nm],λ_=>by rw[z5,E];exact e,by rw[H];exact .inr f,Z⟩
 rcases ki with hs|hs|hs|hs
 ·have e:=key [97] 8 (by rw[hs];exact j);rw[e,nx 8 eA]at Z;rw[e,nx 8 eA];refine⟨build (qJ [97] {L with st:=8}) Z rfl rfl rfl rfl (h.q V) ⟨by show(6:Int)<=8;decide,by show(8:Int)<=9;decide⟩,.inr (.inr ⟨.inl hs,rfl,?_,?_,?_⟩)⟩
  ·exact(sz _).2.2.2.2.2.2.1
  ·exact(sz _).2.2.2.2.2.2.2.1
  ·exact(sz _).2.2.2.2.2.2.2.2
 ·have e:=key [97,117] 9 (by rw[hs];exact t7);rw[e,nx 9 eA]at Z;rw[e,nx 9 eA];refine⟨build (qJ [97,117] {L with st:=9}) Z rfl rfl rfl rfl (h.q V) ⟨by show(6:Int)<=9;decide,by show(9:Int)<=9;decide⟩,.inr (.inl ⟨hs,rfl,?_,?_⟩)⟩
  ·exact(sz _).2.2.2.2.2.2.1
  ·exact(sz _).2.2.2.2.2.2.2.1
 ·have e:=key [97] 8 (by rw[hs];exact J);rw[e,nx 8 eA]at Z;rw[e,nx 8 eA];refine⟨build (qJ [97] {L with st:=8}) Z rfl rfl rfl rfl (h.q V) ⟨by show(6:Int)<=8;decide,by show(8:Int)<=9;decide⟩,.inr (.inr ⟨.inr hs,rfl,?_,?_,?_⟩)⟩
  ·exact(sz _).2.2.2.2.2.2.1
  ·exact(sz _).2.2.2.2.2.2.2.1
  ·exact(sz _).2.2.2.2.2.2.2.2
 ·have e:=key [100,114,97] 8 (by rw[hs];exact t9);rw[e,nx 8 eA]at Z;rw[e,nx 8 eA];refine⟨build (qJ [100,114,97] {L with st:=8}) Z rfl rfl rfl rfl ⟨h.ns,h.nm⟩ ⟨by show(6:Int)<=8;decide,by show(8:Int)<=9;decide⟩,.inl ⟨hs,?_,?_,?_,?_⟩⟩
  ·show [(1,(L.ow+1) %256,od L.ns L.nm),(2,id,nZ g')] =_;rw[h.ns,h.nm,JE A]
  ·exact(sz _).2.2.2.2.2.2.1
  ·exact(sz _).2.2.2.2.2.2.2.1
  ·exact(sz _).2.2.2.2.2.2.2.2
theorem adr(Z:1<=g/\g<=255)(hi:0<=id/\id<=255)(V:id≠L.ow):jK L (2,id,nZ g)=(L,[],6):=by
 unfold jK;rw[af (by rw[Ab (.inr rfl) hi Z];simp),af (by show¬(2:Int)=1;decide),af (by show¬(2:Int)=5;decide),af (by show¬(2:Int)=6;decide)];unfold tP;rw[ai V]
theorem Wn(Q:1<=g/\g<=255)(h:LI g L)(U:L.st=6 \/L.st=8):LI g (jK L (2,L.ow,nZ g)).1/\(jK L (2,L.ow,nZ g)).2.1=[] /\(jK L (2,L.ow,nZ g)).1.ow=L.ow/\(jK L (2,L.ow,nZ g)).1.wt=L.wt/\(jK L (2,L.ow,nZ g)).1.st=L.st+1:=by
 have Z:=h.k.jK (2,L.ow,nZ g);have V:=h.q eh;have H:jK L (2,L.ow,nZ g)=sW L 8 (0,L.ow,[]):=by
  unfold jK;rw[af (by rw[Ab (.inr rfl) ⟨h.k.o1,h.k.o2⟩ Q];simp),af (by show¬(2:Int)=1;decide),af (by show¬(2:Int)=5;decide),af (by show¬(2:Int)=6;decide)];unfold tP;rw[af gY,ai rfl,af (by rw[V.1,V.2,JE Q];simp)]
 rw[H]at Z⊢;obtain⟨D,J⟩:=yV.2.1;have nx:∀n:Int,¬n<=3->L.next n={L with st:=n}:=λn E=>by unfold LS.next;rw[af E]
 rcases U with hs|hs
 ·rw[Ih _ (show jh L.st 8=_ by rw[hs];exact D),nx 7 eA]at Z⊢;exact⟨⟨h.fs,h.fm,h.ns,h.nm,λ_=>V,.inr ⟨by show(6:Int)<=7;decide,by show(7:Int)<=9;decide⟩,Z⟩,rfl,rfl,rfl,by show(7:Int)=_;omega⟩
 ·rw[Ih _ (show jh L.st 8=_ by rw[hs];exact J),nx 9 eA]at Z⊢;exact⟨⟨h.fs,h.fm,h.ns,h.nm,λ_=>V,.inr ⟨by show(6:Int)<=9;decide,by show(9:Int)<=9;decide⟩,Z⟩,rfl,rfl,rfl,by show(9:Int)=_;omega⟩
def mJ(g id:Int):k9:=76::mD 1 id (nZ g)
def oa(g id:Int):k9:=76::mD 2 id (nZ g)
theorem Wo(code id g:Int):(mD code id (nZ g)).length=7:=by
 unfold mD;simp only[eZ,rT];rfl
theorem Ac(hc:code=1 \/code=2)(hi:0<=id/\id<=255)(V:1<=g/\g<=255):iY (mD code id (nZ g))=(code,id,nZ g,0):=by
 have e:mD code id (nZ g)=[jY code,jY id,2,1,255,5,jY g] :=rfl;have J:mL [1,255,5,jY g] =nZ g:=by
  have Q:mL [1,255,5,jY g] =[(1,255),(5,((jY g).toNat:Int))] :=rfl;rw[Q,nD g eh V.2];rfl
 have Z:=nD code eh eh;have U:=nD id hi.1 hi.2;rw[e];unfold iY;rw[af gY];show(if jS ((jY code).toNat:Int) ((jY id).toNat:Int) (mL [1,255,5,jY g])=0 then(((jY code).toNat:Int),((jY id).toNat:Int),mL [1,255,5,jY g],0)else(0,0,[],4))=_;rw[J,Z,U,ai (Ab hc hi V)]
theorem Ft(hc:code=1 \/code=2)(hi:0<=id/\id<=255)(Z:1<=g/\g<=255):oo (code,id,nZ g)=[76::mD code id (nZ g)] :=by
 unfold oo;rw[ai ⟨Ab hc hi Z,by show(mD code id (nZ g)).length+1<=60;rw[Wo];decide⟩]
def Cn(code:Int):k9->Option Int
 |76::s=>if(iY s).2.2.2=0/\(iY s).1=code then some (iY s).2.1 else none
 |_=>none
theorem xD(code:Int) {c:UInt8} (s:List UInt8)(h:c≠76):Cn code (c::s)=ν:=by
 unfold Cn;split
 ·rename_i e;exact absurd (aD e).1 h
 ·rfl
theorem PU {k:Int} (V:k=1 \/k=2)(hi:0<=id/\id<=255)(Z:1<=g/\g<=255):Cn code (76::mD k id (nZ g))=if k=code then μ id else ν:=by
 show(if(iY (mD k id (nZ g))).2.2.2=0/\(iY (mD k id (nZ g))).1=code then μ (iY (mD k id (nZ g))).2.1 else ν)=_;rw[Ac V hi Z];by_cases e:k=code
 ·rw[ai ⟨rfl,e⟩,ai e]
 ·rw[af (λh=>e h.2),af e]
def ids(code:Int)(l:List k9):List Int:=l.filterMap (Cn code)
theorem ku(code:Int)(l m:List k9):ids code (l++m)=ids code l++ids code m:=by unfold ids;rw[bI]
theorem Ad(h:∀x∈l,Cn code x=ν):ids code l=[] :=by
 unfold ids;rw[cV];exact h
theorem jR(l:List k9)(h:Cn code x=ν):ids code (x::l)=ids code l:=by unfold ids;rw[bk,h]
theorem jI {i:Int} (l:List k9)(h:Cn code x=μ i):ids code (x::l)=i::ids code l:=by unfold ids;rw[bk,h]
theorem Zi {i:Int} (h:i∈ids code l):∃x∈l,Cn code x=μ i:=by
 unfold ids at h;obtain⟨x,Z,V⟩:=cD.1 h;exact⟨x,Z,V⟩
theorem JG {i:Int} (Z:x∈l)(V:Cn code x=μ i):i∈ids code l:=by
 unfold ids;exact cD.2 ⟨x,Z,V⟩
def L8(go gi:Int)(x:k9):Prop:=(∀c s,x=c::s->c≠76) \/(∃id,0<=id/\id<=255/\x=mJ go id) \/(∃id,0<=id/\id<=255/\x=oa gi id)
def rB(x:k9):Prop:=∀c s,x=c::s->c≠76
theorem rB.lk(h:rB x)(code:Int):Cn code x=ν:=by
 cases x with
 |nil=>rfl
 |cons c s=>exact xD code s (h c s rfl)
def JH(X:Int->Bool)(ow:Int)(x y:k9):Prop:=∀j id,Cn 2 x=μ j->Cn 1 y=μ id->X id=true->j<ow
structure oJ(X:Int->Bool)(L:LS)(Fo Fi:List k9)(t:Nat):Prop where
 inc:(ids 2 Fi++ids 1 Fo).Pairwise (· < ·)
 le:∀i∈ids 2 Fi++ids 1 Fo,i<=L.ow
 emp:L.st=7 \/L.st=9->ids 2 Fi++ids 1 Fo=[] /\∀i∈ids 1 Fi,X i=false
 lim:Fi.Pairwise (JH X L.ow)
 JI:L.ow+(((ids 1 Fi).filter λi=> !X i).length:Nat)<=t
structure Pair(X Y:Int->Bool)(t:Nat)(g h:Int)(L M:LS)(F G:List k9):Prop where
 l:LI g L
 m:LI h M
 lu:6<=L.st
 mu:6<=M.st
 f:∀x∈F,L8 g h x
 g:∀x∈G,L8 h g x
 d:oJ Y L F G t
 e:oJ X M G F t
theorem Pair.symm(p:Pair X Y t g h L M F G):Pair Y X t h g M L G F:=⟨p.m,p.l,p.mu,p.lu,p.g,p.f,p.e,p.d⟩
theorem oJ.mono {u:Nat} (p:oJ X L Fo Fi t)(h:t<=u):oJ X L Fo Fi u:=⟨p.inc,p.le,p.emp,p.lim,by have:=p.JI;omega⟩
theorem Pair.mono {X Y:Int->Bool} {t u:Nat} {g h:Int} {L M:LS} {F G:List k9} (p:Pair X Y t g h L M F G)(k:t<=u):Pair X Y u g h L M F G:=⟨p.l,p.m,p.lu,p.mu,p.f,p.g,p.d.mono k,p.e.mono k⟩
theorem oJ.congr(p:oJ X L Fo Fi t)(V:L'.st=L.st)(Z:L'.ow=L.ow):oJ X L' Fo Fi t:=⟨p.inc,by rw[Z];exact p.le,by rw[V];exact p.emp,by rw[Z];exact p.lim,by rw[Z];exact p.JI⟩
theorem oJ.sub {Fo' Fi':List k9} (p:oJ X L Fo Fi t)(U:Fo'.Sublist Fo)(Z:Fi'.Sublist Fi):oJ X L Fo' Fi' t:=by
 have s1:(ids 2 Fi'++ids 1 Fo').Sublist (ids 2 Fi++ids 1 Fo):=List.Sublist.append (Z.filterMap _) (U.filterMap _);have V:(ids 1 Fi').Sublist (ids 1 Fi):=Z.filterMap _;refine⟨p.inc.sublist s1,λi hi=>p.le i (s1.mem hi),λh=> ?_,p.lim.sublist Z,?_⟩
 ·obtain⟨a,b⟩:=p.emp h;refine⟨?_,λi hi=>b i (V.mem hi)⟩;rw[a]at s1;exact iy.1 s1
 ·have:=p.JI;have:=(V.filter λi=> !X i).length_le;omega
theorem Pair.sub {X Y:Int->Bool} {t:Nat} {g h:Int} {L M:LS} {F G F' G':List k9} (p:Pair X Y t g h L M F G)(Z:F'.Sublist F)(V:G'.Sublist G):Pair X Y t g h L M F' G':=
 ⟨p.l,p.m,p.lu,p.mu,λx hx=>p.f x (Z.mem hx),λx hx=>p.g x (V.mem hx),p.d.sub Z V,p.e.sub V Z⟩
theorem oJ.agX(p:oJ X L Fo Fi t)(h:∀x∈ps,rB x):oJ X L Fo (Fi++ps) t:=by
 have Z:∀c,ids c (Fi++ps)=ids c Fi:=λc=>by rw[ku,Ad λx hx=>(h x hx).lk c,aC]
 refine⟨by rw[Z];exact p.inc,by rw[Z];exact p.le,by rw[Z,Z];exact p.emp,?_,by rw[Z];exact p.JI⟩;refine bu.2 ⟨p.lim,?_,λx _ y hy j id _ U=>by rw[(h y hy).lk]at U;exact absurd U gY⟩;exact dI (R:=λ_ _=>True) (λ{x y} hx _ _ j id V=>by rw[(h x hx).lk]at V;exact absurd V gY) (List.pairwise_of_forall λ_ _=>trivial)
theorem oJ.agY(p:oJ X L Fo Fi t)(h:∀x∈ps,rB x):oJ X L (Fo++ps) Fi t:=by
 have Z:ids 1 (Fo++ps)=ids 1 Fo:=by rw[ku,Ad λx hx=>(h x hx).lk 1,aC]
 exact⟨by rw[Z];exact p.inc,by rw[Z];exact p.le,by rw[Z];exact p.emp,p.lim,p.JI⟩
theorem Pair.more(p:Pair X Y t g h L M F G)(Z:∀x∈ps,rB x):Pair X Y t g h L M (F++ps) G:=
 ⟨p.l,p.m,p.lu,p.mu,λx hx=>(aw.1 hx).elim (p.f x) λe=>.inl (Z x e),p.g,p.d.agY Z,p.e.agX Z⟩
theorem sP(Z:1<=g/\g<=255)(hi:0<=id/\id<=255):Cn 1 (mJ g id)=μ id/\Cn 2 (mJ g id)=ν/\Cn 1 (oa g id)=ν/\Cn 2 (oa g id)=μ id:=by
 unfold mJ oa;rw[PU (.inl rfl) hi Z,PU (.inl rfl) hi Z,PU (.inr rfl) hi Z,PU (.inr rfl) hi Z];exact⟨gY,gY,gY,gY⟩
def mark(X:Int->Bool)(i:Int)(b:Bool):Int->Bool:=λk=>if k=i then b else X k
theorem L9 {i:Int} {b:Bool} {l:List Int} (h:∀k∈l,k<i):(l.filter λk=> !mark X i b k)=l.filter λk=> !X k:=by
 refine List.filter_congr λk Z=> ?_;have:=h k Z;unfold mark;rw[af eh]
theorem Ma {i:Int} {b:Bool} (h:∀k∈ids 1 F,k<i)(p:F.Pairwise (JH X ow)):F.Pairwise (JH (mark X i b) ow):=by
 refine dI (λ{x y} _ hy Q j id U V Z=>Q j id U V ?_) p;have:=h id (JG hy V);unfold mark at Z;rw[af eh]at Z;exact Z
theorem Wp {Co:Int} (h:ow<=Co)(p:F.Pairwise (JH X ow)):F.Pairwise (JH X Co):=
 p.imp λ{x y} Q j id V U Z=>by have:=Q j id V U Z;omega
theorem Pair.ask(E:1<=g/\g<=255)(p:Pair X Y t g h L M F G)(ht:t+1<=255)(hl:LI g L')(Q:L'.ow=L.ow+1)(hs:L'.st=6 \/L'.st=8):Pair (mark X (L.ow+1) false) Y (t+1) g h L' M (F++ [mJ g (L.ow+1)]) G:=by
 have hb:=p.d.JI;have hi:0<=L.ow+1/\L.ow+1<=255:=by have:=p.l.k.o1;omega
 obtain⟨r1,u,_,_⟩:=sP E hi;have V:ids 1 (F++ [mJ g (L.ow+1)])=ids 1 F++ [L.ow+1] :=by rw[ku,jI [] r1];rfl
 have J:ids 2 (F++ [mJ g (L.ow+1)])=ids 2 F:=by rw[ku,jR [] u];simp[ids]
 have H:∀k∈ids 1 F,k<L.ow+1:=λk A=>by have:=p.d.le k (aw.2 (.inr A));omega
 refine⟨hl,p.m,eh,p.mu,λx hx=> ?_,p.g,⟨?_,?_,λh=>eh,by rw[Q];exact Wp eh p.d.lim,by rw[Q];omega⟩,⟨?_,?_,λh=> ?_,?_,?_⟩⟩
 ·rcases aw.1 hx with e|e
  ·exact p.f x e
  ·exact .inr (.inl ⟨_,hi.1,hi.2,au.1 e⟩)
 ·rw[V,<-aE];refine bu.2 ⟨p.d.inc,gY,λa D b hb=> ?_⟩;rw[au.1 hb];have:=p.d.le a D;omega
 ·rw[V,<-aE,Q];intro i hi;rcases aw.1 hi with e|e
  ·have:=p.d.le i e;omega
  ·rw[au.1 e];exact Int.le_refl _
 ·rw[J];exact p.e.inc
 ·rw[J];exact p.e.le
 ·rw[V,J];obtain⟨a,b⟩:=p.e.emp h;refine⟨a,λi hi=> ?_⟩;unfold mark;rcases aw.1 hi with e|e
  ·rw[af (by have:=H i e;omega)];exact b i e
  ·rw[ai (au.1 e)]
 ·refine bu.2 ⟨Ma H p.e.lim,gY,λx _ y hy j id _ Z U=> ?_⟩;rw[au.1 hy,r1]at Z;injection Z with Z
  unfold mark at U;rw[ai Z.symm]at U;exact absurd U gY
 ·rw[V,cA,L9 H,aA];have:=p.e.JI;have:((([L.ow+1] :List Int).filter λi=> !mark X (L.ow+1) false i).length)<=1:=cJ _ _;omega
theorem Pair.tick(U:1<=g/\g<=255)(p:Pair X Y t g h L M F G)(J:t+1<=255):∃X',Pair X' Y (t+1) g h (jd L).1 M (F++(jd L).2.flatMap oo) G/\(∀k∈ids 1 F,X' k=X k)/\((jd L).2.flatMap oo=[] \/(jd L).2.flatMap oo=[mJ g (L.ow+1)]):=by
 obtain⟨li,Z|Z⟩:=JF U p.l
 ·obtain⟨Z,H,V,_⟩:=Z;refine⟨X,?_,λ_ _=>rfl,.inl (by rw[Z];rfl)⟩;rw[Z];have q:Pair X Y t g h (jd L).1 M F G:=⟨li,p.m,by rw[V];exact p.lu,p.mu,p.f,p.g,p.d.congr V H,p.e⟩
  simpa using q.mono (Nat.le_succ t)
 ·obtain⟨_,_,V,Q,_,h6⟩:=Z;have hb:=p.d.JI;have hi:0<=L.ow+1/\L.ow+1<=255:=by have:=p.l.k.o1;omega
  have em:(L.ow+1) %256=L.ow+1:=eh;rw[em]at V Q;have e:(jd L).2.flatMap oo=[mJ g (L.ow+1)] :=by
   rw[V];show oo _++ [] =_;rw[Ft (.inl rfl) hi U];rfl
  refine⟨mark X (L.ow+1) false,?_,λk E=> ?_,.inr e⟩
  ·rw[e];exact p.ask U J li Q eh
  ·have:=p.d.le k (aw.2 (.inr E));unfold mark;rw[af eh]
def xO(X:Int->Bool)(x:k9):Nat:=match Cn 1 x with
 |some i=>if X i=true then 2 else 3
 |none=>match x with
  |83::_=>2
  |77::_::b::_=>b.toNat+1
  |_=>1
def oN(X:Int->Bool)(x:k9):Nat:=match Cn 1 x with
 |some i=>if X i=true then 2 else 4
 |none=>match x with
  |83::_=>2
  |77::_=>0
  |_=>1
theorem Ae(Z:1<=g/\g<=255)(hi:0<=id/\id<=255)(X:Int->Bool):xO X (oa g id)=1/\oN X (oa g id)=1:=by
 unfold xO oN;rw[(sP Z hi).2.2.1];exact⟨rfl,rfl⟩
theorem Af(Z:1<=g/\g<=255)(hi:0<=id/\id<=255)(X:Int->Bool):xO X (mJ g id)=(if X id=true then 2 else 3)/\oN X (mJ g id)=if X id=true then 2 else 4:=by
 unfold xO oN;rw[(sP Z hi).1];exact⟨rfl,rfl⟩
theorem oJ.aaP {X':Int->Bool} (hh:1<=h/\h<=255)(hi:0<=id/\id<=255)(p:oJ X M (mJ h id::G) F t)(U:ids 2 em=[id])(Z:(F++em).Pairwise (JH X' M.ow))(V:M.ow+(((ids 1 (F++em)).filter λi=> !X' i).length:Nat)<=t):oJ X' M G (F++em) t:=by
 have r1:=(sP hh hi).1;have e:ids 2 (F++em)++ids 1 G=ids 2 F++ids 1 (mJ h id::G):=by
  rw[ku,U,jI G r1,aE];rfl
 refine⟨by rw[e];exact p.inc,by rw[e];exact p.le,λhs=> ?_,Z,V⟩;have:=(p.emp hs).1;rw[jI G r1]at this;simp at this
theorem PW(V:F.Pairwise (JH X ow))(U:em.Pairwise (JH X ow))(Z:∀y∈em,∀id,Cn 1 y=μ id->X id=true->∀j∈ids 2 F,j<ow):(F++em).Pairwise (JH X ow):=
 bu.2 ⟨V,U,λ_ hx y hy j id a b c=>Z y hy id b c j (JG hx a)⟩
structure Zk(X X' Y:Int->Bool)(t:Nat)(g h:Int)(L' M:LS)(F l em:List k9)(x:k9):Prop where
 p:Pair X' Y t g h L' M (F++em) l
 old:∀k∈ids 1 F,X' k=X k
 dp:∀y∈em,xO X' y+1<=xO Y x
 wg:sm (oN X') em+1<=oN Y x
 st:6<=L'.st
theorem Pair.agZ(hh:1<=h/\h<=255)(hi:0<=id/\id<=255)(p:Pair X Y t g h L M F (mJ h id::l))(li:LI g L')(V:L'.ow=L.ow)(H:6<=L'.st)(A:L'.st=7 \/L'.st=9->L.st=7):Zk X X Y t g h L' M F l [oa h id] (mJ h id):=by
 obtain⟨r1,j,E,u⟩:=sP hh hi;have J:=jI l r1;have Z:=jR l j;have i1:ids 1 [oa h id] =[] :=by rw[jR _ E];rfl
 have D:ids 2 [oa h id] =[id] :=by rw[jI _ u];rfl
 have Q:=Af hh hi Y;refine⟨⟨li,p.m,H,p.mu,λx hx=> ?_,λy hy=>p.g y (by simp[hy]),⟨?_,?_,λhs=> ?_,?_,?_⟩,?_⟩,λk _=>rfl,λy hy=> ?_,?_,H⟩
 ·rcases aw.1 hx with z|z
  ·exact p.f x z
  ·rw[au.1 z];exact .inr (.inr ⟨id,hi.1,hi.2,rfl⟩)
 ·rw[ku,i1,aC,<-Z];exact p.d.inc
 ·rw[ku,i1,aC,<-Z,V];exact p.d.le
 ·rw[ku,i1,aC,<-Z];obtain⟨a,b⟩:=p.d.emp (.inl (A hs));exact⟨a,λi hi=>b i (by rw[J];simp[hi])⟩
 ·rw[V];exact p.d.lim.sublist (bR _ _)
 ·rw[V];have:=p.d.JI;rw[J]at this;have h2:((ids 1 l).filter λi=> !Y i).length<=((id::ids 1 l).filter λi=> !Y i).length:=((bR id (ids 1 l)).filter _).length_le;omega
 ·refine oJ.aaP hh hi p.e D (PW p.e.lim gY λy hy i U _=>by rw[au.1 hy,E]at U;exact absurd U gY) ?_;rw[ku,i1,aC];exact p.e.JI
 ·rw[au.1 hy,(Ae hh hi _).1,Q.1];split<;>omega
 ·show oN _ (oa h id)+0+1<=_;rw[(Ae hh hi _).2,Q.2];split<;>omega
theorem Pair.req(D:1<=g/\g<=255)(hh:1<=h/\h<=255)(ju:h≠g)(ht:t<=255)(hi:0<=id/\id<=255)(p:Pair X Y t g h L M F (mJ h id::l)):∃X',Zk X X' Y t g h (jK L (1,id,nZ h)).1 M F l ((jK L (1,id,nZ h)).2.1.flatMap oo) (mJ h id):=by
 obtain⟨r1,r2,r3,r4⟩:=sP hh hi;have hb:=p.d.JI;have ho:=p.l.k.o1;have A:=jI l r1;have PX:=jR l r2;have hf:∀y∈l,L8 h g y:=λy hy=>p.g y (by simp[hy]);have hack:L8 g h (oa h id):=.inr (.inr ⟨id,hi.1,hi.2,rfl⟩);have V:oo (2,id,nZ h)=[oa h id] :=Ft (.inr rfl) hi hh;have hM:∀j∈ids 2 F,j<M.ow:=λj hj=>by
  have h1:=p.e.inc;have h2:=p.e.le id (by rw[A];simp);rw[A]at h1;have:=(bu.1 h1).2.2 j hj id gY;omega
 obtain⟨li,h9|h7|h68⟩:=Wm D hh ju hi p.l p.lu
 ·obtain⟨s9,out,s8,Z,_⟩:=h9;obtain⟨Wr,adt⟩:=p.d.emp (.inr s9);have u:Y id=false:=adt id (by rw[A];simp);have alP:((ids 1 (mJ h id::l)).filter λi=> !Y i).length=((ids 1 l).filter λi=> !Y i).length+1:=by
   rw[A,List.filter_cons,u];rfl
  have em:(L.ow+1) %256=L.ow+1:=eh;have H:0<=L.ow+1/\L.ow+1<=255:=eh;obtain⟨q1,q2,q3,q4⟩:=sP D H;rw[em]at out Z;have e:(jK L (1,id,nZ h)).2.1.flatMap oo=[mJ g (L.ow+1),oa h id] :=by
   rw[out];show oo _++(oo _++ [])=_;rw[Ft (.inl rfl) H D,V];rfl
  have Q:ids 2 l=[] /\ids 1 F=[] :=by
   rw[PX]at Wr;exact dQ.1 Wr
  have i1:ids 1 [mJ g (L.ow+1),oa h id] =[L.ow+1] :=by rw[jI _ q1,jR _ r3];rfl
  have i2:ids 2 [mJ g (L.ow+1),oa h id] =[id] :=by rw[jR _ q2,jI _ r4];rfl
  refine⟨mark X (L.ow+1) true,?_⟩;rw[e];refine⟨⟨li,p.m,eh,p.mu,λx hx=> ?_,hf,⟨?_,?_,λh=>eh,?_,?_⟩,?_⟩,λk E=>by rw[Q.2]at E;simp at E,λy hy=> ?_,?_,eh⟩
  ·rcases aw.1 hx with z|z
   ·exact p.f x z
   ·rcases aP.1 z with z|z
    ·exact .inr (.inl ⟨_,H.1,H.2,z⟩)
    ·rw[au.1 z];exact hack
  ·rw[Q.1,ku,Q.2,i1];simp
  ·rw[Q.1,ku,Q.2,i1,Z];simp
  ·rw[Z];exact Wp eh (p.d.lim.sublist (bR _ _))
  ·rw[Z];omega
  ·refine oJ.aaP hh hi p.e i2 (PW (Ma (λk E=>by rw[Q.2]at E;simp at E) p.e.lim) ?_ λy hy i h1 h2=>hM) ?_
   ·refine cC.2 ⟨λy hy j i a=>by rw[q2]at a;exact absurd a gY,gY⟩
   ·rw[ku,Q.2,i1];have:(([] ++ [L.ow+1] :List Int).filter λi=> !mark X (L.ow+1) true i)=[] :=by simp[mark]
    rw[this];have:=p.e.JI;have e0:(([] :List Int).length:Nat)=0:=rfl;omega
  ·have hY:xO Y (mJ h id)=3:=by rw[(Af hh hi Y).1,u];rfl
   rw[hY];rcases aP.1 hy with z|z
   ·rw[z,(Af D H _).1];simp[mark]
   ·rw[au.1 z,(Ae hh hi _).1];omega
  ·have hY:oN Y (mJ h id)=4:=by rw[(Af hh hi Y).2,u];rfl
   rw[hY];show oN _ (mJ g (L.ow+1))+(oN _ (oa h id)+0)+1<=4;rw[(Af D H _).2,(Ae hh hi _).2];simp[mark]
 ·have Ii:∃L',(jK L (1,id,nZ h)).1=L'/\LI g L'/\L'.ow=L.ow/\6<=L'.st/\(L'.st=7 \/L'.st=9->L.st=7)/\(jK L (1,id,nZ h)).2.1.flatMap oo=[oa h id] :=by
   obtain⟨s7,out,s9,Z⟩:=h7;refine⟨_,rfl,li,Z,eh,λ_=>s7,?_⟩;rw[out];show oo _++ [] =_;rw[V];rfl
  obtain⟨L',U,J,Z,S9,ki,e⟩:=Ii;refine⟨X,?_⟩;rw[U,e];exact Pair.agZ hh hi p J Z S9 ki
 ·have Ii:∃L',(jK L (1,id,nZ h)).1=L'/\LI g L'/\L'.ow=L.ow/\6<=L'.st/\(L'.st=7 \/L'.st=9->L.st=7)/\(jK L (1,id,nZ h)).2.1.flatMap oo=[oa h id] :=by
   obtain⟨s7,out,s8,Z,_⟩:=h68;refine⟨_,rfl,li,Z,eh,λh=>eh,?_⟩;rw[out];show oo _++ [] =_;rw[V];rfl
  obtain⟨L',U,J,Z,S9,ki,e⟩:=Ii;refine⟨X,?_⟩;rw[U,e];exact Pair.agZ hh hi p J Z S9 ki
theorem Pair.ack(E:1<=g/\g<=255)(hi:0<=id/\id<=255)(p:Pair X Y t g h L M F (oa g id::l)):Zk X X Y t g h (jK L (2,id,nZ g)).1 M F l ((jK L (2,id,nZ g)).2.1.flatMap oo) (oa g id):=by
 obtain⟨r1,r2,r3,r4⟩:=sP E hi;have H:=jR l r3;have PX:=jI l r4;have Q:ids 2 (oa g id::l)++ids 1 F=id::(ids 2 l++ids 1 F):=by rw[PX];rfl
 have ll:¬(L.st=7 \/L.st=9):=λh=>by
  have:=(p.d.emp h).1;rw[Q]at this;simp at this
 have J:=p.d.inc;have Z:=p.d.le;rw[Q]at J Z;have V:=cC.1 J;have he:oJ X M l F t:=⟨by have:=p.e.inc;rw[H]at this;exact this,by have:=p.e.le;rw[H]at this;exact this,by have:=p.e.emp;rw[H]at this;exact this,p.e.lim,p.e.JI⟩
 have Zj:L.ow+(((ids 1 l).filter λi=> !Y i).length:Nat)<=t:=by have:=p.d.JI;rw[H]at this;exact this
 have A:=p.d.lim;have hf:∀y∈l,L8 h g y:=λy hy=>p.g y (by simp[hy]);have U:sm (oN X) [] +1<=oN Y (oa g id):=by rw[(Ae E hi Y).2];exact Nat.le_refl _
 by_cases hw:id=L.ow
 ·have D:L.st=6 \/L.st=8:=by
   have:=p.lu;have:=p.l.st;omega
  obtain⟨a1,a2,a3,_,a5⟩:=Wn E p.l D;subst hw;rw[a2];have u:ids 2 l++ids 1 F=[] :=by
   cases hl:ids 2 l++ids 1 F with
   |nil=>rfl
   |cons z zs=>
    have h1:=V.1 z (by rw[hl];simp);have h2:=Z z (by rw[hl];simp);omega
  refine⟨⟨a1,p.m,by rw[a5];omega,p.mu,?_,hf,⟨?_,?_,λ_=>⟨?_,λi kS=> ?_⟩,?_,?_⟩,?_⟩,λ_ _=>rfl,λy hy=>by simp at hy,U,by rw[a5];omega⟩
  ·simpa using p.f
  ·rw[show F++iz oo [] =F by simp,u];exact List.Pairwise.nil
  ·rw[show F++iz oo [] =F by simp,u];exact λ_ h=>by simp at h
  ·rw[show F++iz oo [] =F by simp];exact u
  ·obtain⟨y,hy,j⟩:=Zi kS;cases hX:Y i
   ·rfl
   ·have:=(cC.1 A).1 y hy L.ow i r4 j hX;omega
  ·rw[a3];exact A.sublist (bR _ _)
  ·rw[a3];exact Zj
  ·rw[show F++iz oo [] =F by simp];exact he
 ·rw[adr E hi hw];refine⟨⟨p.l,p.m,p.lu,p.mu,?_,hf,⟨?_,?_,λh=>absurd h ll,A.sublist (bR _ _),Zj⟩,?_⟩,λ_ _=>rfl,λy hy=>by simp at hy,U,p.lu⟩
  ·simpa using p.f
  ·rw[show F++iz oo [] =F by simp];exact V.2
  ·rw[show F++iz oo [] =F by simp];exact λi hi=>Z i (by simp[hi])
  ·rw[show F++iz oo [] =F by simp];exact he
theorem Pair.new(U:1<=g/\g<=255)(hh:1<=h/\h<=255)(l:LI g L)(m:LI h M)(s1:L.st=6)(s2:M.st=6)(w1:L.ow+1<=t)(w2:M.ow+1<=t):Pair (λ_=>false) (λ_=>false) t g h L M [mJ g L.ow] [mJ h M.ow] :=by
 obtain⟨q1,q2,_,_⟩:=sP U ⟨l.k.o1,l.k.o2⟩;obtain⟨r1,Q,_,_⟩:=sP hh ⟨m.k.o1,m.k.o2⟩;have Z:ids 1 [mJ g L.ow] =[L.ow] :=by rw[jI _ q1];rfl
 have V:ids 2 [mJ g L.ow] =[] :=by rw[jR _ q2];rfl
 have b1:ids 1 [mJ h M.ow] =[M.ow] :=by rw[jI _ r1];rfl
 have b2:ids 2 [mJ h M.ow] =[] :=by rw[jR _ Q];rfl
 refine⟨l,m,eh,eh,λx hx=> ?_,λx hx=> ?_,⟨?_,?_,λh=>eh,gY,?_⟩,⟨?_,?_,λh=>eh,gY,?_⟩⟩
 ·exact .inr (.inl ⟨_,l.k.o1,l.k.o2,au.1 hx⟩)
 ·exact .inr (.inl ⟨_,m.k.o1,m.k.o2,au.1 hx⟩)
 ·rw[Z,b2];simp
 ·rw[Z,b2];simp
 ·rw[b1];show L.ow+((1:Nat):Int)<=t;omega
 ·rw[b1,V];simp
 ·rw[b1,V];simp
 ·rw[Z];show M.ow+((1:Nat):Int)<=t;omega
def j0(a:AN)(c d:Nat):LS:=((a.R (a.e c d).1).P (a.e c d).2).L
def gP(x:Nat×Nat):Int:=8*((x.1:Int)+1)+(x.2:Int)+1
theorem rC(Z:tH a)(hc:c<a.nc)(hd:d<2):1<=gP (a.e c d)/\gP (a.e c d)<=255:=by
 have:=Z.en c d hc hd;have:=Z.n6;unfold gP;omega
theorem aaR(Z:tH a)(hc:c<a.nc)(hd:d<2)(V:d'<2)(h:d≠d'):gP (a.e c d)≠gP (a.e c d'):=by
 have h1:=Z.en c d hc hd;have h2:=Z.en c d' hc V;intro e;unfold gP at e;have:a.e c d=a.e c d':=aV eh eh;exact h (Z.ds _ _ _ _ hc hd hc V this).2
abbrev Marks:=Nat->Nat->Int->Bool
structure qX(X:Marks)(t:Nat×Nat->Nat)(a:AN):Prop where
 up:∀c,c<a.nc->a.iQ c=true->Pair (X c 0) (X c 1) (t (a.e c 0)+t (a.e c 1)) (gP (a.e c 0)) (gP (a.e c 1)) (j0 a c 0) (j0 a c 1) (a.F c 0) (a.F c 1)
 dn:∀c,c<a.nc->a.iQ c=false->∀d,d<2->LI (gP (a.e c d)) (j0 a c d)/\(j0 a c d).st=1/\(j0 a c d).ow<=((t (a.e c 0)+t (a.e c 1):Nat):Int)/\a.F c d=[]
theorem qX.tL {X:Marks} {t:Nat×Nat->Nat} (h:qX X t a)(hc:c<a.nc)(hd:d<2)(hi:a.iQ c=true):Pair (X c d) (X c (1-d)) (t (a.e c 0)+t (a.e c 1)) (gP (a.e c d)) (gP (a.e c (1-d))) (j0 a c d) (j0 a c (1-d)) (a.F c d) (a.F c (1-d)):=by
 have:d=0 \/d=1:=eh;rcases this with rfl|rfl
 ·exact h.up c hc hi
 ·exact(h.up c hc hi).symm
theorem qX.yW {X:Marks} {t:Nat×Nat->Nat} (h:qX X t a)(hc:c<a.nc)(hd:d<2)(hx:x∈a.F c d):a.iQ c=true:=by
 cases hi:a.iQ c
 ·have:=(h.dn c hc hi d hd).2.2.2;rw[this]at hx;simp at hx
 ·rfl
theorem Mb {X:Marks} {g:Nat->Int} {L:Nat->LS} {F:Nat->List k9} (hd:d<2)(h:Pair (X 0 d) (X 0 (1-d)) t (g d) (g (1-d)) (L d) (L (1-d)) (F d) (F (1-d))):Pair (X 0 0) (X 0 1) t (g 0) (g 1) (L 0) (L 1) (F 0) (F 1):=by
 have:d=0 \/d=1:=eh;rcases this with rfl|rfl
 ·exact h
 ·exact h.symm
theorem qX.Pw {X X':Marks} {t u:Nat×Nat->Nat} (h:qX X t a)(Q:∀x,t x<=u x)(V:b.e=a.e)(hc:c<a.nc)(hi:b.iQ c=a.iQ c)(U:∀d,d<2->X' c d=X c d)(Z:∀d,d<2->j0 b c d=j0 a c d)(hF:∀d,d<2->b.F c d=a.F c d):(b.iQ c=true->Pair (X' c 0) (X' c 1) (u (b.e c 0)+u (b.e c 1)) (gP (b.e c 0)) (gP (b.e c 1)) (j0 b c 0) (j0 b c 1) (b.F c 0) (b.F c 1))/\(b.iQ c=false->∀d,d<2->LI (gP (b.e c d)) (j0 b c d)/\(j0 b c d).st=1/\(j0 b c d).ow<=((u (b.e c 0)+u (b.e c 1):Nat):Int)/\b.F c d=[]):=by
 have t0:=Q (a.e c 0);have t1:=Q (a.e c 1);refine⟨λhb=> ?_,λhb d hd=> ?_⟩
 ·rw[V,U 0 eA,U 1 eA,Z 0 eA,Z 1 eA,hF 0 eA,hF 1 eA];exact(h.up c hc (by rw[<-hi];exact hb)).mono eh
 ·rw[V,Z d hd,hF d hd];obtain⟨J,E,a3,H⟩:=h.dn c hc (by rw[<-hi];exact hb) d hd;exact⟨J,E,eh,H⟩
theorem Ij(a:AN)(i:Nat)(s:iM)(c d:Nat):j0 (a.op i s) c d=if(a.e c d).1=i then(s.P (a.e c d).2).L else j0 a c d:=by
 unfold j0;show((jU a.R i s.core (a.e c d).1).P (a.e c d).2).L=_;by_cases e:(a.e c d).1=i
 ·rw[e,iE,ai rfl];rfl
 ·rw[iC _ _ e,af e]
theorem Ik(h:∀k∈ids 1 F,Y k=X k):∀y∈F,xO Y y=xO X y/\oN Y y=oN X y:=λy hy=>by
 unfold xO oN;cases e:Cn 1 y with
 |none=>exact⟨rfl,rfl⟩
 |some i=>constructor<;>simp only[h i (JG hy e)]
theorem qX.quiet {X:Marks} {t:Nat×Nat->Nat} (h:qX X t a)(i:Nat)(s:iM)(U:∀p,(s.P p).L=((a.R i).P p).L)(D:∀p,jk (s.P p)=[] \/((s.P p).L.st=9/\∀y∈jk (s.P p),rB y)):qX X t (a.op i s):=by
 have l1:∀c d,j0 (a.op i s) c d=j0 a c d:=λc d=>by
  rw[Ij];split
  ·rename_i e;rw[U,<-e];rfl
  ·rfl
 have f1:∀c d,∃em,(a.op i s).F c d=a.F c d++em/\(em=[] \/((j0 a c d).st=9/\∀y∈em,rB y)):=λc d=>by
  rw[vD];split
  ·rename_i e
   refine⟨_,rfl,?_⟩;rcases D (a.e c d).2 with g|⟨g1,V⟩
   ·exact .inl g
   ·right;rw[U]at g1;unfold j0;rw[e.2];exact⟨g1,V⟩
  ·exact⟨[],gY,.inl rfl⟩
 refine⟨λc hc hi=> ?_,λc hc hi d hd=> ?_⟩
 ·have p:=h.up c hc hi;rw[l1,l1];obtain⟨Q,j,b0⟩:=f1 c 0;obtain⟨J,Z,b1⟩:=f1 c 1;rw[j,Z];have A:∀y∈Q,rB y:=by
   rcases b0 with b|b;· rw[b];exact λ_ h=>by simp at h
   ·exact b.2
  have n1:∀y∈J,rB y:=by
   rcases b1 with b|b;· rw[b];exact λ_ h=>by simp at h
   ·exact b.2
  exact((p.more A).symm.more n1).symm
 ·obtain⟨Z,u,H,E⟩:=h.dn c hc hi d hd;rw[l1];obtain⟨em,g1,V⟩:=f1 c d;refine⟨Z,u,H,?_⟩;rw[g1,E];rcases V with g|g
  ·rw[g];rfl
  ·have:=g.1;omega
theorem wT(i p:Nat)(s:iM)(h:∀q,q≠p->(s.P q).L=((a.R i).P q).L/\jk (s.P q)=[])(c d:Nat):(a.e c d≠(i,p)->j0 (a.op i s) c d=j0 a c d/\(a.op i s).F c d=a.F c d)/\(a.e c d=(i,p)->c<a.nc->d<2->j0 (a.op i s) c d=(s.P p).L/\(a.op i s).F c d=a.F c d++jk (s.P p)):=by
 refine⟨λZ=> ?_,λQ hc hd=> ?_⟩
 ·rw[Ij,vD];by_cases e:(a.e c d).1=i
  ·have U:(a.e c d).2≠p:=λJ=>Z (aV e J);obtain⟨g1,V⟩:=h _ U;rw[ai e,g1,V,aC];refine⟨?_,by split<;>rfl⟩;unfold j0;rw[e]
  ·rw[af e,af (λz=>e z.2)];exact⟨rfl,rfl⟩
 ·rw[Ij,vD,Q,ai rfl,ai ⟨⟨hc,hd⟩,rfl⟩];exact⟨rfl,rfl⟩
def qu(t:Nat×Nat->Nat)(T:List (Nat×Nat))(x:Nat×Nat):Nat:=t x+T.count x
def FU(X:Marks)(c d:Nat)(Y:Int->Bool):Marks:=λc' d'=>if c'=c/\d'=d then Y else X c' d'
theorem rD(X:Marks)(c d:Nat)(Y:Int->Bool):FU X c d Y c d=Y:=ai ⟨rfl,rfl⟩
theorem mC(X:Marks) {c':Nat} (Y:Int->Bool)(h:¬(c'=c/\d'=d)):FU X c d Y c' d'=X c' d':=af h
theorem Ag(c:UInt8)(s:List UInt8)(h:c≠76):rB (c::s):=λk u e=>by rw[<-(aD e).1];exact h
def Au(r:iM)(p:Nat):List k9:=if(jd (r.P p).L).1.st=9 then(72::[jY r.id,jY (iI (r.P p).pe).who])::(if(iI (r.P p).pe).both=true then(lE (((jb r p).meet p (iI (r.P p).pe)).O p)).flatMap Dv else [])else []
theorem wU(r:iM)(p:Nat):∀y∈Au r p,rB y:=λy hy=>by
 unfold Au at hy;split at hy
 ·rcases aP.1 hy with g|g
  ·rw[g];exact Ag 72 _ eA
  ·split at g
   ·obtain⟨q,_,Z⟩:=aT.1 g;unfold Dv at Z;split at Z
    ·rw[au.1 Z];exact Ag 83 _ eA
    ·simp at Z
   ·simp at g
 ·simp at hy
theorem Bw(r:iM)(p q:Nat):((r.iV p).P q).L=if q=p then(jd (r.P p).L).1 else(r.P q).L:=by
 have Z:((jb r p).P q).L=if q=p then(jd (r.P p).L).1 else(r.P q).L:=by
  unfold jb;rw[kN];split
  ·rename_i e;rw[sN]
  ·rfl
 rw[k7];split
 ·rw[(kc _ _ _ _).2.1];exact Z
 ·rw[((pG _ _).2.2.2.2 q).2.2,(kc _ _ _ _).2.1];exact Z
structure Mc(X Y:Marks)(a b:AN)(c d:Nat)(l em:List k9):Prop where
 f:b.F c d=l++em
 o:∀y∈l,xO (Y c d) y=xO (X c d) y/\oN (Y c d) y=oN (X c d) y
theorem qX.tick {X:Marks} {t:Nat×Nat->Nat} {a:AN} (hB:tH a)(hN:Norm a)(h:qX X t a) {i p:Nat} (ht:∀x,t x<=126):∃Y,qX Y (qu t [(i,p)]) (a.op i ((a.R i).iV p))/\∀c d,c<a.nc->d<2->(a.e c d≠(i,p)->Mc X Y a (a.op i ((a.R i).iV p)) c d (a.F c d) [])/\(a.e c d=(i,p)->∃em,(em=[] \/em=[mJ (gP (a.e c d)) ((j0 a c d).ow+1)])/\Mc X Y a (a.op i ((a.R i).iV p)) c d (a.F c d) (em++Au (a.R i) p)):=by
 obtain⟨e1,e2⟩:=xB (hN.emp i) p;have Q:=wT (a:=a) i p ((a.R i).iV p) λq hq=>⟨by rw[Bw,af hq],e1 q hq⟩
 have Zm:(((a.R i).iV p).P p).L=(jd ((a.R i).P p).L).1:=by rw[Bw,ai rfl]
 have A:∀x,t x<=qu t [(i,p)] x:=λx=>Nat.le_add_right _ _;by_cases hex:∃c d,c<a.nc/\d<2/\a.e c d=(i,p)
 ·obtain⟨c,d,hc,hd,j⟩:=hex;have pB:j0 a c d=((a.R i).P p).L:=by unfold j0;rw[j]
  have hu:∀c' d',c'<a.nc->d'<2->¬(c'=c/\d'=d)->a.e c' d'≠(i,p):=λc' d' U V u e=>u (hB.ds _ _ _ _ U V hc hd (e.trans j.symm));cases hi:a.iQ c
  ·obtain⟨l1,l2,l3,l4⟩:=h.dn c hc hi d hd;have zb:=JF (rC hB hc hd) l1;have kr:jd (j0 a c d)=(j0 a c d,[]):=by
    rcases zb.or with g|g
    ·exact aV (g.2.2.2.1 (.inl l2)) g.1
    ·omega
   rw[pB]at kr l2;have em0:jk (((a.R i).iV p).P p)=[] :=by
    rw[e2,kr,af (by rw[l2];decide)];rfl
   have tk0:Au (a.R i) p=[] :=by unfold Au;rw[kr,af (by rw[l2];decide)]
   have nL:∀c' d',j0 (a.op i ((a.R i).iV p)) c' d'=j0 a c' d'/\(a.op i ((a.R i).iV p)).F c' d'=a.F c' d':=λc' d'=>by
    by_cases E:a.e c' d'=(i,p)
    ·rw[Ij,vD,E,ai rfl,Zm,kr];refine⟨by unfold j0;rw[E],?_⟩;split
     ·rw[em0,aC]
     ·rfl
    ·exact(Q c' d').1 E
   refine⟨X,⟨λc' U H=> ?_,λc' U H=> ?_⟩,λc' d' U V=>⟨λ_=>⟨by rw[(nL c' d').2];simp,λ_ _=>⟨rfl,rfl⟩⟩,λ_=>⟨[],.inl rfl,by rw[(nL c' d').2,tk0];simp,λ_ _=>⟨rfl,rfl⟩⟩⟩⟩
   ·exact(h.Pw (X':=X) (b:=a.op i ((a.R i).iV p)) A rfl U rfl (λ_ _=>rfl) (λd _=>(nL c' d).1) (λd _=>(nL c' d).2)).1 H
   ·exact(h.Pw (X':=X) (b:=a.op i ((a.R i).iV p)) A rfl U rfl (λ_ _=>rfl) (λd _=>(nL c' d).1) (λd _=>(nL c' d).2)).2 H
  ·have pr:=h.tL hc hd hi;have MQ:t (a.e c 0)+t (a.e c 1)+1<=255:=by have:=ht (a.e c 0);have:=ht (a.e c 1);omega
   obtain⟨Z,q1,q2,q3⟩:=pr.tick (rC hB hc hd) MQ;have q1:=q1.more (wU (a.R i) p);obtain⟨f1,f2⟩:=(Q c d).2 j hc hd;rw[e2]at f2;have f2:(a.op i ((a.R i).iV p)).F c d=a.F c d++(jd (j0 a c d)).2.flatMap oo++Au (a.R i) p:=by
    rw[f2,pB,aE];rfl
   rw[Zm,<-pB]at f1;have Gu:a.e c (1-d)≠(i,p):=hu c (1-d) hc eh eh;obtain⟨k1,k2⟩:=(Q c (1-d)).1 Gu;have alR:qu t [(i,p)] (a.e c 0)+qu t [(i,p)] (a.e c 1)=t (a.e c 0)+t (a.e c 1)+1:=by
    have c1:([(i,p)] :List (Nat×Nat)).count (a.e c d)=1:=by rw[j];simp
    have c2:([(i,p)] :List (Nat×Nat)).count (a.e c (1-d))=0:=List.count_eq_zero.2 (by simp[Gu]);have:d=0 \/d=1:=eh;unfold qu;rcases this with rfl|rfl
    ·rw[c1,show([(i,p)] :List (Nat×Nat)).count (a.e c 1)=0 from c2];omega
    ·rw[c1,show([(i,p)] :List (Nat×Nat)).count (a.e c 0)=0 from c2];omega
   refine⟨FU X c d Z,⟨λc' U H=> ?_,λc' U H=> ?_⟩,λc' d' U V=>⟨λu=> ?_,λE=> ?_⟩⟩
   ·by_cases hcc:c'=c
    ·subst hcc;show Pair _ _ (qu t [(i,p)] (a.e c' 0)+qu t [(i,p)] (a.e c' 1)) (gP (a.e c' 0)) (gP (a.e c' 1)) _ _ _ _;rw[alR];refine Mb (X:=λ_ d'=>FU X c' d Z c' d') (g:=λd'=>gP (a.e c' d')) (L:=λd'=>j0 (a.op i ((a.R i).iV p)) c' d') (F:=λd'=>(a.op i ((a.R i).iV p)).F c' d') hd ?_;show Pair (FU X c' d Z c' d) (FU X c' d Z c' (1-d)) _ _ _ _ _ _ _;rw[rD,mC X Z eh,f1,f2,k1,k2];exact q1
    ·have J:∀d',d'<2->a.e c' d'≠(i,p):=λd' V=>hu c' d' U V λz=>hcc z.1;exact(h.Pw (X':=FU X c d Z) (b:=a.op i ((a.R i).iV p)) A rfl U rfl (λd' _=>mC X Z λz=>hcc z.1) (λd' V=>((Q c' d').1 (J d' V)).1) (λd' V=>((Q c' d').1 (J d' V)).2)).1 H
   ·have hcc:c'≠c:=λz=>by subst z;have:a.iQ c'=false:=H;rw[hi]at this;exact absurd this gY
    have J:∀d',d'<2->a.e c' d'≠(i,p):=λd' V=>hu c' d' U V λz=>hcc z.1;exact(h.Pw (X':=FU X c d Z) (b:=a.op i ((a.R i).iV p)) A rfl U rfl (λd' _=>mC X Z λz=>hcc z.1) (λd' V=>((Q c' d').1 (J d' V)).1) (λd' V=>((Q c' d').1 (J d' V)).2)).2 H
   ·have D:¬(c'=c/\d'=d):=λz=>u (by rw[z.1,z.2];exact j);exact⟨by rw[((Q c' d').1 u).2];simp,λ_ _=>by rw[mC X Z D];exact⟨rfl,rfl⟩⟩
   ·have D:=hB.ds _ _ _ _ U V hc hd (E.trans j.symm);obtain⟨z1,z2⟩:=D;subst z1 z2;exact⟨_,q3,by rw[f2,aE],λy hy=>by rw[rD];exact Ik q2 y hy⟩
 ·have J:∀c d,c<a.nc->d<2->a.e c d≠(i,p):=λc d hc hd e=>hex ⟨c,d,hc,hd,e⟩;refine⟨X,⟨λc hc hi=> ?_,λc hc hi=> ?_⟩,λc d hc hd=>⟨λu=>⟨by rw[((Q c d).1 u).2];simp,λ_ _=>⟨rfl,rfl⟩⟩,λE=>absurd E (J c d hc hd)⟩⟩
  ·exact(h.Pw (X':=X) (b:=a.op i ((a.R i).iV p)) A rfl hc rfl (λ_ _=>rfl) (λd hd=>((Q c d).1 (J c d hc hd)).1) (λd hd=>((Q c d).1 (J c d hc hd)).2)).1 hi
  ·exact(h.Pw (X':=X) (b:=a.op i ((a.R i).iV p)) A rfl hc rfl (λ_ _=>rfl) (λd hd=>((Q c d).1 (J c d hc hd)).1) (λd hd=>((Q c d).1 (J c d hc hd)).2)).2 hi
theorem uW(r:iM)(i:Nat) {c:UInt8} (s:List UInt8)(hc:c≠76)(p:Nat):((r.take i c s).P p).L=(r.P p).L:=by
 rw[lJ,uz i s hc];split
 ·exact(kc _ _ _ _).2.1
 ·exact(Od r i c s p).1
theorem tI(r:iM)(i:Nat)(s:List UInt8)(p:Nat):((r.take i 76 s).P p).L=((j1 r i 76 s).P p).L/\((r.take i 76 s).P p).out=((j1 r i 76 s).P p).out:=by
 rw[lJ];split
 ·exact⟨(kc _ _ _ _).2.1,(kc _ _ _ _).1⟩
 ·unfold mA;rw[af eA,af eA,af eA,af eA];exact⟨rfl,rfl⟩
theorem xE(h:Fh r i x p l)(hx:rB x)(X Y:Int->Bool):(l=[] \/((r.P p).L.st=9/\∀y∈l,rB y))/\(∀y∈l,xO Y y+1<=xO X x)/\(sm (oN Y) l<=(if p=i then oN X x else 0)):=by
 have Z:∀(c:UInt8) (s:List UInt8),c≠76->Cn 1 (c::s)=ν:=λc s h=>xD 1 s h;cases h with
 |none h=>rw[h];exact⟨.inl rfl,λ_ h=>by simp at h,Nat.zero_le _⟩
 |link s h _ _ _=>exact absurd rfl (hx 76 s h)
 |heard s hs U V _ _ _ _ h=>
  have d1:xO X x=2/\oN X x=2:=by rw[hs];unfold xO oN;rw[Z 83 s eA];exact⟨rfl,rfl⟩
  have d2:∀u,xO Y (65::u)=1/\oN Y (65::u)=1:=λu=>by unfold xO oN;rw[Z 65 u eA];exact⟨rfl,rfl⟩
  rw[h];refine⟨.inr ⟨by rw[U];exact V,λy hy=>by rw[au.1 hy];exact Ag 65 _ eA⟩,λy hy=>by rw[au.1 hy,(d2 _).1,d1.1];exact Nat.le_refl _,?_⟩;rw[ai U,d1.2];show oN Y _+0<=2;rw[(d2 _).2];decide
 |JA a b s hs V h1 _ h=>
  have d1:xO X x=b.toNat+1:=by rw[hs];unfold xO;rw[Z 77 _ eA];rfl
  have d2:xO Y (77::a::jY ((b.toNat:Int)-1)::s)=b.toNat:=by
   unfold xO;rw[Z 77 _ eA];show(jY ((b.toNat:Int)-1)).toNat+1=_;have:=nD ((b.toNat:Int)-1) eh (by have:=b.toNat_lt;omega);omega
  have Q:oN Y (77::a::jY ((b.toNat:Int)-1)::s)=0:=by unfold oN;rw[Z 77 _ eA];rfl
  rw[h];refine⟨.inr ⟨V,λy hy=>by rw[au.1 hy];exact Ag 77 _ eA⟩,λy hy=>by rw[au.1 hy,d2,d1];exact Nat.le_refl _,?_⟩;show oN Y _+0<=_;rw[Q];exact Nat.zero_le _
def wc(X:Marks)(a:AN)(c:Nat):Nat:=sm (oN (X c 0)) (a.F c 0)+sm (oN (X c 1)) (a.F c 1)
theorem sQ {α:Type} {f g:α->Nat} {l:List α} (h:∀x∈l,f x=g x):sm f l=sm g l:=by
 refine Nat.le_antisymm (vu λx hx=>Nat.le_of_eq (h x hx)) (vu λx hx=>Nat.le_of_eq (h x hx).symm)
theorem Mc.w {X Y:Marks} (h:Mc X Y a b c d l em):sm (oN (Y c d)) (b.F c d)=sm (oN (X c d)) l+sm (oN (Y c d)) em:=by
 rw[h.f,pP,sQ λy hy=>(h.o y hy).2]
theorem Zn {X:Marks} {t:Nat×Nat->Nat} (h:qX X t a)(hc:c<a.nc)(hd:d<2)(hF:a.F c d=x::l):qX X t (a.lv c d l):=by
 refine⟨λc' V hi=> ?_,λc' V hi d' U=> ?_⟩
 ·have p:=h.up c' V hi;have hs:∀d',((a.lv c d l).F c' d').Sublist (a.F c' d'):=λd'=>by
   rw[sO];split
   ·rename_i e;rw[e.1,e.2,hF];exact bR _ _
   ·exact List.Sublist.refl _
  exact p.sub (hs 0) (hs 1)
 ·obtain⟨Q,H,J,Z⟩:=h.dn c' V hi d' U;refine⟨Q,H,J,?_⟩;rw[sO,af]
  ·exact Z
  ·rintro⟨rfl,rfl⟩;rw[hF]at Z;exact absurd Z gY
theorem PY {P:Prop} [Decidable P] {k:Nat} (hd:d<2) {s e f:Nat->Nat} (U:∀d',d'<2->e d'<=if P/\d'=1-d then k else 0)(hs:∀d',d'<2->s d'+(if P/\d'=d then k else 0)<=f d'):s 0+e 0+(s 1+e 1)<=f 0+f 1:=by
 have Q:=U 0 eA;have Z:=U 1 eA;have b0:=hs 0 eA;have b1:=hs 1 eA;have J:d=0 \/d=1:=eh;by_cases V:P
 ·rcases J with rfl|rfl<;>simp[V]at Q Z b0 b1<;>omega
 ·simp[V]at Q Z b0 b1;omega
structure adu(X Y:Marks)(a b:AN)(c d:Nat)(x:k9)(l:List k9):Prop where
 fl:∀c' d',c'<a.nc->d'<2->∃em,Mc X Y a b c' d' (if c'=c/\d'=d then l else a.F c' d') em/\(∀y∈em,xO (Y c' d') y+1<=xO (X c d) x)
 w:∀c',c'<a.nc->wc Y b c'<=wc X a c'
theorem qX.pop {X:Marks} {t:Nat×Nat->Nat} {a:AN} (hB:tH a)(hN:Norm a)(h:qX X t a)(ht:∀x,t x<=127) {c d:Nat} {x:k9} {l:List k9} (hc:c<a.nc)(hd:d<2)(hF:a.F c d=x::l):∃Y,qX Y t (a.pop c d x l)/\adu X Y a (a.pop c d x l) c d x l:=by
 have hi:=h.yW hc hd (x:=x) (by rw[hF];simp);have pr:=(h.tL hc hd hi).symm;have ZT:=Zn h hc hd hF;obtain⟨r,hr⟩:=gg (a.R (a.e c (1-d)).1);obtain⟨i,hie⟩:=gg ((a.e c (1-d)).1);obtain⟨p,oP⟩:=gg ((a.e c (1-d)).2);have Ta:a.e c (1-d)=(i,p):=aV hie oP;have E:a.pop c d x l=(a.lv c d l).op i (jM r p x):=by unfold AN.pop;rw[hr,hie,oP]
 have Gl:a.R i=r:=by rw[<-hie];exact hr
 have Xv:J2 r:=by rw[<-Gl];exact hN.emp i
 obtain⟨D,_⟩:=qo Xv p x;have pB:j0 a c (1-d)=(r.P p).L:=by unfold j0;rw[Ta,Gl]
 have hif:∀c' d',(a.lv c d l).F c' d'=if c'=c/\d'=d then l else a.F c' d':=λ_ _=>rfl
 by_cases hx:rB x
 ·
  have hL:∀q,((jM r p x).P q).L=(r.P q).L:=λq=>by
   cases x with
   |nil=>rfl
   |cons k s=>exact uW r p s (hx k s rfl) q
  have hq:=λq=>xE (D q) hx (X c d) (λ_=>false);have hl:=ZT.quiet i (jM r p x) (λq=>by rw[hL];show(r.P q).L=((a.R i).P q).L;rw[Gl]) λq=>by
   rcases(hq q).1 with g|⟨g1,g2⟩
   ·exact .inl g
   ·exact .inr ⟨by rw[hL];exact g1,g2⟩
  have A:∀c' d',c'<a.nc->d'<2->Mc X X a (a.pop c d x l) c' d' (if c'=c/\d'=d then l else a.F c' d') (if(a.e c' d').1=i then jk ((jM r p x).P (a.e c' d').2)else []):=λc' d' V U=>by
   refine⟨?_,λ_ _=>⟨rfl,rfl⟩⟩;rw[E,vD,yR,Ds,hif];by_cases e:(a.e c' d').1=i
   ·rw[ai ⟨⟨V,U⟩,e⟩,ai e]
   ·rw[af (λz=>e z.2),af e,aC]
  refine⟨X,by rw[E];exact hl,λc' d' V U=>⟨_,A c' d' V U,λy hy=> ?_⟩,λc' V=> ?_⟩
  ·split at hy
   ·exact(xE (D (a.e c' d').2) hx (X c d) (X c' d')).2.1 y hy
   ·simp at hy
  ·have w0:=(A c' 0 V eA).w;have w1:=(A c' 1 V eA).w;have hE:∀d',d'<2->sm (oN (X c' d')) (if(a.e c' d').1=i then jk ((jM r p x).P (a.e c' d').2)else [])<=if c'=c/\d'=1-d then oN (X c d) x else 0:=λd' U=>by
    by_cases e:(a.e c' d').1=i
    ·rw[ai e];have:=(xE (D (a.e c' d').2) hx (X c d) (X c' d')).2.2;by_cases e2:(a.e c' d').2=p
     ·rw[ai e2]at this;have:=hB.ds c' d' c (1-d) V U hc eh (by rw[Ta];exact aV e e2);rw[ai this];assumption
     ·rw[af e2]at this;omega
    ·rw[af e];exact Nat.zero_le _
   have hI:∀d',d'<2->sm (oN (X c' d')) (if c'=c/\d'=d then l else a.F c' d')+(if c'=c/\d'=d then oN (X c d) x else 0)<=sm (oN (X c' d')) (a.F c' d'):=λd' U=>by
    by_cases e:c'=c/\d'=d
    ·rw[ai e,ai e,e.1,e.2,hF];show _<=oN (X c d) x+sm (oN (X c d)) l;omega
    ·rw[af e,af e];exact Nat.le_refl _
   unfold wc;rw[w0,w1];exact PY hd (s:=λd'=>sm (oN (X c' d')) (if c'=c/\d'=d then l else a.F c' d')) (f:=λd'=>sm (oN (X c' d')) (a.F c' d')) hE hI
 ·
  have Ws:(∃id,0<=id/\id<=255/\x=mJ (gP (a.e c d)) id) \/(∃id,0<=id/\id<=255/\x=oa (gP (a.e c (1-d))) id):=by
   rcases pr.g x (by rw[hF];simp)with g|g|g
   ·exact absurd g hx
   ·exact .inl g
   ·exact .inr g
  have gd:=rC hB hc hd;have H:=rC hB hc (show 1-d<2 by omega);obtain⟨q,s,Tr,uF,hPL⟩:∃(q:kM) (s:List UInt8),x=76::s/\iY s=(q.1,q.2.1,q.2.2,0)/\∃Z,Zk (X c (1-d)) Z (X c d) (t (a.e c 0)+t (a.e c 1)) (gP (a.e c (1-d))) (gP (a.e c d)) (jK (j0 a c (1-d)) q).1 (j0 a c d) (a.F c (1-d)) l ((jK (j0 a c (1-d)) q).2.1.flatMap oo) x:=by
   rw[hF]at pr;rcases Ws with⟨id,i1,i2,j⟩|⟨id,i1,i2,j⟩
   ·rw[j]at pr;obtain⟨Z,hZ⟩:=pr.req H gd (aaR hB hc hd eh eh) (by have:=ht (a.e c 0);have:=ht (a.e c 1);omega) ⟨i1,i2⟩;exact⟨(1,id,nZ (gP (a.e c d))),_,j,Ac (.inl rfl) ⟨i1,i2⟩ gd,Z,by rw[j];exact hZ⟩
   ·rw[j]at pr;have hZ:=pr.ack H ⟨i1,i2⟩;exact⟨(2,id,nZ (gP (a.e c (1-d)))),_,j,Ac (.inr rfl) ⟨i1,i2⟩ H,X c (1-d),by rw[j];exact hZ⟩
  obtain⟨Z,pp⟩:=hPL;obtain⟨k1,_,k3,_⟩:=z8 Xv p 76 s;rw[uF]at k1 k3;have o9:=wT (a:=a.lv c d l) i p (jM r p x) λu hu=>by
   rw[Tr];show((r.take p 76 s).P u).L=((a.R i).P u).L/\jk ((r.take p 76 s).P u)=[]
   rw[(tI r p s u).1,nJ (tI r p s u).2,k1,af (λz=>hu z.1),(k3 u).2.2,af (λz=>hu z.1),Gl];exact⟨rfl,rfl⟩
  have Zm:((jM r p x).P p).L=(jK (j0 a c (1-d)) q).1/\jk ((jM r p x).P p)=(jK (j0 a c (1-d)) q).2.1.flatMap oo:=by
   rw[Tr,pB];show((r.take p 76 s).P p).L=_/\jk ((r.take p 76 s).P p)=_;rw[(tI r p s p).1,nJ (tI r p s p).2,k1,ai ⟨rfl,rfl,rfl⟩,(k3 p).2.2,ai ⟨rfl,rfl,rfl⟩];exact⟨rfl,rfl⟩
  obtain⟨em,alS⟩:=gg ((jK (j0 a c (1-d)) q).2.1.flatMap oo);obtain⟨L',hL'⟩:∃L',(jK (j0 a c (1-d)) q).1=L':=⟨_,rfl⟩
  rw[alS,hL']at pp Zm;have hu:∀c' d',c'<a.nc->d'<2->¬(c'=c/\d'=1-d)->a.e c' d'≠(i,p):=λc' d' V U ju e=>ju (hB.ds _ _ _ _ V U hc eh (e.trans Ta.symm));have hb:∀c' d',c'<a.nc->d'<2->¬(c'=c/\d'=1-d)->j0 (a.pop c d x l) c' d'=j0 a c' d'/\(a.pop c d x l).F c' d'=if c'=c/\d'=d then l else a.F c' d':=λc' d' V U ju=>by
   rw[E];exact(o9 c' d').1 (hu c' d' V U ju)
  have kA:j0 (a.pop c d x l) c (1-d)=L'/\(a.pop c d x l).F c (1-d)=a.F c (1-d)++em:=by
   rw[E];obtain⟨z1,z2⟩:=(o9 c (1-d)).2 Ta hc (by show 1-d<2;omega);rw[z1,z2,Zm.1,Zm.2,hif,af eh];exact⟨rfl,rfl⟩
  have Xo:=hb c d hc hd eh;rw[ai ⟨rfl,rfl⟩]at Xo;have tX:(a.pop c d x l).nc=a.nc:=by rw[E];rfl
  have J:(a.pop c d x l).e=a.e:=by rw[E];rfl
  have kP:(a.pop c d x l).iQ=a.iQ:=by rw[E];rfl
  have A:∀c' d',c'<a.nc->d'<2->Mc X (FU X c (1-d) Z) a (a.pop c d x l) c' d' (if c'=c/\d'=d then l else a.F c' d') (if c'=c/\d'=1-d then em else []):=λc' d' V U=>by
   by_cases e:c'=c/\d'=1-d
   ·rw[ai e,af eh];obtain⟨e1,e2⟩:=e;subst e1 e2;exact⟨kA.2,λy hy=>by rw[rD];exact Ik pp.old y hy⟩
   ·rw[af e];exact⟨by rw[(hb c' d' V U e).2,aC],λy hy=>by rw[mC X Z e];exact⟨rfl,rfl⟩⟩
  refine⟨FU X c (1-d) Z,⟨λc' V kS=> ?_,λc' V kS=> ?_⟩,λc' d' V U=>⟨_,A c' d' V U,λy hy=> ?_⟩,λc' V=> ?_⟩
  ·rw[tX]at V;by_cases hcc:c'=c
   ·subst hcc;rw[J];refine Mb (X:=λ_ d'=>FU X c' (1-d) Z c' d') (g:=λd'=>gP (a.e c' d')) (L:=λd'=>j0 (a.pop c' d x l) c' d') (F:=λd'=>(a.pop c' d x l).F c' d') (d:=1-d) eh ?_;show Pair (FU X c' (1-d) Z c' (1-d)) (FU X c' (1-d) Z c' (1-(1-d))) _ _ _ _ _ _ _;rw[show 1-(1-d)=d by omega,rD,mC X Z eh,kA.1,kA.2,Xo.1,Xo.2];exact pp.p
   ·rw[kP]at kS;have Q:∀d',¬(c'=c/\d'=1-d):=λ_ z=>hcc z.1;refine(h.Pw (X':=FU X c (1-d) Z) (b:=a.pop c d x l) (u:=t) (λ_=>Nat.le_refl _) J V (by rw[kP]) (λd' _=>mC X Z (Q d')) (λd' U=>(hb c' d' V U (Q d')).1) (λd' U=> ?_)).1 (by rw[kP];exact kS);rw[(hb c' d' V U (Q d')).2,af (λz=>hcc z.1)]
  ·rw[tX]at V;have hcc:c'≠c:=λz=>by subst z;rw[kP,hi]at kS;exact absurd kS gY
   have Q:∀d',¬(c'=c/\d'=1-d):=λ_ z=>hcc z.1;refine(h.Pw (X':=FU X c (1-d) Z) (b:=a.pop c d x l) (u:=t) (λ_=>Nat.le_refl _) J V (by rw[kP]) (λd' _=>mC X Z (Q d')) (λd' U=>(hb c' d' V U (Q d')).1) (λd' U=> ?_)).2 kS;rw[(hb c' d' V U (Q d')).2,af (λz=>hcc z.1)]
  ·split at hy
   ·rename_i e
    rw[e.1,e.2,rD];exact pp.dp y hy
   ·simp at hy
  ·have w0:=(A c' 0 V eA).w;have w1:=(A c' 1 V eA).w;have aqG:=pp.wg;unfold wc;rw[w0,w1];refine PY (P:=c'=c) (k:=oN (X c d) x) hd (s:=λd'=>sm (oN (X c' d')) (if c'=c/\d'=d then l else a.F c' d')) (e:=λd'=>sm (oN (FU X c (1-d) Z c' d')) (if c'=c/\d'=1-d then em else [])) (f:=λd'=>sm (oN (X c' d')) (a.F c' d')) (λd' _=> ?_) λd' _=> ?_
   ·by_cases e:c'=c/\d'=1-d
    ·simp only[if_pos e];rw[e.1,e.2,rD];omega
    ·simp only[if_neg e];exact Nat.le_refl _
   ·by_cases e:c'=c/\d'=d
    ·simp only[if_pos e];rw[e.1,e.2,hF];show _<=oN (X c d) x+sm (oN (X c d)) l;omega
    ·simp only[if_neg e];exact Nat.le_refl _
theorem wV(hB:tH a)(A:Norm a)(hc:c<a.nc)(hd:d<2)(up:Bool)(h:(kY (j0 a c d) (if up=true then 0 else 1)).2.2=0):∀c' d',c'<a.nc->d'<2->(¬(c'=c/\d'=d)->j0 (a.nI c d up) c' d'=j0 a c' d'/\(a.nI c d up).F c' d'=a.F c' d')/\(c'=c/\d'=d->j0 (a.nI c d up) c' d'=(kY (j0 a c d) (if up=true then 0 else 1)).1/\(a.nI c d up).F c' d'=a.F c d++(kY (j0 a c d) (if up=true then 0 else 1)).2.1.flatMap oo):=λc' d' Q V=>by
 obtain⟨D,e2,E⟩:=JB (A.emp (a.e c d).1) (a.e c d).2 up h;have U:∀q,(((a.R (a.e c d).1).iL (a.e c d).2 up).1.P q).L=if q=(a.e c d).2 then(kY (j0 a c d) (if up=true then 0 else 1)).1 else((a.R (a.e c d).1).P q).L:=λq=>by
  rw[E,(kc _ _ _ _).2.1,kN];split
  ·rw[E3];rfl
  ·rfl
 have Z:=wT (a:=a) (a.e c d).1 (a.e c d).2 _ (λq J=>⟨by rw[U,af J],D q J⟩) c' d';refine⟨λH=>Z.1 λe=>H (hB.ds _ _ _ _ Q V hc hd e),λu=> ?_⟩;obtain⟨y,j⟩:=u;subst y j;have:=Z.2 rfl Q V;rw[U,ai rfl,e2]at this;exact this
theorem Fu(hB:tH a)(hN:Norm a)(hc:c<a.nc)(up:Bool)(h:∀d,d<2->(kY (j0 a c d) (if up=true then 0 else 1)).2.2=0):(∀c' d',c'<a.nc->d'<2->c'≠c->j0 (a.iL c up) c' d'=j0 a c' d'/\(a.iL c up).F c' d'=a.F c' d')/\∀d,d<2->j0 (a.iL c up) c d=(kY (j0 a c d) (if up=true then 0 else 1)).1/\(a.iL c up).F c d=(kY (j0 a c d) (if up=true then 0 else 1)).2.1.flatMap oo:=by
 obtain⟨b,hb⟩:=gg ((({a with iQ:=jU a.iQ c up}:AN).lv c 0 []).lv c 1 []);have A:tH b:=hB.same (by rw[<-hb];rfl) (by rw[<-hb];rfl) (by rw[<-hb];rfl);have u:Norm b:=by rw[<-hb];exact hN
 have U:c<b.nc:=by rw[<-hb];exact hc
 have Q:∀c' d',j0 b c' d'=j0 a c' d':=λc' d'=>by rw[<-hb];rfl
 have Z:∀c' d',b.F c' d'=if c'=c/\d'=1 then []else if c'=c/\d'=0 then []else a.F c' d':=λc' d'=>by rw[<-hb];rfl
 have hp:a.iL c up=(b.nI c 0 up).nI c 1 up:=by unfold AN.iL;rw[hb]
 have f0:=wV A u U (by decide:0<2) up (by rw[Q];exact h 0 eA);have j:tH (b.nI c 0 up):=A.same rfl rfl rfl;have V:=(f0 c 1 U eA).1 eh;have f1:=wV (a:=b.nI c 0 up) j (qV u _ _) U (by decide:1<2) up (by rw[V.1,Q];exact h 1 eA);have J:b.nc=a.nc:=by rw[<-hb];rfl
 rw[hp];refine⟨λc' d' y D H=> ?_,λd hd=> ?_⟩
 ·have g0:=(f0 c' d' (by rw[J];exact y) D).1 (λz=>H z.1);have g1:=(f1 c' d' (by show c'<b.nc;rw[J];exact y) D).1 (λz=>H z.1);rw[g1.1,g1.2,g0.1,g0.2,Q,Z,af (λz=>H z.1),af (λz=>H z.1)];exact⟨rfl,rfl⟩
 ·have:d=0 \/d=1:=eh;rcases this with rfl|rfl
  ·have g1:=(f1 c 0 U eA).1 eh;have g0:=(f0 c 0 U eA).2 ⟨rfl,rfl⟩;have E:b.F c 0=[] :=by rw[Z];simp
   rw[g1.1,g1.2,g0.1,g0.2,Q,E];exact⟨rfl,rfl⟩
  ·have g1:=(f1 c 1 U eA).2 ⟨rfl,rfl⟩;have E:b.F c 1=[] :=by rw[Z];simp
   rw[g1.1,g1.2,V.1,V.2,Q,E];exact⟨rfl,rfl⟩
theorem uA(a:AN)(c:Nat)(up:Bool)(c':Nat):(a.iL c up).iQ c'=if c'=c then up else a.iQ c':=rfl
theorem qX.iL {X:Marks} {t:Nat×Nat->Nat} {a:AN} (U:tH a)(hN:Norm a)(h:qX X t a)(E:∀x,t x<=126) {c:Nat} (hc:c<a.nc)(hi:a.iQ c=false):qX (FU (FU X c 0 λ_=>false) c 1 λ_=>false) (qu t [a.e c 0,a.e c 1]) (a.iL c true):=by
 have Z:=h.dn c hc hi;have y:=λd hd=>aaO (rC U hc hd) (Z d hd).1 (Z d hd).2.1;obtain⟨f1,f2⟩:=Fu U hN hc true λd hd=>(Ef (Z d hd).2.1).1;have D:∀x,t x<=qu t [a.e c 0,a.e c 1] x:=λx=>Nat.le_add_right _ _;have H:a.e c 0≠a.e c 1:=λe=>by have:=(U.ds _ _ _ _ hc eA hc eA e).2;omega
 refine⟨λc' V Q=> ?_,λc' V Q=> ?_⟩
 ·by_cases e:c'=c
  ·subst e;have A:∀d,d<2->FU (FU X c' 0 λ_=>false) c' 1 (λ_=>false) c' d=λ_=>false:=λd hd=>by
    have:d=0 \/d=1:=eh;rcases this with rfl|rfl
    ·rw[mC _ _ eh,rD]
    ·rw[rD]
   have hF:∀d,d<2->(a.iL c' true).F c' d=[mJ (gP (a.e c' d)) (j0 (a.iL c' true) c' d).ow] /\LI (gP (a.e c' d)) (j0 (a.iL c' true) c' d)/\(j0 (a.iL c' true) c' d).st=6/\(j0 (a.iL c' true) c' d).ow=(j0 a c' d).ow+1:=λd hd=>by
    obtain⟨u1,u2,u3,u4,u5⟩:=y d hd;obtain⟨g1,g2⟩:=f2 d hd;have hw:=(Z d hd).2.2.1;have ho:=(Z d hd).1.k.o1;have hb:(j0 a c' d).ow+1<=255:=by have:=E (a.e c' 0);have:=E (a.e c' 1);omega
    have em:((j0 a c' d).ow+1) %256=(j0 a c' d).ow+1:=eh;rw[em]at u2 u3;rw[g1,g2];simp only[if_true];refine⟨?_,u1,u4,u3⟩;rw[u2,u3];show oo _++ [] =_;rw[Ft (.inl rfl) ⟨eh,hb⟩ (rC U hc hd)];rfl
   obtain⟨u,a2,j,a4⟩:=hF 0 eA;obtain⟨b1,b2,b3,b4⟩:=hF 1 eA;show Pair _ _ (qu t [a.e c' 0,a.e c' 1] (a.e c' 0)+qu t [a.e c' 0,a.e c' 1] (a.e c' 1)) (gP (a.e c' 0)) (gP (a.e c' 1)) _ _ _ _;rw[A 0 eA,A 1 eA,u,b1];have c0:qu t [a.e c' 0,a.e c' 1] (a.e c' 0)=t (a.e c' 0)+1:=by unfold qu;simp[Ne.symm H]
   have c1:qu t [a.e c' 0,a.e c' 1] (a.e c' 1)=t (a.e c' 1)+1:=by unfold qu;simp[H]
   have w0:=(Z 0 eA).2.2.1;have w1:=(Z 1 eA).2.2.1;refine Pair.new (rC U hc eA) (rC U hc eA) a2 b2 j b3 ?_ ?_
   ·rw[a4,c0,c1];omega
   ·rw[b4,c0,c1];omega
  ·have J:(a.iL c true).iQ c'=a.iQ c':=by rw[uA,af e]
   exact(h.Pw (b:=a.iL c true) D rfl V J (λd _=>by rw[mC _ _ (λz=>e z.1),mC _ _ (λz=>e z.1)]) (λd hd=>(f1 c' d V hd e).1) (λd hd=>(f1 c' d V hd e).2)).1 Q
 ·have e:c'≠c:=λz=>by rw[uA,ai z]at Q;exact absurd Q gY
  have J:(a.iL c true).iQ c'=a.iQ c':=by rw[uA,af e]
  exact(h.Pw (X':=FU (FU X c 0 λ_=>false) c 1 λ_=>false) (b:=a.iL c true) D rfl V J (λd _=>by rw[mC _ _ (λz=>e z.1),mC _ _ (λz=>e z.1)]) (λd hd=>(f1 c' d V hd e).1) (λd hd=>(f1 c' d V hd e).2)).2 Q
theorem qX.draw {X:Marks} {t:Nat×Nat->Nat} (E:tH a)(H:Norm a)(h:qX X t a)(hc:c<a.nc)(hi:a.iQ c=true):qX X t (a.iL c false):=by
 have J:∀d,d<2->uv (j0 a c d).st=true:=λd hd=>by
  have p:=h.tL hc hd hi;have:=p.lu;have:=p.l.st;unfold uv;simp only[Bool.or_eq_true,beq_iff_eq,Bool.and_eq_true,decide_eq_true_eq];omega
 obtain⟨f1,f2⟩:=Fu E H hc false λd hd=>(tG (J d hd)).1;refine⟨λc' Z V=> ?_,λc' Z V=> ?_⟩
 ·have e:c'≠c:=λz=>by rw[uA,ai z]at V;exact absurd V gY
  have U:(a.iL c false).iQ c'=a.iQ c':=by rw[uA,af e]
  exact(h.Pw (X':=X) (b:=a.iL c false) (u:=t) (λ_=>Nat.le_refl _) rfl Z U (λd _=>rfl) (λd hd=>(f1 c' d Z hd e).1) (λd hd=>(f1 c' d Z hd e).2)).1 V
 ·by_cases e:c'=c
  ·subst e;intro d hd;have p:=h.tL hc hd hi;obtain⟨d1,d2,D⟩:=Zg p.l p.lu;obtain⟨g1,Q⟩:=f2 d hd;simp only[Bool.false_eq_true,if_false]at g1 Q;rw[g1,Q,LX (J d hd),D];refine⟨d1,d2,?_,rfl⟩;have:=p.d.JI;show _<=((t (a.e c' 0)+t (a.e c' 1):Nat):Int)
   omega
  ·have U:(a.iL c false).iQ c'=a.iQ c':=by rw[uA,af e]
   exact(h.Pw (X':=X) (b:=a.iL c false) (u:=t) (λ_=>Nat.le_refl _) rfl Z U (λd _=>rfl) (λd hd=>(f1 c' d Z hd e).1) (λd hd=>(f1 c' d Z hd e).2)).2 V
theorem Md(hi:i<6)(hp:p<3)(m:Nat->Int):LI (gP (i,p)) (Hl ((i:Int)+1) m p).L/\(Hl ((i:Int)+1) m p).L.st=1/\(Hl ((i:Int)+1) m p).L.ow=0:=by
 have e:gP (i,p)=8*((i:Int)+1)+(p:Int)+1:=rfl;have hb:0<=gP (i,p)/\gP (i,p)<=255:=by rw[e];omega
 refine⟨⟨rfl,rfl,rfl,rfl,λh=>absurd h (by show¬(6:Int)<=1;decide),.inl rfl,⟨by show xJ 1 0 0=true;decide,by show(0:Int)<=0;decide,by show(0:Int)<=255;decide,hb.1,hb.2,hb.1,hb.2⟩⟩,rfl,rfl⟩
theorem qX.lost {X:Marks} {t:Nat×Nat->Nat} (h:qX X t a)(hl:wO a b):qX X t b:=by
 have hs:∀c d,(b.F c d).Sublist (a.F c d):=λc d=>by
  obtain⟨m,A⟩:=hl.2 c d;rw[A];exact List.take_sublist _ _
 have U:b.nc=a.nc:=by rw[hl.1]
 have Q:b.iQ=a.iQ:=by rw[hl.1]
 have V:b.e=a.e:=by rw[hl.1]
 have Z:∀c d,j0 b c d=j0 a c d:=λc d=>by rw[hl.1];rfl
 refine⟨λc hc hi=> ?_,λc hc hi d hd=> ?_⟩
 ·rw[V,Z,Z];exact(h.up c (by rw[<-U];exact hc) (by rw[<-Q];exact hi)).sub (hs c 0) (hs c 1)
 ·obtain⟨J,D,H,E⟩:=h.dn c (by rw[<-U];exact hc) (by rw[<-Q];exact hi) d hd;rw[V,Z];refine⟨J,D,H,?_⟩;have:=hs c d;rw[E]at this;exact iy.1 this
theorem qX.send {X:Marks} {t:Nat×Nat->Nat} {a:AN} (U:Norm a)(h:qX X t a)(i:Nat)(m:za):qX X t (a.op i ((a.R i).send m)):=by
 obtain⟨_,_,_,_,Z⟩:=np (a.R i) m;obtain⟨j,g1,V⟩:=Dw (U.emp i) m;refine h.quiet i _ (λp=>(Z p).2.2) λp=> ?_;by_cases e:p=j
 ·subst e;rcases V with g|⟨g,f⟩
  ·exact .inl g
  ·exact .inr ⟨by rw[(Z p).2.2];exact g.1,λy hy=>by rw[f]at hy;rw[au.1 hy];exact Ag 77 _ eA⟩
 ·exact .inl (g1 p e)
theorem qX.anew {X:Marks} {t:Nat×Nat->Nat} (E:tH a)(h:qX X t a)(i m:Nat)(hd:∀c d,c<a.nc->d<2->(a.e c d).1=i->a.iQ c=false/\a.F c 0=[] /\a.F c 1=[]):qX X t {a with R:=jU a.R i (jN ((i:Int)+1) 3 (a.ms i)),ib:=jU a.ib i ((a.ib i).take m)}:=by
 obtain⟨b,hb⟩:=gg (({a with R:=jU a.R i (jN ((i:Int)+1) 3 (a.ms i)),ib:=jU a.ib i ((a.ib i).take m)}:AN));have V:∀c d,(a.e c d).1≠i->j0 b c d=j0 a c d:=λc d e=>by
  rw[<-hb];show((jU a.R i _ (a.e c d).1).P _).L=_;rw[iC _ _ e];rfl
 rw[hb];have J:b.nc=a.nc:=by rw[<-hb]
 have D:b.iQ=a.iQ:=by rw[<-hb]
 have U:b.e=a.e:=by rw[<-hb]
 have A:b.F=a.F:=by rw[<-hb]
 refine⟨λc hc hi=> ?_,λc hc hi d Z=> ?_⟩
 ·rw[J]at hc;rw[D]at hi;have Q:∀d,d<2->(a.e c d).1≠i:=λd Z e=>by rw[(hd c d hc Z e).1]at hi;exact absurd hi gY
  rw[U,A,V c 0 (Q 0 eA),V c 1 (Q 1 eA)];exact h.up c hc hi
 ·rw[J]at hc;rw[D]at hi;obtain⟨u,a2,j,H⟩:=h.dn c hc hi d Z;rw[U,A];by_cases e:(a.e c d).1=i
  ·have hp:=E.en c d hc Z;have hl:j0 b c d=(Hl ((i:Int)+1) (a.ms i) (a.e c d).2).L:=by
    rw[<-hb];show((jU a.R i _ (a.e c d).1).P _).L=_;rw[e,iE];rfl
   obtain⟨z1,z2,y⟩:=Md (i:=i) (p:=(a.e c d).2) (by have:=E.n6;omega) hp.2 (a.ms i);rw[hl];have he:a.e c d=(i,(a.e c d).2):=aV e rfl;rw[he];exact⟨z1,z2,by rw[y];omega,H⟩
  ·rw[V c d e];exact⟨u,a2,j,H⟩
theorem pq(t:Nat×Nat->Nat):qu t [] =t:=by funext x;simp[qu]
theorem Cp(t:Nat×Nat->Nat)(T U:List (Nat×Nat)):qu t (T++U)=qu (qu t T) U:=by
 funext x;unfold qu;rw[List.count_append];omega
theorem mQ.links(s:mQ a T S b)(Z:tH a)(V:Norm a) {X:Marks} {t:Nat×Nat->Nat} (h:qX X t a)(U:∀x,t x<=126):∃Y,qX Y (qu t T) b:=by
 cases s with
 |lost hl=>exact⟨X,by rw[pq];exact h.lost hl⟩
 |tick i p _ _=>obtain⟨Y,Q,_⟩:=h.tick Z V (i:=i) (p:=p) U;exact⟨Y,Q⟩
 |pop c d x l hc hd hF=>obtain⟨Y,Q,_⟩:=h.pop Z V (λx=>by have:=U x;omega) hc hd hF;exact⟨Y,by rw[pq];exact Q⟩
 |send i m tx _ _ _ _=>exact⟨X,by rw[pq];exact h.send V i _⟩
 |iL c hc hi _ _=>exact⟨_,h.iL Z V U hc hi⟩
 |draw c hc hi=>exact⟨X,by rw[pq];exact h.draw Z V hc hi⟩
 |anew i m hi hd=>exact⟨X,by rw[pq];exact h.anew Z i m hd⟩
theorem qX.mono {X:Marks} {t u:Nat×Nat->Nat} {a:AN} (h:qX X t a)(Z:∀x,t x<=u x):qX X u a:=
 ⟨λc hc hi=>(h.up c hc hi).mono (by have:=Z (a.e c 0);have:=Z (a.e c 1);omega),λc hc hi d hd=>by
  obtain⟨V,Q,a3,U⟩:=h.dn c hc hi d hd;exact⟨V,Q,by have:=Z (a.e c 0);have:=Z (a.e c 1);omega,U⟩⟩
theorem nK(h:T.Nodup)(k:Nat)(x:Nat×Nat):qu (λ_=>k) T x<=k+1:=by
 have:=List.nodup_iff_count.1 h x;show k+T.count x<=k+1;omega
