import Derived.Test.YtieklnlbljejdaaGreatDoorG34
open Option renaming none → ν, some → μ
namespace Go.Proofs.YtieklnlbljejdaaGreatDoor
open Go.RowKit St
namespace Rt
variable {B C i:Nat} {p:jF} {r s:iY}
def JA(r:iY):Prop:=∀p,(r.P p).out=[]
theorem Norm.emp {a:AN} (h:Norm a)(i:Nat):JA (a.R i):=h.out i
def Fr(p:jF):Prop:=∃ps,Frames p.out ps
theorem JA.fr(h:JA r)(p:Nat):Fr (r.P p):=⟨[],by rw[h];exact Frames.nil⟩
theorem Fr.put {p:jF} (h:Fr p)(c:UInt8)(s:List UInt8):Fr (p.put c s):=(qf.put p c s).fr h
theorem oa {q:jF} (h:q.out=p.out):jH q=jH p:=by unfold jH;rw[h]
theorem vD(h:Fr p)(c:UInt8)(s:List UInt8):jH (p.put c s)=jH p++(if(c≠76/\p.L.st≠9) \/60<s.length+1 then []else [c::s]):=by
 obtain⟨ps,tJ⟩:=h;unfold jF.put;split
 ·rename_i g;rw[ag (.inl g)];simp
 ·rename_i g
  split
  ·rename_i hl
   rw[ae (λz=>z.elim g eE)];have h2:Frames ({p with out:=p.out++Plain.mT (c::s)}:jF).out (ps++ [c::s]):=tJ.snoc ⟨iC,by simpa using hl⟩;rw[lZ h2,lZ tJ]
  ·rw[ag (.inr eE)];simp
def r8(q:kZ):List mQ:=if jW q.1 q.2.1 q.2.2=0/\(lQ q.1 q.2.1 q.2.2).length+1<=60 then [76::lQ q.1 q.2.1 q.2.2]else []
theorem vE:∀(l:List kZ) {p:jF},Fr p->jH (p.say l)=jH p++l.flatMap r8/\Fr (p.say l)
 |[],p,h=>⟨by simp[jF.say],h⟩
 |q::r,p,h=>by
  show jH ((if jW q.1 q.2.1 q.2.2=0 then p.put 76 (lQ q.1 q.2.1 q.2.2)else p).say r)=_/\Fr ((if jW q.1 q.2.1 q.2.2=0 then p.put 76 (lQ q.1 q.2.1 q.2.2)else p).say r);rw[cV];unfold r8;split
  ·rename_i g
   obtain⟨a,b⟩:=vE r (h.put 76 (lQ q.1 q.2.1 q.2.2));refine⟨?_,b⟩;rw[a,vD h,aC];congr 2;by_cases hl:(lQ q.1 q.2.1 q.2.2).length+1<=60
   ·rw[ae (by simp;omega),ag ⟨g,hl⟩]
   ·rw[ag (.inr eE),ae (λz=>hl z.2)]
  ·rename_i g
   obtain⟨a,b⟩:=vE r h;exact⟨by rw[a,ae (λz=>g z.1)];rfl,b⟩
def Tt(q:Int×PS):List mQ:=if(sj q.1 q.2.1 q.2.2).length+1<=60 then [83::sj q.1 q.2.1 q.2.2]else []
theorem Aq:∀(l:List (Int×PS)) {p:jF},Fr p->p.L.st=9->jH (p.kA l)=jH p++l.flatMap Tt
 |[],p,h,_=>by simp[jF.kA]
 |q::r,p,h,h9=>by
  show jH ((p.put 83 (sj q.1 q.2.1 q.2.2)).kA r)=_;rw[Aq r (h.put 83 _) (by rw[vu];exact h9),vD h,cV,aC];congr 2;unfold Tt;by_cases hl:(sj q.1 q.2.1 q.2.2).length+1<=60
  ·rw[ae eE,ag hl]
  ·rw[ag (.inr eE),ae hl]
theorem kC(r:iY)(i:Nat)(q:ln)(p:Nat):((r.meet i q).P p).out=(r.P p).out/\((r.meet i q).P p).L=(r.P p).L/\((r.meet i q).P p).m=(r.P p).m/\((r.meet i q).P p).pe=if p=i then q else(r.P p).pe:=by
 rw[(l9 r i q).2.2.2];by_cases e:p=i
 ·subst e;rw[jz,ag rfl];exact⟨rfl,rfl,rfl,rfl⟩
 ·rw[ju _ _ e,ae e];exact⟨rfl,rfl,rfl,rfl⟩
theorem la(r:iY)(i:Nat)(q:jF)(p:Nat):(r.jd i q).P p=if p=i then q else r.P p:=rfl
theorem yu(h:JA r)(i:Nat)(c:UInt8)(s:List UInt8):(∀p,jH ((jY r i c s).P p)=if p=i/\c=76/\(jf s).2.2.2=0 then(j4 (r.P i).L ((jf s).1,(jf s).2.1,(jf s).2.2.1)).2.1.flatMap r8 else [])/\(∀p,Fr ((jY r i c s).P p))/\(∀p,((jY r i c s).P p).pe=(r.P p).pe/\((jY r i c s).P p).m=(r.P p).m/\((jY r i c s).P p).L=if p=i/\c=76/\(jf s).2.2.2=0 then(j4 (r.P i).L ((jf s).1,(jf s).2.1,(jf s).2.2.1)).1 else(r.P p).L)/\(jY r i c s).K=r.K/\(jY r i c s).O=r.O/\(jY r i c s).jA=r.jA/\(jY r i c s).id=r.id/\(jY r i c s).n=r.n:=by
 unfold jY;by_cases hc:c=76
 ·rw[ag hc];obtain⟨E,hE⟩:=gH (j4 (r.P i).L ((jf s).1,(jf s).2.1,(jf s).2.2.1));rw[hE];have Om:(r.P i).packet s=if(jf s).2.2.2=0 then({r.P i with L:=E.1}:jF).say E.2.1 else r.P i:=by
   unfold jF.packet;simp only;rw[hE]
  have hs:=vE E.2.1 (p:={r.P i with L:=E.1}) (show Fr _ from h.fr i);have h0:jH ({r.P i with L:=E.1}:jF)=[] :=jM (h i);have hm:=ve E.2.1 ({r.P i with L:=E.1}:jF);have hL:=CY E.2.1 ({r.P i with L:=E.1}:jF);refine⟨λp=> ?_,λp=> ?_,λp=> ?_,rfl,rfl,rfl,rfl,rfl⟩
  ·rw[la];by_cases e:p=i
   ·rw[ag e,Om];by_cases f:(jf s).2.2.2=0
    ·rw[ag f,ag ⟨e,hc,f⟩,hs.1,h0];rfl
    ·rw[ae f,ae (λz=>f z.2.2),jM (h i)]
   ·rw[ae e,ae (λz=>e z.1),jM (h p)]
  ·rw[la,Om];split
   ·split
    ·exact hs.2
    ·exact h.fr i
   ·exact h.fr p
  ·rw[la,Om];by_cases e:p=i
   ·subst e;rw[ag rfl];by_cases f:(jf s).2.2.2=0
    ·rw[ag f,ag ⟨rfl,hc,f⟩,hm.1,hm.2,hL];exact⟨rfl,rfl,rfl⟩
    ·rw[ae f,ae (λz=>f z.2.2)];exact⟨rfl,rfl,rfl⟩
   ·rw[ae e,ae (λz=>e z.1)];exact⟨rfl,rfl,rfl⟩
 ·rw[ae hc];refine⟨λp=> ?_,λp=>h.fr p,λp=> ?_,rfl,rfl,rfl,rfl,rfl⟩
  ·rw[ae (λz=>hc z.2.1),jM (h p)]
  ·rw[ae (λz=>hc z.2.1)];exact⟨rfl,rfl,rfl⟩
theorem Di(i:Nat) {c:UInt8} (s:List UInt8)(hc:c≠76):jY r i c s=r:=by unfold jY;rw[ae hc]
theorem Tv(h:JA r)(i:Nat)(s:List UInt8)(p:Nat):jH ((jK r i s).P p)=[] \/(p=i/\(iT s).2.2.2=0/\(r.P i).pe.both=true/\¬((iT s).1=r.id/\0<newF r.K (iT s).1 (iT s).2.1 (iT s).2.2.1)/\0<=newF r.K (iT s).1 (iT s).2.1 (iT s).2.2.1/\jH ((jK r i s).P p)=[65::sj (iT s).1 (iT s).2.1 (iT s).2.2.1]):=by
 unfold jK;simp only;split
 ·exact .inl (jM (h p))
 ·rename_i h1
  split
  ·left;rw[(nt r _).2.2.2];exact jM (h p)
  ·rename_i h2
   split
   ·rename_i h3
    rw[la];by_cases e:p=i
    ·rw[ag e,vD (h.fr i),jM (h i)];split
     ·exact .inl rfl
     ·refine .inr ⟨e,eE,?_,h2,h3,rfl⟩;cases hb:(r.P i).pe.both
      ·exact absurd (.inr hb) h1
      ·rfl
    ·rw[ae e];exact .inl (jM (h p))
   ·exact .inl (jM (h p))
theorem Bp(h:JA r)(t:tV):∃j,(∀p,p≠j->jH ((r.send t).P p)=[])/\(jH ((r.send t).P j)=[] \/(((r.P j).L.st=9/\1<=t.2.1)/\jH ((r.send t).P j)=[77::j8 t.1::j8 (t.2.1-1)::t.2.2])):=by
 unfold iY.send;split
 ·exact⟨0,λp _=>jM (h p),.inl (jM (h 0))⟩
 ·cases hv:(if 1<=t.2.1 then(yR (oX r) t.1).bind λh=>kd r.P h.uf r.n else ν)with
  |none=>exact⟨0,λp _=>jM (h p),.inl (jM (h 0))⟩
  |some i=>
   have h1:1<=t.2.1:=by
    by_cases g:1<=t.2.1
    ·exact g
    ·rw[ae g]at hv;simp at hv
   refine⟨i,λp hp=> ?_,?_⟩
   ·show jH ((r.jd i _).P p)=[]
    rw[la,ae hp];exact jM (h p)
   ·show jH ((r.jd i _).P i)=[] \/(((r.P i).L.st=9/\1<=t.2.1)/\jH ((r.jd i _).P i)=_);rw[la,ag rfl,vD (h.fr i),jM (h i)];split
    ·exact .inl rfl
    ·rename_i g
     refine .inr ⟨⟨?_,h1⟩,rfl⟩;by_cases g9:(r.P i).L.st=9
     ·exact g9
     ·exact absurd (.inl ⟨eH,g9⟩) g
inductive D9(r:iY)(i:Nat)(x:mQ)(p:Nat)(l:List mQ):Prop
 |none:l=[]->D9 r i x p l
 |link (s:List UInt8):x=76::s->p=i->(jf s).2.2.2=0->l=(j4 (r.P i).L ((jf s).1,(jf s).2.1,(jf s).2.2.1)).2.1.flatMap r8->D9 r i x p l
 |heard (s:List UInt8):x=83::s->p=i->(r.P i).L.st=9->(iT s).2.2.2=0->(r.P i).pe.both=true->¬((iT s).1=r.id/\0<newF r.K (iT s).1 (iT s).2.1 (iT s).2.2.1)->0<=newF r.K (iT s).1 (iT s).2.1 (iT s).2.2.1->l=[65::sj (iT s).1 (iT s).2.1 (iT s).2.2.1]->D9 r i x p l
 |Tw (a b:UInt8) (s:List UInt8):x=77::a::b::s->(r.P p).L.st=9->1<=b.toNat->s.length<=20->l=[77::a::j8 ((b.toNat:Int)-1)::s]->D9 r i x p l
theorem yv(h:JA r)(i:Nat)(x:mQ):(∀p,D9 r i x p (jH ((j7 r i x).P p)))/\∀p q,jH ((j7 r i x).P p)≠ []->jH ((j7 r i x).P q)≠ []->p=q:=by
 have kj:∀r':iY,(∀p,jH (r'.P p)=[])->(∀p,D9 r i x p (jH (r'.P p)))/\∀p q,jH (r'.P p)≠ []->jH (r'.P q)≠ []->p=q:=λr' h'=>⟨λp=>.none (h' p),λp q hp=>absurd (h' p) hp⟩
 cases x with
 |nil=>exact kj r λp=>jM (h p)
 |cons c s=>
  show(∀p,D9 r i (c::s) p (jH ((r.take i c s).P p)))/\_;have e0:j7 r i (c::s)=r.take i c s:=rfl;rw[e0];by_cases hc:c=76
  ·obtain⟨a1,a2,a3,_⟩:=yu h i c s;have hP:∀p,jH ((r.take i c s).P p)=jH ((jY r i c s).P p):=λp=>by
    rw[lF];split
    ·exact oa (kC _ _ _ _).1
    ·unfold mJ;rw[ae (by rw[hc];decide),ae (by rw[hc];decide),ae (by rw[hc];decide),ae (by rw[hc];decide)]
   refine⟨λp=> ?_,λp q hp hq=> ?_⟩
   ·rw[hP,a1];split
    ·rename_i g
     exact .link s (by rw[hc]) g.1 g.2.2 rfl
    ·exact .none rfl
   ·rw[hP,a1]at hp hq;split at hp
    ·rename_i g
     split at hq
     ·rename_i g2;exact g.1.trans g2.1.symm
     ·exact absurd rfl hq
    ·exact absurd rfl hp
  ·rw[lF,Di i s hc];by_cases h9:(r.P i).L.st=9
   ·rw[ae (by rw[h9];simp)];unfold mJ;split
    ·split
     ·exact kj _ λp=>by rw[oa (kC _ _ _ _).1];exact jM (h p)
     ·exact kj _ λp=>jM (h p)
    ·split
     ·rename_i hS
      have hs:=Tv h i s;refine⟨λp=> ?_,λp q hp hq=> ?_⟩
      ·rcases hs p with g|⟨g1,g2,g3,g4,g5,g6⟩
       ·exact .none g
       ·exact .heard s (by rw[hS]) g1 h9 g2 g3 g4 g5 g6
      ·rcases hs p with g|g
       ·exact absurd g hp
       ·rcases hs q with f|f
        ·exact absurd f hq
        ·exact g.1.trans f.1.symm
     ·split
      ·refine kj _ λp=> ?_;unfold kO;simp only;split<;>exact jM (h p)
      ·split
       ·rename_i hM
        unfold qw;split
        ·rename_i hl
         match s,hl with
         |a::b::u,hl=>
          obtain⟨j,g1,g2⟩:=Bp h (((((a::b::u).getD 0 0).toNat:Nat):Int),((((a::b::u).getD 1 0).toNat:Nat):Int),(a::b::u).drop 2);have e1:((a::b::u).getD 0 0)=a:=rfl;have e2:((a::b::u).getD 1 0)=b:=rfl;have e3:(a::b::u).drop 2=u:=rfl;rw[e1,e2,e3]at g1 g2⊢;refine⟨λp=> ?_,λp q hp hq=> ?_⟩
          ·by_cases e:p=j
           ·subst e;rcases g2 with g|⟨g,f⟩
            ·exact .none g
            ·obtain⟨g9,g⟩:=g;have ea:j8 ((a.toNat:Nat):Int)=a:=by unfold j8;simp
             refine .Tw a b u (by rw[hM]) g9 (by simp only at g;omega) ?_ ?_
             ·simp only[List.length_cons]at hl;omega
             ·rw[f];show [77::j8 ((a.toNat:Nat):Int)::_::u] =_;rw[ea]
           ·exact .none (g1 p e)
          ·by_cases e:p=j
           ·by_cases f:q=j
            ·rw[e,f]
            ·exact absurd (g1 q f) hq
           ·exact absurd (g1 p e) hp
        ·exact kj _ λp=>jM (h p)
       ·exact kj _ λp=>jM (h p)
   ·rw[ag h9];exact kj _ λp=>by rw[oa (kC _ _ _ _).1];exact jM (h p)
theorem Bq(h:JA r)(i:Nat):(∀p,p≠i->jH ((r.jx i).P p)=[])/\jH ((r.jx i).P i)=(j3 (r.P i).L).2.flatMap r8++(if(j3 (r.P i).L).1.st=9 then(72::[j8 r.id,j8 (jg (r.P i).pe).who])::(if(jg (r.P i).pe).both=true then(mN (((jn r i).meet i (jg (r.P i).pe)).O i)).flatMap Tt else [])else []):=by
 have hs:=vE (j3 (r.P i).L).2 (p:={r.P i with L:=(j3 (r.P i).L).1}) (show Fr _ from h.fr i);have h0:jH ({r.P i with L:=(j3 (r.P i).L).1}:jF)=[] :=jM (h i);have hm:=(ve (j3 (r.P i).L).2 ({r.P i with L:=(j3 (r.P i).L).1}:jF)).2;have hL:=CY (j3 (r.P i).L).2 ({r.P i with L:=(j3 (r.P i).L).1}:jF);have hP:∀p,(jn r i).P p=if p=i then({r.P i with L:=(j3 (r.P i).L).1}:jF).say (j3 (r.P i).L).2 else r.P p:=λp=>by
  unfold jn;rw[la];rfl
 have vK:((jn r i).P i).pe=(r.P i).pe:=by rw[hP,ag rfl,hm]
 have kD:((jn r i).P i).L.st=(j3 (r.P i).L).1.st:=by rw[hP,ag rfl,hL]
 have rO:(jn r i).id=r.id:=rfl;have ho:jH ((jn r i).P i)=(j3 (r.P i).L).2.flatMap r8/\Fr ((jn r i).P i):=by
  rw[hP,ag rfl,hs.1,h0];exact⟨rfl,hs.2⟩
 rw[k9,kD,vK];by_cases h9:(j3 (r.P i).L).1.st=9
 ·rw[ae (by rw[h9];simp),ag h9];obtain⟨x,hx⟩:=gH ((jn r i).meet i (jg (r.P i).pe));obtain⟨m1,m2,_,m4⟩:=kC (jn r i) i (jg (r.P i).pe) i;have ahw:x.id=r.id:=by rw[<-hx];exact(jR.meet (jn r i) i _).id
  rw[hx]at m1 m2 m4;rw[ag rfl]at m4;have hxo:jH (x.P i)=(j3 (r.P i).L).2.flatMap r8:=by rw[oa m1];exact ho.1
  have J1:Fr (x.P i):=by obtain⟨ps,tJ⟩:=ho.2;exact⟨ps,by rw[m1];exact tJ⟩
  have hx9:(x.P i).L.st=9:=by rw[m2,kD];exact h9
  rw[hx];unfold lE;simp only;refine⟨λp hp=> ?_,?_⟩
  ·rw[la,ae hp,<-hx,oa (kC _ _ _ _).1,hP,ae hp];exact jM (h p)
  ·rw[la,ag rfl,m4,ahw];have nQ:=vD J1 72 [j8 r.id,j8 (jg (r.P i).pe).who];rw[ae (by rw[hx9];simp),hxo]at nQ;split
   ·rw[Aq _ (J1.put 72 _) (by rw[vu];exact hx9),nQ,aC];rfl
   ·rw[nQ]
 ·rw[ag h9,ae h9];refine⟨λp hp=> ?_,?_⟩
  ·rw[oa (kC _ _ _ _).1,hP,ae hp];exact jM (h p)
  ·rw[oa (kC _ _ _ _).1,ho.1,aM]
theorem GH(h:JA r)(i:Nat)(up:Bool)(h1:(k7 (r.P i).L (if up=true then 0 else 1)).2.2=0):(∀p,p≠i->jH ((r.iW i up).1.P p)=[])/\jH ((r.iW i up).1.P i)=(k7 (r.P i).L (if up=true then 0 else 1)).2.1.flatMap r8/\(r.iW i up).1=((r.jd i (({r.P i with L:=(k7 (r.P i).L (if up=true then 0 else 1)).1,rd:=lS}:jF).say (k7 (r.P i).L (if up=true then 0 else 1)).2.1)).meet i nobody):=by
 obtain⟨E,hE⟩:=gH (k7 (r.P i).L (if up=true then 0 else 1));rw[hE]at h1⊢;have hs:=vE E.2.1 (p:={r.P i with L:=E.1,rd:=lS}) (show Fr _ from h.fr i);have h0:jH ({r.P i with L:=E.1,rd:=lS}:jF)=[] :=jM (h i);have e:(r.P i).iW up=(({r.P i with L:=E.1,rd:=lS}:jF).say E.2.1,0):=by
  unfold jF.iW;rw[hE];simp only;rw[ae (by simp[h1])];rfl
 have hr:(r.iW i up).1=(r.jd i (({r.P i with L:=E.1,rd:=lS}:jF).say E.2.1)).meet i nobody:=by
  unfold iY.iW;rw[e];simp only;rw[ae iC]
 refine⟨λp hp=> ?_,?_,hr⟩
 ·rw[hr,oa (kC _ _ _ _).1,la,ae hp];exact jM (h p)
 ·rw[hr,oa (kC _ _ _ _).1,la,ag rfl,hs.1,h0];rfl
structure Own(r:iY):Prop where
 tie:∀p x q,r.O p x=μ q->r.K x=μ q
 val:∀x q,r.K x=μ q->pj x q.1 q.2=0
 own:Cm r.K r.id=jZ r
def lT(B:Nat)(r:iY):Prop:=∀x q,r.K x=μ q->q.1<=(B:Int)
theorem lT.mono(h:lT B r)(hc:B<=C):lT C r:=λx q hq=>by have:=h x q hq;omega
theorem Ar {P Q:Nat->jF} (n:Int)(h:∀p,(Q p).m=(P p).m/\(Q p).pe.who=(P p).pe.who/\(Q p).pe.both=(P p).pe.both):∀k,kd Q n k=kd P n k
 |0=>rfl
 |k+1=>by
  have ih:=Ar n h k;unfold kd;rw[ih,(h k).1,(h k).2.1,(h k).2.2];cases kd P n k with
  |none=>rfl
  |some b=>simp only[(h b).1]
theorem pJ(hn:s.n=r.n)(h:∀p,(s.P p).m=(r.P p).m/\(s.P p).pe.who=(r.P p).pe.who/\(s.P p).pe.both=(r.P p).pe.both):jZ s=jZ r:=by
 unfold jZ;congr 1
 funext j
 rw[hn,Ar _ h];cases kd r.P ((j:Int)+1) r.n with
 |none=>rfl
 |some b=>simp only[Option.map_some,(h b).1]
theorem Own.alike(h:Own r)(hK:s.K=r.K)(hO:s.O=r.O)(hi:s.id=r.id)(hn:s.n=r.n)(hp:∀p,(s.P p).m=(r.P p).m/\(s.P p).pe.who=(r.P p).pe.who/\(s.P p).pe.both=(r.P p).pe.both):Own s:=
 ⟨by rw[hK,hO];exact h.tie,by rw[hK];exact h.val,by rw[hK,hi,pJ hn hp];exact h.own⟩
theorem lT.alike(h:lT B r)(hK:s.K=r.K):lT B s:=by unfold lT;rw[hK];exact h
structure Z1(r:iY):Prop where
 tie:∀p x q,r.O p x=μ q->r.K x=μ q
 val:∀x q,r.K x=μ q->pj x q.1 q.2=0
theorem Dj(h:Z1 r)(jb:lp r)(hs:lT B r) {q:Int} (h0:0<=q)(hq:q<=B)(hB:B<1000000):Own (r.behind q)/\lT (B+1) (r.behind q):=by
 unfold iY.behind;rw[ag eE];have hv:=Cu jb (seq:=q+1) eE;refine⟨⟨λp x u hu=> ?_,λx u hu=> ?_,?_⟩,λx u hu=> ?_⟩
 ·have e:(if x=r.id then μ (q+1,jZ r)else r.O p x)=μ u:=hu;show(if x=r.id then μ (q+1,jZ r)else r.K x)=μ u;split
  ·rename_i g;rw[ag g]at e;exact e
  ·rename_i g;rw[ae g]at e;exact h.tie p x u e
 ·have e:(if x=r.id then μ (q+1,jZ r)else r.K x)=μ u:=hu;by_cases g:x=r.id
  ·rw[ag g]at e;injection e with e;rw[<-e,g];exact hv
  ·rw[ae g]at e;exact h.val x u e
 ·have e1:jZ (r.w7 (q+1) (jZ r))=jZ r:=pJ rfl λ_=>⟨rfl,rfl,rfl⟩
  rw[e1];show Cm (uO r.K r.id (q+1,jZ r)) r.id=_;unfold Cm uO;rw[ag rfl]
 ·have e:(if x=r.id then μ (q+1,jZ r)else r.K x)=μ u:=hu;by_cases g:x=r.id
  ·rw[ag g]at e;injection e with e;rw[<-e];push_cast;show q+1<=_;omega
  ·rw[ae g]at e;have:=hs x u e;push_cast;omega
theorem Nb(h:lT B r)(jb:lp r):zd r.K r.id<=B/\0<=zd r.K r.id:=by
 obtain⟨q,h1,_⟩:=jb.own;have h2:=jb.seq;refine⟨?_,eE⟩;unfold zd;rw[h1];exact h _ _ h1
theorem LN(h:Z1 r)(jb:lp r)(hs:lT B r)(hB:B<1000000):Own r.change/\lT (B+1) r.change:=by
 unfold iY.change;split
 ·rename_i g;exact⟨⟨h.tie,h.val,g⟩,hs.mono eE⟩
 ·exact Dj h jb hs (Nb hs jb).2 (Nb hs jb).1 hB
def XJ(a b:ln):Nat:=if a.who=b.who/\a.both=b.both then 0 else 1
theorem Dk(h:Own r)(jb:lp r)(hs:lT B r)(hB:B<1000000)(i:Nat) {q:ln} (hq:nV r.id q):Own (r.meet i q)/\lT (B+XJ q (r.P i).pe) (r.meet i q):=by
 unfold iY.meet XJ;simp only;split
 ·rename_i g
  refine⟨h.alike rfl rfl rfl rfl λp=> ?_,hs.alike rfl⟩;rw[la];split
  ·rename_i e;rw[e];exact⟨rfl,g.1,g.2⟩
  ·exact⟨rfl,rfl,rfl⟩
 ·have h1:lp (r.jd i {r.P i with pe:=q}):=jb.jd i _ rfl λ_=>hq;obtain⟨x,hx⟩:∃x:iY,({r.jd i {r.P i with pe:=q}with O:=λx=>if x=i then λ_=>ν else(r.jd i {r.P i with pe:=q}).O x}:iY)=x:=⟨_,rfl⟩
  have ok2:lp x:=by rw[<-hx];exact h1.xe _
  have o2:Z1 x:=by
   refine⟨λp y u hu=> ?_,λy u hu=> ?_⟩
   ·rw[<-hx]at hu⊢;have e:(if p=i then λ_=>ν else r.O p) y=μ u:=hu;split at e
    ·exact absurd e iC
    ·exact h.tie p y u e
   ·rw[<-hx]at hu;exact h.val y u hu
  have s2:lT B x:=by rw[<-hx];exact hs.alike rfl
  obtain⟨c1,c2⟩:=LN o2 ok2 s2 hB;rw[hx];split
  ·refine⟨⟨λp y u hu=> ?_,c1.val,?_⟩,c2⟩
   ·have e:(if p=i then pP (x.change.O i) x.change.K else x.change.O p) y=μ u:=hu;show x.change.K y=μ u;split at e
    ·unfold pP at e;split at e
     ·exact e
     ·exact c1.tie i y u e
    ·exact c1.tie p y u e
   ·exact(c1.own).trans (pJ rfl λ_=>⟨rfl,rfl,rfl⟩).symm
  ·exact⟨c1,c2⟩
theorem PI(h:Own r)(jb:lp r)(hs:lT B r)(hB:B<1000000)(i:Nat)(l:List UInt8)(hl:(iT l).2.2.2=0->(iT l).2.1<=B):Own (jK r i l)/\lT (B+1) (jK r i l):=by
 unfold jK;simp only;split
 ·exact⟨h,hs.mono eE⟩
 ·rename_i h1
  have hz:(iT l).2.2.2=0:=eE;have hv:pj (iT l).1 (iT l).2.1 (iT l).2.2.1=0:=qZ (by rw[<-hz]);have hle:=hl hz;have sJ:=(jT hv).2.1;split
  ·exact Dj ⟨h.tie,h.val⟩ jb hs eE hle hB
  ·rename_i h2
   generalize (iT l).1=own,(iT l).2.1=seq,(iT l).2.2.1=es at*;have hK:∀x u,lR r.K own seq es x=μ u->r.K x=μ u \/(x=own/\u=(seq,es)/\0<newF r.K own seq es):=λx u hu=>by
    unfold lR at hu;split at hu
    ·rename_i g
     have e:(if x=own then μ (seq,es)else r.K x)=μ u:=hu;split at e
     ·rename_i gx;injection e with e;exact .inr ⟨gx,e.symm,g⟩
     ·exact .inl e
    ·exact .inl hu
   have Nc:Own {r with K:=lR r.K own seq es,O:=oW r.K r.O i own seq es} /\lT B {r with K:=lR r.K own seq es,O:=oW r.K r.O i own seq es}:=by
    refine⟨⟨λp x u hu=> ?_,λx u hu=> ?_,?_⟩,λx u hu=> ?_⟩
    ·have Gn:oW r.K r.O i own seq es p x=μ u:=hu;show lR r.K own seq es x=μ u;unfold oW at Gn;unfold lR;by_cases g:0<newF r.K own seq es
     ·rw[ag g]at Gn⊢;show(if x=own then μ (seq,es)else r.K x)=μ u;split at Gn
      ·have e:(if x=own then ν else if x=own then μ (seq,es)else r.O i x)=μ u:=Gn;by_cases gx:x=own
       ·rw[ag gx]at e;exact absurd e iC
       ·rw[ae gx,ae gx]at e;rw[ae gx];exact h.tie i x u e
      ·have e:(if x=own then μ (seq,es)else r.O p x)=μ u:=Gn;by_cases gx:x=own
       ·rw[ag gx]at e⊢;exact e
       ·rw[ae gx]at e⊢;exact h.tie p x u e
     ·rw[ae g]at Gn⊢;by_cases g2:newF r.K own seq es<0
      ·rw[ag g2]at Gn;split at Gn
       ·cases hk:r.K own with
        |none=>rw[hk]at Gn;exact h.tie i x u Gn
        |some q=>
         rw[hk]at Gn;have e:(if x=own then μ q else r.O i x)=μ u:=Gn;by_cases gx:x=own
         ·rw[ag gx]at e;rw[gx,hk];exact e
         ·rw[ae gx]at e;exact h.tie i x u e
       ·exact h.tie p x u Gn
      ·rw[ae g2]at Gn;split at Gn
       ·have e:(if x=own then ν else r.O i x)=μ u:=Gn;by_cases gx:x=own
        ·rw[ag gx]at e;exact absurd e iC
        ·rw[ae gx]at e;exact h.tie i x u e
       ·exact h.tie p x u Gn
    ·rcases hK x u hu with g|⟨g1,g2,_⟩
     ·exact h.val x u g
     ·rw[g1,g2];exact hv
    ·have e1:jZ {r with K:=lR r.K own seq es,O:=oW r.K r.O i own seq es}=jZ r:=pJ rfl λ_=>⟨rfl,rfl,rfl⟩
     rw[e1,<-h.own];show Cm (lR r.K own seq es) r.id=_;have:lR r.K own seq es r.id=r.K r.id:=by
      unfold lR;split
      ·rename_i g
       have gx:r.id≠own:=λe=>h2 ⟨e.symm,g⟩;show(if r.id=own then _ else _)=_;rw[ae gx]
      ·rfl
     unfold Cm;rw[this]
    ·rcases hK x u hu with g|⟨_,g2,_⟩
     ·exact hs x u g
     ·rw[g2];exact hle
   split
   ·refine⟨Nc.1.alike rfl rfl rfl rfl λp=> ?_,(Nc.2.alike (s:=iY.jd _ i _) rfl).mono eE⟩;rw[la];split
    ·rename_i e
     rw[e];have nQ:∀(p:jF) c s,(p.put c s).m=p.m/\(p.put c s).pe=p.pe:=λp c s=>by unfold jF.put;split<;>(try split)<;>exact⟨rfl,rfl⟩
     rw[(nQ _ _ _).1,(nQ _ _ _).2];exact⟨rfl,rfl,rfl⟩
    ·exact⟨rfl,rfl,rfl⟩
   ·exact⟨Nc.1,Nc.2.mono eE⟩
theorem PJ(h:Own r)(i:Nat)(l:List UInt8):Own (kO r i l)/\(kO r i l).K=r.K:=by
 unfold kO;simp only;split
 ·refine⟨⟨λp x u hu=> ?_,h.val,h.own.trans (pJ rfl λ_=>⟨rfl,rfl,rfl⟩).symm⟩,rfl⟩;have e:(if p=i/\0<=newF r.K (iT l).1 (iT l).2.1 (iT l).2.2.1 then zc (r.O i) (iT l).1 else r.O p) x=μ u:=hu;show r.K x=μ u;split at e
  ·have e2:(if x=(iT l).1 then ν else r.O i x)=μ u:=e;split at e2
   ·exact absurd e2 iC
   ·exact h.tie i x u e2
  ·exact h.tie p x u e
 ·exact⟨h,rfl⟩
theorem qW(p:jF)(c:UInt8)(s:List UInt8):(p.put c s).m=p.m/\(p.put c s).pe=p.pe:=by unfold jF.put;split<;>(try split)<;>exact⟨rfl,rfl⟩
theorem oR(r:iY)(t:tV):(r.send t).K=r.K/\(r.send t).O=r.O/\(r.send t).id=r.id/\(r.send t).n=r.n/\∀p,((r.send t).P p).m=(r.P p).m/\((r.send t).P p).pe=(r.P p).pe/\((r.send t).P p).L=(r.P p).L:=by
 unfold iY.send;split
 ·exact⟨rfl,rfl,rfl,rfl,λ_=>⟨rfl,rfl,rfl⟩⟩
 ·split
  ·exact⟨rfl,rfl,rfl,rfl,λ_=>⟨rfl,rfl,rfl⟩⟩
  ·refine⟨rfl,rfl,rfl,rfl,λp=> ?_⟩;rw[la];split
   ·rename_i e;rw[e,(qW _ _ _).1,(qW _ _ _).2,vu];exact⟨rfl,rfl,rfl⟩
   ·exact⟨rfl,rfl,rfl⟩
theorem JB(h:Own r)(t:tV):Own (r.send t):=by
 obtain⟨a,b,c,d,e⟩:=oR r t;exact h.alike a b c d λp=>by rw[(e p).1,(e p).2.1];exact⟨rfl,rfl,rfl⟩
def PL(q:ln):Nat:=if q.who=0/\q.both=false then 0 else 1
def qo(r:iY):Nat:=PL (r.P 0).pe+PL (r.P 1).pe+PL (r.P 2).pe
theorem o9(h:∀p,(s.P p).pe=(r.P p).pe):qo s=qo r:=by unfold qo;rw[h,h,h]
theorem Dl(hi:i<3)(q:ln):qo (r.meet i q)+PL (r.P i).pe=qo r+PL q:=by
 have h:=λp=>(kC r i q p).2.2.2;unfold qo;rw[h,h,h];have:i=0 \/i=1 \/i=2:=eE;rcases this with rfl|rfl|rfl
 ·rw[ag rfl,ae eH,ae eH];omega
 ·rw[ae eH,ag rfl,ae eH];omega
 ·rw[ae eH,ae eH,ag rfl];omega
theorem Z3(a b:ln):XJ a b<=1:=by unfold XJ;split<;>decide
theorem Z4(a:ln):PL a<=1:=by unfold PL;split<;>decide
theorem Dm(q:ln):XJ nobody q+PL nobody<=PL q:=by
 unfold XJ PL;show(if(0:Int)=q.who/\false=q.both then 0 else 1)+(if(0:Int)=0/\false=false then 0 else 1)<=_;rw[ag (⟨rfl,rfl⟩:(0:Int)=0/\false=false)];by_cases e:q.who=0/\q.both=false
 ·rw[ag ⟨e.1.symm,e.2.symm⟩];omega
 ·rw[ae (λh=>e ⟨h.1.symm,h.2.symm⟩),ae e];exact Nat.le_refl _
theorem Tx(q:ln):XJ (jg q) q+PL (jg q)<=PL q:=by
 unfold jg;split
 ·exact Dm q
 ·unfold XJ PL;rw[ag ⟨rfl,rfl⟩];simp
def sw:mQ->Nat
 |72::_=>2
 |83::_=>1
 |_=>0
def yx(B:Nat)(x:mQ):Prop:=∀s,x=83::s->(iT s).2.2.2=0->(iT s).2.1<=(B:Int)
theorem yx.mono {x:mQ} (h:yx B x)(hc:B<=C):yx C x:=λs e hz=>by have:=h s e hz;omega
theorem zE(h:Own r)(jb:lp r)(hs:lT B r)(hB:B<1000000)(hi:i<3):∃C,Own (r.meet i nobody)/\lT C (r.meet i nobody)/\B<=C/\C+qo (r.meet i nobody)<=B+qo r:=by
 obtain⟨a,b⟩:=Dk h jb hs hB i (nV.nobody jb.id.1);have h1:=Dl (r:=r) hi nobody;have h2:=Dm (r.P i).pe;exact⟨_,a,b,eE,eE⟩
theorem PN(h:Own r)(jb:lp r)(hs:lT B r)(hB:B<1000000)(hi:i<3)(x:mQ)(hx:yx B x):∃C,Own (j7 r i x)/\lT C (j7 r i x)/\B<=C/\C+qo (j7 r i x)<=B+qo r+sw x:=by
 cases x with
 |nil=>exact⟨B,h,hs,Nat.le_refl _,by show B+qo r<=_;omega⟩
 |cons c s=>
  show∃C,Own (r.take i c s)/\lT C (r.take i c s)/\B<=C/\C+qo (r.take i c s)<=B+qo r+sw (c::s);have hl:Own (jY r i c s)/\lT B (jY r i c s)/\qo (jY r i c s)=qo r:=by
   unfold jY;split
   ·have e:∀p,((r.jd i ((r.P i).packet s)).P p).m=(r.P p).m/\((r.jd i ((r.P i).packet s)).P p).pe=(r.P p).pe:=λp=>by
     rw[la];split
     ·rename_i e;rw[e,(tf _ _).1,(tf _ _).2];exact⟨rfl,rfl⟩
     ·exact⟨rfl,rfl⟩
    exact⟨h.alike rfl rfl rfl rfl λp=>by rw[(e p).1,(e p).2];exact⟨rfl,rfl,rfl⟩,hs.alike rfl,o9 λp=>(e p).2⟩
   ·exact⟨h,hs,rfl⟩
  have kN:=jb.link i c s;rw[lF];obtain⟨r1,kU⟩:=gH (jY r i c s);have rO:r1.id=r.id:=by rw[<-kU];exact(jR.link r i c s).id
  rw[kU]at hl kN⊢;obtain⟨l1,l2,l3⟩:=hl;split
  ·obtain⟨C,a,b,c1,c2⟩:=zE l1 kN l2 hB hi;exact⟨C,a,b,c1,eE⟩
  ·unfold mJ;split
   ·rename_i hc
    split
    ·rename_i hz
     obtain⟨a,b⟩:=Dk l1 kN l2 hB i (nV.Vm (s:=(mG s).2.1) kN.id.1 (CH hz));have h1:=Dl (r:=r1) hi (kf r1.id (mG s).1 (mG s).2.1);have h2:=Z3 (kf r1.id (mG s).1 (mG s).2.1) (r1.P i).pe;have h3:=Z4 (kf r1.id (mG s).1 (mG s).2.1);exact⟨_,a,b,eE,by rw[hc];show _<=B+qo r+2;omega⟩
    ·exact⟨B,l1,l2,Nat.le_refl _,eE⟩
   ·split
    ·rename_i hc
     obtain⟨a,b⟩:=PI l1 kN l2 hB i s λhz=>hx s (by rw[hc]) hz;have e:qo (jK r1 i s)=qo r1:=o9 λp=>(kh.state r1 i s p).2;exact⟨_,a,b,eE,by rw[hc,e];show _<=B+qo r+1;omega⟩
    ·split
     ·obtain⟨a,b⟩:=PJ l1 i s;have e:qo (kO r1 i s)=qo r1:=o9 λp=>by unfold kO;simp only;split<;>rfl
      exact⟨B,a,l2.alike b,Nat.le_refl _,by rw[e];omega⟩
     ·split
      ·unfold qw;split
       ·have Vz:=oR r1 (((s.getD 0 0).toNat:Int),((s.getD 1 0).toNat:Int),s.drop 2);exact⟨B,JB l1 _,l2.alike Vz.1,Nat.le_refl _,by rw[o9 λp=>(Vz.2.2.2.2 p).2.1];omega⟩
       ·exact⟨B,l1,l2,Nat.le_refl _,eE⟩
      ·exact⟨B,l1,l2,Nat.le_refl _,eE⟩
theorem mP(r:iY)(i p:Nat):((jn r i).P p).m=(r.P p).m/\((jn r i).P p).pe=(r.P p).pe:=by
 unfold jn;rw[la];split
 ·rename_i e;rw[e,(rC _).1,(rC _).2.1];exact⟨rfl,rfl⟩
 ·exact⟨rfl,rfl⟩
theorem rH(r:iY)(i:Nat):(lE r i).K=r.K/\(lE r i).O=r.O/\(lE r i).id=r.id/\(lE r i).n=r.n/\∀p,((lE r i).P p).m=(r.P p).m/\((lE r i).P p).pe=(r.P p).pe/\((lE r i).P p).L=(r.P p).L:=by
 have hA:∀(l:List (Int×PS)) (p:jF),(p.kA l).m=p.m:=λl=>by
  induction l with
  |nil=>intro p;rfl
  |cons q r ih=>intro p;show((p.put 83 _).kA r).m=_;rw[ih,(qW _ _ _).1]
 refine⟨rfl,rfl,rfl,rfl,λp=> ?_⟩;unfold lE;simp only;rw[la];split
 ·rename_i e
  rw[e];split
  ·rw[hA,(vv _ _).1,(vv _ _).2,(qW _ _ _).1,(qW _ _ _).2,vu];exact⟨rfl,rfl,rfl⟩
  ·rw[(qW _ _ _).1,(qW _ _ _).2,vu];exact⟨rfl,rfl,rfl⟩
 ·exact⟨rfl,rfl,rfl⟩
theorem zF(h:Own r)(jb:lp r)(hs:lT B r)(hB:B<1000000)(hi:i<3)(hn:r.n=3):∃C,Own (r.jx i)/\lT C (r.jx i)/\B<=C/\C+qo (r.jx i)<=B+qo r/\lp (r.jx i):=by
 rw[k9];have h1:Own (jn r i):=h.alike rfl rfl rfl rfl λp=>by rw[(mP r i p).1,(mP r i p).2];exact⟨rfl,rfl,rfl⟩
 have s1:lT B (jn r i):=hs.alike rfl;have k1:=jb.jn i;have c1:qo (jn r i)=qo r:=o9 λp=>(mP r i p).2;have n1:(jn r i).n=r.n:=rfl;obtain⟨r1,kU⟩:=gH (jn r i);rw[kU]at h1 s1 k1 c1 n1⊢;split
 ·obtain⟨C,a,b,c,d⟩:=zE h1 k1 s1 hB hi;exact⟨C,a,b,c,eE,k1.meet i (nV.nobody k1.id.1)⟩
 ·have hp:=nV.tick k1.id.1 (k1.pe i eE);obtain⟨a,b⟩:=Dk h1 k1 s1 hB i hp;have h2:=Dl (r:=r1) hi (jg (r1.P i).pe);have h3:=Tx (r1.P i).pe;obtain⟨t1,t2,t3,t4,t5⟩:=rH (r1.meet i (jg (r1.P i).pe)) i;refine⟨_,a.alike t1 t2 t3 t4 λp=> ?_,b.alike t1,eE,?_,(k1.meet i hp).tell i⟩
  ·rw[(t5 p).1,(t5 p).2.1];exact⟨rfl,rfl,rfl⟩
  ·rw[o9 λp=>(t5 p).2.1];omega
theorem Ty(h:Own r)(jb:lp r)(hs:lT B r)(hB:B<1000000)(hi:i<3)(up:Bool):∃C,Own (r.iW i up).1/\lT C (r.iW i up).1/\B<=C/\C+qo (r.iW i up).1<=B+qo r/\lp (r.iW i up).1:=by
 unfold iY.iW;simp only;split
 ·exact⟨B,h,hs,Nat.le_refl _,Nat.le_refl _,jb⟩
 ·have e:((r.P i).iW up).1.m=(r.P i).m/\((r.P i).iW up).1.pe=(r.P i).pe:=by
   unfold jF.iW;generalize k7 (r.P i).L (if up=true then 0 else 1)=E;simp only;split
   ·exact⟨rfl,rfl⟩
   ·rw[(ve _ _).1,(ve _ _).2];exact⟨rfl,rfl⟩
  have e2:∀p,((r.jd i ((r.P i).iW up).1).P p).m=(r.P p).m/\((r.jd i ((r.P i).iW up).1).P p).pe=(r.P p).pe:=λp=>by
   rw[la];split
   ·rename_i g;rw[g];exact e
   ·exact⟨rfl,rfl⟩
  have h1:Own (r.jd i ((r.P i).iW up).1):=h.alike rfl rfl rfl rfl λp=>by rw[(e2 p).1,(e2 p).2];exact⟨rfl,rfl,rfl⟩
  have k1:lp (r.jd i ((r.P i).iW up).1):=jb.jd i _ e.1 λhi=>by rw[e.2];exact jb.pe i hi
  obtain⟨C,a,b,c,d⟩:=zE h1 k1 (hs.alike (s:=r.jd i _) rfl) hB hi;exact⟨C,a,b,c,by rw[o9 λp=>(e2 p).2]at d;exact d,k1.meet i (nV.nobody k1.id.1)⟩
end Rt
end Go.Proofs.YtieklnlbljejdaaGreatDoor
