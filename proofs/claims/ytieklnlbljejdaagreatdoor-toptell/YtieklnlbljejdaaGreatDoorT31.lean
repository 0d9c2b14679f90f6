import Derived.Test.YtieklnlbljejdaaGreatDoorT30
open Option renaming none → ν, some → μ
open List renaming range → fG, length_cons → eE, flatMap → ia
namespace Go.Proofs.YtieklnlbljejdaaGreatDoor
open Go.RowKit St
namespace Rt
variable {B C N c i t:Nat} {F Fi Fo G em l ps:List mb} {L L' M:LS} {X Y:Int->Bool} {a:AN} {b:Bool} {code g g' h id ow:Int} {r s:iy} {x:mb}
structure Own(r:iy):Prop where
 tie:∀p x q,r.O p x=μ q->r.K x=μ q
 val:∀x q,r.K x=μ q->ox x q.1 q.2=0
 own:zX r.K r.id=iX r
def k9(B:Nat)(r:iy):Prop:=∀x q,r.K x=μ q->q.1<=(B:Int)
theorem k9.mono(h:k9 B r)(hc:B<=C):k9 C r:=λx q Z=>by have:=h x q Z;omega
theorem zI {P Q:Nat->jb} (n:Int)(h:∀p,(Q p).m=(P p).m/\(Q p).pe.who=(P p).pe.who/\(Q p).pe.both=(P p).pe.both):∀k,jA Q n k=jA P n k
 |0=>rfl
 |k+1=>by
  have ih:=zI n h k;unfold jA;rw[ih,(h k).1,(h k).2.1,(h k).2.2];cases jA P n k with
  |none=>rfl
  |some b=>simp only[(h b).1]
theorem nO(Z:s.n=r.n)(h:∀p,(s.P p).m=(r.P p).m/\(s.P p).pe.who=(r.P p).pe.who/\(s.P p).pe.both=(r.P p).pe.both):iX s=iX r:=by
 unfold iX;congr 1
 funext j
 rw[Z,zI _ h];cases jA r.P ((j:Int)+1) r.n with
 |none=>rfl
 |some b=>simp only[Option.map_some,(h b).1]
theorem Own.alike(h:Own r)(Z:s.K=r.K)(V:s.O=r.O)(hi:s.id=r.id)(U:s.n=r.n)(T:∀p,(s.P p).m=(r.P p).m/\(s.P p).pe.who=(r.P p).pe.who/\(s.P p).pe.both=(r.P p).pe.both):Own s:=
 ⟨by rw[Z,V];exact h.tie,by rw[Z];exact h.val,by rw[Z,hi,nO U T];exact h.own⟩
theorem k9.alike(h:k9 B r)(Z:s.K=r.K):k9 B s:=by unfold k9;rw[Z];exact h
structure YQ(r:iy):Prop where
 tie:∀p x q,r.O p x=μ q->r.K x=μ q
 val:∀x q,r.K x=μ q->ox x q.1 q.2=0
theorem Cw(h:YQ r)(U:kE r)(hs:k9 B r) {q:Int} (h0:0<=q)(hq:q<=B)(hB:B<1000000):Own (r.behind q)/\k9 (B+1) (r.behind q):=by
 unfold iy.behind;rw[ag dP];have hv:=BF U (seq:=q+1) dP;refine⟨⟨λp x u Z=> ?_,λx u Z=> ?_,?_⟩,λx u Z=> ?_⟩
 ·have e:(if x=r.id then μ (q+1,iX r)else r.O p x)=μ u:=Z;show(if x=r.id then μ (q+1,iX r)else r.K x)=μ u;split
  ·rename_i g;rw[ag g]at e;exact e
  ·rename_i g;rw[ae g]at e;exact h.tie p x u e
 ·have e:(if x=r.id then μ (q+1,iX r)else r.K x)=μ u:=Z;by_cases g:x=r.id
  ·rw[ag g]at e;injection e with e;rw[<-e,g];exact hv
  ·rw[ae g]at e;exact h.val x u e
 ·have V:iX (r.Bu (q+1) (iX r))=iX r:=nO rfl λ_=>⟨rfl,rfl,rfl⟩
  rw[V];show zX (tZ r.K r.id (q+1,iX r)) r.id=_;unfold zX tZ;rw[ag rfl]
 ·have e:(if x=r.id then μ (q+1,iX r)else r.K x)=μ u:=Z;by_cases g:x=r.id
  ·rw[ag g]at e;injection e with e;rw[<-e];push_cast;show q+1<=_;omega
  ·rw[ae g]at e;have:=hs x u e;push_cast;omega
theorem Mc(h:k9 B r)(V:kE r):yB r.K r.id<=B/\0<=yB r.K r.id:=by
 obtain⟨q,Z,_⟩:=V.own;have h2:=V.seq;refine⟨?_,dP⟩;unfold yB;rw[Z];exact h _ _ Z
theorem KL(h:YQ r)(Z:kE r)(hs:k9 B r)(V:B<1000000):Own r.change/\k9 (B+1) r.change:=by
 unfold iy.change;split
 ·rename_i g;exact⟨⟨h.tie,h.val,g⟩,hs.mono dP⟩
 ·exact Cw h Z hs (Mc hs Z).2 (Mc hs Z).1 V
def Wq(a b:kL):Nat:=if a.who=b.who/\a.both=b.both then 0 else 1
theorem Cx(h:Own r)(Q:kE r)(hs:k9 B r)(T:B<1000000)(i:Nat) {q:kL} (S:nr r.id q):Own (r.meet i q)/\k9 (B+Wq q (r.P i).pe) (r.meet i q):=by
 unfold iy.meet Wq;simp only;split
 ·rename_i g
  refine⟨h.alike rfl rfl rfl rfl λp=> ?_,hs.alike rfl⟩;rw[kx];split
  ·rename_i e;rw[e];exact⟨rfl,g.1,g.2⟩
  ·exact⟨rfl,rfl,rfl⟩
 ·have U:kE (r.iE i {r.P i with pe:=q}):=Q.iE i _ rfl λ_=>S;obtain⟨x,hx⟩:∃x:iy,({r.iE i {r.P i with pe:=q}with O:=λx=>if x=i then λ_=>ν else(r.iE i {r.P i with pe:=q}).O x}:iy)=x:=⟨_,rfl⟩
  have V:kE x:=by rw[<-hx];exact U.wq _
  have o2:YQ x:=by
   refine⟨λp y u Z=> ?_,λy u Z=> ?_⟩
   ·rw[<-hx]at Z⊢;have e:(if p=i then λ_=>ν else r.O p) y=μ u:=Z;split at e
    ·exact absurd e gN
    ·exact h.tie p y u e
   ·rw[<-hx]at Z;exact h.val y u Z
  have J:k9 B x:=by rw[<-hx];exact hs.alike rfl
  obtain⟨c1,c2⟩:=KL o2 V J T;rw[hx];split
  ·refine⟨⟨λp y u Z=> ?_,c1.val,?_⟩,c2⟩
   ·have e:(if p=i then oX (x.change.O i) x.change.K else x.change.O p) y=μ u:=Z;show x.change.K y=μ u;split at e
    ·unfold oX at e;split at e
     ·exact e
     ·exact c1.tie i y u e
    ·exact c1.tie p y u e
   ·exact(c1.own).trans (nO rfl λ_=>⟨rfl,rfl,rfl⟩).symm
  ·exact⟨c1,c2⟩
theorem OB(h:Own r)(iC:kE r)(hs:k9 B r)(j:B<1000000)(i:Nat)(l:List UInt8)(hl:(ik l).2.2.2=0->(ik l).2.1<=B):Own (ji r i l)/\k9 (B+1) (ji r i l):=by
 unfold ji;simp only;split
 ·exact⟨h,hs.mono dP⟩
 ·rename_i h1
  have E:(ik l).2.2.2=0:=dP;have hv:ox (ik l).1 (ik l).2.1 (ik l).2.2.1=0:=qz (by rw[<-E]);have S:=hl E;have rK:=(jk hv).2.1;split
  ·exact Cw ⟨h.tie,h.val⟩ iC hs dP S j
  ·rename_i y
   generalize (ik l).1=own,(ik l).2.1=seq,(ik l).2.2.1=es at*;have H:∀x u,ld r.K own seq es x=μ u->r.K x=μ u \/(x=own/\u=(seq,es)/\0<newF r.K own seq es):=λx u U=>by
    unfold ld at U;split at U
    ·rename_i g
     have e:(if x=own then μ (seq,es)else r.K x)=μ u:=U;split at e
     ·rename_i Z;injection e with e;exact .inr ⟨Z,e.symm,g⟩
     ·exact .inl e
    ·exact .inl U
   have Q:Own {r with K:=ld r.K own seq es,O:=oN r.K r.O i own seq es} /\k9 B {r with K:=ld r.K own seq es,O:=oN r.K r.O i own seq es}:=by
    refine⟨⟨λp x u U=> ?_,λx u U=> ?_,?_⟩,λx u U=> ?_⟩
    ·have V:oN r.K r.O i own seq es p x=μ u:=U;show ld r.K own seq es x=μ u;unfold oN at V;unfold ld;by_cases g:0<newF r.K own seq es
     ·rw[ag g]at V⊢;show(if x=own then μ (seq,es)else r.K x)=μ u;split at V
      ·have e:(if x=own then ν else if x=own then μ (seq,es)else r.O i x)=μ u:=V;by_cases Z:x=own
       ·rw[ag Z]at e;exact absurd e gN
       ·rw[ae Z,ae Z]at e;rw[ae Z];exact h.tie i x u e
      ·have e:(if x=own then μ (seq,es)else r.O p x)=μ u:=V;by_cases Z:x=own
       ·rw[ag Z]at e⊢;exact e
       ·rw[ae Z]at e⊢;exact h.tie p x u e
     ·rw[ae g]at V⊢;by_cases T:newF r.K own seq es<0
      ·rw[ag T]at V;split at V
       ·cases J:r.K own with
        |none=>rw[J]at V;exact h.tie i x u V
        |some q=>
         rw[J]at V;have e:(if x=own then μ q else r.O i x)=μ u:=V;by_cases Z:x=own
         ·rw[ag Z]at e;rw[Z,J];exact e
         ·rw[ae Z]at e;exact h.tie i x u e
       ·exact h.tie p x u V
      ·rw[ae T]at V;split at V
       ·have e:(if x=own then ν else r.O i x)=μ u:=V;by_cases Z:x=own
        ·rw[ag Z]at e;exact absurd e gN
        ·rw[ae Z]at e;exact h.tie i x u e
       ·exact h.tie p x u V
    ·rcases H x u U with g|⟨g1,T,_⟩
     ·exact h.val x u g
     ·rw[g1,T];exact hv
    ·have A:iX {r with K:=ld r.K own seq es,O:=oN r.K r.O i own seq es}=iX r:=nO rfl λ_=>⟨rfl,rfl,rfl⟩
     rw[A,<-h.own];show zX (ld r.K own seq es) r.id=_;have:ld r.K own seq es r.id=r.K r.id:=by
      unfold ld;split
      ·rename_i g
       have Z:r.id≠own:=λe=>y ⟨e.symm,g⟩;show(if r.id=own then _ else _)=_;rw[ae Z]
      ·rfl
     unfold zX;rw[this]
    ·rcases H x u U with g|⟨_,T,_⟩
     ·exact hs x u g
     ·rw[T];exact S
   split
   ·refine⟨Q.1.alike rfl rfl rfl rfl λp=> ?_,(Q.2.alike (s:=iy.iE _ i _) rfl).mono dP⟩;rw[kx];split
    ·rename_i e
     rw[e];have D:∀(p:jb) c s,(p.put c s).m=p.m/\(p.put c s).pe=p.pe:=λp c s=>by unfold jb.put;split<;>(try split)<;>exact⟨rfl,rfl⟩
     rw[(D _ _ _).1,(D _ _ _).2];exact⟨rfl,rfl,rfl⟩
    ·exact⟨rfl,rfl,rfl⟩
   ·exact⟨Q.1,Q.2.mono dP⟩
theorem OC(h:Own r)(i:Nat)(l:List UInt8):Own (ku r i l)/\(ku r i l).K=r.K:=by
 unfold ku;simp only;split
 ·refine⟨⟨λp x u V=> ?_,h.val,h.own.trans (nO rfl λ_=>⟨rfl,rfl,rfl⟩).symm⟩,rfl⟩;have e:(if p=i/\0<=newF r.K (ik l).1 (ik l).2.1 (ik l).2.2.1 then yA (r.O i) (ik l).1 else r.O p) x=μ u:=V;show r.K x=μ u;split at e
  ·have Z:(if x=(ik l).1 then ν else r.O i x)=μ u:=e;split at Z
   ·exact absurd Z gN
   ·exact h.tie i x u Z
  ·exact h.tie p x u e
 ·exact⟨h,rfl⟩
theorem qv(p:jb)(c:UInt8)(s:List UInt8):(p.put c s).m=p.m/\(p.put c s).pe=p.pe:=by unfold jb.put;split<;>(try split)<;>exact⟨rfl,rfl⟩
theorem oj(r:iy)(t:wT):(r.send t).K=r.K/\(r.send t).O=r.O/\(r.send t).id=r.id/\(r.send t).n=r.n/\∀p,((r.send t).P p).m=(r.P p).m/\((r.send t).P p).pe=(r.P p).pe/\((r.send t).P p).L=(r.P p).L:=by
 unfold iy.send;split
 ·exact⟨rfl,rfl,rfl,rfl,λ_=>⟨rfl,rfl,rfl⟩⟩
 ·split
  ·exact⟨rfl,rfl,rfl,rfl,λ_=>⟨rfl,rfl,rfl⟩⟩
  ·refine⟨rfl,rfl,rfl,rfl,λp=> ?_⟩;rw[kx];split
   ·rename_i e;rw[e,(qv _ _ _).1,(qv _ _ _).2,uC];exact⟨rfl,rfl,rfl⟩
   ·exact⟨rfl,rfl,rfl⟩
theorem IC(h:Own r)(t:wT):Own (r.send t):=by
 obtain⟨a,b,c,d,e⟩:=oj r t;exact h.alike a b c d λp=>by rw[(e p).1,(e p).2.1];exact⟨rfl,rfl,rfl⟩
def OD(q:kL):Nat:=if q.who=0/\q.both=false then 0 else 1
def pI(r:iy):Nat:=OD (r.P 0).pe+OD (r.P 1).pe+OD (r.P 2).pe
theorem oD(h:∀p,(s.P p).pe=(r.P p).pe):pI s=pI r:=by unfold pI;rw[h,h,h]
theorem Cy(hi:i<3)(q:kL):pI (r.meet i q)+OD (r.P i).pe=pI r+OD q:=by
 have h:=λp=>(j4 r i q p).2.2.2;unfold pI;rw[h,h,h];have:i=0 \/i=1 \/i=2:=dP;rcases this with rfl|rfl|rfl
 ·rw[ag rfl,ae dS,ae dS];omega
 ·rw[ae dS,ag rfl,ae dS];omega
 ·rw[ae dS,ae dS,ag rfl];omega
theorem YR(a b:kL):Wq a b<=1:=by unfold Wq;split<;>decide
theorem YS(a:kL):OD a<=1:=by unfold OD;split<;>decide
theorem Cz(q:kL):Wq nobody q+OD nobody<=OD q:=by
 unfold Wq OD;show(if(0:Int)=q.who/\false=q.both then 0 else 1)+(if(0:Int)=0/\false=false then 0 else 1)<=_;rw[ag (⟨rfl,rfl⟩:(0:Int)=0/\false=false)];by_cases e:q.who=0/\q.both=false
 ·rw[ag ⟨e.1.symm,e.2.symm⟩];omega
 ·rw[ae (λh=>e ⟨h.1.symm,h.2.symm⟩),ae e];exact Nat.le_refl _
theorem Sb(q:kL):Wq (iH q) q+OD (iH q)<=OD q:=by
 unfold iH;split
 ·exact Cz q
 ·unfold Wq OD;rw[ag ⟨rfl,rfl⟩];simp
def sw:mb->Nat
 |72::_=>2
 |83::_=>1
 |_=>0
def xT(B:Nat)(x:mb):Prop:=∀s,x=83::s->(ik s).2.2.2=0->(ik s).2.1<=(B:Int)
theorem xT.mono(h:xT B x)(hc:B<=C):xT C x:=λs e Z=>by have:=h s e Z;omega
theorem yT(h:Own r)(Z:kE r)(hs:k9 B r)(V:B<1000000)(hi:i<3):∃C,Own (r.meet i nobody)/\k9 C (r.meet i nobody)/\B<=C/\C+pI (r.meet i nobody)<=B+pI r:=by
 obtain⟨a,b⟩:=Cx h Z hs V i (nr.nobody Z.id.1);have h1:=Cy (r:=r) hi nobody;have h2:=Cz (r.P i).pe;exact⟨_,a,b,dP,dP⟩
theorem OE(h:Own r)(Q:kE r)(hs:k9 B r)(U:B<1000000)(hi:i<3)(x:mb)(hx:xT B x):∃C,Own (jT r i x)/\k9 C (jT r i x)/\B<=C/\C+pI (jT r i x)<=B+pI r+sw x:=by
 cases x with
 |nil=>exact⟨B,h,hs,Nat.le_refl _,by show B+pI r<=_;omega⟩
 |cons c s=>
  show∃C,Own (r.take i c s)/\k9 C (r.take i c s)/\B<=C/\C+pI (r.take i c s)<=B+pI r+sw (c::s);have hl:Own (jH r i c s)/\k9 B (jH r i c s)/\pI (jH r i c s)=pI r:=by
   unfold jH;split
   ·have e:∀p,((r.iE i ((r.P i).packet s)).P p).m=(r.P p).m/\((r.iE i ((r.P i).packet s)).P p).pe=(r.P p).pe:=λp=>by
     rw[kx];split
     ·rename_i e;rw[e,(rZ _ _).1,(rZ _ _).2];exact⟨rfl,rfl⟩
     ·exact⟨rfl,rfl⟩
    exact⟨h.alike rfl rfl rfl rfl λp=>by rw[(e p).1,(e p).2];exact⟨rfl,rfl,rfl⟩,hs.alike rfl,oD λp=>(e p).2⟩
   ·exact⟨h,hs,rfl⟩
  have V:=Q.link i c s;rw[lK];obtain⟨r1,S⟩:=fP (jH r i c s);have qw:r1.id=r.id:=by rw[<-S];exact(jm.link r i c s).id
  rw[S]at hl V⊢;obtain⟨l1,l2,l3⟩:=hl;split
  ·obtain⟨C,a,b,c1,c2⟩:=yT l1 V l2 U hi;exact⟨C,a,b,c1,dP⟩
  ·unfold l9;split
   ·rename_i hc
    split
    ·rename_i T
     obtain⟨a,b⟩:=Cx l1 V l2 U i (nr.Uh (s:=(lL s).2.1) V.id.1 (BV T));have h1:=Cy (r:=r1) hi (jP r1.id (lL s).1 (lL s).2.1);have h2:=YR (jP r1.id (lL s).1 (lL s).2.1) (r1.P i).pe;have h3:=YS (jP r1.id (lL s).1 (lL s).2.1);exact⟨_,a,b,dP,by rw[hc];show _<=B+pI r+2;omega⟩
    ·exact⟨B,l1,l2,Nat.le_refl _,dP⟩
   ·split
    ·rename_i hc
     obtain⟨a,b⟩:=OB l1 V l2 U i s λT=>hx s (by rw[hc]) T;have e:pI (ji r1 i s)=pI r1:=oD λp=>(jU.state r1 i s p).2;exact⟨_,a,b,dP,by rw[hc,e];show _<=B+pI r+1;omega⟩
    ·split
     ·obtain⟨a,b⟩:=OC l1 i s;have e:pI (ku r1 i s)=pI r1:=oD λp=>by unfold ku;simp only;split<;>rfl
      exact⟨B,a,l2.alike b,Nat.le_refl _,by rw[e];omega⟩
     ·split
      ·unfold qj;split
       ·have Z:=oj r1 (((s.getD 0 0).toNat:Int),((s.getD 1 0).toNat:Int),s.drop 2);exact⟨B,IC l1 _,l2.alike Z.1,Nat.le_refl _,by rw[oD λp=>(Z.2.2.2.2 p).2.1];omega⟩
       ·exact⟨B,l1,l2,Nat.le_refl _,dP⟩
      ·exact⟨B,l1,l2,Nat.le_refl _,dP⟩
theorem lV(r:iy)(i p:Nat):((iT r i).P p).m=(r.P p).m/\((iT r i).P p).pe=(r.P p).pe:=by
 unfold iT;rw[kx];split
 ·rename_i e;rw[e,(qL _).1,(qL _).2.1];exact⟨rfl,rfl⟩
 ·exact⟨rfl,rfl⟩
theorem qO(r:iy)(i:Nat):(lI r i).K=r.K/\(lI r i).O=r.O/\(lI r i).id=r.id/\(lI r i).n=r.n/\∀p,((lI r i).P p).m=(r.P p).m/\((lI r i).P p).pe=(r.P p).pe/\((lI r i).P p).L=(r.P p).L:=by
 have hA:∀(l:List (Int×PS)) (p:jb),(p.j3 l).m=p.m:=λl=>by
  induction l with
  |nil=>intro p;rfl
  |cons q r ih=>intro p;show((p.put 83 _).j3 r).m=_;rw[ih,(qv _ _ _).1]
 refine⟨rfl,rfl,rfl,rfl,λp=> ?_⟩;unfold lI;simp only;rw[kx];split
 ·rename_i e
  rw[e];split
  ·rw[hA,(uD _ _).1,(uD _ _).2,(qv _ _ _).1,(qv _ _ _).2,uC];exact⟨rfl,rfl,rfl⟩
  ·rw[(qv _ _ _).1,(qv _ _ _).2,uC];exact⟨rfl,rfl,rfl⟩
 ·exact⟨rfl,rfl,rfl⟩
theorem yU(h:Own r)(Q:kE r)(hs:k9 B r)(T:B<1000000)(hi:i<3)(hn:r.n=3):∃C,Own (r.iV i)/\k9 C (r.iV i)/\B<=C/\C+pI (r.iV i)<=B+pI r/\kE (r.iV i):=by
 rw[kO];have Z:Own (iT r i):=h.alike rfl rfl rfl rfl λp=>by rw[(lV r i p).1,(lV r i p).2];exact⟨rfl,rfl,rfl⟩
 have V:k9 B (iT r i):=hs.alike rfl;have k1:=Q.iT i;have c1:pI (iT r i)=pI r:=oD λp=>(lV r i p).2;have n1:(iT r i).n=r.n:=rfl;obtain⟨r1,J⟩:=fP (iT r i);rw[J]at Z V k1 c1 n1⊢;split
 ·obtain⟨C,a,b,c,d⟩:=yT Z k1 V T hi;exact⟨C,a,b,c,dP,k1.meet i (nr.nobody k1.id.1)⟩
 ·have S:=nr.tick k1.id.1 (k1.pe i dP);obtain⟨a,b⟩:=Cx Z k1 V T i S;have h2:=Cy (r:=r1) hi (iH (r1.P i).pe);have h3:=Sb (r1.P i).pe;obtain⟨t1,t2,H,E,U⟩:=qO (r1.meet i (iH (r1.P i).pe)) i;refine⟨_,a.alike t1 t2 H E λp=> ?_,b.alike t1,dP,?_,(k1.meet i S).tell i⟩
  ·rw[(U p).1,(U p).2.1];exact⟨rfl,rfl,rfl⟩
  ·rw[oD λp=>(U p).2.1];omega
theorem Sc(h:Own r)(V:kE r)(hs:k9 B r)(T:B<1000000)(hi:i<3)(up:Bool):∃C,Own (r.iw i up).1/\k9 C (r.iw i up).1/\B<=C/\C+pI (r.iw i up).1<=B+pI r/\kE (r.iw i up).1:=by
 unfold iy.iw;simp only;split
 ·exact⟨B,h,hs,Nat.le_refl _,Nat.le_refl _,V⟩
 ·have e:((r.P i).iw up).1.m=(r.P i).m/\((r.P i).iw up).1.pe=(r.P i).pe:=by
   unfold jb.iw;generalize ko (r.P i).L (if up=true then 0 else 1)=E;simp only;split
   ·exact⟨rfl,rfl⟩
   ·rw[(uv _ _).1,(uv _ _).2];exact⟨rfl,rfl⟩
  have Z:∀p,((r.iE i ((r.P i).iw up).1).P p).m=(r.P p).m/\((r.iE i ((r.P i).iw up).1).P p).pe=(r.P p).pe:=λp=>by
   rw[kx];split
   ·rename_i g;rw[g];exact e
   ·exact⟨rfl,rfl⟩
  have U:Own (r.iE i ((r.P i).iw up).1):=h.alike rfl rfl rfl rfl λp=>by rw[(Z p).1,(Z p).2];exact⟨rfl,rfl,rfl⟩
  have k1:kE (r.iE i ((r.P i).iw up).1):=V.iE i _ e.1 λhi=>by rw[e.2];exact V.pe i hi
  obtain⟨C,a,b,c,d⟩:=yT U k1 (hs.alike (s:=r.iE i _) rfl) T hi;exact⟨C,a,b,c,by rw[oD λp=>(Z p).2]at d;exact d,k1.meet i (nr.nobody k1.id.1)⟩
structure tH(B N:Nat)(a:AN):Prop where
 r:∀i,i<a.n->Own (a.R i)/\kE (a.R i)/\k9 B (a.R i)/\(a.R i).id=(i:Int)+1/\(a.R i).n=3
 f:∀c d,c<a.nc->d<2->∀x∈a.F c d,xT B x
 b:B+a.W sw+sm (λi=>pI (a.R i)) (fG a.n)<=N
 one:1<=B
 ms:∀i p,i<a.n->p<3->1<=a.ms i p/\a.ms i p<=20
theorem Sd(h:Own s):Own s.core:=h.alike rfl rfl rfl rfl λ_=>⟨rfl,rfl,rfl⟩
theorem UZ(h:kE s):kE s.core:=⟨h.id,h.m,h.pe,h.own,h.QS⟩
theorem own_op(hB:yf a)(h:tH B N a)(i:Nat)(hi:i<a.n)(s:iy)(C k:Nat)(E:Own s)(D:kE s)(A:k9 C s)(y:s.id=(i:Int)+1)(u:s.n=3)(Z:B<=C)(U:∀p,∀x∈je (s.P p),xT C x)(hb:C+pI s+(sm sw (je (s.P 0))+sm sw (je (s.P 1))+sm sw (je (s.P 2)))<=B+pI (a.R i)+k):tH C (N+k) (a.op i s):=by
 refine⟨λj hj=> ?_,λc d hc hd x hx=> ?_,?_,by have:=h.one;omega,h.ms⟩
 ·show Own (jy a.R i s.core j)/\kE (jy a.R i s.core j)/\k9 C (jy a.R i s.core j)/\(jy a.R i s.core j).id=_/\(jy a.R i s.core j).n=3;by_cases e:j=i
  ·rw[e,ij];exact⟨Sd E,UZ D,A.alike (s:=s.core) rfl,y,u⟩
  ·rw[gW _ _ e];obtain⟨T,S,Q,J,H⟩:=h.r j hj;exact⟨T,S,Q.mono Z,J,H⟩
 ·rw[yR]at hx;split at hx
  ·rcases aF.1 hx with e|e
   ·exact(h.f c d hc hd x e).mono Z
   ·exact U _ x e
  ·exact(h.f c d hc hd x hx).mono Z
 ·have h6:=agL hB i s sw;have h7:sm (λj=>pI ((a.op i s).R j)) (fG a.n)+pI (a.R i)<=sm (λj=>pI (a.R j)) (fG a.n)+pI s:=by
   have V:sm (λj=>pI ((a.op i s).R j)+(if j=i then pI (a.R i)else 0)) (fG a.n)<=sm (λj=>pI (a.R j)+(if j=i then pI s else 0)) (fG a.n):=uI λj _=>by
    show pI (jy a.R i s.core j)+_<=_;by_cases e:j=i
    ·subst e;rw[ij,ag rfl,ag rfl];have:pI s.core=pI s:=rfl;omega
    ·rw[gW _ _ e,ae e,ae e];exact Nat.le_refl _
   rw[Cu,Cu,Fy i _ cB,Fy i _ cB,ag (aY.2 hi),ag (aY.2 hi)]at V;exact V
  have h8:=h.b;show C+(a.op i s).W sw+sm (λj=>pI ((a.op i s).R j)) (fG a.n)<=N+k;omega
theorem yV {F:Int->Option PS} {y:Int×PS} (h:y∈lU F):F y.1=μ y.2:=by
 unfold lU at h;obtain⟨j,_,Z⟩:=cL.1 h;cases e:F ((j:Int)+1)with
 |none=>rw[e]at Z;simp at Z
 |some q=>rw[e]at Z;simp only[Option.map_some,Option.some.injEq]at Z;rw[<-Z];exact e
theorem wK {l:List kr} (h:x∈l.flatMap rA):∃s,x=76::s:=by
 obtain⟨q,_,Z⟩:=br.1 h;unfold rA at Z;split at Z
 ·exact⟨_,ax.1 Z⟩
 ·simp at Z
theorem xU:∀ {l:List mb},(∀x∈l,sw x=0)->sm sw l=0
 |[],_=>rfl
 |x::l,h=>by
  have:=xU (l:=l) λy hy=>h y (by simp[hy]);have h1:=h x gN;show sw x+sm sw l=0;omega
theorem Me:∀l:List (Int×PS),sm sw (l.flatMap R6)<=l.length
 |[] =>Nat.le_refl _
 |q::l=>by
  have:=Me l;rw[cM,r9];have h1:sm sw (R6 q)<=1:=by
   unfold R6;split
   ·exact Nat.le_refl _
   ·exact Nat.zero_le _
  simp only[eE];omega
theorem Mf {p:Nat} (h:Df r i x p l):(∀y∈l,sw y=0)/\∀B,∀y∈l,xT B y:=by
 have Z:∀(c:UInt8) (s:List UInt8),c≠72->c≠83->sw (c::s)=0/\∀B,xT B (c::s):=λc s U V=>by
  refine⟨?_,λB t e=>absurd (aK e).1 V⟩;unfold sw;split
  ·rename_i e;exact absurd (aK e).1 U
  ·rename_i e;exact absurd (aK e).1 V
  ·rfl
 cases h with
 |none h=>rw[h];exact⟨λ_ h=>by simp at h,λ_ _ h=>by simp at h⟩
 |link s _ _ _ h=>
  rw[h];exact⟨λy hy=>by obtain⟨s,rfl⟩:=wK hy;exact(Z 76 s dS dS).1,λB y hy=>by obtain⟨s,rfl⟩:=wK hy;exact(Z 76 s dS dS).2 B⟩
 |heard s _ _ _ _ _ _ _ h=>
  rw[h];exact⟨λy hy=>by rw[ax.1 hy];exact(Z 65 _ dS dS).1,λB y hy=>by rw[ax.1 hy];exact(Z 65 _ dS dS).2 B⟩
 |R8 a b s _ _ _ _ h=>
  rw[h];exact⟨λy hy=>by rw[ax.1 hy];exact(Z 77 _ dS dS).1,λB y hy=>by rw[ax.1 hy];exact(Z 77 _ dS dS).2 B⟩
theorem IE(h:kE r)(i:Nat)(x:mb):kE (jT r i x)/\(jT r i x).id=r.id/\(jT r i x).n=r.n:=by
 cases x with
 |nil=>exact⟨h,rfl,rfl⟩
 |cons c s=>exact⟨h.take i c s,(Kq r i c s).2,(Kq r i c s).1⟩
theorem FA(r:iy)(i:Nat)(up:Bool):(r.iw i up).1.id=r.id/\(r.iw i up).1.n=r.n:=⟨(jm.iw r i up).id,(jm.iw r i up).n⟩
theorem FC(h:∀p,∀y∈je (s.P p),sw y=0):sm sw (je (s.P 0))+sm sw (je (s.P 1))+sm sw (je (s.P 2))=0:=by
 rw[xU (h 0),xU (h 1),xU (h 2)]
theorem Mg(h:Jc r)(i:Nat)(up:Bool):∀p,∀y∈je ((r.iw i up).1.P p),∃s,y=76::s:=λp y hy=>by
 by_cases Z:(ko (r.P i).L (if up=true then 0 else 1)).2.2=0
 ·obtain⟨a,b,_⟩:=Fz h i up Z;by_cases e:p=i
  ·subst e;rw[b]at hy;exact wK hy
  ·rw[a p e]at hy;simp at hy
 ·have:(r.iw i up).1=r:=by
   unfold iy.iw jb.iw;generalize ko (r.P i).L (if up=true then 0 else 1)=E at*;simp only;rw[ag Z];simp only;rw[ag Z]
  rw[this,jf (h p)]at hy;simp at hy
theorem Se(s:List UInt8):sw (76::s)=0/\∀B,xT B (76::s):=⟨rfl,λB t e=>absurd (aK e).1 dS⟩
theorem yW(Z:yf a)(E:Norm a)(h:tH B N a)(hl:N<1000000) {d:Nat} (hc:c<a.nc)(hd:d<2)(up:Bool):∃C,tH C N (a.mI c d up):=by
 obtain⟨hi,D⟩:=Z.en c d hc hd;obtain⟨U,T,S,Q,J⟩:=h.r _ hi;obtain⟨C,c1,c2,c3,c4,H⟩:=Sc U T S (by have:=h.b;omega) D up;have V:=Mg (E.emp (a.e c d).1) (a.e c d).2 up;refine⟨C,own_op Z h _ hi _ C 0 c1 H c2 ((FA _ _ _).1.trans Q) ((FA _ _ _).2.trans J) c3 (λp x hx=> ?_) ?_⟩
 ·obtain⟨s,rfl⟩:=V p x hx;exact(Se s).2 C
 ·rw[FC λp y hy=>by obtain⟨s,rfl⟩:=V p y hy;rfl];omega
theorem IG(J:yf a)(H:Norm a)(h:tH B N a)(hl:N<1000000)(hc:c<a.nc)(up:Bool):∃C,tH C N (a.iw c up):=by
 obtain⟨b,hb⟩:=fP ((({a with jr:=jy a.jr c up}:AN).lM c 0 []).lM c 1 []);have V:yf b:=J.same (by rw[<-hb];rfl) (by rw[<-hb];rfl) (by rw[<-hb];rfl);have U:Norm b:=by rw[<-hb];exact H
 have T:c<b.nc:=by rw[<-hb];exact hc
 have S:tH B N b:=by
  have w1:=AA {a with jr:=jy a.jr c up} sw c 0;have D:=AA (({a with jr:=jy a.jr c up}:AN).lM c 0 []) sw c 1;have w3:=h.b;rw[hb]at D;have e1:({a with jr:=jy a.jr c up}:AN).W sw=a.W sw:=rfl;refine⟨by rw[<-hb];exact h.r,λx f hx hf y hy=> ?_,?_,h.one,by rw[<-hb];exact h.ms⟩
  ·have E:y∈a.F x f \/y∈([] :List mb):=by
    rw[<-hb]at hy;have Z:y∈(if x=c/\f=1 then []else if x=c/\f=0 then []else a.F x f):=hy;split at Z
    ·exact .inr Z
    ·split at Z
     ·exact .inr Z
     ·exact .inl Z
   rcases E with g|g
   ·exact h.f x f (by rw[<-hb]at hx;exact hx) hf y g
   ·simp at g
  ·have Z:sm (λi=>pI (b.R i)) (fG b.n)=sm (λi=>pI (a.R i)) (fG a.n):=by rw[<-hb];rfl
   omega
 obtain⟨C,Q⟩:=yW V U S hl T (by decide:0<2) up;unfold AN.iw;rw[hb];exact yW (a:=b.mI c 0 up) (V.same rfl rfl rfl) (qt U _ _) Q hl T (by decide:1<2) up
theorem mc.own {b:AN} {T:List (Nat×Nat)} {S:List (Int×List UInt8)} (h:mc a T S b)(U:yf a)(hN:Norm a)(Z:tH B N a)(hl:N<1000000):∃C,tH C (N+8*T.length) b:=by
 have hBl:=Z.b;cases h with
 |lost h=>
  refine⟨B,by rw[h.1];exact Z.r,λc d hc hd x hx=> ?_,?_,Z.one,by rw[h.1];exact Z.ms⟩
  ·obtain⟨m,hm⟩:=h.2 c d;rw[hm]at hx;rw[h.1]at hc;exact Z.f c d hc hd x (List.mem_of_mem_take hx)
  ·have h1:=YP h sw;have e:sm (λi=>pI (b.R i)) (fG b.n)=sm (λi=>pI (a.R i)) (fG a.n):=by rw[h.1]
   show _<=N+0;omega
 |tick i p hi hp=>
  obtain⟨E,Q,D,A,J⟩:=Z.r i hi;obtain⟨C,c1,c2,c3,c4,c5⟩:=yU E Q D dP hp J;obtain⟨u,e2⟩:=AF (hN.emp i) p;have qw:((a.R i).iV p).id=(i:Int)+1/\((a.R i).iV p).n=3:=⟨(jm.iV (a.R i) p).id.trans A,(jm.iV (a.R i) p).n.trans J⟩
  have hOp:((a.R i).iV p).O=((iT (a.R i) p).meet p (iH ((a.R i).P p).pe)).O \/(jB ((a.R i).P p).L).1.st≠9:=by
   by_cases h9:(jB ((a.R i).P p).L).1.st=9
   ·left;have jX:((iT (a.R i) p).P p).L.st=9:=by
     unfold iT;rw[kx,ag rfl];rw[uE];exact h9
    rw[kO,ae (by rw[jX];simp),(lV _ _ _).2];rfl
   ·exact .inr h9
  refine⟨C,own_op U Z i hi _ C 8 c1 c5 c2 qw.1 qw.2 c3 (λq x hx=> ?_) ?_⟩
  ·by_cases e:q=p
   ·subst e;rw[e2]at hx;rcases aF.1 hx with g|g
    ·obtain⟨s,rfl⟩:=wK g;exact(Se s).2 C
    ·split at g
     ·rename_i h9
      rcases a7.1 g with g|g
      ·rw[g];intro s e;exact absurd (aK e).1 dS
      ·split at g
       ·obtain⟨y,hy,Ad⟩:=br.1 g;unfold R6 at Ad;split at Ad
        ·rw[ax.1 Ad];intro s e hz;rw[<-(aK e).2];have hK:=c1.tie q y.1 y.2 (by rw[hOp.resolve_right (by rw[h9];simp)];exact yV hy);rw[tM _ _ _ (c1.val _ _ hK)];exact c2 _ _ hK
        ·simp at Ad
       ·simp at g
     ·simp at g
   ·rw[u q e]at hx;simp at hx
  ·have Wk:p=0 \/p=1 \/p=2:=dP;have hs:sm sw (je (((a.R i).iV p).P p))<=8:=by
    rw[e2,r9,xU λx hx=>by obtain⟨s,rfl⟩:=wK hx;rfl];split
    ·have e3:∀(x:mb) l,sm sw (x::l)=sw x+sm sw l:=λ_ _=>rfl;rw[e3];have e4:sw (72::[jQ (a.R i).id,jQ (iH ((a.R i).P p).pe).who])=2:=rfl;split
     ·have:=Me (lU (((iT (a.R i) p).meet p (iH ((a.R i).P p).pe)).O p));have:=DX (((iT (a.R i) p).meet p (iH ((a.R i).P p).pe)).O p);omega
     ·have e5:sm sw [] =0:=rfl;omega
    ·have e5:sm sw [] =0:=rfl;omega
   have H:∀q,q≠p->sm sw (je (((a.R i).iV p).P q))=0:=λq hq=>by rw[u q hq];rfl
   rcases Wk with rfl|rfl|rfl
   ·rw[H 1 dS,H 2 dS];omega
   ·rw[H 0 dS,H 2 dS];omega
   ·rw[H 0 dS,H 1 dS];omega
 |pop c d x l hc hd hF=>
  obtain⟨hi,hp⟩:=U.en c (1-d) hc dP;have hw:=acG sw hc hd hF;have h1:tH B (N-sw x) (a.lM c d l):=by
   refine⟨Z.r,λy f hy hf z hz=> ?_,?_,Z.one,Z.ms⟩
   ·rw[wJ]at hz;split at hz
    ·rename_i e
     exact Z.f c d hc hd z (by rw[hF];simp[hz])
    ·exact Z.f y f hy hf z hz
   ·show B+(a.lM c d l).W sw+sm (λi=>pI (a.R i)) (fG a.n)<=_;omega
  obtain⟨E,Q,D,A,J⟩:=Z.r _ hi;obtain⟨C,c1,c2,c3,c4⟩:=OE E Q D dP hp x (Z.f c d hc hd x (by rw[hF];simp));obtain⟨t1,t2,t3⟩:=IE Q (a.e c (1-d)).2 x;obtain⟨m1,_⟩:=xS (hN.emp (a.e c (1-d)).1) (a.e c (1-d)).2 x;have h2:=own_op (a:=a.lM c d l) (U.same rfl rfl rfl) h1 _ hi (jT (a.R (a.e c (1-d)).1) (a.e c (1-d)).2 x) C (sw x) c1 t1 c2 (t2.trans A) (t3.trans J) c3 (λq y hy=>(Mf (m1 q)).2 C y hy) (by
   rw[FC λq y hy=>(Mf (m1 q)).1 y hy];show C+_+0<=B+pI (a.R (a.e c (1-d)).1)+sw x;omega)
  refine⟨C,?_⟩;have e:N-sw x+sw x=N+8*0:=dP;rw[e]at h2;exact h2
 |send i t tx hi _ _ _=>
  obtain⟨E,Q,D,A,J⟩:=Z.r i hi;obtain⟨s1,s2,s3,s4,s5⟩:=oj (a.R i) (t,8,tx);obtain⟨j,g1,g2⟩:=AE (hN.emp i) (t,8,tx);have hq:∀p,∀y∈je (((a.R i).send (t,8,tx)).P p),∃s,y=77::s:=λp y hy=>by
   by_cases e:p=j
   ·subst e;rcases g2 with g|⟨_,g⟩
    ·rw[g]at hy;simp at hy
    ·rw[g]at hy;exact⟨_,ax.1 hy⟩
   ·rw[g1 p e]at hy;simp at hy
  refine⟨B,own_op U Z i hi _ B 0 (IC E _) (Q.send _) (D.alike s1) (s3.trans A) (s4.trans J) (Nat.le_refl _) (λp x hx=> ?_) ?_⟩
  ·obtain⟨s,rfl⟩:=hq p x hx;intro t e;exact absurd (aK e).1 dS
  ·rw[FC λp y hy=>by obtain⟨s,rfl⟩:=hq p y hy;rfl,oD λp=>(s5 p).2.1];omega
 |iw c hc _ _ _=>
  obtain⟨C,h⟩:=IG U hN Z hl hc true;exact⟨C,h.r,h.f,Nat.le_trans h.b (Nat.le_add_right _ _),h.one,h.ms⟩
 |draw c hc _=>exact IG U hN Z hl hc false
 |anew i m hi hd=>
  have qw:(1:Int)<=(i:Int)+1/\(i:Int)+1<=6:=by have:=U.n6;omega
  have hR:∀j,({a with R:=jy a.R i (jt ((i:Int)+1) 3 (a.ms i)),ib:=jy a.ib i ((a.ib i).take m)}:AN).R j=if j=i then jt ((i:Int)+1) 3 (a.ms i)else a.R j:=λj=>rfl
  refine⟨B,λj hj=> ?_,Z.f,?_,Z.one,Z.ms⟩
  ·rw[hR];by_cases e:j=i
   ·subst e;rw[ag rfl];refine⟨⟨λp x q h=>h,λx q h=> ?_,?_⟩,xJ qw (Z.ms j · hi),λx q h=> ?_,rfl,rfl⟩
    ·have V:(if x=(j:Int)+1 then μ ((1:Int),([] :List jv))else ν)=μ q:=h;split at V
     ·rename_i e;injection V with V;rw[<-V,e]
      unfold ox;rw[ae dP,ae gN];rfl
     ·exact absurd V gN
    ·have u:zX (jt ((j:Int)+1) 3 (a.ms j)).K (jt ((j:Int)+1) 3 (a.ms j)).id=[] :=by
      show(match (if(j:Int)+1=(j:Int)+1 then some ((1:Int),([] :List jv))else none)with|none=>[] |some q=>q.2)=_;rw[ag rfl]
     rw[u];have e2:∀n k,jA (jt ((j:Int)+1) 3 (a.ms j)).P n k=ν:=λn k=>by
      induction k with
      |zero=>rfl
      |succ k ih=>unfold jA;rw[ae (λh=>absurd h.1 (show¬false=true by simp)),ih]
     unfold iX;simp only[e2,Option.map_none];rfl
    ·have V:(if x=(j:Int)+1 then μ ((1:Int),([] :List jv))else ν)=μ q:=h;split at V
     ·injection V with V;rw[<-V];have:=Z.one;show(1:Int)<=_;omega
     ·exact absurd V gN
   ·rw[ae e];exact Z.r j hj
  ·have u:sm (λj=>pI (({a with R:=jy a.R i (jt ((i:Int)+1) 3 (a.ms i)),ib:=jy a.ib i ((a.ib i).take m)}:AN).R j)) (fG a.n)<=sm (λj=>pI (a.R j)) (fG a.n):=uI λj _=>by
    rw[hR];split
    ·exact Nat.zero_le _
    ·exact Nat.le_refl _
   show B+a.W sw+sm (λj=>pI (({a with R:=jy a.R i (jt ((i:Int)+1) 3 (a.ms i)),ib:=jy a.ib i ((a.ib i).take m)}:AN).R j)) (fG a.n)<=N+0;omega
def nW(g:Int):List jv:=[(1,255),(5,g)]
structure LI(g:Int)(L:LS):Prop where
 fs:L.fs=255
 fm:L.fm=g
 ns:L.ns=255
 nm:L.nm=g
 q:6<=L.st->L.qs=255/\L.qm=g
 st:L.st=1 \/(6<=L.st/\L.st<=9)
 k:yb L
theorem Ek {s:LS} {ev:Int} {l:List UInt8} {nx:Int} (vX:kr)(h:iN s.st ev=(l,nx,0)):qU s ev vX=(pw l (s.next nx),vY l (s.next nx) vX,0):=by
 rw[rF vX (by rw[h])];unfold mX oA;rw[h]
theorem wL:(iN 6 6=([97],8,0)/\iN 7 6=([97,117],9,0)/\iN 8 6=([97],8,0)/\iN 9 6=([100,114,97],8,0))/\(iN 6 8=([105],7,0)/\iN 8 8=([105,117],9,0))/\(iN 6 4=([114],6,0)/\iN 7 4=([114],6,0)/\iN 8 4=([114],8,0))/\(iN 6 5=([102],3,0)/\iN 7 5=([102],3,0)/\iN 8 5=([102],3,0))/\(iN 3 1=([115],1,0)/\iN 1 0=([105,114],6,0))/\(iN 6 1=([],1,0)/\iN 7 1=([],1,0)/\iN 8 1=([],1,0)/\iN 9 1=([100],1,0)):=by
 refine⟨⟨?_,?_,?_,?_⟩,⟨?_,?_⟩,⟨?_,?_,?_⟩,⟨?_,?_,?_⟩,⟨?_,?_⟩,?_,?_,?_,?_⟩<;>rfl
theorem FD(hg:1<=g/\g<=255):nk 255 g=nW g:=by
 unfold nk nW;rw[ag dS,ag dP];rfl
theorem Mh {x:Int} (h:6<=x/\x<=9):x=6 \/x=7 \/x=8 \/x=9:=dP
theorem Wr(U:1<=g/\g<=255)(h:LI g L)(V:L.st=1):LI g (ko L 0).1/\(ko L 0).2.1=[(1,(L.ow+1) %256,nW g)] /\(ko L 0).1.ow=(L.ow+1) %256/\(ko L 0).1.st=6/\(ko L 0).1.wt=3:=by
 have Z:=h.k.ko 0;have e:ko L 0=qU L 0 (0,0,[]):=rfl;have T:iN L.st 0=([105,114],6,0):=by rw[V];exact wL.2.2.2.2.1.2
 rw[e,Ek _ T]at Z⊢;have en:L.next 6={L with st:=6}:=by unfold LS.next;rw[ae dS]
 rw[en]at Z⊢;refine⟨⟨h.fs,h.fm,h.ns,h.nm,λ_=>⟨h.ns,h.nm⟩,.inr ⟨by show(6:Int)<=6;decide,by show(6:Int)<=9;decide⟩,Z⟩,?_,rfl,rfl,rfl⟩;show [(1,(L.ow+1) %256,nk L.ns L.nm)] =_;rw[h.ns,h.nm,FD U]
theorem U0(h:LI g L)(S:6<=L.st):LI g (ko L 1).1/\(ko L 1).1.st=1/\(ko L 1).1.ow=L.ow:=by
 have Z:=h.k.ko 1;have e:ko L 1=qU L 1 (0,0,[]):=rfl;obtain⟨a,b,c,d⟩:=wL.2.2.2.2.2;have Q:=Mh ⟨S,by have:=h.st;omega⟩;have hl:∃l,iN L.st 1=(l,1,0)/\(l=[] \/l=[100]):=by
  rcases Q with g|g|g|g<;>rw[g]
  ·exact⟨_,a,.inl rfl⟩
  ·exact⟨_,b,.inl rfl⟩
  ·exact⟨_,c,.inl rfl⟩
  ·exact⟨_,d,.inr rfl⟩
 obtain⟨l,T,U⟩:=hl;rw[e,Ek _ T]at Z⊢;have en:L.next 1={L with st:=1,ns:=L.fs,nm:=L.fm,sz:=255}:=by unfold LS.next;rw[ag dS]
 have V:pw l (L.next 1)=L.next 1:=by rcases U with rfl|rfl<;>rfl
 rw[V,en]at Z;rw[V,en];exact⟨⟨h.fs,h.fm,h.fs,h.fm,λh=>absurd h (by show¬(6:Int)<=1;decide),.inl rfl,Z⟩,rfl,rfl⟩
structure acH(g:Int)(L L':LS)(out:List kr):Prop where
 li:LI g L'
 or:(out=[] /\L'.ow=L.ow/\L'.st=L.st/\(L.st=1 \/L.st=9->L'=L)/\(6<=L.st/\L.st<=8->1<L.wt/\L'.wt=L.wt-1)) \/((6<=L.st/\L.st<=8)/\L.wt=1/\out=[(1,(L.ow+1) %256,nW g)] /\L'.ow=(L.ow+1) %256/\L'.wt=3/\(L'.st=6 \/(L.st=8/\L'.st=8)))
theorem Mi(u:1<=g/\g<=255)(h:LI g L):acH g L (jB L).1 (jB L).2:=by
 obtain⟨o1,o2,o3,o4,o5,o6,o7,o8⟩:=(rV _ _ _).1 h.k.ok;by_cases A:6<=L.st/\L.st<=8
 ·have hb:¬(decide (4<=L.st)&&decide (L.st<=8))=false:=by simp;omega
  by_cases J:0<L.wt-1
  ·have Z:j5 L={L with wt:=L.wt-1}:=by unfold j5;rw[ae hb,ag J]
   have T:lO L=[] :=by unfold lO;rw[ae hb,ag J]
   have E:=h.k.tick;have S:jB L=({L with wt:=L.wt-1},[]):=by
    unfold jB;rw[Z,T,ae (show¬L.st=3 by omega)]
   rw[Z]at E;rw[S];exact⟨⟨h.fs,h.fm,h.ns,h.nm,h.q,h.st,E⟩,.inl ⟨rfl,rfl,rfl,λh=>dP,λ_=>⟨dP,rfl⟩⟩⟩
  ·have j:L.wt=1:=dP;by_cases hf:0<L.lf
   ·have D:∃nx,iN L.st 4=([114],nx,0)/\(nx=6 \/(L.st=8/\nx=8)):=by
     obtain⟨a,b,c⟩:=wL.2.2.1;have:L.st=6 \/L.st=7 \/L.st=8:=dP;rcases this with g|g|g<;>rw[g]
     ·exact⟨_,a,.inl rfl⟩
     ·exact⟨_,b,.inl rfl⟩
     ·exact⟨_,c,.inr ⟨rfl,rfl⟩⟩
    obtain⟨nx,lT,wP⟩:=D;have E:=h.k.tick;have en:({L with wt:=L.wt-1}:LS).next nx={L with wt:=L.wt-1,st:=nx}:=by unfold LS.next;rw[ae dP]
    have Z:j5 L=pw [114] {L with wt:=L.wt-1,st:=nx}:=by
     unfold j5;rw[ae hb,ae J,ag hf];unfold mX;rw[show({L with wt:=L.wt-1}:LS).st=L.st from rfl,lT];simp only;rw[en]
    have T:lO L=[(1,(L.ow+1) %256,nk L.ns L.nm)] :=by
     unfold lO;rw[ae hb,ae J,ag hf];unfold oA;rw[show({L with wt:=L.wt-1}:LS).st=L.st from rfl,lT];simp only;rw[en];rfl
    have S:jB L=(j5 L,lO L):=by
     unfold jB;rw[ae (by rw[Z];show¬nx=3;omega)]
    rw[S];refine⟨⟨?_,?_,?_,?_,?_,?_,E⟩,.inr ⟨A,j,?_,?_,?_,?_⟩⟩
    ·rw[Z];exact h.fs
    ·rw[Z];exact h.fm
    ·rw[Z];exact h.ns
    ·rw[Z];exact h.nm
    ·rw[Z];exact λ_=>⟨h.ns,h.nm⟩
    ·rw[Z];show nx=1 \/(6<=nx/\nx<=9);omega
    ·show lO L=_;rw[T,h.ns,h.nm,FD u]
    ·rw[Z];rfl
    ·rw[Z];rfl
    ·rw[Z];exact wP
   ·have D:iN L.st 5=([102],3,0):=by
     obtain⟨a,b,c⟩:=wL.2.2.2.1;have:L.st=6 \/L.st=7 \/L.st=8:=dP;rcases this with g|g|g<;>rw[g] <;>assumption
    have en:({L with wt:=L.wt-1}:LS).next 3={L with wt:=L.wt-1,st:=3,ns:=L.fs,nm:=L.fm,sz:=255}:=by unfold LS.next;rw[ag dS]
    have Z:j5 L={L with wt:=L.wt-1,st:=3,ns:=L.fs,nm:=L.fm,sz:=255}:=by
     unfold j5;rw[ae hb,ae J,ae hf];unfold mX;rw[show({L with wt:=L.wt-1}:LS).st=L.st from rfl,D];simp only;rw[en];rfl
    have T:lO L=[] :=by
     unfold lO;rw[ae hb,ae J,ae hf];unfold oA;rw[show({L with wt:=L.wt-1}:LS).st=L.st from rfl,D];simp only;rw[en];rfl
    obtain⟨L3,U⟩:∃L3:LS,({L with wt:=L.wt-1,st:=3,ns:=L.fs,nm:=L.fm,sz:=255}:LS)=L3:=⟨_,rfl⟩
    rw[U]at Z;have k3:yb L3:=by rw[<-Z];exact h.k.tick
    have H:L3.st=3:=by rw[<-U]
    have d1:ko L3 1=({L3 with st:=1,ns:=L3.fs,nm:=L3.fm,sz:=255},[],0):=by
     show qU L3 1 (0,0,[])=_;rw[Ek _ (show iN L3.st 1=_ by rw[H];exact wL.2.2.2.2.1.1)];have:L3.next 1={L3 with st:=1,ns:=L3.fs,nm:=L3.fm,sz:=255}:=by unfold LS.next;rw[ag dS]
     rw[this];rfl
    have k1:=k3.ko 1;obtain⟨L1,Q⟩:=fP ((ko L3 1).1);rw[Q]at k1;have V:L1={L3 with st:=1,ns:=L3.fs,nm:=L3.fm,sz:=255}:=by rw[<-Q,d1]
    have y:LI g L1:=by
     refine⟨?_,?_,?_,?_,?_,?_,k1⟩
     ·rw[V,<-U];exact h.fs
     ·rw[V,<-U];exact h.fm
     ·rw[V,<-U];exact h.fs
     ·rw[V,<-U];exact h.fm
     ·rw[V];exact λh=>absurd h (by show¬(6:Int)<=1;decide)
     ·rw[V];exact .inl rfl
    have how:L1.ow=L.ow:=by rw[V,<-U]
    obtain⟨u1,u2,u3,u4,u5⟩:=Wr u y (by rw[V]);have S:jB L=((ko L1 0).1,(ko L1 0).2.1):=by
     unfold jB;rw[Z,ag H,T,Q,d1];rfl
    rw[S];exact⟨u1,.inr ⟨A,j,by rw[u2,how],by rw[u3,how],u5,.inl u4⟩⟩
 ·have hb:(decide (4<=L.st)&&decide (L.st<=8))=false:=by
   have:=h.st;simp only[Bool.and_eq_false_iff,decide_eq_false_iff_not];omega
  have Z:j5 L=L:=by unfold j5;rw[ag hb]
  have T:lO L=[] :=by unfold lO;rw[ag hb]
  have S:jB L=(L,[]):=by
   unfold jB;rw[Z,T,ae (show¬L.st=3 by have:=h.st;omega)]
  rw[S];exact⟨h,.inl ⟨rfl,rfl,rfl,λ_=>rfl,λh=>absurd h A⟩⟩
theorem CA {x:Int} (h0:0<=x)(h1:x<=255):vU x=true:=by
 unfold vU;simp;omega
theorem xV(hc:code=1 \/code=2)(hi:0<=id/\id<=255)(Q:1<=g/\g<=255):ju code id (nW g)=0:=by
 have T:=CA hi.1 hi.2;have S:vU g=true:=CA dP Q.2;unfold ju nW;rw[ae (by rw[T];simp;omega),ae gN,ae dP];have V:vU 1=true:=CA dS dS;have U:vU 5=true:=CA dS dS;have Z:vU 255=true:=CA dS dS;simp[oK,V,U,Z,S]
theorem U1(hg:1<=g'/\g'<=255)(jq:g'≠g):lb g (nW g')=(2,nW g'):=by
 unfold lb nW rC pJ Gc vh;rw[ae gN,ae];simp;omega
structure agP(g:Int)(L L':LS)(out:List kr)(a:kr):Prop where
 li:LI g L'
 or:(L.st=9/\out=[(1,(L.ow+1) %256,nW g),a] /\L'.st=8/\L'.ow=(L.ow+1) %256/\L'.wt=3) \/(L.st=7/\out=[a] /\L'.st=9/\L'.ow=L.ow) \/((L.st=6 \/L.st=8)/\out=[a] /\L'.st=8/\L'.ow=L.ow/\L'.wt=L.wt)
theorem YT(S:1<=g/\g<=255)(U:1<=g'/\g'<=255)(E:g'≠g)(hi:0<=id/\id<=255)(h:LI g L)(V:6<=L.st):agP g L (jD L (1,id,nW g')).1 (jD L (1,id,nW g')).2.1 (2,id,nW g'):=by
 have Z:=h.k.jD (1,id,nW g');have T:jD L (1,id,nW g')=rT L id (nW g'):=by
  unfold jD;rw[ae (by rw[xV (.inl rfl) hi U];simp),ag rfl]
 rw[T]at Z⊢;have H:=Mh ⟨V,by have:=h.st;omega⟩;have Q:(lb L.nm (nW g')).1=2:=by rw[h.nm,U1 U E]
 obtain⟨D,A,y,u⟩:=wL.1;have key:∀(l:List UInt8) (nx:Int),iN L.st 6=(l,nx,0)->rT L id (nW g')=((pw l (L.next nx)).sized (nW g'),vY l (L.next nx) (2,id,nW g'),0):=λl nx hs=>by
  unfold rT;rw[ag Q,Ek _ hs,ag rfl]
 have nx:∀n:Int,¬n<=3->L.next n={L with st:=n}:=λn J=>by unfold LS.next;rw[ae J]
 have sz:∀s:LS,(s.sized (nW g')).fs=s.fs/\(s.sized (nW g')).fm=s.fm/\(s.sized (nW g')).ns=s.ns/\(s.sized (nW g')).nm=s.nm/\(s.sized (nW g')).qs=s.qs/\(s.sized (nW g')).qm=s.qm/\(s.sized (nW g')).st=s.st/\(s.sized (nW g')).ow=s.ow/\(s.sized (nW g')).wt=s.wt:=λs=>by
  unfold LS.sized;split<;>exact⟨rfl,rfl,rfl,rfl,rfl,rfl,rfl,rfl,rfl⟩
 have build:∀s:LS,yb (s.sized (nW g'))->s.fs=L.fs->s.fm=L.fm->s.ns=L.ns->s.nm=L.nm->(s.qs=255/\s.qm=g)->(6<=s.st/\s.st<=9)->LI g (s.sized (nW g')):=λs Z a b c d e f=>by
  obtain⟨j,z2,z3,z4,z5,z6,z7,_,_⟩:=sz s;exact⟨by rw[j,a,h.fs],by rw[z2,b,h.fm],by rw[z3,c,h.ns],by rw[z4,d,h.nm],λ_=>by rw[z5,z6];exact e,by rw[z7];exact .inr f,Z⟩
 rcases H with hs|hs|hs|hs
 ·have e:=key [97] 8 (by rw[hs];exact D);rw[e,nx 8 dS]at Z;rw[e,nx 8 dS];refine⟨build (pw [97] {L with st:=8}) Z rfl rfl rfl rfl (h.q V) ⟨by show(6:Int)<=8;decide,by show(8:Int)<=9;decide⟩,.inr (.inr ⟨.inl hs,rfl,?_,?_,?_⟩)⟩
  ·exact(sz _).2.2.2.2.2.2.1
  ·exact(sz _).2.2.2.2.2.2.2.1
  ·exact(sz _).2.2.2.2.2.2.2.2
 ·have e:=key [97,117] 9 (by rw[hs];exact A);rw[e,nx 9 dS]at Z;rw[e,nx 9 dS];refine⟨build (pw [97,117] {L with st:=9}) Z rfl rfl rfl rfl (h.q V) ⟨by show(6:Int)<=9;decide,by show(9:Int)<=9;decide⟩,.inr (.inl ⟨hs,rfl,?_,?_⟩)⟩
  ·exact(sz _).2.2.2.2.2.2.1
  ·exact(sz _).2.2.2.2.2.2.2.1
 ·have e:=key [97] 8 (by rw[hs];exact y);rw[e,nx 8 dS]at Z;rw[e,nx 8 dS];refine⟨build (pw [97] {L with st:=8}) Z rfl rfl rfl rfl (h.q V) ⟨by show(6:Int)<=8;decide,by show(8:Int)<=9;decide⟩,.inr (.inr ⟨.inr hs,rfl,?_,?_,?_⟩)⟩
  ·exact(sz _).2.2.2.2.2.2.1
  ·exact(sz _).2.2.2.2.2.2.2.1
  ·exact(sz _).2.2.2.2.2.2.2.2
 ·have e:=key [100,114,97] 8 (by rw[hs];exact u);rw[e,nx 8 dS]at Z;rw[e,nx 8 dS];refine⟨build (pw [100,114,97] {L with st:=8}) Z rfl rfl rfl rfl ⟨h.ns,h.nm⟩ ⟨by show(6:Int)<=8;decide,by show(8:Int)<=9;decide⟩,.inl ⟨hs,?_,?_,?_,?_⟩⟩
  ·show [(1,(L.ow+1) %256,nk L.ns L.nm),(2,id,nW g')] =_;rw[h.ns,h.nm,FD S]
  ·exact(sz _).2.2.2.2.2.2.1
  ·exact(sz _).2.2.2.2.2.2.2.1
  ·exact(sz _).2.2.2.2.2.2.2.2
theorem YU(Z:1<=g/\g<=255)(hi:0<=id/\id<=255)(V:id≠L.ow):jD L (2,id,nW g)=(L,[],6):=by
 unfold jD;rw[ae (by rw[xV (.inr rfl) hi Z];simp),ae (by show¬(2:Int)=1;decide),ae (by show¬(2:Int)=5;decide),ae (by show¬(2:Int)=6;decide)];unfold rG;rw[ag V]
theorem YV(T:1<=g/\g<=255)(h:LI g L)(U:L.st=6 \/L.st=8):LI g (jD L (2,L.ow,nW g)).1/\(jD L (2,L.ow,nW g)).2.1=[] /\(jD L (2,L.ow,nW g)).1.ow=L.ow/\(jD L (2,L.ow,nW g)).1.wt=L.wt/\(jD L (2,L.ow,nW g)).1.st=L.st+1:=by
 have Z:=h.k.jD (2,L.ow,nW g);have V:=h.q dP;have S:jD L (2,L.ow,nW g)=qU L 8 (0,L.ow,[]):=by
  unfold jD;rw[ae (by rw[xV (.inr rfl) ⟨h.k.o1,h.k.o2⟩ T];simp),ae (by show¬(2:Int)=1;decide),ae (by show¬(2:Int)=5;decide),ae (by show¬(2:Int)=6;decide)];unfold rG;rw[ae gN,ag rfl,ae (by rw[V.1,V.2,FD T];simp)]
 rw[S]at Z⊢;obtain⟨J,H⟩:=wL.2.1;have nx:∀n:Int,¬n<=3->L.next n={L with st:=n}:=λn Q=>by unfold LS.next;rw[ae Q]
 rcases U with hs|hs
 ·rw[Ek _ (show iN L.st 8=_ by rw[hs];exact J),nx 7 dS]at Z⊢;exact⟨⟨h.fs,h.fm,h.ns,h.nm,λ_=>V,.inr ⟨by show(6:Int)<=7;decide,by show(7:Int)<=9;decide⟩,Z⟩,rfl,rfl,rfl,by show(7:Int)=_;omega⟩
 ·rw[Ek _ (show iN L.st 8=_ by rw[hs];exact H),nx 9 dS]at Z⊢;exact⟨⟨h.fs,h.fm,h.ns,h.nm,λ_=>V,.inr ⟨by show(6:Int)<=9;decide,by show(9:Int)<=9;decide⟩,Z⟩,rfl,rfl,rfl,by show(9:Int)=_;omega⟩
def nV(g id:Int):mb:=76::lA 1 id (nW g)
def qP(g id:Int):mb:=76::lA 2 id (nW g)
theorem Sf(code id g:Int):(lA code id (nW g)).length=7:=by
 unfold lA;simp only[eE,qe];rfl
theorem FE(hc:code=1 \/code=2)(hi:0<=id/\id<=255)(V:1<=g/\g<=255):iF (lA code id (nW g))=(code,id,nW g,0):=by
 have e:lA code id (nW g)=[jQ code,jQ id,2,1,255,5,jQ g] :=rfl;have T:lJ [1,255,5,jQ g] =nW g:=by
  have U:lJ [1,255,5,jQ g] =[(1,255),(5,((jQ g).toNat:Int))] :=rfl;rw[U,np g dP V.2];rfl
 have Z:=np code dP dP;have S:=np id hi.1 hi.2;rw[e];unfold iF;rw[ae gN];show(if ju ((jQ code).toNat:Int) ((jQ id).toNat:Int) (lJ [1,255,5,jQ g])=0 then(((jQ code).toNat:Int),((jQ id).toNat:Int),lJ [1,255,5,jQ g],0)else(0,0,[],4))=_;rw[T,Z,S,ag (xV hc hi V)]
theorem Mj(hc:code=1 \/code=2)(hi:0<=id/\id<=255)(Z:1<=g/\g<=255):rA (code,id,nW g)=[76::lA code id (nW g)] :=by
 unfold rA;rw[ag ⟨xV hc hi Z,by show(lA code id (nW g)).length+1<=60;rw[Sf];decide⟩]
def Dg(code:Int):mb->Option Int
 |76::s=>if(iF s).2.2.2=0/\(iF s).1=code then some (iF s).2.1 else none
 |_=>none
theorem Em(code:Int) {c:UInt8} (s:List UInt8)(h:c≠76):Dg code (c::s)=ν:=by
 unfold Dg;split
 ·rename_i e;exact absurd (aK e).1 h
 ·rfl
theorem Ml {k:Int} (V:k=1 \/k=2)(hi:0<=id/\id<=255)(Z:1<=g/\g<=255):Dg code (76::lA k id (nW g))=if k=code then μ id else ν:=by
 show(if(iF (lA k id (nW g))).2.2.2=0/\(iF (lA k id (nW g))).1=code then μ (iF (lA k id (nW g))).2.1 else ν)=_;rw[FE V hi Z];by_cases e:k=code
 ·rw[ag ⟨rfl,e⟩,ag e]
 ·rw[ae (λh=>e h.2),ae e]
def ids(code:Int)(l:List mb):List Int:=l.filterMap (Dg code)
theorem kU(code:Int)(l m:List mb):ids code (l++m)=ids code l++ids code m:=by unfold ids;rw[cz]
theorem IJ(h:∀x∈l,Dg code x=ν):ids code l=[] :=by
 unfold ids;rw[List.filterMap_eq_nil_iff];exact h
theorem kK(l:List mb)(h:Dg code x=ν):ids code (x::l)=ids code l:=by unfold ids;rw[cG,h]
theorem ka {i:Int} (l:List mb)(h:Dg code x=μ i):ids code (x::l)=i::ids code l:=by unfold ids;rw[cG,h]
theorem U2 {i:Int} (h:i∈ids code l):∃x∈l,Dg code x=μ i:=by
 unfold ids at h;obtain⟨x,Z,V⟩:=cL.1 h;exact⟨x,Z,V⟩
theorem FF {i:Int} (Z:x∈l)(V:Dg code x=μ i):i∈ids code l:=by
 unfold ids;exact cL.2 ⟨x,Z,V⟩
def IK(go gi:Int)(x:mb):Prop:=(∀c s,x=c::s->c≠76) \/(∃id,0<=id/\id<=255/\x=nV go id) \/(∃id,0<=id/\id<=255/\x=qP gi id)
def xW(x:mb):Prop:=∀c s,x=c::s->c≠76
theorem xW.lk(h:xW x)(code:Int):Dg code x=ν:=by
 cases x with
 |nil=>rfl
 |cons c s=>exact Em code s (h c s rfl)
def FG(X:Int->Bool)(ow:Int)(x y:mb):Prop:=∀j id,Dg 2 x=μ j->Dg 1 y=μ id->X id=true->j<ow
structure nG(X:Int->Bool)(L:LS)(Fo Fi:List mb)(t:Nat):Prop where
 inc:(ids 2 Fi++ids 1 Fo).Pairwise (· < ·)
 le:∀i∈ids 2 Fi++ids 1 Fo,i<=L.ow
 emp:L.st=7 \/L.st=9->ids 2 Fi++ids 1 Fo=[] /\∀i∈ids 1 Fi,X i=false
 lim:Fi.Pairwise (FG X L.ow)
 KM:L.ow+(((ids 1 Fi).filter λi=> !X i).length:Nat)<=t
structure Pair(X Y:Int->Bool)(t:Nat)(g h:Int)(L M:LS)(F G:List mb):Prop where
 l:LI g L
 m:LI h M
 lu:6<=L.st
 mu:6<=M.st
 f:∀x∈F,IK g h x
 g:∀x∈G,IK h g x
 d:nG Y L F G t
 e:nG X M G F t
theorem Pair.symm(p:Pair X Y t g h L M F G):Pair Y X t h g M L G F:=⟨p.m,p.l,p.mu,p.lu,p.g,p.f,p.e,p.d⟩
theorem nG.mono {u:Nat} (p:nG X L Fo Fi t)(h:t<=u):nG X L Fo Fi u:=⟨p.inc,p.le,p.emp,p.lim,by have:=p.KM;omega⟩
theorem Pair.mono {X Y:Int->Bool} {t u:Nat} {g h:Int} {L M:LS} {F G:List mb} (p:Pair X Y t g h L M F G)(k:t<=u):Pair X Y u g h L M F G:=⟨p.l,p.m,p.lu,p.mu,p.f,p.g,p.d.mono k,p.e.mono k⟩
theorem nG.congr(p:nG X L Fo Fi t)(V:L'.st=L.st)(Z:L'.ow=L.ow):nG X L' Fo Fi t:=⟨p.inc,by rw[Z];exact p.le,by rw[V];exact p.emp,by rw[Z];exact p.lim,by rw[Z];exact p.KM⟩
theorem nG.sub {Fo' Fi':List mb} (p:nG X L Fo Fi t)(T:Fo'.Sublist Fo)(V:Fi'.Sublist Fi):nG X L Fo' Fi' t:=by
 have Z:(ids 2 Fi'++ids 1 Fo').Sublist (ids 2 Fi++ids 1 Fo):=List.Sublist.append (V.filterMap _) (T.filterMap _);have U:(ids 1 Fi').Sublist (ids 1 Fi):=V.filterMap _;refine⟨p.inc.sublist Z,λi hi=>p.le i (Z.mem hi),λh=> ?_,p.lim.sublist V,?_⟩
 ·obtain⟨a,b⟩:=p.emp h;refine⟨?_,λi hi=>b i (U.mem hi)⟩;rw[a]at Z;exact List.sublist_nil.1 Z
 ·have:=p.KM;have:=(U.filter λi=> !X i).length_le;omega
theorem Pair.sub {X Y:Int->Bool} {t:Nat} {g h:Int} {L M:LS} {F G F' G':List mb} (p:Pair X Y t g h L M F G)(Z:F'.Sublist F)(V:G'.Sublist G):Pair X Y t g h L M F' G':=
 ⟨p.l,p.m,p.lu,p.mu,λx hx=>p.f x (Z.mem hx),λx hx=>p.g x (V.mem hx),p.d.sub Z V,p.e.sub V Z⟩
theorem nG.acI(p:nG X L Fo Fi t)(h:∀x∈ps,xW x):nG X L Fo (Fi++ps) t:=by
 have Z:∀c,ids c (Fi++ps)=ids c Fi:=λc=>by rw[kU,IJ λx hx=>(h x hx).lk c,aL]
 refine⟨by rw[Z];exact p.inc,by rw[Z];exact p.le,by rw[Z,Z];exact p.emp,?_,by rw[Z];exact p.KM⟩;refine aZ.2 ⟨p.lim,?_,λx _ y hy j id _ U=>by rw[(h y hy).lk]at U;exact absurd U gN⟩;exact dx (R:=λ_ _=>True) (λ{x y} hx _ _ j id V=>by rw[(h x hx).lk]at V;exact absurd V gN) (List.pairwise_of_forall λ_ _=>trivial)
theorem nG.acJ(p:nG X L Fo Fi t)(h:∀x∈ps,xW x):nG X L (Fo++ps) Fi t:=by
 have Z:ids 1 (Fo++ps)=ids 1 Fo:=by rw[kU,IJ λx hx=>(h x hx).lk 1,aL]
 exact⟨by rw[Z];exact p.inc,by rw[Z];exact p.le,by rw[Z];exact p.emp,p.lim,p.KM⟩
theorem Pair.more(p:Pair X Y t g h L M F G)(Z:∀x∈ps,xW x):Pair X Y t g h L M (F++ps) G:=
 ⟨p.l,p.m,p.lu,p.mu,λx hx=>(aF.1 hx).elim (p.f x) λe=>.inl (Z x e),p.g,p.d.acJ Z,p.e.acI Z⟩
theorem vK(Z:1<=g/\g<=255)(hi:0<=id/\id<=255):Dg 1 (nV g id)=μ id/\Dg 2 (nV g id)=ν/\Dg 1 (qP g id)=ν/\Dg 2 (qP g id)=μ id:=by
 unfold nV qP;rw[Ml (.inl rfl) hi Z,Ml (.inl rfl) hi Z,Ml (.inr rfl) hi Z,Ml (.inr rfl) hi Z];exact⟨gN,gN,gN,gN⟩
def mark(X:Int->Bool)(i:Int)(b:Bool):Int->Bool:=λk=>if k=i then b else X k
theorem IL {i:Int} {l:List Int} (h:∀k∈l,k<i):(l.filter λk=> !mark X i b k)=l.filter λk=> !X k:=by
 refine List.filter_congr λk Z=> ?_;have:=h k Z;unfold mark;rw[ae dP]
theorem IP {i:Int} (h:∀k∈ids 1 F,k<i)(p:F.Pairwise (FG X ow)):F.Pairwise (FG (mark X i b) ow):=by
 refine dx (λ{x y} _ hy T j id U V Z=>T j id U V ?_) p;have:=h id (FF hy V);unfold mark at Z;rw[ae dP]at Z;exact Z
theorem Sg {FH:Int} (h:ow<=FH)(p:F.Pairwise (FG X ow)):F.Pairwise (FG X FH):=
 p.imp λ{x y} T j id Z V U=>by have:=T j id Z V U;omega
theorem Pair.ask(H:1<=g/\g<=255)(p:Pair X Y t g h L M F G)(ht:t+1<=255)(hl:LI g L')(S:L'.ow=L.ow+1)(hs:L'.st=6 \/L'.st=8):Pair (mark X (L.ow+1) false) Y (t+1) g h L' M (F++ [nV g (L.ow+1)]) G:=by
 have hb:=p.d.KM;have hi:0<=L.ow+1/\L.ow+1<=255:=by have:=p.l.k.o1;omega
 obtain⟨r1,D,_,_⟩:=vK H hi;have Z:ids 1 (F++ [nV g (L.ow+1)])=ids 1 F++ [L.ow+1] :=by rw[kU,ka [] r1];rfl
 have U:ids 2 (F++ [nV g (L.ow+1)])=ids 2 F:=by rw[kU,kK [] D];simp[ids]
 have Q:∀k∈ids 1 F,k<L.ow+1:=λk E=>by have:=p.d.le k (aF.2 (.inr E));omega
 refine⟨hl,p.m,dP,p.mu,λx hx=> ?_,p.g,⟨?_,?_,λh=>dP,by rw[S];exact Sg dP p.d.lim,by rw[S];omega⟩,⟨?_,?_,λh=> ?_,?_,?_⟩⟩
 ·rcases aF.1 hx with e|e
  ·exact p.f x e
  ·exact .inr (.inl ⟨_,hi.1,hi.2,ax.1 e⟩)
 ·rw[Z,<-az];refine aZ.2 ⟨p.d.inc,gN,λa J b hb=> ?_⟩;rw[ax.1 hb];have:=p.d.le a J;omega
 ·rw[Z,<-az,S];intro i hi;rcases aF.1 hi with e|e
  ·have:=p.d.le i e;omega
  ·rw[ax.1 e];exact Int.le_refl _
 ·rw[U];exact p.e.inc
 ·rw[U];exact p.e.le
 ·rw[Z,U];obtain⟨a,b⟩:=p.e.emp h;refine⟨a,λi hi=> ?_⟩;unfold mark;rcases aF.1 hi with e|e
  ·rw[ae (by have:=Q i e;omega)];exact b i e
  ·rw[ag (ax.1 e)]
 ·refine aZ.2 ⟨IP Q p.e.lim,gN,λx _ y hy j id _ V T=> ?_⟩;rw[ax.1 hy,r1]at V;injection V with V
  unfold mark at T;rw[ag V.symm]at T;exact absurd T gN
 ·rw[Z,bX,IL Q,ay];have:=p.e.KM;have:((([L.ow+1] :List Int).filter λi=> !mark X (L.ow+1) false i).length)<=1:=cy _ _;omega
theorem Pair.tick(U:1<=g/\g<=255)(p:Pair X Y t g h L M F G)(J:t+1<=255):∃X',Pair X' Y (t+1) g h (jB L).1 M (F++(jB L).2.flatMap rA) G/\(∀k∈ids 1 F,X' k=X k)/\((jB L).2.flatMap rA=[] \/(jB L).2.flatMap rA=[nV g (L.ow+1)]):=by
 obtain⟨li,Z|Z⟩:=Mi U p.l
 ·obtain⟨Z,S,V,_⟩:=Z;refine⟨X,?_,λ_ _=>rfl,.inl (by rw[Z];rfl)⟩;rw[Z];have q:Pair X Y t g h (jB L).1 M F G:=⟨li,p.m,by rw[V];exact p.lu,p.mu,p.f,p.g,p.d.congr V S,p.e⟩
  simpa using q.mono (Nat.le_succ t)
 ·obtain⟨_,_,V,T,_,h6⟩:=Z;have hb:=p.d.KM;have hi:0<=L.ow+1/\L.ow+1<=255:=by have:=p.l.k.o1;omega
  have em:(L.ow+1) %256=L.ow+1:=dP;rw[em]at V T;have e:(jB L).2.flatMap rA=[nV g (L.ow+1)] :=by
   rw[V];show rA _++ [] =_;rw[Mj (.inl rfl) hi U];rfl
  refine⟨mark X (L.ow+1) false,?_,λk Q=> ?_,.inr e⟩
  ·rw[e];exact p.ask U J li T dP
  ·have:=p.d.le k (aF.2 (.inr Q));unfold mark;rw[ae dP]
def AG(X:Int->Bool)(x:mb):Nat:=match Dg 1 x with
 |some i=>if X i=true then 2 else 3
 |none=>match x with
  |83::_=>2
  |77::_::b::_=>b.toNat+1
  |_=>1
def qQ(X:Int->Bool)(x:mb):Nat:=match Dg 1 x with
 |some i=>if X i=true then 2 else 4
 |none=>match x with
  |83::_=>2
  |77::_=>0
  |_=>1
theorem xX(Z:1<=g/\g<=255)(hi:0<=id/\id<=255)(X:Int->Bool):AG X (qP g id)=1/\qQ X (qP g id)=1:=by
 unfold AG qQ;rw[(vK Z hi).2.2.1];exact⟨rfl,rfl⟩
theorem xY(Z:1<=g/\g<=255)(hi:0<=id/\id<=255)(X:Int->Bool):AG X (nV g id)=(if X id=true then 2 else 3)/\qQ X (nV g id)=if X id=true then 2 else 4:=by
 unfold AG qQ;rw[(vK Z hi).1];exact⟨rfl,rfl⟩
theorem nG.Ws {X':Int->Bool} (hh:1<=h/\h<=255)(hi:0<=id/\id<=255)(p:nG X M (nV h id::G) F t)(Z:ids 2 em=[id])(V:(F++em).Pairwise (FG X' M.ow))(U:M.ow+(((ids 1 (F++em)).filter λi=> !X' i).length:Nat)<=t):nG X' M G (F++em) t:=by
 have r1:=(vK hh hi).1;have e:ids 2 (F++em)++ids 1 G=ids 2 F++ids 1 (nV h id::G):=by
  rw[kU,Z,ka G r1,az];rfl
 refine⟨by rw[e];exact p.inc,by rw[e];exact p.le,λhs=> ?_,V,U⟩;have:=(p.emp hs).1;rw[ka G r1]at this;simp at this
theorem Mm(Z:F.Pairwise (FG X ow))(V:em.Pairwise (FG X ow))(U:∀y∈em,∀id,Dg 1 y=μ id->X id=true->∀j∈ids 2 F,j<ow):(F++em).Pairwise (FG X ow):=
 aZ.2 ⟨Z,V,λ_ hx y hy j id a b c=>U y hy id b c j (FF hx a)⟩
structure U4(X X' Y:Int->Bool)(t:Nat)(g h:Int)(L' M:LS)(F l em:List mb)(x:mb):Prop where
 p:Pair X' Y t g h L' M (F++em) l
 old:∀k∈ids 1 F,X' k=X k
 dp:∀y∈em,AG X' y+1<=AG Y x
 wg:sm (qQ X') em+1<=qQ Y x
 st:6<=L'.st
theorem Pair.acK(hh:1<=h/\h<=255)(hi:0<=id/\id<=255)(p:Pair X Y t g h L M F (nV h id::l))(li:LI g L')(V:L'.ow=L.ow)(T:6<=L'.st)(D:L'.st=7 \/L'.st=9->L.st=7):U4 X X Y t g h L' M F l [qP h id] (nV h id):=by
 obtain⟨r1,A,H,u⟩:=vK hh hi;have S:=ka l r1;have U:=kK l A;have Z:ids 1 [qP h id] =[] :=by rw[kK _ H];rfl
 have E:ids 2 [qP h id] =[id] :=by rw[ka _ u];rfl
 have J:=xY hh hi Y;refine⟨⟨li,p.m,T,p.mu,λx hx=> ?_,λy hy=>p.g y (by simp[hy]),⟨?_,?_,λhs=> ?_,?_,?_⟩,?_⟩,λk _=>rfl,λy hy=> ?_,?_,T⟩
 ·rcases aF.1 hx with z|z
  ·exact p.f x z
  ·rw[ax.1 z];exact .inr (.inr ⟨id,hi.1,hi.2,rfl⟩)
 ·rw[kU,Z,aL,<-U];exact p.d.inc
 ·rw[kU,Z,aL,<-U,V];exact p.d.le
 ·rw[kU,Z,aL,<-U];obtain⟨a,b⟩:=p.d.emp (.inl (D hs));exact⟨a,λi hi=>b i (by rw[S];simp[hi])⟩
 ·rw[V];exact p.d.lim.sublist (bE _ _)
 ·rw[V];have:=p.d.KM;rw[S]at this;have h2:((ids 1 l).filter λi=> !Y i).length<=((id::ids 1 l).filter λi=> !Y i).length:=((bE id (ids 1 l)).filter _).length_le;omega
 ·refine nG.Ws hh hi p.e E (Mm p.e.lim gN λy hy i Q _=>by rw[ax.1 hy,H]at Q;exact absurd Q gN) ?_;rw[kU,Z,aL];exact p.e.KM
 ·rw[ax.1 hy,(xX hh hi _).1,J.1];split<;>omega
 ·show qQ _ (qP h id)+0+1<=_;rw[(xX hh hi _).2,J.2];split<;>omega
theorem Pair.req(H:1<=g/\g<=255)(hh:1<=h/\h<=255)(jq:h≠g)(ht:t<=255)(hi:0<=id/\id<=255)(p:Pair X Y t g h L M F (nV h id::l)):∃X',U4 X X' Y t g h (jD L (1,id,nW h)).1 M F l ((jD L (1,id,nW h)).2.1.flatMap rA) (nV h id):=by
 obtain⟨r1,r2,r3,r4⟩:=vK hh hi;have hb:=p.d.KM;have ho:=p.l.k.o1;have D:=ka l r1;have YW:=kK l r2;have hf:∀y∈l,IK h g y:=λy hy=>p.g y (by simp[hy]);have hack:IK g h (qP h id):=.inr (.inr ⟨id,hi.1,hi.2,rfl⟩);have T:rA (2,id,nW h)=[qP h id] :=Mj (.inr rfl) hi hh;have hM:∀j∈ids 2 F,j<M.ow:=λj hj=>by
  have h1:=p.e.inc;have h2:=p.e.le id (by rw[D];simp);rw[D]at h1;have:=(aZ.1 h1).2.2 j hj id gN;omega
 obtain⟨li,h9|h7|h68⟩:=YT H hh jq hi p.l p.lu
 ·obtain⟨s9,out,s8,Z,_⟩:=h9;obtain⟨J,agS⟩:=p.d.emp (.inr s9);have hX:Y id=false:=agS id (by rw[D];simp);have alw:((ids 1 (nV h id::l)).filter λi=> !Y i).length=((ids 1 l).filter λi=> !Y i).length+1:=by
   rw[D,List.filter_cons,hX];rfl
  have em:(L.ow+1) %256=L.ow+1:=dP;have Q:0<=L.ow+1/\L.ow+1<=255:=dP;obtain⟨q1,q2,q3,q4⟩:=vK H Q;rw[em]at out Z;have e:(jD L (1,id,nW h)).2.1.flatMap rA=[nV g (L.ow+1),qP h id] :=by
   rw[out];show rA _++(rA _++ [])=_;rw[Mj (.inl rfl) Q H,T];rfl
  have S:ids 2 l=[] /\ids 1 F=[] :=by
   rw[YW]at J;exact List.append_eq_nil_iff.1 J
  have i1:ids 1 [nV g (L.ow+1),qP h id] =[L.ow+1] :=by rw[ka _ q1,kK _ r3];rfl
  have i2:ids 2 [nV g (L.ow+1),qP h id] =[id] :=by rw[kK _ q2,ka _ r4];rfl
  refine⟨mark X (L.ow+1) true,?_⟩;rw[e];refine⟨⟨li,p.m,dP,p.mu,λx hx=> ?_,hf,⟨?_,?_,λh=>dP,?_,?_⟩,?_⟩,λk E=>by rw[S.2]at E;simp at E,λy hy=> ?_,?_,dP⟩
  ·rcases aF.1 hx with z|z
   ·exact p.f x z
   ·rcases a7.1 z with z|z
    ·exact .inr (.inl ⟨_,Q.1,Q.2,z⟩)
    ·rw[ax.1 z];exact hack
  ·rw[S.1,kU,S.2,i1];simp
  ·rw[S.1,kU,S.2,i1,Z];simp
  ·rw[Z];exact Sg dP (p.d.lim.sublist (bE _ _))
  ·rw[Z];omega
  ·refine nG.Ws hh hi p.e i2 (Mm (IP (λk E=>by rw[S.2]at E;simp at E) p.e.lim) ?_ λy hy i h1 h2=>hM) ?_
   ·refine bZ.2 ⟨λy hy j i a=>by rw[q2]at a;exact absurd a gN,gN⟩
   ·rw[kU,S.2,i1];have:(([] ++ [L.ow+1] :List Int).filter λi=> !mark X (L.ow+1) true i)=[] :=by simp[mark]
    rw[this];have:=p.e.KM;have e0:(([] :List Int).length:Nat)=0:=rfl;omega
  ·have hY:AG Y (nV h id)=3:=by rw[(xY hh hi Y).1,hX];rfl
   rw[hY];rcases a7.1 hy with z|z
   ·rw[z,(xY H Q _).1];simp[mark]
   ·rw[ax.1 z,(xX hh hi _).1];omega
  ·have hY:qQ Y (nV h id)=4:=by rw[(xY hh hi Y).2,hX];rfl
   rw[hY];show qQ _ (nV g (L.ow+1))+(qQ _ (qP h id)+0)+1<=4;rw[(xY H Q _).2,(xX hh hi _).2];simp[mark]
 ·have u:∃L',(jD L (1,id,nW h)).1=L'/\LI g L'/\L'.ow=L.ow/\6<=L'.st/\(L'.st=7 \/L'.st=9->L.st=7)/\(jD L (1,id,nW h)).2.1.flatMap rA=[qP h id] :=by
   obtain⟨s7,out,s9,Z⟩:=h7;refine⟨_,rfl,li,Z,dP,λ_=>s7,?_⟩;rw[out];show rA _++ [] =_;rw[T];rfl
  obtain⟨L',V,U,Z,A,jX,e⟩:=u;refine⟨X,?_⟩;rw[V,e];exact Pair.acK hh hi p U Z A jX
 ·have u:∃L',(jD L (1,id,nW h)).1=L'/\LI g L'/\L'.ow=L.ow/\6<=L'.st/\(L'.st=7 \/L'.st=9->L.st=7)/\(jD L (1,id,nW h)).2.1.flatMap rA=[qP h id] :=by
   obtain⟨s7,out,s8,Z,_⟩:=h68;refine⟨_,rfl,li,Z,dP,λh=>dP,?_⟩;rw[out];show rA _++ [] =_;rw[T];rfl
  obtain⟨L',V,U,Z,A,jX,e⟩:=u;refine⟨X,?_⟩;rw[V,e];exact Pair.acK hh hi p U Z A jX
theorem Pair.ack(Q:1<=g/\g<=255)(hi:0<=id/\id<=255)(p:Pair X Y t g h L M F (qP g id::l)):U4 X X Y t g h (jD L (2,id,nW g)).1 M F l ((jD L (2,id,nW g)).2.1.flatMap rA) (qP g id):=by
 obtain⟨r1,r2,r3,r4⟩:=vK Q hi;have S:=kK l r3;have YW:=ka l r4;have A:ids 2 (qP g id::l)++ids 1 F=id::(ids 2 l++ids 1 F):=by rw[YW];rfl
 have lE:¬(L.st=7 \/L.st=9):=λh=>by
  have:=(p.d.emp h).1;rw[A]at this;simp at this
 have V:=p.d.inc;have Z:=p.d.le;rw[A]at V Z;have U:=bZ.1 V;have he:nG X M l F t:=⟨by have:=p.e.inc;rw[S]at this;exact this,by have:=p.e.le;rw[S]at this;exact this,by have:=p.e.emp;rw[S]at this;exact this,p.e.lim,p.e.KM⟩
 have D:L.ow+(((ids 1 l).filter λi=> !Y i).length:Nat)<=t:=by have:=p.d.KM;rw[S]at this;exact this
 have J:=p.d.lim;have hf:∀y∈l,IK h g y:=λy hy=>p.g y (by simp[hy]);have T:sm (qQ X) [] +1<=qQ Y (qP g id):=by rw[(xX Q hi Y).2];exact Nat.le_refl _
 by_cases hw:id=L.ow
 ·have H:L.st=6 \/L.st=8:=by
   have:=p.lu;have:=p.l.st;omega
  obtain⟨a1,a2,u,_,j⟩:=YV Q p.l H;subst hw;rw[a2];have E:ids 2 l++ids 1 F=[] :=by
   cases hl:ids 2 l++ids 1 F with
   |nil=>rfl
   |cons z zs=>
    have h1:=U.1 z (by rw[hl];simp);have h2:=Z z (by rw[hl];simp);omega
  refine⟨⟨a1,p.m,by rw[j];omega,p.mu,?_,hf,⟨?_,?_,λ_=>⟨?_,λi kV=> ?_⟩,?_,?_⟩,?_⟩,λ_ _=>rfl,λy hy=>by simp at hy,T,by rw[j];omega⟩
  ·simpa using p.f
  ·rw[show F++ia rA [] =F by simp,E];exact List.Pairwise.nil
  ·rw[show F++ia rA [] =F by simp,E];exact λ_ h=>by simp at h
  ·rw[show F++ia rA [] =F by simp];exact E
  ·obtain⟨y,hy,Z3⟩:=U2 kV;cases hX:Y i
   ·rfl
   ·have:=(bZ.1 J).1 y hy L.ow i r4 Z3 hX;omega
  ·rw[u];exact J.sublist (bE _ _)
  ·rw[u];exact D
  ·rw[show F++ia rA [] =F by simp];exact he
 ·rw[YU Q hi hw];refine⟨⟨p.l,p.m,p.lu,p.mu,?_,hf,⟨?_,?_,λh=>absurd h lE,J.sublist (bE _ _),D⟩,?_⟩,λ_ _=>rfl,λy hy=>by simp at hy,T,p.lu⟩
  ·simpa using p.f
  ·rw[show F++ia rA [] =F by simp];exact U.2
  ·rw[show F++ia rA [] =F by simp];exact λi hi=>Z i (by simp[hi])
  ·rw[show F++ia rA [] =F by simp];exact he
theorem Pair.new(U:1<=g/\g<=255)(hh:1<=h/\h<=255)(l:LI g L)(m:LI h M)(s1:L.st=6)(s2:M.st=6)(w1:L.ow+1<=t)(w2:M.ow+1<=t):Pair (λ_=>false) (λ_=>false) t g h L M [nV g L.ow] [nV h M.ow] :=by
 obtain⟨q1,q2,_,_⟩:=vK U ⟨l.k.o1,l.k.o2⟩;obtain⟨r1,T,_,_⟩:=vK hh ⟨m.k.o1,m.k.o2⟩;have Z:ids 1 [nV g L.ow] =[L.ow] :=by rw[ka _ q1];rfl
 have V:ids 2 [nV g L.ow] =[] :=by rw[kK _ q2];rfl
 have b1:ids 1 [nV h M.ow] =[M.ow] :=by rw[ka _ r1];rfl
 have b2:ids 2 [nV h M.ow] =[] :=by rw[kK _ T];rfl
 refine⟨l,m,dP,dP,λx hx=> ?_,λx hx=> ?_,⟨?_,?_,λh=>dP,gN,?_⟩,⟨?_,?_,λh=>dP,gN,?_⟩⟩
 ·exact .inr (.inl ⟨_,l.k.o1,l.k.o2,ax.1 hx⟩)
 ·exact .inr (.inl ⟨_,m.k.o1,m.k.o2,ax.1 hx⟩)
 ·rw[Z,b2];simp
 ·rw[Z,b2];simp
 ·rw[b1];show L.ow+((1:Nat):Int)<=t;omega
 ·rw[b1,V];simp
 ·rw[b1,V];simp
 ·rw[Z];show M.ow+((1:Nat):Int)<=t;omega
