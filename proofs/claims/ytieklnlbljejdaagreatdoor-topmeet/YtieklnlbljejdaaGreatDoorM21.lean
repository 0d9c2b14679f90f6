import Derived.Test.YtieklnlbljejdaaGreatDoorM20
open Option renaming none → ν, some → μ
open List renaming filterMap → iA
set_option maxRecDepth 100000
namespace Go.Proofs.YtieklnlbljejdaaGreatDoor
open Go.RowKit St
namespace Rt
variable {D N c d i j k p w:Nat} {F G l:List k9} {L M:LS} {T:List (Nat×Nat)} {X:Marks} {a b m:AN} {g:Int} {q:lD} {r:iM} {t:Nat×Nat->Nat} {x:k9} {y:iP}
theorem P4(J:Norm a)(i p:Nat)(c d:Nat):(a.e c d≠(i,p)->j0 (a.op i ((a.R i).iV p)) c d=j0 a c d/\(a.op i ((a.R i).iV p)).F c d=a.F c d)/\(a.e c d=(i,p)->c<a.nc->d<2->j0 (a.op i ((a.R i).iV p)) c d=(jd (j0 a c d)).1/\(a.op i ((a.R i).iV p)).F c d=a.F c d++((jd (j0 a c d)).2.flatMap oo++Au (a.R i) p)):=by
 obtain⟨Q,E⟩:=xB (J.emp i) p;obtain⟨V,U⟩:=wT (a:=a) i p ((a.R i).iV p) (λq Z=>⟨by rw[Bw,af Z],Q q Z⟩) c d;refine⟨V,λY hc hd=> ?_⟩;obtain⟨g1,H⟩:=U Y hc hd;have S:j0 a c d=((a.R i).P p).L:=by unfold j0;rw[Y]
 rw[g1,H,E,Bw,ai rfl,S];exact⟨rfl,rfl⟩
inductive adz(a:AN)(c d:Nat)(x:k9)(l:List k9):Prop
 |other:rB x->(∀c' d',j0 (a.pop c d x l) c' d'=j0 a c' d')->(∀c' d',c'<a.nc->d'<2->∃em,(a.pop c d x l).F c' d'=(if c'=c/\d'=d then l else a.F c' d')++em/\∀y∈em,rB y)->adz a c d x l
 |link (q:kM):((∃id,0<=id/\id<=255/\x=mJ (gP (a.e c d)) id/\q=(1,id,nZ (gP (a.e c d)))) \/(∃id,0<=id/\id<=255/\x=oa (gP (a.e c (1-d))) id/\q=(2,id,nZ (gP (a.e c (1-d))))))->j0 (a.pop c d x l) c (1-d)=(jK (j0 a c (1-d)) q).1->(a.pop c d x l).F c (1-d)=a.F c (1-d)++(jK (j0 a c (1-d)) q).2.1.flatMap oo->(∀c' d',c'<a.nc->d'<2->¬(c'=c/\d'=1-d)->j0 (a.pop c d x l) c' d'=j0 a c' d'/\(a.pop c d x l).F c' d'=if c'=c/\d'=d then l else a.F c' d')->adz a c d x l
theorem Il(S:tH a)(hN:Norm a)(h:qX X t a)(hc:c<a.nc)(hd:d<2)(hF:a.F c d=x::l):adz a c d x l:=by
 have hi:=h.yW hc hd (x:=x) (by rw[hF];simp);have pr:=(h.tL hc hd hi).symm;obtain⟨r,A⟩:=gg (a.R (a.e c (1-d)).1);obtain⟨i,Z⟩:=gg ((a.e c (1-d)).1);obtain⟨p,oP⟩:=gg ((a.e c (1-d)).2);have E:a.e c (1-d)=(i,p):=aV Z oP;have Y:a.pop c d x l=(a.lv c d l).op i (jM r p x):=by unfold AN.pop;rw[A,Z,oP]
 have V:a.R i=r:=by rw[<-Z];exact A
 have Xv:J2 r:=by rw[<-V];exact hN.emp i
 obtain⟨H,_⟩:=qo Xv p x;have pB:j0 a c (1-d)=(r.P p).L:=by unfold j0;rw[E,V]
 by_cases hx:rB x
 ·have hL:∀q,((jM r p x).P q).L=(r.P q).L:=λq=>by
   cases x with
   |nil=>rfl
   |cons k s=>exact uW r p s (hx k s rfl) q
  refine .other hx (λc' d'=> ?_) λc' d' Q U=> ?_
  ·rw[Y,Ij];split
   ·rename_i e
    rw[hL,<-V];unfold j0;rw[show(a.e c' d').1=i from e];rfl
   ·rfl
  ·rw[Y,vD,yR,Ds];by_cases e:(a.e c' d').1=i
   ·rw[ai ⟨⟨Q,U⟩,e⟩];refine⟨_,rfl,λy hy=> ?_⟩;rcases(xE (H (a.e c' d').2) hx (λ_=>false) (λ_=>false)).1 with g|g
    ·rw[g]at hy;simp at hy
    ·exact g.2 y hy
   ·rw[af (λz=>e z.2)];exact⟨[],by rw[aC];rfl,λ_ h=>by simp at h⟩
 ·have gd:=rC S hc hd;have J:=rC S hc (show 1-d<2 by omega);have Ws:∃q s,x=76::s/\iY s=(q.1,q.2.1,q.2.2,0)/\((∃id,0<=id/\id<=255/\x=mJ (gP (a.e c d)) id/\q=(1,id,nZ (gP (a.e c d)))) \/(∃id,0<=id/\id<=255/\x=oa (gP (a.e c (1-d))) id/\q=(2,id,nZ (gP (a.e c (1-d)))))):=by
   rcases pr.g x (by rw[hF];simp)with g|⟨id,i1,i2,g⟩|⟨id,i1,i2,g⟩
   ·exact absurd g hx
   ·exact⟨_,_,g,Ac (.inl rfl) ⟨i1,i2⟩ gd,.inl ⟨id,i1,i2,g,rfl⟩⟩
   ·exact⟨_,_,g,Ac (.inr rfl) ⟨i1,i2⟩ J,.inr ⟨id,i1,i2,g,rfl⟩⟩
  obtain⟨q,s,Tr,uF,hq⟩:=Ws;obtain⟨k1,_,k3,_⟩:=z8 Xv p 76 s;rw[uF]at k1 k3;have o9:=wT (a:=a.lv c d l) i p (jM r p x) λu hu=>by
   rw[Tr];show((r.take p 76 s).P u).L=((a.R i).P u).L/\jk ((r.take p 76 s).P u)=[]
   rw[(tI r p s u).1,nJ (tI r p s u).2,k1,af (λz=>hu z.1),(k3 u).2.2,af (λz=>hu z.1),V];exact⟨rfl,rfl⟩
  have Zm:((jM r p x).P p).L=(jK (j0 a c (1-d)) q).1/\jk ((jM r p x).P p)=(jK (j0 a c (1-d)) q).2.1.flatMap oo:=by
   rw[Tr,pB];show((r.take p 76 s).P p).L=_/\jk ((r.take p 76 s).P p)=_;rw[(tI r p s p).1,nJ (tI r p s p).2,k1,ai ⟨rfl,rfl,rfl⟩,(k3 p).2.2,ai ⟨rfl,rfl,rfl⟩];exact⟨rfl,rfl⟩
  obtain⟨z1,z2⟩:=(o9 c (1-d)).2 E hc (by show 1-d<2;omega);refine .link q hq ?_ ?_ λc' d' Q U ju=> ?_
  ·rw[Y,z1,Zm.1]
  ·rw[Y,z2,Zm.2,sO,af eh]
  ·rw[Y];exact(o9 c' d').1 λe=>ju (S.ds _ _ _ _ Q U hc eh (e.trans E.symm))
def lb(x:k9):Option Bool:=if(Cn 1 x).isSome=true then μ true else if(Cn 2 x).isSome=true then μ false else ν
def Io(l:List k9):List Bool:=l.filterMap lb
theorem sS(l m:List k9):Io (l++m)=Io l++Io m:=by unfold Io;rw[bI]
theorem rB.lb {x:k9} (h:rB x):lb x=ν:=by unfold Rt.lb;rw[h.lk,h.lk];rfl
theorem P5(h:∀x∈l,rB x):Io l=[] :=by
 unfold Io;rw[cV];exact λx hx=>(h x hx).lb
theorem Om {id:Int} (Z:1<=g/\g<=255)(hi:0<=id/\id<=255):lb (mJ g id)=μ true/\lb (oa g id)=μ false:=by
 obtain⟨a,b,c,d⟩:=sP Z hi;unfold lb;rw[a,c,d];exact⟨rfl,rfl⟩
structure Sp where
 s0:Nat
 w0:Nat
 q0:List Bool
 s1:Nat
 w1:Nat
 q1:List Bool
def oT(s w:Nat)(b:Bool):Nat×Nat×List Bool:=
 if b=true then(if s=9 then(8,3,[true,false])else if s=7 then(9,1,[false])else(8,w,[false]))
 else if s=6 then(7,w,[])else if s=8 then(9,1,[])else(s,w,[])
def tU(s w:Nat):List (Nat×Nat×List Bool):=if s=9 then [(9,1,[])]else if w=1 then(if s=8 then [(6,3,[true]),(8,3,[true])]else [(6,3,[true])])else [(s,w-1,[])]
def Sp.SH(S:Sp):List Sp:=match S.q0 with
 |[] =>[]
 |b::r=>[⟨S.s0,S.w0,r,(oT S.s1 S.w1 b).1,(oT S.s1 S.w1 b).2.1,S.q1++(oT S.s1 S.w1 b).2.2⟩]
def Sp.FC(S:Sp):List Sp:=match S.q1 with
 |[] =>[]
 |b::r=>[⟨(oT S.s0 S.w0 b).1,(oT S.s0 S.w0 b).2.1,S.q0++(oT S.s0 S.w0 b).2.2,S.s1,S.w1,r⟩]
def vv(P:Sp->Bool):Nat->Sp->Bool
 |0,S=>S.q0.isEmpty&&S.q1.isEmpty&&P S
 |k+1,S=>if S.q0.isEmpty&&S.q1.isEmpty then P S else(S.SH++S.FC).all (vv P k)
def JK(S:Sp):Bool:=S.s0==9&&S.s1==9
def tV:Nat->Sp->Bool
 |0,S=>JK S
 |k+1,S=>JK S||(tU S.s0 S.w0).all λu=>(tU S.s1 S.w1).all λv=>vv (tV k) 12 ⟨u.1,u.2.1,u.2.2,v.1,v.2.1,v.2.2⟩
def SI:List (Nat×Nat):=[(6,1),(6,2),(6,3),(7,1),(7,2),(7,3),(8,1),(8,2),(8,3),(9,1)]
theorem adA:(SI.all λu=>SI.all λv=>tV 6 ⟨u.1,u.2,[],v.1,v.2,[]⟩)=true:=by decide+kernel
theorem SJ {P:Sp->Bool} {S:Sp} (h:vv P k S=true)(Z:S.q0=[])(Y:S.q1=[]):P S=true:=by
 cases k with
 |zero=>unfold vv at h;simp only[Bool.and_eq_true]at h;exact h.2
 |succ k=>unfold vv at h;rw[Z,Y]at h;exact h
theorem SK {P:Sp->Bool} {S T:Sp} (h:vv P k S=true)(Z:T∈S.SH++S.FC):∃j,vv P j T=true:=by
 have Y:(S.q0.isEmpty&&S.q1.isEmpty)=false:=by
  cases V:S.q0 with
  |cons b r=>rfl
  |nil=>
   cases U:S.q1 with
   |cons b r=>rfl
   |nil=>
    unfold Sp.SH Sp.FC at Z;rw[V,U]at Z;simp at Z
 cases k with
 |zero=>unfold vv at h;rw[Y]at h;simp at h
 |succ k=>
  unfold vv at h;rw[Y]at h;exact⟨k,a8.1 h T Z⟩
theorem Mg(k:Nat) {S:Sp} (h:JK S=true):tV k S=true:=by
 cases k with
 |zero=>exact h
 |succ k=>unfold tV;rw[h];rfl
def Sp.swap(S:Sp):Sp:=⟨S.s1,S.w1,S.q1,S.s0,S.w0,S.q0⟩
theorem Wy(S:Sp) {T:Sp} (h:T∈S.swap.FC):T.swap∈S.SH:=by
 unfold Sp.FC Sp.swap at h;unfold Sp.SH;cases e:S.q0 with
 |nil=>rw[e]at h;simp at h
 |cons b r=>
  rw[e]at h;simp only[List.mem_singleton]at h⊢;rw[h];rfl
structure PQ(L M:LS)(F G:List k9)(S:Sp):Prop where
 s0:L.st=(S.s0:Int)
 w0:S.s0≠9->L.wt=(S.w0:Int)
 s1:M.st=(S.s1:Int)
 w1:S.s1≠9->M.wt=(S.w1:Int)
 q0:Io F=S.q0
 q1:Io G=S.q1
 i0:ids 2 G++ids 1 F=[] \/ids 2 G++ids 1 F=[L.ow]
 i1:ids 2 F++ids 1 G=[] \/ids 2 F++ids 1 G=[M.ow]
theorem PQ.symm {S:Sp} (p:PQ L M F G S):PQ M L G F S.swap:=⟨p.s1,p.w1,p.s0,p.w0,p.q1,p.q0,p.i1,p.i0⟩
theorem PQ.more {e f:List k9} {S:Sp} (p:PQ L M F G S)(Z:∀x∈e,rB x)(hf:∀x∈f,rB x):PQ L M (F++e) (G++f) S:=by
 have a:∀c,ids c (F++e)=ids c F:=λc=>by rw[ku,Ad λx hx=>(Z x hx).lk c,aC]
 have b:∀c,ids c (G++f)=ids c G:=λc=>by rw[ku,Ad λx hx=>(hf x hx).lk c,aC]
 exact⟨p.s0,p.w0,p.s1,p.w1,by rw[sS,P5 Z,aC];exact p.q0,by rw[sS,P5 hf,aC];exact p.q1,by rw[a,b];exact p.i0,by rw[a,b];exact p.i1⟩
theorem PQ.skip {S:Sp} (p:PQ L M F (x::l) S)(hx:rB x):PQ L M F l S:=by
 have e:Io (x::l)=Io l:=by unfold Io;rw[bk,hx.lb]
 have i:=λc=>jR l (hx.lk c);exact⟨p.s0,p.w0,p.s1,p.w1,p.q0,by rw[<-e];exact p.q1,by rw[<-i];exact p.i0,by rw[<-i];exact p.i1⟩
theorem PQ.pop {X Y:Int->Bool} {t:Nat} {h:Int} {S:Sp} {q:kM} (H:1<=g/\g<=255)(hh:1<=h/\h<=255)(ju:h≠g)(ht:t<=255)(p:Pair X Y t g h L M F (x::l))(r:PQ L M F (x::l) S)
 (hq:(∃id,0<=id/\id<=255/\x=mJ h id/\q=(1,id,nZ h)) \/(∃id,0<=id/\id<=255/\x=oa g id/\q=(2,id,nZ g))):∃T∈S.FC,PQ (jK L q).1 M (F++(jK L q).2.1.flatMap oo) l T:=by
 rcases hq with⟨id,i1,V,rfl,rfl⟩|⟨id,i1,V,rfl,rfl⟩
 ·have hi:0<=id/\id<=255:=⟨i1,V⟩
  obtain⟨r1,r2,r3,r4⟩:=sP hh hi;have Q:oo (2,id,nZ h)=[oa h id] :=Ft (.inr rfl) hi hh;have hS:S.q1=true::Io l:=by rw[<-r.q1];unfold Io;rw[bk,(Om hh hi).1]
  have CJ:S.FC=[⟨(oT S.s0 S.w0 true).1,(oT S.s0 S.w0 true).2.1,S.q0++(oT S.s0 S.w0 true).2.2,S.s1,S.w1,Io l⟩] :=by unfold Sp.FC;rw[hS]
  have J3:=jI l r1;have u:=jR l r2;have J:∀em,ids 2 em=[id]->ids 2 (F++em)++ids 1 l=ids 2 F++ids 1 (mJ h id::l):=λem he=>by
   rw[ku,he,J3,aE];rfl
  have s0:=r.s0;rw[CJ];refine⟨_,au.2 rfl,?_⟩;obtain⟨li,h9|h7|Z⟩:=Wm H hh ju hi p.l p.lu
  ·obtain⟨s9,out,s8,A,E⟩:=h9;obtain⟨Wr,adt⟩:=p.d.emp (.inr s9);have hb:=p.d.JI;have hX:Y id=false:=adt id (by rw[J3];simp);have alP:((ids 1 (mJ h id::l)).filter λi=> !Y i).length=((ids 1 l).filter λi=> !Y i).length+1:=by rw[J3,List.filter_cons,hX];rfl
   have ho:=p.l.k.o1;have em:(L.ow+1) %256=L.ow+1:=eh;have kS:0<=L.ow+1/\L.ow+1<=255:=eh;obtain⟨q1,q2,q3,q4⟩:=sP H kS;rw[em]at out A;have e:(jK L (1,id,nZ h)).2.1.flatMap oo=[mJ g (L.ow+1),oa h id] :=by
    rw[out];show oo _++(oo _++ [])=_;rw[Ft (.inl rfl) kS H,Q];rfl
   have U:oT S.s0 S.w0 true=(8,3,[true,false]):=by unfold oT;rw[ai rfl,ai eh]
   rw[e,U];rw[u]at Wr;have ud:=dQ.1 Wr;have i1:ids 1 [mJ g (L.ow+1),oa h id] =[L.ow+1] :=by rw[jI _ q1,jR _ r3];rfl
   have V:ids 2 [mJ g (L.ow+1),oa h id] =[id] :=by rw[jR _ q2,jI _ r4];rfl
   refine⟨s8,λ_=>E,r.s1,r.w1,?_,rfl,.inr ?_,?_⟩
   ·rw[sS,r.q0];show S.q0++iA lb _=_;rw[bk,(Om H kS).1,bk,(Om hh hi).2];rfl
   ·rw[ud.1,ku,ud.2,i1,A];rfl
   ·rw[J _ V];exact r.i1
  ·obtain⟨s7,out,s9,A⟩:=h7;have e:(jK L (1,id,nZ h)).2.1.flatMap oo=[oa h id] :=by rw[out];show oo _++ [] =_;rw[Q];rfl
   have U:oT S.s0 S.w0 true=(9,1,[false]):=by unfold oT;rw[ai rfl,af eh,ai eh]
   rw[e,U];have i1:ids 1 [oa h id] =[] :=by rw[jR _ r3];rfl
   have V:ids 2 [oa h id] =[id] :=by rw[jI _ r4];rfl
   refine⟨s9,λh=>absurd rfl h,r.s1,r.w1,?_,rfl,?_,?_⟩
   ·rw[sS,r.q0];show S.q0++iA lb _=_;rw[bk,(Om hh hi).2];rfl
   ·rw[ku,i1,aC,<-u,A];exact r.i0
   ·rw[J _ V];exact r.i1
  ·obtain⟨s68,out,s8,A,E⟩:=Z;have e:(jK L (1,id,nZ h)).2.1.flatMap oo=[oa h id] :=by rw[out];show oo _++ [] =_;rw[Q];rfl
   have U:oT S.s0 S.w0 true=(8,S.w0,[false]):=by unfold oT;rw[ai rfl,af eh,af eh]
   rw[e,U];have i1:ids 1 [oa h id] =[] :=by rw[jR _ r3];rfl
   have V:ids 2 [oa h id] =[id] :=by rw[jI _ r4];rfl
   refine⟨s8,λ_=>by rw[E];exact r.w0 eh,r.s1,r.w1,?_,rfl,?_,?_⟩
   ·rw[sS,r.q0];show S.q0++iA lb _=_;rw[bk,(Om hh hi).2];rfl
   ·rw[ku,i1,aC,<-u,A];exact r.i0
   ·rw[J _ V];exact r.i1
 ·have hi:0<=id/\id<=255:=⟨i1,V⟩
  obtain⟨r1,r2,r3,r4⟩:=sP H hi;have hS:S.q1=false::Io l:=by rw[<-r.q1];unfold Io;rw[bk,(Om H hi).2]
  have CJ:S.FC=[⟨(oT S.s0 S.w0 false).1,(oT S.s0 S.w0 false).2.1,S.q0++(oT S.s0 S.w0 false).2.2,S.s1,S.w1,Io l⟩] :=by unfold Sp.FC;rw[hS]
  have J3:=jR l r3;have u:=jI l r4;have ll:¬(L.st=7 \/L.st=9):=λh=>by
   have:=(p.d.emp h).1;rw[u]at this;simp at this
  have pT:id=L.ow/\ids 2 l++ids 1 F=[] :=by
   have:=r.i0;rw[u]at this;rcases this with z|z
   ·simp at z
   ·have z':id::(ids 2 l++ids 1 F)=[L.ow] :=z;injection z' with z1 z2
    exact⟨z1,z2⟩
  have Z:L.st=6 \/L.st=8:=by have:=p.lu;have:=p.l.st;omega
  obtain⟨z1,z2⟩:=pT;subst z1;obtain⟨a1,a2,a3,a4,a5⟩:=Wn H p.l Z;have s0:=r.s0;rw[CJ];refine⟨_,au.2 rfl,?_⟩;rw[a2];have hF:F++List.flatMap oo [] =F:=gY;rw[hF];have vh:ids 2 F++ids 1 l=[] \/ids 2 F++ids 1 l=[M.ow] :=by rw[<-J3];exact r.i1
  rcases Z with h6|h8
  ·have U:oT S.s0 S.w0 false=(7,S.w0,[]):=by unfold oT;rw[af gY,ai eh]
   rw[U];exact⟨by rw[a5,h6];rfl,λ_=>by rw[a4];exact r.w0 eh,r.s1,r.w1,by rw[aC];exact r.q0,rfl,.inl z2,vh⟩
  ·have U:oT S.s0 S.w0 false=(9,1,[]):=by unfold oT;rw[af gY,af eh,ai eh]
   rw[U];exact⟨by rw[a5,h8];rfl,λh=>absurd rfl h,r.s1,r.w1,by rw[aC];exact r.q0,rfl,.inl z2,vh⟩
theorem adB(U:tH a)(hN:Norm a)(h:qX X t a)(ht:∀x,t x<=127)(hc:c<a.nc)(hd:d<2)(hF:a.F c d=x::l)(V:k<a.nc) {S:Sp} (Z:PQ (j0 a k 0) (j0 a k 1) (a.F k 0) (a.F k 1) S):∃T,(T=S \/T∈S.SH++S.FC)/\PQ (j0 (a.pop c d x l) k 0) (j0 (a.pop c d x l) k 1) ((a.pop c d x l).F k 0) ((a.pop c d x l).F k 1) T:=by
 have u:d=0 \/d=1:=eh;cases Il U hN h hc hd hF with
 |other hx hL xf=>
  obtain⟨e0,a0,b0⟩:=xf k 0 V eA;obtain⟨e1,Q,b1⟩:=xf k 1 V eA;refine⟨S,.inl rfl,?_⟩;rw[hL,hL,a0,Q];by_cases e:k=c
  ·subst e;rcases u with rfl|rfl
   ·rw[ai ⟨rfl,rfl⟩,af eh];rw[hF]at Z;exact(Z.symm.skip hx).symm.more b0 b1
   ·rw[af eh,ai ⟨rfl,rfl⟩];rw[hF]at Z;exact(Z.skip hx).more b0 b1
  ·rw[af (λz=>e z.1),af (λz=>e z.1)];exact Z.more b0 b1
 |link q hq hl hf A=>
  by_cases e:k=c
  ·subst e;have hi:=h.yW hc hd (x:=x) (by rw[hF];simp);have J:=(h.tL hc hd hi).symm;have gd:=rC U hc hd;have Y:=rC U hc (show 1-d<2 by omega);have ju:=aaR U hc hd (show 1-d<2 by omega) eh;have MQ:t (a.e k 0)+t (a.e k 1)<=255:=by have:=ht (a.e k 0);have:=ht (a.e k 1);omega
   obtain⟨o1,o2⟩:=A k d hc hd eh;rw[ai ⟨rfl,rfl⟩]at o2;rw[hF]at J;rcases u with rfl|rfl
   ·rw[hF]at Z;obtain⟨T,H,E⟩:=PQ.pop Y gd ju MQ J Z.symm hq;refine⟨T.swap,.inr (aw.2 (.inl (Wy S H))),?_⟩;have:=E.symm;rw[show(1:Nat)-0=1 from rfl]at hl hf;rw[o1,o2,hl,hf];exact this
   ·rw[hF]at Z;obtain⟨T,H,E⟩:=PQ.pop Y gd ju MQ J Z hq;refine⟨T,.inr (aw.2 (.inr H)),?_⟩;rw[show(1:Nat)-1=0 from rfl]at hl hf;rw[o1,o2,hl,hf];exact E
  ·refine⟨S,.inl rfl,?_⟩;obtain⟨Q,a2⟩:=A k 0 V eA (λz=>e z.1);obtain⟨b1,b2⟩:=A k 1 V eA (λz=>e z.1);rw[Q,a2,b1,b2,af (λz=>e z.1),af (λz=>e z.1)];exact Z
theorem vI.PQ {P:Sp->Bool} {a b:AN} (h:vI a b) {N k:Nat} (hI:Inv N (λ_=>k) a)(hl:N<1000000)(hk:k<=126) {c:Nat} (hc:c<a.nc) {S:Sp} {j:Nat} (E:PQ (j0 a c 0) (j0 a c 1) (a.F c 0) (a.F c 1) S)(hP:vv P j S=true):∃T i,Rt.PQ (j0 b c 0) (j0 b c 1) (b.F c 0) (b.F c 1) T/\vv P i T=true:=by
 induction h with
 |nil=>exact⟨S,j,E,hP⟩
 |snoc c' d x l p J H Q ih=>
  obtain⟨T,i,A,hi⟩:=ih;have Z:=hI.pps p hl hk;obtain⟨X,u⟩:=Z.lk;obtain⟨U,V,Y⟩:=adB Z.qP Z.nrm u (λ_=>eh) J H Q (k:=c) (by rw[p.path.same.2.1];exact hc) A;rcases V with rfl|V
  ·exact⟨U,i,Y,hi⟩
  ·obtain⟨i',kS⟩:=SK hi V;exact⟨U,i',Y,kS⟩
theorem xN.at {T:List (Nat×Nat)} {a b:AN} (h:xN T a b)(E:T.Nodup)(hB:tH a)(Q:Norm a) {c d:Nat} (hc:c<a.nc)(hd:d<2):(a.e c d∉T->j0 b c d=j0 a c d/\b.F c d=a.F c d)/\(a.e c d∈T->j0 b c d=(jd (j0 a c d)).1/\∃m,b.F c d=a.F c d++((jd (j0 a c d)).2.flatMap oo++Au m (a.e c d).2)):=by
 induction h with
 |nil=>exact⟨λ_=>⟨rfl,rfl⟩,λh=>by simp at h⟩
 | @snoc T a b i p tk hi hp ih=>
   have V:=bF.1 E;obtain⟨i1,A⟩:=ih V.1 hB Q hc;have S:=tk.path.same;obtain⟨t1,t2⟩:=P4 (tk.path.norm Q) i p c d;rw[S.2.2.1]at t1 t2;refine⟨λU=> ?_,λJ=> ?_⟩
   ·have Y:a.e c d∉T:=λz=>U (aw.2 (.inl z));have Z:a.e c d≠(i,p):=λz=>U (aw.2 (.inr (au.2 z)));rw[(t1 Z).1,(t1 Z).2];exact i1 Y
   ·rcases aw.1 J with g|g
    ·have Z:a.e c d≠(i,p):=λz=>V.2.2 _ g _ (au.2 rfl) z;rw[(t1 Z).1,(t1 Z).2];exact A g
    ·have g:=au.1 g;have Y:a.e c d∉T:=λz=>V.2.2 _ z _ (au.2 rfl) g;obtain⟨u,z2⟩:=t2 g (by rw[S.2.1];exact hc) hd;obtain⟨H,y2⟩:=i1 Y;rw[u,z2,H,y2];exact⟨rfl,b.R i,by rw[g]⟩
theorem JL(V:1<=g/\g<=255)(h:LI g L)(h6:6<=L.st)(hb:L.ow+1<=255):∃s w:Nat,(L.st=(s:Int)/\(s≠9->L.wt=(w:Int)))/\(s,w)∈SI/\∃u∈tU s w,(jd L).1.st=(u.1:Int)/\(u.1≠9->(jd L).1.wt=(u.2.1:Int))/\Io ((jd L).2.flatMap oo)=u.2.2/\ids 2 ((jd L).2.flatMap oo)=[] /\(ids 1 ((jd L).2.flatMap oo)=[] \/ids 1 ((jd L).2.flatMap oo)=[(jd L).1.ow]):=by
 obtain⟨o1,o2,o3,o4,o5,o6,o7,o8⟩:=(sH _ _ _).1 h.k.ok;have ho:=h.k.o1;obtain⟨li,Z|Z⟩:=JF V h
 ·obtain⟨Z,E,Y,Q,U⟩:=Z;have J:(jd L).2.flatMap oo=[] :=by rw[Z];rfl
  rw[J];by_cases A:L.st=9
  ·refine⟨9,1,⟨A,λh=>absurd rfl h⟩,eA,(9,1,[]),eA,?_,λh=>absurd rfl h,rfl,rfl,.inl rfl⟩;rw[Y,A];rfl
  ·have hw:=U (by have:=h.st;omega);refine⟨L.st.toNat,L.wt.toNat,⟨eh,λ_=>eh⟩,?_,(L.st.toNat,L.wt.toNat-1,[]),?_,by rw[Y];simp only;omega,λ_=>by rw[hw.2];simp only;omega,rfl,rfl,.inl rfl⟩
   ·have:L.st=6 \/L.st=7 \/L.st=8:=by have:=h.st;omega
    have vH:L.wt=2 \/L.wt=3:=eh;rcases this with e|e|e<;>rcases vH with f|f<;>rw[e,f] <;>decide
   ·unfold tU;rw[af eh,af eh];simp
 ·obtain⟨Z,E,Y,Q,U,H⟩:=Z;have hi:0<=L.ow+1/\L.ow+1<=255:=⟨eh,hb⟩
  have em:(L.ow+1) %256=L.ow+1:=eh;rw[em]at Y Q;have J:(jd L).2.flatMap oo=[mJ g (L.ow+1)] :=by
   rw[Y];show oo _++ [] =_;rw[Ft (.inl rfl) hi V];rfl
  obtain⟨q1,q2,_,_⟩:=sP V hi;have p1:Io [mJ g (L.ow+1)] =[true] :=by unfold Io;rw[bk,(Om V hi).1];rfl
  have p2:ids 2 [mJ g (L.ow+1)] =[] :=by rw[jR _ q2];rfl
  have p3:ids 1 [mJ g (L.ow+1)] =[L.ow+1] :=by rw[jI _ q1];rfl
  rw[J,p1,p2,p3,Q];rcases H with g6|⟨g8,S⟩
  ·refine⟨L.st.toNat,1,⟨eh,λ_=>E⟩,?_,(6,3,[true]),?_,g6,λ_=>U,rfl,rfl,.inr rfl⟩
   ·have:L.st=6 \/L.st=7 \/L.st=8:=eh;rcases this with e|e|e<;>rw[e] <;>decide
   ·have:L.st=6 \/L.st=7 \/L.st=8:=eh;rcases this with e|e|e<;>rw[e] <;>decide
  ·exact⟨8,1,⟨g8,λ_=>E⟩,eA,(8,3,[true]),eA,S,λ_=>U,rfl,rfl,.inr rfl⟩
def Rel(L:LS)(s w:Nat):Prop:=L.st=(s:Int)/\(s≠9->L.wt=(w:Int))/\(s,w)∈SI
theorem Ip(h:(9,w)∈SI):w=1:=by
 unfold SI at h;simpa using h
theorem Rel.uniq {s s' w':Nat} (h:Rel L s w)(g:Rel L s' w'):s'=s/\w'=w:=by
 have e:s'=s:=by have:=h.1;have:=g.1;omega
 subst e;refine⟨rfl,?_⟩;by_cases Z:s'=9
 ·subst Z;rw[Ip h.2.2,Ip g.2.2]
 ·have:=h.2.1 Z;have:=g.2.1 Z;omega
theorem JM(Y:1<=g/\g<=255)(h:LI g L)(V:6<=L.st)(hb:L.ow+1<=255):∃s w,Rel L s w:=by
 obtain⟨s,w,Z,U,_⟩:=JL Y h V hb;exact⟨s,w,Z.1,Z.2,U⟩
def Oo(a:AN)(c j:Nat):Prop:=∃s0 w0 s1 w1,Rel (j0 a c 0) s0 w0/\Rel (j0 a c 1) s1 w1/\tV j ⟨s0,w0,[],s1,w1,[]⟩=true
theorem Wz(j:Nat) {s0 w0 v0 s1 w1 v1:Nat} (Z:s0=9 \/w0=v0)(Y:s1=9 \/w1=v1):tV j ⟨s0,w0,[],s1,w1,[]⟩=tV j ⟨s0,v0,[],s1,v1,[]⟩:=by
 have U:tU s0 w0=tU s0 v0:=by
  rcases Z with h|h
  ·rw[h];rfl
  ·rw[h]
 have V:tU s1 w1=tU s1 v1:=by
  rcases Y with h|h
  ·rw[h];rfl
  ·rw[h]
 cases j with
 |zero=>rfl
 |succ k=>unfold tV;simp only[U,V];rfl
theorem Oq {n:Nat} (hT:xN (mN n) a m)(hP:vI m b)(Z:Inv N (λ_=>k) a)(hl:N+8*(mN n).length<1000000)(hk:k+1<=126)(h0:∀c d,c<a.nc->d<2->a.F c d=[])(h1:∀c d,c<a.nc->d<2->b.F c d=[])(hn:n=a.n)(hc:c<a.nc)(hi:a.iQ c=true)(hG:Oo a c (j+1)):Oo b c j:=by
 obtain⟨s0,w0,s1,w1,r0,r1,V⟩:=hG;obtain⟨nd,_,_⟩:=pz n;obtain⟨X,hX⟩:=Z.lk;have g0:=rC Z.qP hc (show 0<2 by decide);have g1:=rC Z.qP hc (show 1<2 by decide);have p0:=hX.tL hc (show 0<2 by decide) hi;have p1:=hX.tL hc (show 1<2 by decide) hi;have bd:∀d,d<2->(j0 a c d).ow+1<=255:=λd hd=>by
  have:=(hX.tL hc hd hi).d.JI;have e:(λ_:Nat×Nat=>k) (a.e c 0)+(λ_:Nat×Nat=>k) (a.e c 1)=k+k:=rfl;omega
 obtain⟨a0,b0,ra0,in0,u,hu,us,uw,uq,ui2,ui1⟩:=JL g0 p0.l p0.lu (bd 0 eA);obtain⟨a1,b1,ra1,in1,v,hv,vs,vw,vq,vi2,vi1⟩:=JL g1 p1.l p1.lu (bd 1 eA);obtain⟨z0,z0'⟩:=r0.uniq ⟨ra0.1,ra0.2,in0⟩;obtain⟨z1,z1'⟩:=r1.uniq ⟨ra1.1,ra1.2,in1⟩;subst z0 z0' z1 z1';have rL:∀d,d<2->a.e c d∈mN n:=λd hd=>by
  obtain⟨e1,e2⟩:=Z.qP.en c d hc hd;unfold mN;refine aT.2 ⟨(a.e c d).1,aQ.2 eh,?_⟩;unfold Ss;have:(a.e c d).2=0 \/(a.e c d).2=1 \/(a.e c d).2=2:=eh;rcases this with e|e|e
  ·rw[show a.e c d=((a.e c d).1,0)from aV rfl e];simp
  ·rw[show a.e c d=((a.e c d).1,1)from aV rfl e];simp
  ·rw[show a.e c d=((a.e c d).1,2)from aV rfl e];simp
 obtain⟨m0,x0,f0⟩:=(hT.at nd Z.qP Z.nrm hc (show 0<2 by decide)).2 (rL 0 eA);obtain⟨m1,x1,f1⟩:=(hT.at nd Z.qP Z.nrm hc (show 1<2 by decide)).2 (rL 1 eA);rw[h0 c 0 hc eA,bW]at f0;rw[h0 c 1 hc eA,bW]at f1;have base:PQ (j0 m c 0) (j0 m c 1) ((jd (j0 a c 0)).2.flatMap oo) ((jd (j0 a c 1)).2.flatMap oo) ⟨u.1,u.2.1,u.2.2,v.1,v.2.1,v.2.2⟩:=by
  rw[m0,m1];exact⟨us,uw,vs,vw,uq,vq,by rw[vi2,bW];exact ui1,by rw[ui2,bW];exact vi1⟩
 have hm:=base.more (wU x0 (a.e c 0).2) (wU x1 (a.e c 1).2);rw[<-f0,<-f1]at hm;have nL:vv (tV j) 12 ⟨u.1,u.2.1,u.2.2,v.1,v.2.1,v.2.2⟩=true:=by
  unfold tV at V;rw[Bool.or_eq_true]at V;rcases V with V|V
  ·unfold JK at V;simp only[Bool.and_eq_true,beq_iff_eq]at V;obtain⟨y0,y1⟩:=V;subst y0 y1;have Gv:u=(9,1,[]):=by simpa[tU]using hu
   have hv':v=(9,1,[]):=by simpa[tU]using hv
   rw[Gv,hv'];exact Mg j rfl
  ·exact a8.1 (a8.1 V u hu) v hv
 have hlen:=hT.path.same;have h:Inv (N+8*(mN n).length) (λ_=>k+1) m:=(Z.path hT.path hl λx=>Nat.le_trans (nK nd k x) hk).mono (Nat.le_refl _) (nK nd k);obtain⟨S,i,U,hSi⟩:=hP.PQ h hl hk (c:=c) (by rw[hlen.2.1];exact hc) hm nL;have Qm:=hP.path.same;have hIb:=h.pps hP hl hk;have e0:S.q0=[] :=by rw[<-U.q0,h1 c 0 hc eA];rfl
 have e1:S.q1=[] :=by rw[<-U.q1,h1 c 1 hc eA];rfl
 have ag9:=SJ hSi e0 e1;obtain⟨Y,hY⟩:=hIb.lk;have uM:c<b.nc:=by rw[Qm.2.1,hlen.2.1];exact hc
 have heb:b.e=a.e:=Qm.2.2.1.trans hlen.2.2.1;have E:b.iQ c=true:=by
  cases E:b.iQ c
  ·have:=(hY.dn c uM E 0 eA).2.1;have h6:=U.s0;have ip:=vI.iQ hP;have it:=xN.iQ hT;rw[ip,it,hi]at E;exact absurd E gY
  ·rfl
 have q0:=hY.tL uM (show 0<2 by decide) E;have q1:=hY.tL uM (show 1<2 by decide) E;rw[heb]at q0 q1;have A:∀d,d<2->(j0 b c d).ow+1<=255:=λd hd=>by
  have:=(hY.tL uM hd E).d.JI;have e:(λ_:Nat×Nat=>k+1) (b.e c 0)+(λ_:Nat×Nat=>k+1) (b.e c 1)=k+1+(k+1):=rfl;omega
 obtain⟨Q,w0',R0⟩:=JM g0 q0.l q0.lu (A 0 eA);obtain⟨H,w1',R1⟩:=JM g1 q1.l q1.lu (A 1 eA);refine⟨Q,w0',H,w1',R0,R1,?_⟩;have t0:S.s0=Q:=by have:=U.s0;have:=R0.1;omega
 have t1:S.s1=H:=by have:=U.s1;have:=R1.1;omega
 rw[Wz j (v0:=S.w0) (v1:=S.w1) (by
  by_cases J:Q=9
  ·exact .inl J
  ·right;have:=U.w0 (by rw[t0];exact J);have:=R0.2.1 J;omega) (by
  by_cases J:H=9
  ·exact .inl J
  ·right;have:=U.w1 (by rw[t1];exact J);have:=R1.2.1 J;omega),<-t0,<-t1]
 have:S=⟨S.s0,S.w0,[],S.s1,S.w1,[]⟩:=by
  cases S;simp only at e0 e1;subst e0 e1;rfl
 rw[<-this];exact ag9
where
 vI.iQ {a b:AN} (h:vI a b):b.iQ=a.iQ:=by
  induction h with
  |nil=>rfl
  |snoc c d x l _ _ _ _ ih=>exact ih
 xN.iQ {T:List (Nat×Nat)} {a b:AN} (h:xN T a b):b.iQ=a.iQ:=by
  induction h with
  |nil=>rfl
  |snoc i p _ _ _ ih=>exact ih
def aaX(a:AN):Prop:=∀c d,c<a.nc->d<2->a.iQ c=true->(j0 a c d).st=9
theorem Oo.open(h:Oo a c 0)(hd:d<2):(j0 a c d).st=9:=by
 obtain⟨s0,w0,s1,w1,V,r1,Y⟩:=h;have Z:(s0==9&&s1==9)=true:=Y;simp only[Bool.and_eq_true,beq_iff_eq]at Z;have:d=0 \/d=1:=eh;rcases this with rfl|rfl
 ·rw[V.1,Z.1];rfl
 ·rw[r1.1,Z.2];rfl
theorem qX.aha(H:Norm a)(h:qX X t a)(ho:aaX a)(i p:Nat):qX X t (a.op i ((a.R i).iV p))/\(∀c d,c<a.nc->d<2->j0 (a.op i ((a.R i).iV p)) c d=j0 a c d/\(a.op i ((a.R i).iV p)).F c d=a.F c d++(if a.e c d=(i,p)then Au (a.R i) p else [])):=by
 have Y:∀c d,c<a.nc->d<2->j0 (a.op i ((a.R i).iV p)) c d=j0 a c d/\(a.op i ((a.R i).iV p)).F c d=a.F c d++(if a.e c d=(i,p)then Au (a.R i) p else []):=λc d hc hd=>by
  obtain⟨t1,t2⟩:=P4 H i p c d;by_cases e:a.e c d=(i,p)
  ·obtain⟨u,z2⟩:=t2 e hc hd;have A:(j0 a c d).st=1 \/(j0 a c d).st=9:=by
    cases hi:a.iQ c
    ·exact .inl (h.dn c hc hi d hd).2.1
    ·exact .inr (ho c d hc hd hi)
   have S:jd (j0 a c d)=(j0 a c d,[]):=by
    have hb:(decide (4<=(j0 a c d).st)&&decide ((j0 a c d).st<=8))=false:=by
     rcases A with g|g<;>rw[g] <;>rfl
    unfold jd kj lM;rw[ai hb,ai hb,af (show¬(j0 a c d).st=3 by omega)]
   rw[u,z2,S,ai e];exact⟨rfl,rfl⟩
  ·rw[(t1 e).1,(t1 e).2,af e,aC];exact⟨rfl,rfl⟩
 have U:∀c d,∀y∈(if a.e c d=(i,p)then Au (a.R i) p else []),rB y:=λc d y hy=>by
  split at hy
  ·exact wU _ _ y hy
  ·simp at hy
 refine⟨⟨λc hc hi=> ?_,λc hc hi d hd=> ?_⟩,Y⟩
 ·obtain⟨V,Z⟩:=Y c 0 hc eA;obtain⟨b1,b2⟩:=Y c 1 hc eA;rw[V,Z,b1,b2];exact(((h.up c hc hi).more (U c 0)).symm.more (U c 1)).symm
 ·obtain⟨V,Z,J,E⟩:=h.dn c hc hi d hd;obtain⟨b1,b2⟩:=Y c d hc hd;rw[b1,b2,E];refine⟨V,Z,J,?_⟩;split
  ·rename_i e
   have Q:j0 a c d=((a.R i).P p).L:=by unfold j0;rw[e]
   unfold Au;rw[<-Q];have hb:(decide (4<=(j0 a c d).st)&&decide ((j0 a c d).st<=8))=false:=by rw[Z];rfl
   have:(jd (j0 a c d)).1.st=1:=by
    unfold jd kj lM;rw[ai hb,af (show¬(j0 a c d).st=3 by omega)];exact Z
   rw[this,af eA];rfl
  ·rfl
structure St(D N k:Nat)(y:iP):Prop where
 ok:j3 y D 0
 g:GN y
 f:jA y
 i:Inv N (λ_=>k) (iH y)
theorem St.act {D N k:Nat} {y:iP} (h:St D N k y)(Z:D<=800000000)(V:N+144<1000000)(Y:k+1<=126)(v:AV):St (D+1300000) (N+144) (k+1) (tg y v):=
 ⟨h.ok.act Z v,(h.g.act h.ok Z v).1,h.f.act h.g h.ok Z v,Inv.act h.f h.g h.ok Z h.i V Y v⟩
theorem St.round {D N k:Nat} {y:iP} (h:St D N k y)(Z:D<=800000000)(hN:N+144<1000000)(Y:k+1<=126):St (D+1300000) (N+144) (k+1) y.round:=by
 have n6:=h.ok.n6;obtain⟨a,b,_⟩:=pz y.n;refine⟨h.ok.round Z,h.g.round h.ok Z,h.f.round h.ok Z,?_⟩;exact(h.i.path (yU h.f h.ok Z) (by rw[b];omega) λx=>Nat.le_trans (nK a k x) Y).mono (by rw[b];omega) (nK a k)
theorem St.mono {D N k D' N' k':Nat} {y:iP} (h:St D N k y)(Y:D<=D')(V:N<=N')(Z:k<=k'):St D' N' k' y:=⟨h.ok.mono Y (Nat.le_refl _),h.g,h.f,h.i.mono V λ_=>Z⟩
def l5(y:iP):Nat->iP
 |0=>y
 |k+1=>(l5 y k).round
theorem xG(y:iP):∀k,(l5 y k).n=y.n/\(l5 y k).nc=y.nc/\(l5 y k).ms=y.ms/\∀x,((l5 y k).C x).e=(y.C x).e/\((l5 y k).C x).iQ=(y.C x).iQ
 |0=>⟨rfl,rfl,rfl,λ_=>⟨rfl,rfl⟩⟩
 |k+1=>by
  obtain⟨a,b,c,d⟩:=xG y k;obtain⟨a',b',c',d'⟩:=kJ (l5 y k);exact⟨a'.trans a,b'.trans b,c'.trans c,λx=>⟨(d' x).1.trans (d x).1,(d' x).2.trans (d x).2⟩⟩
theorem St.light(h:St D N k y)(Z:Still y)(Y:D<=800000000)(U:N+144<1000000)(S:k+1<=126):∃m,xN (mN y.n) (iH y) m/\vI m (iH y.round)/\Still y.round:=by
 obtain⟨X,V⟩:=h.i.lk;exact Mf h.f h.ok Y h.i U S Z.ady V (Z.zero X).1 (Z.zero X).2
theorem St.pair(h:St D N k y)(Z:Still y)(Q:D<=800000000)(J:N+144<1000000)(Y:k+1<=126)(hc:c<y.nc)(hi:(y.C c).iQ=true)(H:Oo (iH y) c (j+1)):Oo (iH y.round) c j:=by
 have n6:=h.ok.n6;obtain⟨m,U,S,V⟩:=h.light Z Q J Y;obtain⟨_,b,_⟩:=pz y.n;exact Oq U S h.i (by rw[b];omega) Y Z.f (λc d hc hd=>V.f c d (by rw[(kJ y).2.1];exact hc) hd) rfl hc hi H
theorem St.opens {D N k:Nat} {y:iP} (h:St D N k y)(E:D<=790000000)(u:N+8*144<1000000)(hk:k+8<=126):∀j,j<=6->St (D+1300000*(j+1)) (N+144*(j+1)) (k+(j+1)) (l5 y (j+1))/\Still (l5 y (j+1))/\∀c,c<y.nc->(y.C c).iQ=true->Oo (iH (l5 y (j+1))) c (6-j)
 |0,_=>by
  have Z:=h.round eh eh eh;have hs:=Cr h.f h.ok eh h.i eh eh;refine⟨Z,hs,λc hc hi=> ?_⟩;obtain⟨X,V⟩:=Z.i.lk;have Y:c<(iH y.round).nc:=by show c<y.round.nc;rw[(kJ y).2.1];exact hc
  have U:(iH y.round).iQ c=true:=by show(y.round.C c).iQ=true;rw[((kJ y).2.2.2 c).2];exact hi
  have S:=V.tL Y (show 0<2 by decide) U;have J:=V.tL Y (show 1<2 by decide) U;have bd:∀d,d<2->(j0 (iH y.round) c d).ow+1<=255:=λd hd=>by
   have:=(V.tL Y hd U).d.JI;have e:(λ_:Nat×Nat=>k+1) ((iH y.round).e c 0)+(λ_:Nat×Nat=>k+1) ((iH y.round).e c 1)=k+1+(k+1):=rfl;omega
  obtain⟨s0,w0,Q⟩:=JM (rC Z.i.qP Y eA) S.l S.lu (bd 0 eA);obtain⟨s1,w1,r1⟩:=JM (rC Z.i.qP Y eA) J.l J.lu (bd 1 eA);exact⟨s0,w0,s1,w1,Q,r1,a8.1 (a8.1 adA (s0,w0) Q.2.2) (s1,w1) r1.2.2⟩
 |j+1,hj=>by
  obtain⟨Z,s1,g1⟩:=St.opens h E u hk j eh;obtain⟨e1,e2,_,e4⟩:=xG y (j+1);have H:=Z.round eh eh eh;obtain⟨m,_,_,A⟩:=Z.light s1 eh eh eh;refine⟨H.mono eh eh eh,A,λc hc hi=> ?_⟩;have:=g1 c hc hi;rw[show 6-j=(6-(j+1))+1 by omega]at this;exact Z.pair s1 eh eh eh (by rw[e2];exact hc) (by rw[(e4 c).2];exact hi) this
structure Env(N k:Nat)(a:AN):Prop where
 i:Inv N (λ_=>k) a
 o:aaX a
 nl:∀c d,c<a.nc->d<2->∀x∈a.F c d,rB x
theorem Env.tick {N k:Nat} {a:AN} (h:Env N k a)(Y:N<1000000) {i p:Nat} (hi:i<a.n)(S:p<3):Env (N+8) k (a.op i ((a.R i).iV p))/\∀c d,c<a.nc->d<2->j0 (a.op i ((a.R i).iV p)) c d=j0 a c d/\(a.op i ((a.R i).iV p)).F c d=a.F c d++(if a.e c d=(i,p)then Au (a.R i) p else []):=by
 obtain⟨X,Z⟩:=h.i.lk;obtain⟨B,V⟩:=h.i.own;obtain⟨l1,l2⟩:=Z.aha h.i.nrm h.o i p;have s:=mQ.tick (a:=a) i p hi S;obtain⟨C,hC⟩:=s.own h.i.qP h.i.nrm V Y;refine⟨⟨⟨h.i.qP.same rfl rfl rfl,s.norm h.i.nrm,⟨C,hC⟩,⟨X,l1⟩,s.aaV h.i.qP h.i.nrm V Y Z h.i.fl⟩,λc d hc hd U=> ?_,λc d hc hd x hx=> ?_⟩,l2⟩
 ·rw[(l2 c d hc hd).1];exact h.o c d hc hd U
 ·rw[(l2 c d hc hd).2]at hx;rcases aw.1 hx with g|g
  ·exact h.nl c d hc hd x g
  ·split at g
   ·exact wU _ _ x g
   ·simp at g
theorem Env.pop {N k:Nat} {a:AN} (h:Env N k a)(E:N<1000000)(hk:k<=126) {c d:Nat} {x:k9} {l:List k9} (hc:c<a.nc)(hd:d<2)(hF:a.F c d=x::l):Env N k (a.pop c d x l)/\(∀c' d',j0 (a.pop c d x l) c' d'=j0 a c' d')/\∀c' d',c'<a.nc->d'<2->∃V,(a.pop c d x l).F c' d'=(if c'=c/\d'=d then l else a.F c' d')++V:=by
 obtain⟨X,H⟩:=h.i.lk;have hx:=h.nl c d hc hd x (by rw[hF];simp);have u:=h.i.pps ((vI.nil a).snoc c d x l hc hd hF) E hk;cases Il h.i.qP h.i.nrm H hc hd hF with
 |link q A _ _ _=>
  rcases A with⟨id,_,_,e,_⟩|⟨id,_,_,e,_⟩<;>exact absurd rfl (hx _ _ e)
 |other _ S Q=>
  refine⟨⟨u,λc' d' Y Z J=> ?_,λc' d' Y Z y hy=> ?_⟩,S,λc' d' Y Z=> ?_⟩
  ·rw[S];exact h.o c' d' Y Z J
  ·obtain⟨V,U,e2⟩:=Q c' d' Y Z;rw[U]at hy;rcases aw.1 hy with g|g
   ·split at g
    ·exact h.nl c d hc hd y (by rw[hF];simp[g])
    ·exact h.nl c' d' Y Z y g
   ·exact e2 y g
  ·obtain⟨V,U,_⟩:=Q c' d' Y Z;exact⟨V,U⟩
theorem xN.len(h:xN T a b):b.iQ=a.iQ:=by
 induction h with
 |nil=>rfl
 |snoc i p _ _ _ ih=>exact ih
theorem Aj(r:iM)(p q:Nat):((r.iV p).P q).pe=if q=p then(if(jd (r.P p).L).1.st=9 then iI (r.P p).pe else nobody)else(r.P q).pe:=by
 have V:((jb r p).P p).L.st=(jd (r.P p).L).1.st:=by unfold jb;rw[kN,ai rfl,sN]
 have Y:=λj=>(lR r p j).2;rw[k7,V];by_cases Z:(jd (r.P p).L).1.st=9
 ·rw[af (by rw[Z];simp),ai Z,((pG _ _).2.2.2.2 _).2.1,(kc _ _ _ _).2.2.2,Y,Y]
 ·rw[ai Z,af Z,(kc _ _ _ _).2.2.2,Y]
theorem Dz {c:UInt8} (s:List UInt8)(hc:c≠76)(V:(r.P i).L.st=9)(q:Nat):((r.take i c s).P q).pe=if q=i/\c=72/\(kG s).2.2=0 then jg r.id (kG s).1 (kG s).2.1 else(r.P q).pe:=by
 rw[lJ,uz i s hc,af (by rw[V];simp)];unfold mA;split
 ·rename_i Z
  by_cases Y:(kG s).2.2=0
  ·rw[ai Y,(kc _ _ _ _).2.2.2];by_cases e:q=i
   ·rw[ai e,ai ⟨e,Z,Y⟩]
   ·rw[af e,af (λz=>e z.1)]
  ·rw[af Y,af (λz=>Y z.2.2)]
 ·rename_i Z
  have U:¬(q=i/\c=72/\(kG s).2.2=0):=λz=>Z z.2.1;rw[af U];split
  ·exact(kg.state r i s q).2
  ·split
   ·unfold kD;simp only;split<;>rfl
   ·split
    ·unfold ru;split
     ·exact((np r _).2.2.2.2 q).2.1
     ·rfl
    ·rfl
theorem JN {i w:Int} (hi:1<=i/\i<=6)(hw:0<=w/\w<=6):kG [jY i,jY w] =(i,w,0):=by
 have Z:=nD i eh eh;have Y:=nD w eh eh;unfold kG;show(if [jY i,jY w].length=2/\ug (((jY i).toNat:Nat):Int) (((jY w).toNat:Nat):Int)=true then((((jY i).toNat:Nat):Int),(((jY w).toNat:Nat):Int),0)else(0,0,4))=_;rw[Z,Y,ai];refine⟨rfl,?_⟩;unfold ug;simp;omega
def Kz(i w:Int):k9:=72::[jY i,jY w]
def isH(x:k9):Prop:=∃s,x=72::s
theorem Zv(hx:x∈Au r p)(h:isH x):x=Kz r.id (iI (r.P p).pe).who:=by
 obtain⟨s,rfl⟩:=h;unfold Au at hx;split at hx
 ·rcases aP.1 hx with g|g
  ·exact g
  ·split at g
   ·obtain⟨q,_,Z⟩:=aT.1 g;unfold Dv at Z;split at Z
    ·have:=au.1 Z;exact absurd (aD this).1 eA
    ·simp at Z
   ·simp at g
 ·simp at hx
theorem adC(h:xN T a b)(hT:T.Nodup)(S:Env N k a)(hl:N+8*T.length<1000000):Env (N+8*T.length) k b/\(∀c d,c<a.nc->d<2->j0 b c d=j0 a c d)/\(∀c d,c<a.nc->d<2->(a.e c d∉T->mK b c d=mK a c d/\b.F c d=a.F c d)/\(a.e c d∈T->a.iQ c=true->mK b c d=iI (mK a c d)/\∃m:iM,m.id=((a.e c d).1:Int)+1/\(m.P (a.e c d).2).pe=mK a c d/\(m.P (a.e c d).2).L=j0 a c d/\b.F c d=a.F c d++Au m (a.e c d).2)):=by
 induction h with
 |nil=>exact⟨S,λ_ _ _ _=>rfl,λc d _ _=>⟨λ_=>⟨rfl,rfl⟩,λh=>by simp at h⟩⟩
 | @snoc T a b i p tk hi hp ih=>
   rw[aA]at hl⊢;have IC:[(i,p)].length=1:=rfl;have J:=bF.1 hT;obtain⟨e1,l1,f1⟩:=ih J.1 S eh;have Z:=tk.path.same;obtain⟨e2,l2⟩:=e1.tick eh hi hp;obtain⟨B,hB⟩:=e1.i.own;refine⟨by rw[show N+8*(T.length+ [(i,p)].length)=N+8*T.length+8 by omega];exact e2,λc d hc hd=> ?_,λc d hc hd=>⟨λH=> ?_,λkP A=> ?_⟩⟩
   ·rw[(l2 c d (by rw[Z.2.1];exact hc) hd).1];exact l1 c d hc hd
   ·have Q:a.e c d∉T:=λz=>H (aw.2 (.inl z));have V:a.e c d≠(i,p):=λz=>H (aw.2 (.inr (au.2 z)));obtain⟨g1,Y⟩:=(f1 c d hc hd).1 Q;have hF:=(l2 c d (by rw[Z.2.1];exact hc) hd).2;rw[Z.2.2.1,af V,aC]at hF;refine⟨?_,hF.trans Y⟩;rw[Ah,Z.2.2.1];split
    ·rename_i e
     rw[Aj,af (λz=>V (aV e z)),<-g1];unfold mK;rw[Z.2.2.1,e]
    ·exact g1
   ·have hF:=(l2 c d (by rw[Z.2.1];exact hc) hd).2;rw[Z.2.2.1]at hF;rcases aw.1 kP with g|g
    ·have V:a.e c d≠(i,p):=λz=>J.2.2 _ g _ (au.2 rfl) z;obtain⟨g1,m,Y,g3,g4,g5⟩:=(f1 c d hc hd).2 g A;rw[af V,aC]at hF;refine⟨?_,m,Y,g3,g4,hF.trans g5⟩;rw[Ah,Z.2.2.1];split
     ·rename_i e
      rw[Aj,af (λz=>V (aV e z)),<-g1];unfold mK;rw[Z.2.2.1,e]
     ·exact g1
    ·have g:=au.1 g;have Q:a.e c d∉T:=λz=>J.2.2 _ z _ (au.2 rfl) g;obtain⟨g1,Y⟩:=(f1 c d hc hd).1 Q;have E:((b.R i).P p).L=j0 a c d:=by
      rw[<-l1 c d hc hd];unfold j0;rw[Z.2.2.1,g]
     have u:((b.R i).P p).pe=mK a c d:=by
      rw[<-g1];unfold mK;rw[Z.2.2.1,g]
     rw[ai g,Y]at hF;have U:(jd ((b.R i).P p).L).1.st=9:=by
      have U:(j0 a c d).st=9:=S.o c d hc hd A;have hb:(decide (4<=(j0 a c d).st)&&decide ((j0 a c d).st<=8))=false:=by rw[U];rfl
      rw[E];unfold jd kj lM;rw[ai hb,af (show¬(j0 a c d).st=3 by omega)];exact U
     refine⟨?_,b.R i,?_,?_,?_,?_⟩
     ·rw[Ah,Z.2.2.1,g,ai rfl,Aj,ai rfl,ai U,u]
     ·rw[g];exact(hB.r i hi).2.2.2.1
     ·rw[g];exact u
     ·rw[g];exact E
     ·rw[g];exact hF
theorem WA(h:Env N k a)(hc:c<a.nc)(hd:d<2)(hF:a.F c d=x::l)(c' d':Nat)(J:c'<a.nc)(V:d'<2):(c'=c/\d'=1-d->∀s,x=72::s->(kG s).2.2=0->mK (a.pop c d x l) c' d'=jg ((a.e c (1-d)).1+1) (kG s).1 (kG s).2.1)/\(¬(c'=c/\d'=1-d/\isH x)->mK (a.pop c d x l) c' d'=mK a c' d'):=by
 obtain⟨X,Q⟩:=h.i.lk;obtain⟨B,u⟩:=h.i.own;have Y:=Q.yW hc hd (x:=x) (by rw[hF];simp);have H:=h.i.qP.en c (1-d) hc eh;have E:=(u.r _ H.1).2.2.2.1;have Z:((a.R (a.e c (1-d)).1).P (a.e c (1-d)).2).L.st=9:=h.o c (1-d) hc eh Y;unfold AN.pop;rw[Ah,yR];refine⟨λe s hs S=> ?_,λU=> ?_⟩
 ·rw[e.1,e.2,ai rfl,hs];show((iM.take _ _ 72 s).P _).pe=_;rw[Dz s eA Z,ai ⟨rfl,rfl,S⟩,E]
 ·by_cases e:(a.e c' d').1=(a.e c (1-d)).1
  ·rw[ai e];cases x with
   |nil=>unfold mK;rw[e];rfl
   |cons k s=>
    show((iM.take _ _ k s).P _).pe=_;have A:k≠76:=h.nl c d hc hd (k::s) (by rw[hF];simp) k s rfl;rw[Dz s A Z,af]
    ·unfold mK;rw[e]
    ·intro g;have:=h.i.qP.ds c' d' c (1-d) J V hc eh (aV e g.1);exact U ⟨this.1,this.2,s,by rw[g.2.1]⟩
  ·rw[af e];rfl
theorem Cv(hT:xN (mN a.n) a m)(hP:vI m b)(Y:Env N k a)(hl:N+8*(mN a.n).length<1000000)(hk:k<=126)(h0:∀c d,c<a.nc->d<2->a.F c d=[])(h1:∀c d,c<a.nc->d<2->b.F c d=[]):Env (N+8*(mN a.n).length) k b/\∀c d,c<a.nc->d<2->a.iQ c=true->mK b c d=jg ((a.e c d).1+1) ((a.e c (1-d)).1+1) (iI (mK a c (1-d))).who:=by
 obtain⟨nd,_,_⟩:=pz a.n;obtain⟨e1,l1,f1⟩:=adC hT nd Y hl;have hn:=hT.path.same;have hnb:=hP.path.same;have rL:∀c d,c<a.nc->d<2->a.e c d∈mN a.n:=λc d hc hd=>by
  obtain⟨e1,e2⟩:=Y.i.qP.en c d hc hd;unfold mN;refine aT.2 ⟨(a.e c d).1,aQ.2 eh,?_⟩;unfold Ss;have:(a.e c d).2=0 \/(a.e c d).2=1 \/(a.e c d).2=2:=eh;rcases this with e|e|e
  ·rw[show a.e c d=((a.e c d).1,0)from aV rfl e];simp
  ·rw[show a.e c d=((a.e c d).1,1)from aV rfl e];simp
  ·rw[show a.e c d=((a.e c d).1,2)from aV rfl e];simp
 have key:∀b',vI m b'->Env (N+8*(mN a.n).length) k b'/\∀c d,c<a.nc->d<2->a.iQ c=true->(∀x∈b'.F c (1-d),isH x->x=Kz ((a.e c (1-d)).1+1) (iI (mK a c (1-d))).who)/\((∃x∈b'.F c (1-d),isH x) \/mK b' c d=jg ((a.e c d).1+1) ((a.e c (1-d)).1+1) (iI (mK a c (1-d))).who):=λb' H=>by
  induction H with
  |nil=>
   refine⟨e1,λc d hc hd V=> ?_⟩;obtain⟨_,x,x1,x2,x3,x4⟩:=(f1 c (1-d) hc eh).2 (rL c (1-d) hc eh) V;rw[h0 c (1-d) hc eh,bW]at x4;rw[x4];refine⟨λy hy hh=> ?_,.inl ?_⟩
   ·rw[Zv hy hh,x1,x2]
   ·have S:(jd (x.P (a.e c (1-d)).2).L).1.st=9:=by
     have S:(j0 a c (1-d)).st=9:=Y.o c (1-d) hc eh V;have hb:(decide (4<=(j0 a c (1-d)).st)&&decide ((j0 a c (1-d)).st<=8))=false:=by rw[S];rfl
     rw[x3];unfold jd kj lM;rw[ai hb,af (show¬(j0 a c (1-d)).st=3 by omega)];exact S
    unfold Au;rw[ai S];exact⟨_,List.mem_cons_self,_,rfl⟩
  |snoc c' d' x l p jX kf hF ih=>
   obtain⟨ie,ih⟩:=ih;have hs:=p.path.same;obtain⟨z1,z2,z3⟩:=ie.pop eh hk jX kf hF;refine⟨z1,λc d hc hd V=> ?_⟩;obtain⟨i1,i2⟩:=ih c d hc hd V
   rename_i b'
   have uM:c<b'.nc:=by rw[hs.2.1,hn.2.1];exact hc
   have heb:b'.e=a.e:=hs.2.2.1.trans hn.2.2.1;obtain⟨em,g1⟩:=z3 c (1-d) uM eh;have J:∀y∈(b'.pop c' d' x l).F c (1-d),isH y->y∈b'.F c (1-d):=λy hy hh=>by
    obtain⟨s,rfl⟩:=hh;obtain⟨m1,_⟩:=qo (ie.i.nrm.emp (b'.e c' (1-d')).1) (b'.e c' (1-d')).2 x;unfold AN.pop at hy;rw[vD]at hy;have Cw:∀z,z∈(b'.lv c' d' l).F c (1-d)->z∈b'.F c (1-d):=λz Q=>by
     rw[sO]at Q;split at Q
     ·rename_i e;rw[e.1,e.2,hF];simp[Q]
     ·exact Q
    split at hy
    ·rcases aw.1 hy with u|u
     ·exact Cw _ u
     ·exfalso;cases m1 ((b'.lv c' d' l).e c (1-d)).2 with
      |none h=>rw[h]at u;simp at u
      |link s' _ _ _ h=>rw[h]at u;obtain⟨v,hv⟩:=rO u;exact absurd (aD hv).1 eA
      |heard s' _ _ _ _ _ _ _ h=>rw[h]at u;exact absurd (aD (au.1 u)).1 eA
      |JA k1 k2 s' _ _ _ _ h=>rw[h]at u;exact absurd (aD (au.1 u)).1 eA
    ·exact Cw _ hy
   refine⟨λy hy hh=>i1 y (J y hy hh) hh,?_⟩;have Mv:0<=(iI (mK a c (1-d))).who/\(iI (mK a c (1-d))).who<=6:=by
    obtain⟨B0,xe⟩:=Y.i.own;have E:=Y.i.qP.en c (1-d) hc eh;have iN:=(xe.r _ E.1).2.1;exact(oj.tick iN.id.1 (iN.pe (a.e c (1-d)).2 (by rw[(xe.r _ E.1).2.2.2.2];exact E.2))).who
   have U:1<=((a.e c (1-d)).1:Int)+1/\((a.e c (1-d)).1:Int)+1<=6:=by
    have:=Y.i.qP.en c (1-d) hc eh;have:=Y.i.qP.n6;omega
   obtain⟨v1,v2⟩:=WA ie jX kf hF c d uM hd;by_cases Z:c=c'/\d=1-d'/\isH x
   ·right;have GJ:1-d=d':=eh;have hx:=i1 x (by rw[Z.1,GJ,hF];simp) Z.2.2;rw[v1 ⟨Z.1,Z.2.1⟩ _ hx (by rw[JN U Mv]),JN U Mv,heb,<-Z.1,<-Z.2.1]
   ·rw[v2 Z];rcases i2 with⟨y,y1,A⟩|i2
    ·left;by_cases e:c=c'/\1-d=d'
     ·rw[e.1,e.2,hF]at y1;rcases aP.1 y1 with v|v
      ·exact absurd ⟨e.1,eh,by rw[<-v];exact A⟩ Z
      ·refine⟨y,?_,A⟩;rw[g1,ai e];simp[v]
     ·refine⟨y,?_,A⟩;rw[g1,af e];simp[y1]
    ·exact .inr i2
 obtain⟨k1,k2⟩:=key b hP;refine⟨k1,λc d hc hd V=> ?_⟩;rcases(k2 c d hc hd V).2 with⟨x,hx,_⟩|g
 ·rw[h1 c (1-d) hc eh]at hx;simp at hx
 ·exact g
def rX(a:AN)(c d:Nat):Nat:=(a.e c d).1
structure Ak(N k:Nat)(T:List (Nat×Nat))(a:AN):Prop where
 env:Env N k a
 pb:∀c d,c<a.nc->d<2->a.iQ c=true->rX a c d≠rX a c (1-d)->(mK a c d).who=(rX a c (1-d):Int)+1/\(mK a c d).both=true/\(if a.e c d∈T then 3 else 4)<=(mK a c d).left
 pn:∀c d,c<a.nc->d<2->(a.iQ c=false \/rX a c d=rX a c (1-d))->(mK a c d).who=0/\(mK a c d).both=false
 hh:∀c d,c<a.nc->d<2->a.iQ c=true->rX a c d≠rX a c (1-d)->∀x∈a.F c d,isH x->x=Kz (rX a c d+1) (rX a c (1-d)+1)
 id:∀i p,i<a.n->p<3->(∀c d,c<a.nc->d<2->a.e c d≠(i,p))->((a.R i).P p).L.st=1/\((a.R i).P p).pe.who=0/\((a.R i).P p).pe.both=false
theorem JO(Z:q.who=(r.P i).pe.who)(Y:q.both=(r.P i).pe.both):(r.meet i q).K=r.K/\(r.meet i q).O=r.O:=by
 unfold iM.meet;simp only;rw[ai ⟨Z,Y⟩];exact⟨rfl,rfl⟩
theorem Cx(h:L.st=1 \/L.st=9):jd L=(L,[]):=by
 have hb:(decide (4<=L.st)&&decide (L.st<=8))=false:=by rcases h with g|g<;>rw[g] <;>rfl
 unfold jd kj lM;rw[ai hb,ai hb,af (show¬L.st=3 by omega)]
theorem WB(h:((r.P p).L.st=9/\((iI (r.P p).pe).who=(r.P p).pe.who/\(iI (r.P p).pe).both=(r.P p).pe.both)) \/((r.P p).L.st=1/\(r.P p).pe.who=0/\(r.P p).pe.both=false)):(r.iV p).K=r.K/\(r.iV p).O=r.O/\(((jb r p).meet p (iI (r.P p).pe)).O=r.O \/(r.P p).L.st=1):=by
 have Q:jd (r.P p).L=((r.P p).L,[]):=Cx (by rcases h with g|g;exact .inr g.1;exact .inl g.1);have J:((jb r p).P p).L.st=(r.P p).L.st:=by unfold jb;rw[kN,ai rfl,sN,Q]
 have Z:=(lR r p p).2;have hK:(jb r p).K=r.K/\(jb r p).O=r.O:=⟨rfl,rfl⟩
 rw[k7,J,Z];rcases h with⟨S,Y,V⟩|⟨Y,V,U⟩
 ·rw[af (by rw[S];simp)];obtain⟨t1,t2,_⟩:=pG ((jb r p).meet p (iI (r.P p).pe)) p;obtain⟨m1,m2⟩:=JO (r:=jb r p) (i:=p) (q:=iI (r.P p).pe) (by rw[Z];exact Y) (by rw[Z];exact V);rw[t1,t2,m1,m2];exact⟨rfl,rfl,.inl rfl⟩
 ·rw[ai (by rw[Y];decide)];obtain⟨m1,m2⟩:=JO (r:=jb r p) (i:=p) (q:=nobody) (by rw[Z,V];rfl) (by rw[Z,U];rfl);rw[m1,m2];exact⟨rfl,rfl,.inr Y⟩
theorem tW(Z:q.who=0)(Y:q.both=false):(iI q).who=0/\(iI q).both=false:=by
 unfold iI;split
 ·exact⟨rfl,rfl⟩
 ·exact⟨Z,Y⟩
theorem qY(h:2<=q.left):(iI q).who=q.who/\(iI q).both=q.both/\(iI q).left=q.left-1:=by
 unfold iI;rw[af eh];exact⟨rfl,rfl,rfl⟩
theorem Ak.tick {N k:Nat} {T:List (Nat×Nat)} {a:AN} (h:Ak N k T a)(hN:N<1000000) {i p:Nat} (hi:i<a.n)(hp:p<3)(hT:(i,p)∉T):Ak (N+8) k (T++ [(i,p)]) (a.op i ((a.R i).iV p))/\(∀j,((a.op i ((a.R i).iV p)).R j).K=(a.R j).K/\((a.op i ((a.R i).iV p)).R j).O=(a.R j).O)/\∀c d,c<a.nc->d<2->∃l,(a.op i ((a.R i).iV p)).F c d=a.F c d++l/\(a.e c d≠(i,p)->l=[])/\(a.e c d=(i,p)->(a.iQ c=true->rX a c d≠rX a c (1-d)->l=Kz (rX a c d+1) (rX a c (1-d)+1)::(lE ((a.R i).O p)).flatMap Dv)/\((a.iQ c=false->l=[])/\(a.iQ c=true->rX a c d=rX a c (1-d)->l=[Kz (rX a c d+1) 0]))):=by
 obtain⟨e1,l2⟩:=h.env.tick hN hi hp;obtain⟨X,hX⟩:=h.env.i.lk;obtain⟨B,hB⟩:=h.env.i.own;have hds:=h.env.i.qP.ds;have ahc:(∃c d,c<a.nc/\d<2/\a.e c d=(i,p)/\((a.R i).P p).L=j0 a c d/\((a.R i).P p).pe=mK a c d) \/(∀c d,c<a.nc->d<2->a.e c d≠(i,p)):=by
  by_cases hex:∃c d,c<a.nc/\d<2/\a.e c d=(i,p)
  ·obtain⟨c,d,hc,hd,V⟩:=hex;exact .inl ⟨c,d,hc,hd,V,by unfold j0;rw[V],by unfold mK;rw[V]⟩
  ·exact .inr λc d hc hd e=>hex ⟨c,d,hc,hd,e⟩
 have Ii:(((a.R i).P p).L.st=9/\((iI ((a.R i).P p).pe).who=((a.R i).P p).pe.who/\(iI ((a.R i).P p).pe).both=((a.R i).P p).pe.both)) \/(((a.R i).P p).L.st=1/\((a.R i).P p).pe.who=0/\((a.R i).P p).pe.both=false):=by
  rcases ahc with⟨c,d,hc,hd,V,g1,g2⟩|ll
  ·cases Z:a.iQ c
   ·have Y:=h.pn c d hc hd (.inl Z);right;rw[g1,g2];exact⟨(hX.dn c hc Z d hd).2.1,Y⟩
   ·left;rw[g1,g2];refine⟨h.env.o c d hc hd Z,?_⟩;by_cases hl:rX a c d=rX a c (1-d)
    ·have Y:=h.pn c d hc hd (.inr hl);have:=tW Y.1 Y.2;exact⟨by rw[this.1,Y.1],by rw[this.2,Y.2]⟩
    ·have hb:=h.pb c d hc hd Z hl;rw[V,af hT]at hb;obtain⟨q1,q2,_⟩:=qY (q:=mK a c d) eh;exact⟨q1,q2⟩
  ·exact .inr (h.id i p hi hp ll)
 obtain⟨k1,k2,k3⟩:=WB Ii;have J:jd ((a.R i).P p).L=(((a.R i).P p).L,[]):=Cx (by rcases Ii with g|g;exact .inr g.1;exact .inl g.1);have Q:∀c d,mK (a.op i ((a.R i).iV p)) c d=if a.e c d=(i,p)then(if((a.R i).P p).L.st=9 then iI (mK a c d)else nobody)else mK a c d:=λc d=>by
  rw[Ah];by_cases e:(a.e c d).1=i
  ·rw[ai e,Aj,J];by_cases U:(a.e c d).2=p
   ·rw[ai U,ai (aV e U)];unfold mK;rw[e,U]
   ·rw[af U,af (λz=>U (by rw[z]))];unfold mK;rw[e]
  ·rw[af e,af (λz=>e (by rw[z]))]
 have hKO:∀j,((a.op i ((a.R i).iV p)).R j).K=(a.R j).K/\((a.op i ((a.R i).iV p)).R j).O=(a.R j).O:=λj=>by
  rw[JJ];by_cases e:j=i
  ·rw[ai e,e];exact⟨k1,k2⟩
  ·rw[af e];exact⟨rfl,rfl⟩
 have hF:∀c d,c<a.nc->d<2->∃l,(a.op i ((a.R i).iV p)).F c d=a.F c d++l/\(a.e c d≠(i,p)->l=[])/\(a.e c d=(i,p)->(a.iQ c=true->rX a c d≠rX a c (1-d)->l=Kz (rX a c d+1) (rX a c (1-d)+1)::(lE ((a.R i).O p)).flatMap Dv)/\((a.iQ c=false->l=[])/\(a.iQ c=true->rX a c d=rX a c (1-d)->l=[Kz (rX a c d+1) 0]))):=λc d hc hd=>by
  obtain⟨_,f2⟩:=l2 c d hc hd;refine⟨_,f2,λju=>af ju,λV=> ?_⟩;rw[ai V];have oP:((a.R i).P p).pe=mK a c d:=by unfold mK;rw[V]
  have pT:(a.R i).id=(rX a c d:Int)+1:=by
   unfold rX;rw[V];exact(hB.r i hi).2.2.2.1
  have H:((a.R i).P p).L=j0 a c d:=by unfold j0;rw[V]
  refine⟨λZ hl=> ?_,λZ=> ?_,λZ hl=> ?_⟩
  ·have hb:=h.pb c d hc hd Z hl;rw[V,af hT]at hb;obtain⟨q1,q2,_⟩:=qY (q:=mK a c d) eh;have S:=h.env.o c d hc hd Z;unfold Au;rw[J,oP,ai (by rw[H];exact S),q1,q2,hb.2.1,ai rfl,hb.1,pT];rw[oP]at k3;rw[k3.resolve_right (by rw[H,S];decide)];rfl
  ·have:=(hX.dn c hc Z d hd).2.1;unfold Au;rw[J,af (by rw[H,this];decide)]
  ·have Y:=h.pn c d hc hd (.inr hl);have mO:=tW Y.1 Y.2;have S:=h.env.o c d hc hd Z;unfold Au;rw[J,oP,ai (by rw[H];exact S),mO.1,mO.2,pT];rfl
 refine⟨⟨e1,λc d hc hd Z hl=> ?_,λc d hc hd Am=> ?_,λc d hc hd Z hl x hx hh=> ?_,λj q hj hq ll=> ?_⟩,hKO,hF⟩
 ·have hb:=h.pb c d hc hd Z hl;rw[Q];show _=(rX a c (1-d):Int)+1/\_/\(if a.e c d∈T++ [(i,p)]then(3:Int)else 4)<=_;by_cases e:a.e c d=(i,p)
  ·rw[e,af hT]at hb;obtain⟨q1,q2,q3⟩:=qY (q:=mK a c d) eh;have S:((a.R i).P p).L.st=9:=by
    have:=h.env.o c d hc hd Z;unfold j0 at this;rw[e]at this;exact this
   rw[ai e,ai S,q1,q2,q3,e,ai gY];exact⟨hb.1,hb.2.1,eh⟩
  ·rw[af e];refine⟨hb.1,hb.2.1,?_⟩;have A:=hb.2.2;by_cases E:a.e c d∈T
   ·rw[ai E]at A;rw[ai (by simp[E])];exact A
   ·rw[af E]at A;rw[af (by simp[E,e])];exact A
 ·have Y:=h.pn c d hc hd Am;rw[Q];split
  ·split
   ·exact tW Y.1 Y.2
   ·exact⟨rfl,rfl⟩
  ·exact Y
 ·obtain⟨l,f1,f2,f3⟩:=hF c d hc hd;rw[f1]at hx;rcases aw.1 hx with g|g
  ·exact h.hh c d hc hd Z hl x g hh
  ·by_cases e:a.e c d=(i,p)
   ·rw[(f3 e).1 Z hl]at g;rcases aP.1 g with u|u
    ·exact u
    ·obtain⟨q,_,h2⟩:=aT.1 u;obtain⟨s,rfl⟩:=hh;unfold Dv at h2;split at h2
     ·exact absurd (aD (au.1 h2)).1 eA
     ·simp at h2
   ·rw[f2 e]at g;simp at g
 ·obtain⟨z1,z2,z3⟩:=h.id j q hj hq ll;rw[JJ];by_cases e:j=i
  ·rw[ai e];show(((a.R i).iV p).P q).L.st=1/\(((a.R i).iV p).P q).pe.who=0/\(((a.R i).iV p).P q).pe.both=false;rw[Bw,Aj,J];subst e;by_cases U:q=p
   ·subst U;rw[ai rfl,ai rfl,af (by rw[z1];decide)];exact⟨z1,rfl,rfl⟩
   ·rw[af U,af U];exact⟨z1,z2,z3⟩
  ·rw[af e];exact⟨z1,z2,z3⟩
theorem Ak.tks(V:xN T a b)(h:Ak N k [] a)(hT:T.Nodup)(hl:N+8*T.length<1000000):Ak (N+8*T.length) k T b/\(∀j,(b.R j).K=(a.R j).K/\(b.R j).O=(a.R j).O)/\∀c d,c<a.nc->d<2->∃l,b.F c d=a.F c d++l/\(a.e c d∉T->l=[])/\(a.e c d∈T->(a.iQ c=true->rX a c d≠rX a c (1-d)->l=Kz (rX a c d+1) (rX a c (1-d)+1)::(lE ((a.R (a.e c d).1).O (a.e c d).2)).flatMap Dv)/\((a.iQ c=false->l=[])/\(a.iQ c=true->rX a c d=rX a c (1-d)->l=[Kz (rX a c d+1) 0]))):=by
 induction V with
 |nil=>exact⟨h,λ_=>⟨rfl,rfl⟩,λc d _ _=>⟨[],gY,λ_=>rfl,λh=>by simp at h⟩⟩
 | @snoc T a b i p V hi hp ih=>
   rw[aA]at hl⊢;have IC:[(i,p)].length=1:=rfl;have H:=bF.1 hT;have Z:(i,p)∉T:=λz=>H.2.2 _ z _ (au.2 rfl) rfl;obtain⟨s1,k1,f1⟩:=ih h H.1 eh;have Q:=V.path.same;have u:=V.len;obtain⟨s2,k2,f2⟩:=s1.tick eh hi hp Z;have J:∀c d,rX b c d=rX a c d:=λc d=>by unfold rX;rw[Q.2.2.1]
   refine⟨by rw[show N+8*(T.length+ [(i,p)].length)=N+8*T.length+8 by omega];exact s2,λj=>⟨(k2 j).1.trans (k1 j).1,(k2 j).2.trans (k1 j).2⟩,λc d hc hd=> ?_⟩;obtain⟨l1,U,a2,a3⟩:=f1 c d hc hd;obtain⟨l2,b1,b2,b3⟩:=f2 c d (by rw[Q.2.1];exact hc) hd;rw[Q.2.2.1]at b2 b3;rw[J,J,u]at b3;by_cases Y:a.e c d∈T
   ·have A:a.e c d≠(i,p):=λz=>Z (z▸Y);have S:=b2 A;rw[S,aC]at b1;exact⟨l1,b1.trans U,λz=>absurd (aw.2 (.inl Y)) z,λ_=>a3 Y⟩
   ·have S:=a2 Y;rw[S,aC]at U;refine⟨l2,by rw[b1,U],λz=>b2 λw=>z (aw.2 (.inr (au.2 w))),λz=> ?_⟩
    ·have E:a.e c d=(i,p):=by
      rcases aw.1 z with w|w
      ·exact absurd w Y
      ·exact au.1 w
     have:=b3 E;rw[(k1 i).2]at this;rw[E];exact this
def knM(r:iM)(i:Nat):k9->Int->Option PS
 |83::s=>(ji r i s).K
 |_=>r.K
def owM(r:iM)(i:Nat):k9->Nat->Int->Option PS
 |83::s=>(ji r i s).O
 |65::s=>(kD r i s).O
 |_=>r.O
theorem Iq(r:iM)(i:Nat) {c:UInt8} (s:List UInt8)(h:c≠83):knM r i (c::s)=r.K:=by
 unfold knM;split
 ·rename_i e;exact absurd (aD e).1 h
 ·rfl
theorem Ir(r:iM)(i:Nat) {c:UInt8} (s:List UInt8)(h:c≠83)(g:c≠65):owM r i (c::s)=r.O:=by
 unfold owM;split
 ·rename_i e;exact absurd (aD e).1 h
 ·rename_i e;exact absurd (aD e).1 g
 ·rfl
theorem Zw(hx:rB x)(S:(r.P i).L.st=9)(J:∀s,x=72::s->(kG s).2.2=0->(jg r.id (kG s).1 (kG s).2.1).who=(r.P i).pe.who/\(jg r.id (kG s).1 (kG s).2.1).both=(r.P i).pe.both):(jM r i x).K=knM r i x/\(jM r i x).O=owM r i x:=by
 cases x with
 |nil=>exact⟨rfl,rfl⟩
 |cons c s=>
  have hc:c≠76:=hx c s rfl;have e:jM r i (c::s)=mA r i c s:=by
   show r.take i c s=_;rw[lJ,uz i s hc,af (by rw[S];simp)]
  rw[e];unfold mA;by_cases V:c=72
  ·rw[ai V];subst V;by_cases U:(kG s).2.2=0
   ·rw[ai U];obtain⟨g1,Q⟩:=J s rfl U;obtain⟨m1,m2⟩:=JO (r:=r) (i:=i) g1 Q;exact⟨m1,m2⟩
   ·rw[af U];exact⟨rfl,rfl⟩
  ·rw[af V];by_cases Z:c=83
   ·rw[ai Z];subst Z;exact⟨rfl,rfl⟩
   ·rw[af Z];rw[Iq r i s Z];by_cases Y:c=65
    ·rw[ai Y];subst Y;refine⟨?_,rfl⟩;unfold kD;simp only;split<;>rfl
    ·rw[af Y,Ir r i s Z Y];split
     ·unfold ru;split
      ·exact⟨(np r _).1,(np r _).2.1⟩
      ·exact⟨rfl,rfl⟩
     ·exact⟨rfl,rfl⟩
theorem Ak.pop {N k:Nat} {T:List (Nat×Nat)} {a:AN} (h:Ak N k T a)(hN:N<1000000)(hk:k<=126)(hT:∀c d,c<a.nc->d<2->a.e c d∈T) {c d:Nat} {x:k9} {l:List k9} (hc:c<a.nc)(hd:d<2)(hF:a.F c d=x::l):Ak N k T (a.pop c d x l)/\(∀j,j≠rX a c (1-d)->((a.pop c d x l).R j).K=(a.R j).K/\((a.pop c d x l).R j).O=(a.R j).O)/\
 ((a.pop c d x l).R (rX a c (1-d))).K=knM (a.R (rX a c (1-d))) (a.e c (1-d)).2 x/\
 ((a.pop c d x l).R (rX a c (1-d))).O=owM (a.R (rX a c (1-d))) (a.e c (1-d)).2 x:=by
 obtain⟨X,hX⟩:=h.env.i.lk;obtain⟨B,hB⟩:=h.env.i.own;have A:x∈a.F c d:=by rw[hF];simp
 have kP:=hX.yW hc hd A;have H:=h.env.nl c d hc hd x A;have Aq:=h.env.i.qP.en c (1-d) hc eh;have hn6:=h.env.i.qP.n6;have pT:=(hB.r _ Aq.1).2.2.2.1;have h9:((a.R (rX a c (1-d))).P (a.e c (1-d)).2).L.st=9:=h.env.o c (1-d) hc eh kP;have al4:((a.R (rX a c (1-d))).P (a.e c (1-d)).2).pe=mK a c (1-d):=rfl;have U:1-(1-d)=d:=eh;have Q:∀s,x=72::s->(kG s).2.2=0->(jg ((rX a c (1-d):Int)+1) (kG s).1 (kG s).2.1).who=(mK a c (1-d)).who/\(jg ((rX a c (1-d):Int)+1) (kG s).1 (kG s).2.1).both=(mK a c (1-d)).both/\(rX a c d≠rX a c (1-d)->(jg ((rX a c (1-d):Int)+1) (kG s).1 (kG s).2.1).left=4):=λs hs Z=>by
  have AK:=((h.env.i.fl.kn c d hc hd x A).1).2 s hs Z;have al5:(a.R (a.e c d).1).id=(rX a c d:Int)+1:=(hB.r _ (h.env.i.qP.en c d hc hd).1).2.2.2.1;by_cases hl:rX a c d=rX a c (1-d)
  ·have mO:=h.pn c (1-d) hc eh (.inr (by rw[U];exact hl.symm));unfold jg;rw[ai (by rw[AK,al5,hl])];exact⟨mO.1.symm,mO.2.symm,λz=>absurd hl z⟩
  ·have hb:=h.pb c (1-d) hc eh kP (by rw[U];exact λz=>hl z.symm);rw[U]at hb;have V8:=h.hh c d hc hd kP hl x A ⟨s,hs⟩;have Tl:s=[jY ((rX a c d:Int)+1),jY ((rX a c (1-d):Int)+1)] :=by
    rw[hs]at V8;exact(aD V8).2
   have hr:kG s=((rX a c d:Int)+1,(rX a c (1-d):Int)+1,0):=by
    rw[Tl];refine JN ?_ ?_
    ·have:=h.env.i.qP.en c d hc hd;unfold rX;omega
    ·unfold rX;omega
   unfold jg;rw[hr];simp only;rw[af eh];refine⟨hb.1.symm,?_,λ_=>rfl⟩;rw[hb.2.1];simp
 have hK:=Zw (r:=a.R (rX a c (1-d))) (i:=(a.e c (1-d)).2) H h9 λs hs Z=>by
  rw[al4,show(a.R (rX a c (1-d))).id=(rX a c (1-d):Int)+1 from pT];exact⟨(Q s hs Z).1,(Q s hs Z).2.1⟩
 obtain⟨z1,z2,z3⟩:=h.env.pop hN hk hc hd hF;have oP:=λc' d' V Y=>WA h.env hc hd hF c' d' V Y;have hR:∀j,(a.pop c d x l).R j=if j=rX a c (1-d)then(jM (a.R (rX a c (1-d))) (a.e c (1-d)).2 x).core else a.R j:=λj=>rfl
 have J:∀c' d',c'<a.nc->d'<2->(mK (a.pop c d x l) c' d').who=(mK a c' d').who/\(mK (a.pop c d x l) c' d').both=(mK a c' d').both/\(a.iQ c'=true->rX a c' d'≠rX a c' (1-d')->(mK a c' d').left<=(mK (a.pop c d x l) c' d').left \/(mK (a.pop c d x l) c' d').left=4):=λc' d' V Y=>by
  obtain⟨v1,v2⟩:=oP c' d' V Y;by_cases S:c'=c/\d'=1-d/\isH x
  ·obtain⟨s,hs⟩:=S.2.2;by_cases Z:(kG s).2.2=0
   ·rw[v1 ⟨S.1,S.2.1⟩ s hs Z,S.1,S.2.1];have:=Q s hs Z;exact⟨this.1,this.2.1,λ_ hl=>.inr (this.2.2 (by rw[U]at hl;exact λz=>hl z.symm))⟩
   ·
    have:mK (a.pop c d x l) c' d'=mK a c' d':=by
     unfold AN.pop;rw[Ah,yR];split
     ·rename_i e
      rw[hs];show((iM.take _ _ 72 s).P _).pe=_;rw[Dz (r:=a.R (a.e c (1-d)).1) s eA h9,af (λw=>Z w.2.2)];unfold mK;rw[e]
     ·rfl
    rw[this];exact⟨rfl,rfl,λ_ _=>.inl (Int.le_refl _)⟩
  ·rw[v2 S];exact⟨rfl,rfl,λ_ _=>.inl (Int.le_refl _)⟩
 refine⟨⟨z1,λc' d' V Y kS E=> ?_,λc' d' V Y Am=> ?_,λc' d' V Y kS E y hy hh=> ?_,λj q hj S ll=> ?_⟩,λj hj=>by rw[hR,af hj];exact⟨rfl,rfl⟩,?_,?_⟩
 ·have hb:=h.pb c' d' V Y kS E;obtain⟨g1,g2,g3⟩:=J c' d' V Y;rw[g1,g2];refine⟨hb.1,hb.2.1,?_⟩;show(if a.e c' d'∈T then(3:Int)else 4)<=_;have r9:=hb.2.2;rw[ai (hT c' d' V Y)]at r9⊢;rcases g3 kS E with g|g<;>omega
 ·obtain⟨g1,g2,_⟩:=J c' d' V Y;rw[g1,g2];exact h.pn c' d' V Y Am
 ·
  obtain⟨m1,_⟩:=qo (h.env.i.nrm.emp (a.e c (1-d)).1) (a.e c (1-d)).2 x;have Cw:∀z,z∈(a.lv c d l).F c' d'->z∈a.F c' d':=λz Z=>by
   rw[sO]at Z;split at Z
   ·rename_i e;rw[e.1,e.2,hF];simp[Z]
   ·exact Z
  refine h.hh c' d' V Y kS E y ?_ hh;unfold AN.pop at hy;rw[vD]at hy;split at hy
  ·rcases aw.1 hy with u|u
   ·exact Cw _ u
   ·exfalso;obtain⟨w,rfl⟩:=hh;cases m1 ((a.lv c d l).e c' d').2 with
    |none h=>rw[h]at u;simp at u
    |link s' _ _ _ h=>rw[h]at u;obtain⟨v,hv⟩:=rO u;exact absurd (aD hv).1 eA
    |heard s' _ _ _ _ _ _ _ h=>rw[h]at u;exact absurd (aD (au.1 u)).1 eA
    |JA k1 k2 s' _ _ _ _ h=>rw[h]at u;exact absurd (aD (au.1 u)).1 eA
  ·exact Cw _ hy
 ·obtain⟨w1,w2,w3⟩:=h.id j q hj S ll;rw[hR];by_cases e:j=rX a c (1-d)
  ·rw[ai e];have al6:q≠(a.e c (1-d)).2:=λz=>ll c (1-d) hc eh (aV e.symm z.symm);subst e;show((jM _ _ x).P q).L.st=1/\((jM _ _ x).P q).pe.who=0/\((jM _ _ x).P q).pe.both=false;cases x with
   |nil=>exact⟨w1,w2,w3⟩
   |cons u s=>
    show((iM.take _ _ u s).P q).L.st=1/\((iM.take _ _ u s).P q).pe.who=0/\((iM.take _ _ u s).P q).pe.both=false;have hu:=H u s rfl;rw[uW _ _ s hu,Dz s hu h9,af (λw=>al6 w.1)];exact⟨w1,w2,w3⟩
  ·rw[af e];exact⟨w1,w2,w3⟩
 ·rw[hR,ai rfl];exact hK.1
 ·rw[hR,ai rfl];exact hK.2
