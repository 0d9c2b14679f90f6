import Derived.Test.YtieklnlbljejdaaGreatDoorW14
open Option renaming none → ν, some → μ
open List renaming range → gg
namespace Go.Proofs.YtieklnlbljejdaaGreatDoor
open Go.RowKit St
namespace Rt
variable {A:Nat->AN} {C:Nat->Prop} {D J N c d i j k p w z:Nat} {K:Int->Option PS} {L:LS} {T:List (Nat×Nat)} {a b m:AN} {l:List lv} {o q:PS} {r:iO} {x:lv} {y:iP}
def Rel(L:LS)(s w:Nat):Prop:=L.st=(s:Int)/\(s≠9->L.wt=(w:Int))/\(s,w)∈Ta
theorem II(h:(9,w)∈Ta):w=1:=by
 unfold Ta at h;simpa using h
theorem Rel.uniq {s s' w':Nat} (h:Rel L s w)(g:Rel L s' w'):s'=s/\w'=w:=by
 have e:s'=s:=by have:=h.1;have:=g.1;omega
 subst e;refine⟨rfl,?_⟩;by_cases Z:s'=9
 ·subst Z;rw[II h.2.2,II g.2.2]
 ·have:=h.2.1 Z;have:=g.2.1 Z;omega
theorem J0 {g:Int} (V:1<=g/\g<=255)(h:LI g L)(X:6<=L.st)(hb:L.ow+1<=255):∃s w,Rel L s w:=by
 obtain⟨s,w,Z,Y,_⟩:=JZ V h X hb;exact⟨s,w,Z.1,Z.2,Y⟩
def OH(a:AN)(c j:Nat):Prop:=∃s0 w0 s1 w1,Rel (j3 a c 0) s0 w0/\Rel (j3 a c 1) s1 w1/\ug j ⟨s0,w0,[],s1,w1,[]⟩=true
theorem WT(j:Nat) {s0 w0 v0 s1 w1 v1:Nat} (X:s0=9 \/w0=v0)(V:s1=9 \/w1=v1):ug j ⟨s0,w0,[],s1,w1,[]⟩=ug j ⟨s0,v0,[],s1,v1,[]⟩:=by
 have Z:uf s0 w0=uf s0 v0:=by
  rcases X with h|h
  ·rw[h];rfl
  ·rw[h]
 have Y:uf s1 w1=uf s1 v1:=by
  rcases V with h|h
  ·rw[h];rfl
  ·rw[h]
 cases j with
 |zero=>rfl
 |succ k=>unfold ug;simp only[Z,Y];rfl
theorem OI {n:Nat} (hT:xW (mV n) a m)(hP:vS m b)(Z:Inv N (λ_=>k) a)(hl:N+8*(mV n).length<1000000)(hk:k+1<=126)(h0:∀c d,c<a.nc->d<2->a.F c d=[])(h1:∀c d,c<a.nc->d<2->b.F c d=[])(hn:n=a.n)(hc:c<a.nc)(hi:a.iT c=true)(hG:OH a c (j+1)):OH b c j:=by
 obtain⟨s0,w0,s1,w1,r0,r1,V⟩:=hG;obtain⟨nd,_,_⟩:=pH n;obtain⟨X,hX⟩:=Z.lk;have g0:=rH Z.qU hc (show 0<2 by decide);have g1:=rH Z.qU hc (show 1<2 by decide);have p0:=hX.tT hc (show 0<2 by decide) hi;have p1:=hX.tT hc (show 1<2 by decide) hi;have bd:∀d,d<2->(j3 a c d).ow+1<=255:=λd hd=>by
  have:=(hX.tT hc hd hi).d.JW;have e:(λ_:Nat×Nat=>k) (a.e c 0)+(λ_:Nat×Nat=>k) (a.e c 1)=k+k:=rfl;omega
 obtain⟨a0,b0,ra0,in0,u,hu,us,uw,uq,ui2,ui1⟩:=JZ g0 p0.l p0.lu (bd 0 eA);obtain⟨a1,b1,ra1,in1,v,hv,vs,vw,vq,vi2,vi1⟩:=JZ g1 p1.l p1.lu (bd 1 eA);obtain⟨z0,z0'⟩:=r0.uniq ⟨ra0.1,ra0.2,in0⟩;obtain⟨z1,z1'⟩:=r1.uniq ⟨ra1.1,ra1.2,in1⟩;subst z0 z0' z1 z1';have rQ:∀d,d<2->a.e c d∈mV n:=λd hd=>by
  obtain⟨e1,e2⟩:=Z.qU.en c d hc hd;unfold mV;refine aT.2 ⟨(a.e c d).1,aP.2 eh,?_⟩;unfold SM;have:(a.e c d).2=0 \/(a.e c d).2=1 \/(a.e c d).2=2:=eh;rcases this with e|e|e
  ·rw[show a.e c d=((a.e c d).1,0)from aV rfl e];simp
  ·rw[show a.e c d=((a.e c d).1,1)from aV rfl e];simp
  ·rw[show a.e c d=((a.e c d).1,2)from aV rfl e];simp
 obtain⟨m0,x0,f0⟩:=(hT.at nd Z.qU Z.nrm hc (show 0<2 by decide)).2 (rQ 0 eA);obtain⟨m1,x1,f1⟩:=(hT.at nd Z.qU Z.nrm hc (show 1<2 by decide)).2 (rQ 1 eA);rw[h0 c 0 hc eA,bT]at f0;rw[h0 c 1 hc eA,bT]at f1;have base:PQ (j3 m c 0) (j3 m c 1) ((je (j3 a c 0)).2.flatMap ox) ((je (j3 a c 1)).2.flatMap ox) ⟨u.1,u.2.1,u.2.2,v.1,v.2.1,v.2.2⟩:=by
  rw[m0,m1];exact⟨us,uw,vs,vw,uq,vq,by rw[vi2,bT];exact ui1,by rw[ui2,bT];exact vi1⟩
 have hm:=base.more (xf x0 (a.e c 0).2) (xf x1 (a.e c 1).2);rw[<-f0,<-f1]at hm;have nO:vI (ug j) 12 ⟨u.1,u.2.1,u.2.2,v.1,v.2.1,v.2.2⟩=true:=by
  unfold ug at V;rw[Bool.or_eq_true]at V;rcases V with V|V
  ·unfold JY at V;simp only[Bool.and_eq_true,beq_iff_eq]at V;obtain⟨y0,y1⟩:=V;subst y0 y1;have GM:u=(9,1,[]):=by simpa[uf]using hu
   have hv':v=(9,1,[]):=by simpa[uf]using hv
   rw[GM,hv'];exact Mv j rfl
  ·exact aZ.1 (aZ.1 V u hu) v hv
 have hlen:=hT.path.same;have h:Inv (N+8*(mV n).length) (λ_=>k+1) m:=(Z.path hT.path hl λx=>Nat.le_trans (nN nd k x) hk).mono (Nat.le_refl _) (nN nd k);obtain⟨S,i,M,hSi⟩:=hP.PQ h hl hk (c:=c) (by rw[hlen.2.1];exact hc) hm nO;have QO:=hP.path.same;have hIb:=h.pps hP hl hk;have e0:S.q0=[] :=by rw[<-M.q0,h1 c 0 hc eA];rfl
 have e1:S.q1=[] :=by rw[<-M.q1,h1 c 1 hc eA];rfl
 have ahx:=Tb hSi e0 e1;obtain⟨Y,hY⟩:=hIb.lk;have uV:c<b.nc:=by rw[QO.2.1,hlen.2.1];exact hc
 have heb:b.e=a.e:=QO.2.2.1.trans hlen.2.2.1;have U:b.iT c=true:=by
  cases U:b.iT c
  ·have:=(hY.dn c uV U 0 eA).2.1;have h6:=M.s0;have ip:=vS.iT hP;have it:=xW.iT hT;rw[ip,it,hi]at U;exact absurd U gZ
  ·rfl
 have q0:=hY.tT uV (show 0<2 by decide) U;have q1:=hY.tT uV (show 1<2 by decide) U;rw[heb]at q0 q1;have E:∀d,d<2->(j3 b c d).ow+1<=255:=λd hd=>by
  have:=(hY.tT uV hd U).d.JW;have e:(λ_:Nat×Nat=>k+1) (b.e c 0)+(λ_:Nat×Nat=>k+1) (b.e c 1)=k+1+(k+1):=rfl;omega
 obtain⟨H,w0',R0⟩:=J0 g0 q0.l q0.lu (E 0 eA);obtain⟨G,w1',R1⟩:=J0 g1 q1.l q1.lu (E 1 eA);refine⟨H,w0',G,w1',R0,R1,?_⟩;have t0:S.s0=H:=by have:=M.s0;have:=R0.1;omega
 have t1:S.s1=G:=by have:=M.s1;have:=R1.1;omega
 rw[WT j (v0:=S.w0) (v1:=S.w1) (by
  by_cases Q:H=9
  ·exact .inl Q
  ·right;have:=M.w0 (by rw[t0];exact Q);have:=R0.2.1 Q;omega) (by
  by_cases Q:G=9
  ·exact .inl Q
  ·right;have:=M.w1 (by rw[t1];exact Q);have:=R1.2.1 Q;omega),<-t0,<-t1]
 have:S=⟨S.s0,S.w0,[],S.s1,S.w1,[]⟩:=by
  cases S;simp only at e0 e1;subst e0 e1;rfl
 rw[<-this];exact ahx
where
 vS.iT {a b:AN} (h:vS a b):b.iT=a.iT:=by
  induction h with
  |nil=>rfl
  |snoc c d x l _ _ _ _ ih=>exact ih
 xW.iT {T:List (Nat×Nat)} {a b:AN} (h:xW T a b):b.iT=a.iT:=by
  induction h with
  |nil=>rfl
  |snoc i p _ _ _ ih=>exact ih
def abq(a:AN):Prop:=∀c d,c<a.nc->d<2->a.iT c=true->(j3 a c d).st=9
theorem OH.open(h:OH a c 0)(hd:d<2):(j3 a c d).st=9:=by
 obtain⟨s0,w0,s1,w1,X,r1,Y⟩:=h;have Z:(s0==9&&s1==9)=true:=Y;simp only[Bool.and_eq_true,beq_iff_eq]at Z;have:d=0 \/d=1:=eh;rcases this with rfl|rfl
 ·rw[X.1,Z.1];rfl
 ·rw[r1.1,Z.2];rfl
theorem rj.ahy {X:Marks} {t:Nat×Nat->Nat} (M:Norm a)(h:rj X t a)(H:abq a)(i p:Nat):rj X t (a.op i ((a.R i).iY p))/\(∀c d,c<a.nc->d<2->j3 (a.op i ((a.R i).iY p)) c d=j3 a c d/\(a.op i ((a.R i).iY p)).F c d=a.F c d++(if a.e c d=(i,p)then AG (a.R i) p else [])):=by
 have Y:∀c d,c<a.nc->d<2->j3 (a.op i ((a.R i).iY p)) c d=j3 a c d/\(a.op i ((a.R i).iY p)).F c d=a.F c d++(if a.e c d=(i,p)then AG (a.R i) p else []):=λc d hc hd=>by
  obtain⟨t1,t2⟩:=Qm M i p c d;by_cases e:a.e c d=(i,p)
  ·obtain⟨z1,z2⟩:=t2 e hc hd;have G:(j3 a c d).st=1 \/(j3 a c d).st=9:=by
    cases hi:a.iT c
    ·exact .inl (h.dn c hc hi d hd).2.1
    ·exact .inr (H c d hc hd hi)
   have E:je (j3 a c d)=(j3 a c d,[]):=by
    have hb:(decide (4<=(j3 a c d).st)&&decide ((j3 a c d).st<=8))=false:=by
     rcases G with g|g<;>rw[g] <;>rfl
    unfold je kt lT;rw[ai hb,ai hb,af (show¬(j3 a c d).st=3 by omega)]
   rw[z1,z2,E,ai e];exact⟨rfl,rfl⟩
  ·rw[(t1 e).1,(t1 e).2,af e,aB];exact⟨rfl,rfl⟩
 have U:∀c d,∀y∈(if a.e c d=(i,p)then AG (a.R i) p else []),rG y:=λc d y hy=>by
  split at hy
  ·exact xf _ _ y hy
  ·simp at hy
 refine⟨⟨λc hc hi=> ?_,λc hc hi d hd=> ?_⟩,Y⟩
 ·obtain⟨V,Z⟩:=Y c 0 hc eA;obtain⟨b1,b2⟩:=Y c 1 hc eA;rw[V,Z,b1,b2];exact(((h.up c hc hi).more (U c 0)).symm.more (U c 1)).symm
 ·obtain⟨V,Z,S,Q⟩:=h.dn c hc hi d hd;obtain⟨b1,b2⟩:=Y c d hc hd;rw[b1,b2,Q];refine⟨V,Z,S,?_⟩;split
  ·rename_i e
   have u:j3 a c d=((a.R i).P p).L:=by unfold j3;rw[e]
   unfold AG;rw[<-u];have hb:(decide (4<=(j3 a c d).st)&&decide ((j3 a c d).st<=8))=false:=by rw[Z];rfl
   have:(je (j3 a c d)).1.st=1:=by
    unfold je kt lT;rw[ai hb,af (show¬(j3 a c d).st=3 by omega)];exact Z
   rw[this,af eA];rfl
  ·rfl
structure St(D N k:Nat)(y:iP):Prop where
 ok:j5 y D 0
 g:GN y
 f:jE y
 i:Inv N (λ_=>k) (iJ y)
theorem St.act {D N k:Nat} {y:iP} (h:St D N k y)(Z:D<=800000000)(Y:N+144<1000000)(X:k+1<=126)(v:AV):St (D+1300000) (N+144) (k+1) (sj y v):=
 ⟨h.ok.act Z v,(h.g.act h.ok Z v).1,h.f.act h.g h.ok Z v,Inv.act h.f h.g h.ok Z h.i Y X v⟩
theorem St.round {D N k:Nat} {y:iP} (h:St D N k y)(Z:D<=800000000)(hN:N+144<1000000)(Y:k+1<=126):St (D+1300000) (N+144) (k+1) y.round:=by
 have n6:=h.ok.n6;obtain⟨a,b,_⟩:=pH y.n;refine⟨h.ok.round Z,h.g.round h.ok Z,h.f.round h.ok Z,?_⟩;exact(h.i.path (za h.f h.ok Z) (by rw[b];omega) λx=>Nat.le_trans (nN a k x) Y).mono (by rw[b];omega) (nN a k)
theorem St.mono {D N k D' N' k':Nat} {y:iP} (h:St D N k y)(Z:D<=D')(Y:N<=N')(X:k<=k'):St D' N' k' y:=⟨h.ok.mono Z (Nat.le_refl _),h.g,h.f,h.i.mono Y λ_=>X⟩
def lQ(y:iP):Nat->iP
 |0=>y
 |k+1=>(lQ y k).round
theorem xP(y:iP):∀k,(lQ y k).n=y.n/\(lQ y k).nc=y.nc/\(lQ y k).ms=y.ms/\∀x,((lQ y k).C x).e=(y.C x).e/\((lQ y k).C x).iT=(y.C x).iT
 |0=>⟨rfl,rfl,rfl,λ_=>⟨rfl,rfl⟩⟩
 |k+1=>by
  obtain⟨a,b,c,d⟩:=xP y k;obtain⟨a',b',c',d'⟩:=kM (lQ y k);exact⟨a'.trans a,b'.trans b,c'.trans c,λx=>⟨(d' x).1.trans (d x).1,(d' x).2.trans (d x).2⟩⟩
theorem St.light(h:St D N k y)(Z:Still y)(Y:D<=800000000)(V:N+144<1000000)(S:k+1<=126):∃m,xW (mV y.n) (iJ y) m/\vS m (iJ y.round)/\Still y.round:=by
 obtain⟨X,U⟩:=h.i.lk;exact Mu h.f h.ok Y h.i V S Z.adU U (Z.zero X).1 (Z.zero X).2
theorem St.pair(h:St D N k y)(Z:Still y)(S:D<=800000000)(M:N+144<1000000)(Y:k+1<=126)(hc:c<y.nc)(hi:(y.C c).iT=true)(Q:OH (iJ y) c (j+1)):OH (iJ y.round) c j:=by
 have n6:=h.ok.n6;obtain⟨m,X,V,U⟩:=h.light Z S M Y;obtain⟨_,b,_⟩:=pH y.n;exact OI X V h.i (by rw[b];omega) Y Z.f (λc d hc hd=>U.f c d (by rw[(kM y).2.1];exact hc) hd) rfl hc hi Q
theorem St.opens {D N k:Nat} {y:iP} (h:St D N k y)(u:D<=790000000)(hN:N+8*144<1000000)(hk:k+8<=126):∀j,j<=6->St (D+1300000*(j+1)) (N+144*(j+1)) (k+(j+1)) (lQ y (j+1))/\Still (lQ y (j+1))/\∀c,c<y.nc->(y.C c).iT=true->OH (iJ (lQ y (j+1))) c (6-j)
 |0,_=>by
  have Z:=h.round eh eh eh;have hs:=CG h.f h.ok eh h.i eh eh;refine⟨Z,hs,λc hc hi=> ?_⟩;obtain⟨X,V⟩:=Z.i.lk;have Y:c<(iJ y.round).nc:=by show c<y.round.nc;rw[(kM y).2.1];exact hc
  have U:(iJ y.round).iT c=true:=by show(y.round.C c).iT=true;rw[((kM y).2.2.2 c).2];exact hi
  have S:=V.tT Y (show 0<2 by decide) U;have Q:=V.tT Y (show 1<2 by decide) U;have bd:∀d,d<2->(j3 (iJ y.round) c d).ow+1<=255:=λd hd=>by
   have:=(V.tT Y hd U).d.JW;have e:(λ_:Nat×Nat=>k+1) ((iJ y.round).e c 0)+(λ_:Nat×Nat=>k+1) ((iJ y.round).e c 1)=k+1+(k+1):=rfl;omega
  obtain⟨s0,w0,M⟩:=J0 (rH Z.i.qU Y eA) S.l S.lu (bd 0 eA);obtain⟨s1,w1,r1⟩:=J0 (rH Z.i.qU Y eA) Q.l Q.lu (bd 1 eA);exact⟨s0,w0,s1,w1,M,r1,aZ.1 (aZ.1 adW (s0,w0) M.2.2) (s1,w1) r1.2.2⟩
 |j+1,hj=>by
  obtain⟨Z,s1,g1⟩:=St.opens h u hN hk j eh;obtain⟨e1,H,_,G⟩:=xP y (j+1);have E:=Z.round eh eh eh;obtain⟨m,_,_,s2⟩:=Z.light s1 eh eh eh;refine⟨E.mono eh eh eh,s2,λc hc hi=> ?_⟩;have:=g1 c hc hi;rw[show 6-j=(6-(j+1))+1 by omega]at this;exact Z.pair s1 eh eh eh (by rw[H];exact hc) (by rw[(G c).2];exact hi) this
structure Env(N k:Nat)(a:AN):Prop where
 i:Inv N (λ_=>k) a
 o:abq a
 nl:∀c d,c<a.nc->d<2->∀x∈a.F c d,rG x
theorem Env.tick {N k:Nat} {a:AN} (h:Env N k a)(Y:N<1000000) {i p:Nat} (hi:i<a.n)(U:p<3):Env (N+8) k (a.op i ((a.R i).iY p))/\∀c d,c<a.nc->d<2->j3 (a.op i ((a.R i).iY p)) c d=j3 a c d/\(a.op i ((a.R i).iY p)).F c d=a.F c d++(if a.e c d=(i,p)then AG (a.R i) p else []):=by
 obtain⟨X,V⟩:=h.i.lk;obtain⟨B,Z⟩:=h.i.own;obtain⟨l1,l2⟩:=V.ahy h.i.nrm h.o i p;have s:=mW.tick (a:=a) i p hi U;obtain⟨C,hC⟩:=s.own h.i.qU h.i.nrm Z Y;refine⟨⟨⟨h.i.qU.same rfl rfl rfl,s.norm h.i.nrm,⟨C,hC⟩,⟨X,l1⟩,s.abo h.i.qU h.i.nrm Z Y V h.i.fl⟩,λc d hc hd S=> ?_,λc d hc hd x hx=> ?_⟩,l2⟩
 ·rw[(l2 c d hc hd).1];exact h.o c d hc hd S
 ·rw[(l2 c d hc hd).2]at hx;rcases av.1 hx with g|g
  ·exact h.nl c d hc hd x g
  ·split at g
   ·exact xf _ _ x g
   ·simp at g
theorem Env.pop {N k:Nat} {a:AN} (h:Env N k a)(G:N<1000000)(u:k<=126) {c d:Nat} {x:lv} {l:List lv} (hc:c<a.nc)(hd:d<2)(hF:a.F c d=x::l):Env N k (a.pop c d x l)/\(∀c' d',j3 (a.pop c d x l) c' d'=j3 a c' d')/\∀c' d',c'<a.nc->d'<2->∃V,(a.pop c d x l).F c' d'=(if c'=c/\d'=d then l else a.F c' d')++V:=by
 obtain⟨X,E⟩:=h.i.lk;have hx:=h.nl c d hc hd x (by rw[hF];simp);have H:=h.i.pps ((vS.nil a).snoc c d x l hc hd hF) G u;cases IE h.i.qU h.i.nrm E hc hd hF with
 |link q hq _ _ _=>
  rcases hq with⟨id,_,_,e,_⟩|⟨id,_,_,e,_⟩<;>exact absurd rfl (hx _ _ e)
 |other _ S Q=>
  refine⟨⟨H,λc' d' Z Y kR=> ?_,λc' d' Z Y y hy=> ?_⟩,S,λc' d' Z Y=> ?_⟩
  ·rw[S];exact h.o c' d' Z Y kR
  ·obtain⟨V,U,M⟩:=Q c' d' Z Y;rw[U]at hy;rcases av.1 hy with g|g
   ·split at g
    ·exact h.nl c d hc hd y (by rw[hF];simp[g])
    ·exact h.nl c' d' Z Y y g
   ·exact M y g
  ·obtain⟨V,U,_⟩:=Q c' d' Z Y;exact⟨V,U⟩
theorem xW.len(h:xW T a b):b.iT=a.iT:=by
 induction h with
 |nil=>rfl
 |snoc i p _ _ _ ih=>exact ih
theorem Ar(r:iO)(p q:Nat):((r.iY p).P q).pe=if q=p then(if(je (r.P p).L).1.st=9 then iK (r.P p).pe else nobody)else(r.P q).pe:=by
 have X:((jd r p).P p).L.st=(je (r.P p).L).1.st:=by unfold jd;rw[kK,ai rfl,sX]
 have Y:=λj=>(lZ r p j).2;rw[ld,X];by_cases Z:(je (r.P p).L).1.st=9
 ·rw[af (by rw[Z];simp),ai Z,((pN _ _).2.2.2.2 _).2.1,(j9 _ _ _ _).2.2.2,Y,Y]
 ·rw[ai Z,af Z,(j9 _ _ _ _).2.2.2,Y]
theorem DL {c:UInt8} (s:List UInt8)(hc:c≠76)(X:(r.P i).L.st=9)(q:Nat):((r.take i c s).P q).pe=if q=i/\c=72/\(kI s).2.2=0 then ji r.id (kI s).1 (kI s).2.1 else(r.P q).pe:=by
 rw[lP,uJ i s hc,af (by rw[X];simp)];unfold mF;split
 ·rename_i Z
  by_cases Y:(kI s).2.2=0
  ·rw[ai Y,(j9 _ _ _ _).2.2.2];by_cases e:q=i
   ·rw[ai e,ai ⟨e,Z,Y⟩]
   ·rw[af e,af (λz=>e z.1)]
  ·rw[af Y,af (λz=>Y z.2.2)]
 ·rename_i Z
  have V:¬(q=i/\c=72/\(kI s).2.2=0):=λz=>Z z.2.1;rw[af V];split
  ·exact(ki.state r i s q).2
  ·split
   ·unfold kF;simp only;split<;>rfl
   ·split
    ·unfold rC;split
     ·exact((nu r _).2.2.2.2 q).2.1
     ·rfl
    ·rfl
theorem J1 {i w:Int} (hi:1<=i/\i<=6)(hw:0<=w/\w<=6):kI [j1 i,j1 w] =(i,w,0):=by
 have Z:=nI i eh eh;have Y:=nI w eh eh;unfold kI;show(if [j1 i,j1 w].length=2/\uu (((j1 i).toNat:Nat):Int) (((j1 w).toNat:Nat):Int)=true then((((j1 i).toNat:Nat):Int),(((j1 w).toNat:Nat):Int),0)else(0,0,4))=_;rw[Z,Y,ai];refine⟨rfl,?_⟩;unfold uu;simp;omega
def KU(i w:Int):lv:=72::[j1 i,j1 w]
def isH(x:lv):Prop:=∃s,x=72::s
theorem ZO(hx:x∈AG r p)(h:isH x):x=KU r.id (iK (r.P p).pe).who:=by
 obtain⟨s,rfl⟩:=h;unfold AG at hx;split at hx
 ·rcases aO.1 hx with g|g
  ·exact g
  ·split at g
   ·obtain⟨q,_,Z⟩:=aT.1 g;unfold DH at Z;split at Z
    ·have:=ar.1 Z;exact absurd (aC this).1 eA
    ·simp at Z
   ·simp at g
 ·simp at hx
theorem adY(h:xW T a b)(hT:T.Nodup)(S:Env N k a)(hl:N+8*T.length<1000000):Env (N+8*T.length) k b/\(∀c d,c<a.nc->d<2->j3 b c d=j3 a c d)/\(∀c d,c<a.nc->d<2->(a.e c d∉T->mR b c d=mR a c d/\b.F c d=a.F c d)/\(a.e c d∈T->a.iT c=true->mR b c d=iK (mR a c d)/\∃m:iO,m.id=((a.e c d).1:Int)+1/\(m.P (a.e c d).2).pe=mR a c d/\(m.P (a.e c d).2).L=j3 a c d/\b.F c d=a.F c d++AG m (a.e c d).2)):=by
 induction h with
 |nil=>exact⟨S,λ_ _ _ _=>rfl,λc d _ _=>⟨λ_=>⟨rfl,rfl⟩,λh=>by simp at h⟩⟩
 | @snoc T a b i p tk hi hp ih=>
   rw[az]at hl⊢;have I1:[(i,p)].length=1:=rfl;have Q:=bD.1 hT;obtain⟨H,l1,f1⟩:=ih Q.1 S eh;have Z:=tk.path.same;obtain⟨e2,l2⟩:=H.tick eh hi hp;obtain⟨B,hB⟩:=H.i.own;refine⟨by rw[show N+8*(T.length+ [(i,p)].length)=N+8*T.length+8 by omega];exact e2,λc d hc hd=> ?_,λc d hc hd=>⟨λG=> ?_,λkR M=> ?_⟩⟩
   ·rw[(l2 c d (by rw[Z.2.1];exact hc) hd).1];exact l1 c d hc hd
   ·have U:a.e c d∉T:=λz=>G (av.2 (.inl z));have X:a.e c d≠(i,p):=λz=>G (av.2 (.inr (ar.2 z)));obtain⟨g1,Y⟩:=(f1 c d hc hd).1 U;have hF:=(l2 c d (by rw[Z.2.1];exact hc) hd).2;rw[Z.2.2.1,af X,aB]at hF;refine⟨?_,hF.trans Y⟩;rw[Ap,Z.2.2.1];split
    ·rename_i e
     rw[Ar,af (λz=>X (aV e z)),<-g1];unfold mR;rw[Z.2.2.1,e]
    ·exact g1
   ·have hF:=(l2 c d (by rw[Z.2.1];exact hc) hd).2;rw[Z.2.2.1]at hF;rcases av.1 kR with g|g
    ·have X:a.e c d≠(i,p):=λz=>Q.2.2 _ g _ (ar.2 rfl) z;obtain⟨g1,m,Y,g3,g4,g5⟩:=(f1 c d hc hd).2 g M;rw[af X,aB]at hF;refine⟨?_,m,Y,g3,g4,hF.trans g5⟩;rw[Ap,Z.2.2.1];split
     ·rename_i e
      rw[Ar,af (λz=>X (aV e z)),<-g1];unfold mR;rw[Z.2.2.1,e]
     ·exact g1
    ·have g:=ar.1 g;have U:a.e c d∉T:=λz=>Q.2.2 _ z _ (ar.2 rfl) g;obtain⟨g1,Y⟩:=(f1 c d hc hd).1 U;have u:((b.R i).P p).L=j3 a c d:=by
      rw[<-l1 c d hc hd];unfold j3;rw[Z.2.2.1,g]
     have E:((b.R i).P p).pe=mR a c d:=by
      rw[<-g1];unfold mR;rw[Z.2.2.1,g]
     rw[ai g,Y]at hF;have V:(je ((b.R i).P p).L).1.st=9:=by
      have V:(j3 a c d).st=9:=S.o c d hc hd M;have hb:(decide (4<=(j3 a c d).st)&&decide ((j3 a c d).st<=8))=false:=by rw[V];rfl
      rw[u];unfold je kt lT;rw[ai hb,af (show¬(j3 a c d).st=3 by omega)];exact V
     refine⟨?_,b.R i,?_,?_,?_,?_⟩
     ·rw[Ap,Z.2.2.1,g,ai rfl,Ar,ai rfl,ai V,E]
     ·rw[g];exact(hB.r i hi).2.2.2.1
     ·rw[g];exact E
     ·rw[g];exact u
     ·rw[g];exact hF
theorem WU(h:Env N k a)(hc:c<a.nc)(hd:d<2)(hF:a.F c d=x::l)(c' d':Nat)(M:c'<a.nc)(G:d'<2):(c'=c/\d'=1-d->∀s,x=72::s->(kI s).2.2=0->mR (a.pop c d x l) c' d'=ji ((a.e c (1-d)).1+1) (kI s).1 (kI s).2.1)/\(¬(c'=c/\d'=1-d/\isH x)->mR (a.pop c d x l) c' d'=mR a c' d'):=by
 obtain⟨X,U⟩:=h.i.lk;obtain⟨B,V⟩:=h.i.own;have H:=U.zc hc hd (x:=x) (by rw[hF];simp);have Y:=h.i.qU.en c (1-d) hc eh;have u:=(V.r _ Y.1).2.2.2.1;have Z:((a.R (a.e c (1-d)).1).P (a.e c (1-d)).2).L.st=9:=h.o c (1-d) hc eh H;unfold AN.pop;rw[Ap,yY];refine⟨λe s hs Q=> ?_,λE=> ?_⟩
 ·rw[e.1,e.2,ai rfl,hs];show((iO.take _ _ 72 s).P _).pe=_;rw[DL s eA Z,ai ⟨rfl,rfl,Q⟩,u]
 ·by_cases e:(a.e c' d').1=(a.e c (1-d)).1
  ·rw[ai e];cases x with
   |nil=>unfold mR;rw[e];rfl
   |cons k s=>
    show((iO.take _ _ k s).P _).pe=_;have S:k≠76:=h.nl c d hc hd (k::s) (by rw[hF];simp) k s rfl;rw[DL s S Z,af]
    ·unfold mR;rw[e]
    ·intro g;have:=h.i.qU.ds c' d' c (1-d) M G hc eh (aV e g.1);exact E ⟨this.1,this.2,s,by rw[g.2.1]⟩
  ·rw[af e];rfl
theorem CJ(hT:xW (mV a.n) a m)(hP:vS m b)(Y:Env N k a)(hl:N+8*(mV a.n).length<1000000)(hk:k<=126)(h0:∀c d,c<a.nc->d<2->a.F c d=[])(h1:∀c d,c<a.nc->d<2->b.F c d=[]):Env (N+8*(mV a.n).length) k b/\∀c d,c<a.nc->d<2->a.iT c=true->mR b c d=ji ((a.e c d).1+1) ((a.e c (1-d)).1+1) (iK (mR a c (1-d))).who:=by
 obtain⟨nd,_,_⟩:=pH a.n;obtain⟨e1,l1,f1⟩:=adY hT nd Y hl;have hn:=hT.path.same;have hnb:=hP.path.same;have rQ:∀c d,c<a.nc->d<2->a.e c d∈mV a.n:=λc d hc hd=>by
  obtain⟨e1,e2⟩:=Y.i.qU.en c d hc hd;unfold mV;refine aT.2 ⟨(a.e c d).1,aP.2 eh,?_⟩;unfold SM;have:(a.e c d).2=0 \/(a.e c d).2=1 \/(a.e c d).2=2:=eh;rcases this with e|e|e
  ·rw[show a.e c d=((a.e c d).1,0)from aV rfl e];simp
  ·rw[show a.e c d=((a.e c d).1,1)from aV rfl e];simp
  ·rw[show a.e c d=((a.e c d).1,2)from aV rfl e];simp
 have key:∀b',vS m b'->Env (N+8*(mV a.n).length) k b'/\∀c d,c<a.nc->d<2->a.iT c=true->(∀x∈b'.F c (1-d),isH x->x=KU ((a.e c (1-d)).1+1) (iK (mR a c (1-d))).who)/\((∃x∈b'.F c (1-d),isH x) \/mR b' c d=ji ((a.e c d).1+1) ((a.e c (1-d)).1+1) (iK (mR a c (1-d))).who):=λb' H=>by
  induction H with
  |nil=>
   refine⟨e1,λc d hc hd X=> ?_⟩;obtain⟨_,x,x1,x2,x3,x4⟩:=(f1 c (1-d) hc eh).2 (rQ c (1-d) hc eh) X;rw[h0 c (1-d) hc eh,bT]at x4;rw[x4];refine⟨λy hy hh=> ?_,.inl ?_⟩
   ·rw[ZO hy hh,x1,x2]
   ·have U:(je (x.P (a.e c (1-d)).2).L).1.st=9:=by
     have U:(j3 a c (1-d)).st=9:=Y.o c (1-d) hc eh X;have hb:(decide (4<=(j3 a c (1-d)).st)&&decide ((j3 a c (1-d)).st<=8))=false:=by rw[U];rfl
     rw[x3];unfold je kt lT;rw[ai hb,af (show¬(j3 a c (1-d)).st=3 by omega)];exact U
    unfold AG;rw[ai U];exact⟨_,List.mem_cons_self,_,rfl⟩
  |snoc c' d' x l p j0 kh hF ih=>
   obtain⟨ie,ih⟩:=ih;have hs:=p.path.same;obtain⟨z1,z2,z3⟩:=ie.pop eh hk j0 kh hF;refine⟨z1,λc d hc hd X=> ?_⟩;obtain⟨i1,E⟩:=ih c d hc hd X
   rename_i b'
   have uV:c<b'.nc:=by rw[hs.2.1,hn.2.1];exact hc
   have G:b'.e=a.e:=hs.2.2.1.trans hn.2.2.1;obtain⟨em,g1⟩:=z3 c (1-d) uV eh;have M:∀y∈(b'.pop c' d' x l).F c (1-d),isH y->y∈b'.F c (1-d):=λy hy hh=>by
    obtain⟨s,rfl⟩:=hh;obtain⟨m1,_⟩:=qu (ie.i.nrm.emp (b'.e c' (1-d')).1) (b'.e c' (1-d')).2 x;unfold AN.pop at hy;rw[vN]at hy;have CK:∀z,z∈(b'.lH c' d' l).F c (1-d)->z∈b'.F c (1-d):=λz S=>by
     rw[sY]at S;split at S
     ·rename_i e;rw[e.1,e.2,hF];simp[S]
     ·exact S
    split at hy
    ·rcases av.1 hy with u|u
     ·exact CK _ u
     ·exfalso;cases m1 ((b'.lH c' d' l).e c (1-d)).2 with
      |none h=>rw[h]at u;simp at u
      |link s' _ _ _ h=>rw[h]at u;obtain⟨v,hv⟩:=rT u;exact absurd (aC hv).1 eA
      |heard s' _ _ _ _ _ _ _ h=>rw[h]at u;exact absurd (aC (ar.1 u)).1 eA
      |JM k1 k2 s' _ _ _ _ h=>rw[h]at u;exact absurd (aC (ar.1 u)).1 eA
    ·exact CK _ hy
   refine⟨λy hy hh=>i1 y (M y hy hh) hh,?_⟩;have ML:0<=(iK (mR a c (1-d))).who/\(iK (mR a c (1-d))).who<=6:=by
    obtain⟨B0,xw⟩:=Y.i.own;have Q:=Y.i.qU.en c (1-d) hc eh;have iQ:=(xw.r _ Q.1).2.1;exact(ot.tick iQ.id.1 (iQ.pe (a.e c (1-d)).2 (by rw[(xw.r _ Q.1).2.2.2.2];exact Q.2))).who
   have V:1<=((a.e c (1-d)).1:Int)+1/\((a.e c (1-d)).1:Int)+1<=6:=by
    have:=Y.i.qU.en c (1-d) hc eh;have:=Y.i.qU.n6;omega
   obtain⟨v1,v2⟩:=WU ie j0 kh hF c d uV hd;by_cases Z:c=c'/\d=1-d'/\isH x
   ·right;have G7:1-d=d':=eh;have hx:=i1 x (by rw[Z.1,G7,hF];simp) Z.2.2;rw[v1 ⟨Z.1,Z.2.1⟩ _ hx (by rw[J1 V ML]),J1 V ML,G,<-Z.1,<-Z.2.1]
   ·rw[v2 Z];rcases E with⟨y,y1,y2⟩|E
    ·left;by_cases e:c=c'/\1-d=d'
     ·rw[e.1,e.2,hF]at y1;rcases aO.1 y1 with v|v
      ·exact absurd ⟨e.1,eh,by rw[<-v];exact y2⟩ Z
      ·refine⟨y,?_,y2⟩;rw[g1,ai e];simp[v]
     ·refine⟨y,?_,y2⟩;rw[g1,af e];simp[y1]
    ·exact .inr E
 obtain⟨k1,k2⟩:=key b hP;refine⟨k1,λc d hc hd X=> ?_⟩;rcases(k2 c d hc hd X).2 with⟨x,hx,_⟩|g
 ·rw[h1 c (1-d) hc eh]at hx;simp at hx
 ·exact g
def rX(a:AN)(c d:Nat):Nat:=(a.e c d).1
structure Au(N k:Nat)(T:List (Nat×Nat))(a:AN):Prop where
 env:Env N k a
 pb:∀c d,c<a.nc->d<2->a.iT c=true->rX a c d≠rX a c (1-d)->(mR a c d).who=(rX a c (1-d):Int)+1/\(mR a c d).both=true/\(if a.e c d∈T then 3 else 4)<=(mR a c d).left
 pn:∀c d,c<a.nc->d<2->(a.iT c=false \/rX a c d=rX a c (1-d))->(mR a c d).who=0/\(mR a c d).both=false
 hh:∀c d,c<a.nc->d<2->a.iT c=true->rX a c d≠rX a c (1-d)->∀x∈a.F c d,isH x->x=KU (rX a c d+1) (rX a c (1-d)+1)
 id:∀i p,i<a.n->p<3->(∀c d,c<a.nc->d<2->a.e c d≠(i,p))->((a.R i).P p).L.st=1/\((a.R i).P p).pe.who=0/\((a.R i).P p).pe.both=false
theorem DM {q:lr} (Z:q.who=(r.P i).pe.who)(Y:q.both=(r.P i).pe.both):(r.meet i q).K=r.K/\(r.meet i q).O=r.O:=by
 unfold iO.meet;simp only;rw[ai ⟨Z,Y⟩];exact⟨rfl,rfl⟩
theorem CL(h:L.st=1 \/L.st=9):je L=(L,[]):=by
 have hb:(decide (4<=L.st)&&decide (L.st<=8))=false:=by rcases h with g|g<;>rw[g] <;>rfl
 unfold je kt lT;rw[ai hb,ai hb,af (show¬L.st=3 by omega)]
theorem WV(h:((r.P p).L.st=9/\((iK (r.P p).pe).who=(r.P p).pe.who/\(iK (r.P p).pe).both=(r.P p).pe.both)) \/((r.P p).L.st=1/\(r.P p).pe.who=0/\(r.P p).pe.both=false)):(r.iY p).K=r.K/\(r.iY p).O=r.O/\(((jd r p).meet p (iK (r.P p).pe)).O=r.O \/(r.P p).L.st=1):=by
 have S:je (r.P p).L=((r.P p).L,[]):=CL (by rcases h with g|g;exact .inr g.1;exact .inl g.1);have Q:((jd r p).P p).L.st=(r.P p).L.st:=by unfold jd;rw[kK,ai rfl,sX,S]
 have Z:=(lZ r p p).2;have hK:(jd r p).K=r.K/\(jd r p).O=r.O:=⟨rfl,rfl⟩
 rw[ld,Q,Z];rcases h with⟨U,Y,X⟩|⟨Y,X,V⟩
 ·rw[af (by rw[U];simp)];obtain⟨t1,t2,_⟩:=pN ((jd r p).meet p (iK (r.P p).pe)) p;obtain⟨m1,m2⟩:=DM (r:=jd r p) (i:=p) (q:=iK (r.P p).pe) (by rw[Z];exact Y) (by rw[Z];exact X);rw[t1,t2,m1,m2];exact⟨rfl,rfl,.inl rfl⟩
 ·rw[ai (by rw[Y];decide)];obtain⟨m1,m2⟩:=DM (r:=jd r p) (i:=p) (q:=nobody) (by rw[Z,X];rfl) (by rw[Z,V];rfl);rw[m1,m2];exact⟨rfl,rfl,.inr Y⟩
theorem uh {q:lr} (Z:q.who=0)(Y:q.both=false):(iK q).who=0/\(iK q).both=false:=by
 unfold iK;split
 ·exact⟨rfl,rfl⟩
 ·exact⟨Z,Y⟩
theorem rk {q:lr} (h:2<=q.left):(iK q).who=q.who/\(iK q).both=q.both/\(iK q).left=q.left-1:=by
 unfold iK;rw[af eh];exact⟨rfl,rfl,rfl⟩
theorem Au.tick {N k:Nat} {T:List (Nat×Nat)} {a:AN} (h:Au N k T a)(hN:N<1000000) {i p:Nat} (hi:i<a.n)(hp:p<3)(hT:(i,p)∉T):Au (N+8) k (T++ [(i,p)]) (a.op i ((a.R i).iY p))/\(∀j,((a.op i ((a.R i).iY p)).R j).K=(a.R j).K/\((a.op i ((a.R i).iY p)).R j).O=(a.R j).O)/\∀c d,c<a.nc->d<2->∃l,(a.op i ((a.R i).iY p)).F c d=a.F c d++l/\(a.e c d≠(i,p)->l=[])/\(a.e c d=(i,p)->(a.iT c=true->rX a c d≠rX a c (1-d)->l=KU (rX a c d+1) (rX a c (1-d)+1)::(lJ ((a.R i).O p)).flatMap DH)/\((a.iT c=false->l=[])/\(a.iT c=true->rX a c d=rX a c (1-d)->l=[KU (rX a c d+1) 0]))):=by
 obtain⟨e1,l2⟩:=h.env.tick hN hi hp;obtain⟨X,hX⟩:=h.env.i.lk;obtain⟨B,hB⟩:=h.env.i.own;have hds:=h.env.i.qU.ds;have ahA:(∃c d,c<a.nc/\d<2/\a.e c d=(i,p)/\((a.R i).P p).L=j3 a c d/\((a.R i).P p).pe=mR a c d) \/(∀c d,c<a.nc->d<2->a.e c d≠(i,p)):=by
  by_cases hex:∃c d,c<a.nc/\d<2/\a.e c d=(i,p)
  ·obtain⟨c,d,hc,hd,V⟩:=hex;exact .inl ⟨c,d,hc,hd,V,by unfold j3;rw[V],by unfold mR;rw[V]⟩
  ·exact .inr λc d hc hd e=>hex ⟨c,d,hc,hd,e⟩
 have IA:(((a.R i).P p).L.st=9/\((iK ((a.R i).P p).pe).who=((a.R i).P p).pe.who/\(iK ((a.R i).P p).pe).both=((a.R i).P p).pe.both)) \/(((a.R i).P p).L.st=1/\((a.R i).P p).pe.who=0/\((a.R i).P p).pe.both=false):=by
  rcases ahA with⟨c,d,hc,hd,V,g1,g2⟩|lh
  ·cases Z:a.iT c
   ·have Y:=h.pn c d hc hd (.inl Z);right;rw[g1,g2];exact⟨(hX.dn c hc Z d hd).2.1,Y⟩
   ·left;rw[g1,g2];refine⟨h.env.o c d hc hd Z,?_⟩;by_cases hl:rX a c d=rX a c (1-d)
    ·have Y:=h.pn c d hc hd (.inr hl);have:=uh Y.1 Y.2;exact⟨by rw[this.1,Y.1],by rw[this.2,Y.2]⟩
    ·have hb:=h.pb c d hc hd Z hl;rw[V,af hT]at hb;obtain⟨q1,q2,_⟩:=rk (q:=mR a c d) eh;exact⟨q1,q2⟩
  ·exact .inr (h.id i p hi hp lh)
 obtain⟨k1,k2,k3⟩:=WV IA;have M:je ((a.R i).P p).L=(((a.R i).P p).L,[]):=CL (by rcases IA with g|g;exact .inr g.1;exact .inl g.1);have Q:∀c d,mR (a.op i ((a.R i).iY p)) c d=if a.e c d=(i,p)then(if((a.R i).P p).L.st=9 then iK (mR a c d)else nobody)else mR a c d:=λc d=>by
  rw[Ap];by_cases e:(a.e c d).1=i
  ·rw[ai e,Ar,M];by_cases U:(a.e c d).2=p
   ·rw[ai U,ai (aV e U)];unfold mR;rw[e,U]
   ·rw[af U,af (λz=>U (by rw[z]))];unfold mR;rw[e]
  ·rw[af e,af (λz=>e (by rw[z]))]
 have hKO:∀j,((a.op i ((a.R i).iY p)).R j).K=(a.R j).K/\((a.op i ((a.R i).iY p)).R j).O=(a.R j).O:=λj=>by
  rw[JX];by_cases e:j=i
  ·rw[ai e,e];exact⟨k1,k2⟩
  ·rw[af e];exact⟨rfl,rfl⟩
 have hF:∀c d,c<a.nc->d<2->∃l,(a.op i ((a.R i).iY p)).F c d=a.F c d++l/\(a.e c d≠(i,p)->l=[])/\(a.e c d=(i,p)->(a.iT c=true->rX a c d≠rX a c (1-d)->l=KU (rX a c d+1) (rX a c (1-d)+1)::(lJ ((a.R i).O p)).flatMap DH)/\((a.iT c=false->l=[])/\(a.iT c=true->rX a c d=rX a c (1-d)->l=[KU (rX a c d+1) 0]))):=λc d hc hd=>by
  obtain⟨_,f2⟩:=l2 c d hc hd;refine⟨_,f2,λjx=>af jx,λV=> ?_⟩;rw[ai V];have oP:((a.R i).P p).pe=mR a c d:=by unfold mR;rw[V]
  have pZ:(a.R i).id=(rX a c d:Int)+1:=by
   unfold rX;rw[V];exact(hB.r i hi).2.2.2.1
  have E:((a.R i).P p).L=j3 a c d:=by unfold j3;rw[V]
  refine⟨λZ hl=> ?_,λZ=> ?_,λZ hl=> ?_⟩
  ·have hb:=h.pb c d hc hd Z hl;rw[V,af hT]at hb;obtain⟨q1,q2,_⟩:=rk (q:=mR a c d) eh;have S:=h.env.o c d hc hd Z;unfold AG;rw[M,oP,ai (by rw[E];exact S),q1,q2,hb.2.1,ai rfl,hb.1,pZ];rw[oP]at k3;rw[k3.resolve_right (by rw[E,S];decide)];rfl
  ·have:=(hX.dn c hc Z d hd).2.1;unfold AG;rw[M,af (by rw[E,this];decide)]
  ·have Y:=h.pn c d hc hd (.inr hl);have mI:=uh Y.1 Y.2;have S:=h.env.o c d hc hd Z;unfold AG;rw[M,oP,ai (by rw[E];exact S),mI.1,mI.2,pZ];rfl
 refine⟨⟨e1,λc d hc hd Z hl=> ?_,λc d hc hd Ax=> ?_,λc d hc hd Z hl x hx hh=> ?_,λj q hj hq lh=> ?_⟩,hKO,hF⟩
 ·have hb:=h.pb c d hc hd Z hl;rw[Q];show _=(rX a c (1-d):Int)+1/\_/\(if a.e c d∈T++ [(i,p)]then(3:Int)else 4)<=_;by_cases e:a.e c d=(i,p)
  ·rw[e,af hT]at hb;obtain⟨q1,q2,q3⟩:=rk (q:=mR a c d) eh;have S:((a.R i).P p).L.st=9:=by
    have:=h.env.o c d hc hd Z;unfold j3 at this;rw[e]at this;exact this
   rw[ai e,ai S,q1,q2,q3,e,ai gZ];exact⟨hb.1,hb.2.1,eh⟩
  ·rw[af e];refine⟨hb.1,hb.2.1,?_⟩;have sy:=hb.2.2;by_cases G:a.e c d∈T
   ·rw[ai G]at sy;rw[ai (by simp[G])];exact sy
   ·rw[af G]at sy;rw[af (by simp[G,e])];exact sy
 ·have Y:=h.pn c d hc hd Ax;rw[Q];split
  ·split
   ·exact uh Y.1 Y.2
   ·exact⟨rfl,rfl⟩
  ·exact Y
 ·obtain⟨l,f1,f2,f3⟩:=hF c d hc hd;rw[f1]at hx;rcases av.1 hx with g|g
  ·exact h.hh c d hc hd Z hl x g hh
  ·by_cases e:a.e c d=(i,p)
   ·rw[(f3 e).1 Z hl]at g;rcases aO.1 g with u|u
    ·exact u
    ·obtain⟨q,_,H⟩:=aT.1 u;obtain⟨s,rfl⟩:=hh;unfold DH at H;split at H
     ·exact absurd (aC (ar.1 H)).1 eA
     ·simp at H
   ·rw[f2 e]at g;simp at g
 ·obtain⟨z1,z2,z3⟩:=h.id j q hj hq lh;rw[JX];by_cases e:j=i
  ·rw[ai e];show(((a.R i).iY p).P q).L.st=1/\(((a.R i).iY p).P q).pe.who=0/\(((a.R i).iY p).P q).pe.both=false;rw[BJ,Ar,M];subst e;by_cases U:q=p
   ·subst U;rw[ai rfl,ai rfl,af (by rw[z1];decide)];exact⟨z1,rfl,rfl⟩
   ·rw[af U,af U];exact⟨z1,z2,z3⟩
  ·rw[af e];exact⟨z1,z2,z3⟩
theorem Au.tks(X:xW T a b)(h:Au N k [] a)(u:T.Nodup)(hl:N+8*T.length<1000000):Au (N+8*T.length) k T b/\(∀j,(b.R j).K=(a.R j).K/\(b.R j).O=(a.R j).O)/\∀c d,c<a.nc->d<2->∃l,b.F c d=a.F c d++l/\(a.e c d∉T->l=[])/\(a.e c d∈T->(a.iT c=true->rX a c d≠rX a c (1-d)->l=KU (rX a c d+1) (rX a c (1-d)+1)::(lJ ((a.R (a.e c d).1).O (a.e c d).2)).flatMap DH)/\((a.iT c=false->l=[])/\(a.iT c=true->rX a c d=rX a c (1-d)->l=[KU (rX a c d+1) 0]))):=by
 induction X with
 |nil=>exact⟨h,λ_=>⟨rfl,rfl⟩,λc d _ _=>⟨[],gZ,λ_=>rfl,λh=>by simp at h⟩⟩
 | @snoc T a b i p X hi hp ih=>
   rw[az]at hl⊢;have I1:[(i,p)].length=1:=rfl;have M:=bD.1 u;have Y:(i,p)∉T:=λz=>M.2.2 _ z _ (ar.2 rfl) rfl;obtain⟨s1,k1,f1⟩:=ih h M.1 eh;have U:=X.path.same;have kR:=X.len;obtain⟨s2,k2,f2⟩:=s1.tick eh hi hp Y;have H:∀c d,rX b c d=rX a c d:=λc d=>by unfold rX;rw[U.2.2.1]
   refine⟨by rw[show N+8*(T.length+ [(i,p)].length)=N+8*T.length+8 by omega];exact s2,λj=>⟨(k2 j).1.trans (k1 j).1,(k2 j).2.trans (k1 j).2⟩,λc d hc hd=> ?_⟩;obtain⟨l1,V,G,E⟩:=f1 c d hc hd;obtain⟨l2,b1,b2,b3⟩:=f2 c d (by rw[U.2.1];exact hc) hd;rw[U.2.2.1]at b2 b3;rw[H,H,kR]at b3;by_cases Z:a.e c d∈T
   ·have jx:a.e c d≠(i,p):=λz=>Y (z▸Z);have S:=b2 jx;rw[S,aB]at b1;exact⟨l1,b1.trans V,λz=>absurd (av.2 (.inl Z)) z,λ_=>E Z⟩
   ·have S:=G Z;rw[S,aB]at V;refine⟨l2,by rw[b1,V],λz=>b2 λw=>z (av.2 (.inr (ar.2 w))),λz=> ?_⟩
    ·have Q:a.e c d=(i,p):=by
      rcases av.1 z with w|w
      ·exact absurd w Z
      ·exact ar.1 w
     have:=b3 Q;rw[(k1 i).2]at this;rw[Q];exact this
def knM(r:iO)(i:Nat):lv->Int->Option PS
 |83::s=>(jm r i s).K
 |_=>r.K
def owM(r:iO)(i:Nat):lv->Nat->Int->Option PS
 |83::s=>(jm r i s).O
 |65::s=>(kF r i s).O
 |_=>r.O
theorem IJ(r:iO)(i:Nat) {c:UInt8} (s:List UInt8)(h:c≠83):knM r i (c::s)=r.K:=by
 unfold knM;split
 ·rename_i e;exact absurd (aC e).1 h
 ·rfl
theorem IK(r:iO)(i:Nat) {c:UInt8} (s:List UInt8)(h:c≠83)(g:c≠65):owM r i (c::s)=r.O:=by
 unfold owM;split
 ·rename_i e;exact absurd (aC e).1 h
 ·rename_i e;exact absurd (aC e).1 g
 ·rfl
theorem ZP(hx:rG x)(S:(r.P i).L.st=9)(Q:∀s,x=72::s->(kI s).2.2=0->(ji r.id (kI s).1 (kI s).2.1).who=(r.P i).pe.who/\(ji r.id (kI s).1 (kI s).2.1).both=(r.P i).pe.both):(jP r i x).K=knM r i x/\(jP r i x).O=owM r i x:=by
 cases x with
 |nil=>exact⟨rfl,rfl⟩
 |cons c s=>
  have hc:c≠76:=hx c s rfl;have e:jP r i (c::s)=mF r i c s:=by
   show r.take i c s=_;rw[lP,uJ i s hc,af (by rw[S];simp)]
  rw[e];unfold mF;by_cases X:c=72
  ·rw[ai X];subst X;by_cases V:(kI s).2.2=0
   ·rw[ai V];obtain⟨g1,U⟩:=Q s rfl V;obtain⟨m1,m2⟩:=DM (r:=r) (i:=i) g1 U;exact⟨m1,m2⟩
   ·rw[af V];exact⟨rfl,rfl⟩
  ·rw[af X];by_cases Z:c=83
   ·rw[ai Z];subst Z;exact⟨rfl,rfl⟩
   ·rw[af Z];rw[IJ r i s Z];by_cases Y:c=65
    ·rw[ai Y];subst Y;refine⟨?_,rfl⟩;unfold kF;simp only;split<;>rfl
    ·rw[af Y,IK r i s Z Y];split
     ·unfold rC;split
      ·exact⟨(nu r _).1,(nu r _).2.1⟩
      ·exact⟨rfl,rfl⟩
     ·exact⟨rfl,rfl⟩
theorem Au.pop {N k:Nat} {T:List (Nat×Nat)} {a:AN} (h:Au N k T a)(hN:N<1000000)(hk:k<=126)(hT:∀c d,c<a.nc->d<2->a.e c d∈T) {c d:Nat} {x:lv} {l:List lv} (hc:c<a.nc)(hd:d<2)(hF:a.F c d=x::l):Au N k T (a.pop c d x l)/\(∀j,j≠rX a c (1-d)->((a.pop c d x l).R j).K=(a.R j).K/\((a.pop c d x l).R j).O=(a.R j).O)/\
 ((a.pop c d x l).R (rX a c (1-d))).K=knM (a.R (rX a c (1-d))) (a.e c (1-d)).2 x/\
 ((a.pop c d x l).R (rX a c (1-d))).O=owM (a.R (rX a c (1-d))) (a.e c (1-d)).2 x:=by
 obtain⟨X,hX⟩:=h.env.i.lk;obtain⟨B,hB⟩:=h.env.i.own;have G:x∈a.F c d:=by rw[hF];simp
 have kR:=hX.zc hc hd G;have H:=h.env.nl c d hc hd x G;have Az:=h.env.i.qU.en c (1-d) hc eh;have hn6:=h.env.i.qU.n6;have pZ:=(hB.r _ Az.1).2.2.2.1;have h9:((a.R (rX a c (1-d))).P (a.e c (1-d)).2).L.st=9:=h.env.o c (1-d) hc eh kR;have amy:((a.R (rX a c (1-d))).P (a.e c (1-d)).2).pe=mR a c (1-d):=rfl;have U:1-(1-d)=d:=eh;have Q:∀s,x=72::s->(kI s).2.2=0->(ji ((rX a c (1-d):Int)+1) (kI s).1 (kI s).2.1).who=(mR a c (1-d)).who/\(ji ((rX a c (1-d):Int)+1) (kI s).1 (kI s).2.1).both=(mR a c (1-d)).both/\(rX a c d≠rX a c (1-d)->(ji ((rX a c (1-d):Int)+1) (kI s).1 (kI s).2.1).left=4):=λs hs Z=>by
  have AY:=((h.env.i.fl.kn c d hc hd x G).1).2 s hs Z;have amz:(a.R (a.e c d).1).id=(rX a c d:Int)+1:=(hB.r _ (h.env.i.qU.en c d hc hd).1).2.2.2.1;by_cases hl:rX a c d=rX a c (1-d)
  ·have mI:=h.pn c (1-d) hc eh (.inr (by rw[U];exact hl.symm));unfold ji;rw[ai (by rw[AY,amz,hl])];exact⟨mI.1.symm,mI.2.symm,λz=>absurd hl z⟩
  ·have hb:=h.pb c (1-d) hc eh kR (by rw[U];exact λz=>hl z.symm);rw[U]at hb;have Wt:=h.hh c d hc hd kR hl x G ⟨s,hs⟩;have TI:s=[j1 ((rX a c d:Int)+1),j1 ((rX a c (1-d):Int)+1)] :=by
    rw[hs]at Wt;exact(aC Wt).2
   have hr:kI s=((rX a c d:Int)+1,(rX a c (1-d):Int)+1,0):=by
    rw[TI];refine J1 ?_ ?_
    ·have:=h.env.i.qU.en c d hc hd;unfold rX;omega
    ·unfold rX;omega
   unfold ji;rw[hr];simp only;rw[af eh];refine⟨hb.1.symm,?_,λ_=>rfl⟩;rw[hb.2.1];simp
 have hK:=ZP (r:=a.R (rX a c (1-d))) (i:=(a.e c (1-d)).2) H h9 λs hs Z=>by
  rw[amy,show(a.R (rX a c (1-d))).id=(rX a c (1-d):Int)+1 from pZ];exact⟨(Q s hs Z).1,(Q s hs Z).2.1⟩
 obtain⟨z1,z2,z3⟩:=h.env.pop hN hk hc hd hF;have oP:=λc' d' Y V=>WU h.env hc hd hF c' d' Y V;have hR:∀j,(a.pop c d x l).R j=if j=rX a c (1-d)then(jP (a.R (rX a c (1-d))) (a.e c (1-d)).2 x).core else a.R j:=λj=>rfl
 have M:∀c' d',c'<a.nc->d'<2->(mR (a.pop c d x l) c' d').who=(mR a c' d').who/\(mR (a.pop c d x l) c' d').both=(mR a c' d').both/\(a.iT c'=true->rX a c' d'≠rX a c' (1-d')->(mR a c' d').left<=(mR (a.pop c d x l) c' d').left \/(mR (a.pop c d x l) c' d').left=4):=λc' d' Y V=>by
  obtain⟨v1,v2⟩:=oP c' d' Y V;by_cases S:c'=c/\d'=1-d/\isH x
  ·obtain⟨s,hs⟩:=S.2.2;by_cases Z:(kI s).2.2=0
   ·rw[v1 ⟨S.1,S.2.1⟩ s hs Z,S.1,S.2.1];have:=Q s hs Z;exact⟨this.1,this.2.1,λ_ hl=>.inr (this.2.2 (by rw[U]at hl;exact λz=>hl z.symm))⟩
   ·
    have:mR (a.pop c d x l) c' d'=mR a c' d':=by
     unfold AN.pop;rw[Ap,yY];split
     ·rename_i e
      rw[hs];show((iO.take _ _ 72 s).P _).pe=_;rw[DL (r:=a.R (a.e c (1-d)).1) s eA h9,af (λw=>Z w.2.2)];unfold mR;rw[e]
     ·rfl
    rw[this];exact⟨rfl,rfl,λ_ _=>.inl (Int.le_refl _)⟩
  ·rw[v2 S];exact⟨rfl,rfl,λ_ _=>.inl (Int.le_refl _)⟩
 refine⟨⟨z1,λc' d' Y V kX E=> ?_,λc' d' Y V Ax=> ?_,λc' d' Y V kX E y hy hh=> ?_,λj q hj S lh=> ?_⟩,λj hj=>by rw[hR,af hj];exact⟨rfl,rfl⟩,?_,?_⟩
 ·have hb:=h.pb c' d' Y V kX E;obtain⟨g1,g2,g3⟩:=M c' d' Y V;rw[g1,g2];refine⟨hb.1,hb.2.1,?_⟩;show(if a.e c' d'∈T then(3:Int)else 4)<=_;have sy:=hb.2.2;rw[ai (hT c' d' Y V)]at sy⊢;rcases g3 kX E with g|g<;>omega
 ·obtain⟨g1,g2,_⟩:=M c' d' Y V;rw[g1,g2];exact h.pn c' d' Y V Ax
 ·
  obtain⟨m1,_⟩:=qu (h.env.i.nrm.emp (a.e c (1-d)).1) (a.e c (1-d)).2 x;have CK:∀z,z∈(a.lH c d l).F c' d'->z∈a.F c' d':=λz Z=>by
   rw[sY]at Z;split at Z
   ·rename_i e;rw[e.1,e.2,hF];simp[Z]
   ·exact Z
  refine h.hh c' d' Y V kX E y ?_ hh;unfold AN.pop at hy;rw[vN]at hy;split at hy
  ·rcases av.1 hy with u|u
   ·exact CK _ u
   ·exfalso;obtain⟨w,rfl⟩:=hh;cases m1 ((a.lH c d l).e c' d').2 with
    |none h=>rw[h]at u;simp at u
    |link s' _ _ _ h=>rw[h]at u;obtain⟨v,hv⟩:=rT u;exact absurd (aC hv).1 eA
    |heard s' _ _ _ _ _ _ _ h=>rw[h]at u;exact absurd (aC (ar.1 u)).1 eA
    |JM k1 k2 s' _ _ _ _ h=>rw[h]at u;exact absurd (aC (ar.1 u)).1 eA
  ·exact CK _ hy
 ·obtain⟨w1,w2,w3⟩:=h.id j q hj S lh;rw[hR];by_cases e:j=rX a c (1-d)
  ·rw[ai e];have amA:q≠(a.e c (1-d)).2:=λz=>lh c (1-d) hc eh (aV e.symm z.symm);subst e;show((jP _ _ x).P q).L.st=1/\((jP _ _ x).P q).pe.who=0/\((jP _ _ x).P q).pe.both=false;cases x with
   |nil=>exact⟨w1,w2,w3⟩
   |cons u s=>
    show((iO.take _ _ u s).P q).L.st=1/\((iO.take _ _ u s).P q).pe.who=0/\((iO.take _ _ u s).P q).pe.both=false;have hu:=H u s rfl;rw[vp _ _ s hu,DL s hu h9,af (λw=>amA w.1)];exact⟨w1,w2,w3⟩
  ·rw[af e];exact⟨w1,w2,w3⟩
 ·rw[hR,ai rfl];exact hK.1
 ·rw[hR,ai rfl];exact hK.2
theorem ahE(r:iO)(i:Nat)(s:List UInt8)(y:Int):(jm r i s).K y=r.K y \/((iu s).2.2.2=0/\(r.P i).pe.both=true/\(iu s).1=y/\0<newF r.K y (iu s).2.1 (iu s).2.2.1/\(y=r.id \/(jm r i s).K y=μ ((iu s).2.1,(iu s).2.2.1))):=by
 unfold jm;simp only;split
 ·exact .inl rfl
 ·rename_i h
  have Z:(iu s).2.2.2=0/\(r.P i).pe.both=true:=by
   refine⟨eh,?_⟩;cases hb:(r.P i).pe.both
   ·exact absurd (.inr hb) h
   ·rfl
  split
  ·rename_i Y
   by_cases e:y=r.id
   ·exact .inr ⟨Z.1,Z.2,by rw[e];exact Y.1,by rw[e,<-Y.1];exact Y.2,.inl e⟩
   ·left;unfold iO.behind;split
    ·show(if y=r.id then _ else _)=_;rw[af e]
    ·rfl
  ·have X:∀K:Int->Option PS,K=lF r.K (iu s).1 (iu s).2.1 (iu s).2.2.1->K y=r.K y \/((iu s).2.2.2=0/\(r.P i).pe.both=true/\(iu s).1=y/\0<newF r.K y (iu s).2.1 (iu s).2.2.1/\(y=r.id \/K y=μ ((iu s).2.1,(iu s).2.2.1))):=λK V=>by
    rw[V];unfold lF;split
    ·rename_i g
     by_cases e:y=(iu s).1
     ·right;refine⟨Z.1,Z.2,e.symm,by rw[e];exact g,.inr ?_⟩;show(if y=(iu s).1 then _ else _)=_;rw[ai e]
     ·left;show(if y=(iu s).1 then _ else _)=_;rw[af e]
    ·exact .inl rfl
   split
   ·exact X _ rfl
   ·exact X _ rfl
theorem ad1(S:lD r)(i:Nat)(s:List UInt8)(U:(iu s).2.2.2=0)(hb:(r.P i).pe.both=true)(hs:(iu s).2.1<1000000):yk (jm r i s).K (iu s).1 (iu s).2.1 (iu s).2.2.1:=by
 have X:=(xO S i s).1.k;unfold jm at X⊢;simp only at X⊢;rw[af (by rw[hb];simp;exact U)]at X⊢;by_cases Z:(iu s).1=r.id/\0<newF r.K (iu s).1 (iu s).2.1 (iu s).2.2.1
 ·rw[ai Z];unfold iO.behind;rw[ai hs];refine⟨((iu s).2.1+1,jz r),?_,?_⟩
  ·show(if(iu s).1=r.id then _ else _)=_;rw[ai Z.1]
  ·unfold l5;have:mb ((iu s).2.1+1) (iu s).2.1=1:=by unfold mb;rw[af eh,ai eh]
   rw[ai (by rw[this];decide)];show 0<=mb ((iu s).2.1+1) (iu s).2.1;rw[this];decide
 ·rw[af Z];have V:yk (lF r.K (iu s).1 (iu s).2.1 (iu s).2.2.1) (iu s).1 (iu s).2.1 (iu s).2.2.1:=by
   unfold lF;by_cases g:0<newF r.K (iu s).1 (iu s).2.1 (iu s).2.2.1
   ·rw[ai g];exact⟨_,by show(if(iu s).1=(iu s).1 then μ ((iu s).2.1,(iu s).2.2.1)else _)=_;rw[ai rfl],by rw[oc];exact Int.le_refl _⟩
   ·rw[af g];cases Y:r.K (iu s).1 with
    |none=>unfold newF at g;rw[Y]at g;exact absurd (by decide:(0:Int)<1) g
    |some q=>
     rw[od Y]at g;exact⟨q,Y,by rw[um];omega⟩
  split
  ·exact V
  ·exact V
theorem vS.keep(P:AN->Prop)(h:vS m b)(Q:Au N k T m)(S:N<1000000)(H:k<=126)(M:∀c d,c<m.nc->d<2->m.e c d∈T)(U:P m)(step:∀(a:AN) (c d:Nat) (x:lv) (l:List lv),Au N k T a->(a.n=m.n/\a.nc=m.nc/\a.e=m.e/\a.iT=m.iT)->c<a.nc->d<2->a.F c d=x::l->P a->P (a.pop c d x l)):Au N k T b/\P b/\(b.n=m.n/\b.nc=m.nc/\b.e=m.e/\b.iT=m.iT):=by
 induction h with
 |nil=>exact⟨Q,U,rfl,rfl,rfl,rfl⟩
 |snoc c d x l p hc hd hF ih=>
  obtain⟨s1,G,X,Z,Y,V⟩:=ih;refine⟨(s1.pop S H (λc d hc hd=>by rw[Y];exact M c d (by rw[<-Z];exact hc) hd) hc hd hF).1,step _ c d x l s1 ⟨X,Z,Y,V⟩ hc hd hF G,X,Z,Y,V⟩
theorem Au.FQ(h:Au N k T a)(V:N<1000000)(S:k<=126)(U:∀c d,c<a.nc->d<2->a.e c d∈T)(hc:c<a.nc)(hd:d<2)(hF:a.F c d=x::l)(j:Nat):pD (a.R j).K ((a.pop c d x l).R j).K:=by
 obtain⟨_,Z,Y,_⟩:=h.pop V S U hc hd hF;obtain⟨B,X⟩:=h.env.i.own;by_cases e:j=rX a c (1-d)
 ·rw[e,Y];have Q:=(X.r _ (h.env.i.qU.en c (1-d) hc eh).1).2.1;unfold knM;split
  ·exact(xO Q _ _).1.k
  ·exact pD.refl _
 ·rw[(Z j e).1];exact pD.refl _
theorem Au.WW(h:Au N k T a)(hc:c<a.nc)(hd:d<2)(hb:((a.R (rX a c d)).P (a.e c d).2).pe.both=true):a.iT c=true/\rX a c d≠rX a c (1-d):=by
 have Z:(mR a c d).both=true:=hb;cases hi:a.iT c
 ·rw[(h.pn c d hc hd (.inl hi)).2]at Z;exact absurd Z gZ
 ·refine⟨rfl,λe=> ?_⟩;rw[(h.pn c d hc hd (.inr e)).2]at Z;exact absurd Z gZ
theorem Au.news(h:Au N k T a)(hN:N<1000000)(hk:k<=126)(hT:∀c d,c<a.nc->d<2->a.e c d∈T)(hc:c<a.nc)(hd:d<2)(hF:a.F c d=x::l)(j:Nat)(y:Int):((a.pop c d x l).R j).K y=(a.R j).K y \/(j=rX a c (1-d)/\a.iT c=true/\rX a c d≠rX a c (1-d)/\∃q:PS,yk (a.R (rX a c d)).K y q.1 q.2/\0<newF (a.R j).K y q.1 q.2/\(y=(j:Int)+1 \/((a.pop c d x l).R j).K y=μ q)):=by
 obtain⟨_,H,G,_⟩:=h.pop hN hk hT hc hd hF;obtain⟨B,E⟩:=h.env.i.own;have U:=h.env.i.qU.en c (1-d) hc eh;by_cases e:j=rX a c (1-d)
 ·rw[e,G];cases x with
  |nil=>exact .inl rfl
  |cons u s=>
   by_cases X:u=83
   ·subst X;show(jm (a.R (rX a c (1-d))) (a.e c (1-d)).2 s).K y=_ \/_;rcases ahE (a.R (rX a c (1-d))) (a.e c (1-d)).2 s y with g|⟨g1,S,Q,M,Z⟩
    ·exact .inl g
    ·right;obtain⟨i1,V⟩:=h.WW hc (show 1-d<2 by omega) S;have Y:=((h.env.i.fl.kn c d hc hd (83::s) (by rw[hF];simp)).1).1 s (.inl rfl) g1;rw[Q]at Y;refine⟨rfl,i1,?_,((iu s).2.1,(iu s).2.2.1),Y,M,?_⟩
     ·rw[show 1-(1-d)=d by omega]at V;exact λz=>V z.symm
     ·rcases Z with Z|Z
      ·left;rw[Z];exact(E.r _ U.1).2.2.2.1
      ·exact .inr Z
   ·left;rw[IJ _ _ s X]
 ·rw[(H j e).1];exact .inl rfl
structure FR(N k:Nat)(a m b:AN):Prop where
 s:Au N k [] a
 t:xW (mV a.n) a m
 p:vS m b
 l:N+8*(mV a.n).length<1000000
 k1:k<=126
 ms:Au (N+8*(mV a.n).length) k (mV a.n) m
 ko:∀j,(m.R j).K=(a.R j).K/\(m.R j).O=(a.R j).O
 mf:∀c d,c<a.nc->d<2->∃l,m.F c d=a.F c d++l/\(a.iT c=true->rX a c d≠rX a c (1-d)->l=KU (rX a c d+1) (rX a c (1-d)+1)::(lJ ((a.R (a.e c d).1).O (a.e c d).2)).flatMap DH)/\(a.iT c=false->l=[])/\(a.iT c=true->rX a c d=rX a c (1-d)->l=[KU (rX a c d+1) 0])
 all:∀c d,c<m.nc->d<2->m.e c d∈mV a.n
 me:m.n=a.n/\m.nc=a.nc/\m.e=a.e/\m.iT=a.iT
theorem Td(Y:tP a)(c d:Nat)(hc:c<a.nc)(hd:d<2):a.e c d∈mV a.n:=by
 obtain⟨Z,e2⟩:=Y.en c d hc hd;unfold mV;refine aT.2 ⟨(a.e c d).1,aP.2 Z,?_⟩;unfold SM;have:(a.e c d).2=0 \/(a.e c d).2=1 \/(a.e c d).2=2:=eh;rcases this with e|e|e
 ·rw[show a.e c d=((a.e c d).1,0)from aV rfl e];simp
 ·rw[show a.e c d=((a.e c d).1,1)from aV rfl e];simp
 ·rw[show a.e c d=((a.e c d).1,2)from aV rfl e];simp
theorem FR.of(s:Au N k [] a)(t:xW (mV a.n) a m)(p:vS m b)(l:N+8*(mV a.n).length<1000000)(M:k<=126):FR N k a m b:=by
 obtain⟨nd,_,_⟩:=pH a.n;obtain⟨U,S,Q⟩:=s.tks t nd l;have Z:=t.path.same;have Y:=Td s.env.i.qU;refine⟨s,t,p,l,M,U,S,λc d hc hd=> ?_,λc d hc hd=> ?_,⟨Z.1,Z.2.1,Z.2.2.1,t.len⟩⟩
 ·obtain⟨l,X,_,V⟩:=Q c d hc hd;obtain⟨b1,b2,b3⟩:=V (Y c d hc hd);exact⟨l,X,b1,b2,b3⟩
 ·rw[Z.2.2.1];exact Y c d (by rw[<-Z.2.1];exact hc) hd
theorem FR.keep {N k:Nat} {a m b:AN} (h:FR N k a m b)(P:AN->Prop)(Q:P m)(step:∀(z:AN) (c d:Nat) (x:lv) (l:List lv),Au (N+8*(mV a.n).length) k (mV a.n) z->(z.n=a.n/\z.nc=a.nc/\z.e=a.e/\z.iT=a.iT)->(∀c d,c<z.nc->d<2->z.e c d∈mV a.n)->c<z.nc->d<2->z.F c d=x::l->P z->P (z.pop c d x l)):Au (N+8*(mV a.n).length) k (mV a.n) b/\P b/\(b.n=a.n/\b.nc=a.nc/\b.e=a.e/\b.iT=a.iT):=by
 obtain⟨g1,Y,X,V,U,S⟩:=h.p.keep P h.ms h.l h.k1 h.all Q λz c d x l H Z hc hd hF M=>step z c d x l H ⟨Z.1.trans h.me.1,Z.2.1.trans h.me.2.1,Z.2.2.1.trans h.me.2.2.1,Z.2.2.2.trans h.me.2.2.2⟩ (λc d hc hd=>by rw[Z.2.2.1];exact h.all c d (by rw[<-Z.2.1];exact hc) hd) hc hd hF M;exact⟨g1,Y,X.trans h.me.1,V.trans h.me.2.1,U.trans h.me.2.2.1,S.trans h.me.2.2.2⟩
theorem FR.sta(h:FR N k a m b)(S:∀c d,c<a.nc->d<2->a.F c d=[])(Z:∀c d,c<a.nc->d<2->b.F c d=[]):Au (N+8*(mV a.n).length) k [] b:=by
 obtain⟨s1,_,e1,X,V,U⟩:=h.keep (λ_=>True) trivial λ_ _ _ _ _ _ _ _ _ _ _ _=>trivial;obtain⟨_,hh⟩:=CJ h.t h.p h.s.env h.l h.k1 S Z;have Y:∀c d,rX b c d=rX a c d:=λc d=>by unfold rX;rw[V]
 refine⟨s1.env,λc d hc hd hi hl=> ?_,s1.pn,λc d hc hd _ _ x hx=> ?_,s1.id⟩
 ·rw[X]at hc;rw[U]at hi;rw[Y,Y]at hl;have Z:=hh c d hc hd hi;have hb:=h.s.pb c (1-d) hc eh hi (by rw[show 1-(1-d)=d by omega];exact λz=>hl z.symm);rw[show 1-(1-d)=d by omega,af gZ]at hb;obtain⟨q1,_,_⟩:=rk (q:=mR a c (1-d)) eh;rw[q1,hb.1]at Z;have Q:¬((rX a c (1-d):Int)+1=(rX a c d:Int)+1):=eh;have Z:mR b c d=ji ((rX a c d:Int)+1) ((rX a c (1-d):Int)+1) ((rX a c d:Int)+1):=Z;unfold ji at Z;rw[af Q]at Z;rw[Z,Y];refine⟨rfl,gZ,?_⟩;rw[af gZ];exact Int.le_refl _
 ·rw[X]at hc;rw[Z c d hc hd]at hx;simp at hx
theorem FR.mono(h:FR N k a m b)(j:Nat):pD (a.R j).K (b.R j).K:=by
 obtain⟨_,g,_⟩:=h.keep (λz=>pD (a.R j).K (z.R j).K) (by rw[(h.ko j).1];exact pD.refl _) λz c d x l X _ Y hc hd hF Z=>Z.trans (X.FQ h.l h.k1 Y hc hd hF j);exact g
theorem Mw {F:Int->Option PS} {y:Int} (hy:1<=y/\y<=6)(h:F y=μ q):(y,q)∈lJ F:=by
 unfold lJ;refine cB.2 ⟨(y-1).toNat,aP.2 eh,?_⟩;have e:(((y-1).toNat:Nat):Int)+1=y:=eh;rw[e,h];rfl
theorem J2 {y:Int} (h:oD y q.1 q.2=0):DH (y,q)=[83::ru y q.1 q.2] :=by
 unfold DH;have:=DK h;rw[ai (by show(ru y q.1 q.2).length+1<=60;omega)]
theorem FR.spread(h:FR N k a m b)(h1:∀c d,c<a.nc->d<2->b.F c d=[])(hc:c<a.nc)(hd:d<2)(hi:a.iT c=true)(hl:rX a c d≠rX a c (1-d)) {y:Int} (X:(a.R (rX a c d)).K y=μ q):yk (b.R (rX a c (1-d))).K y q.1 q.2:=by
 obtain⟨B,hB⟩:=h.s.env.i.own;obtain⟨C,hC⟩:=h.ms.env.i.own;have Az:=h.s.env.i.qU.en c d hc hd;have H:=hB.r _ Az.1;have hm:yk (m.R (rX a c (1-d))).K y q.1 q.2 \/ ∃x∈m.F c d,∃s,x=83::s/\(iu s).2.2.2=0/\(iu s).1=y/\0<=l5 (iu s).2.1 (iu s).2.2.1 q.1 q.2:=by
  cases Q:(a.R (rX a c d)).O (a.e c d).2 y with
  |none=>
   left;rw[(h.ko _).1];exact h.s.env.i.fl.o c d hc hd (h.s.pb c d hc hd hi hl).2.1 y q X Q
  |some u=>
   right;have hu:=H.1.tie _ _ _ Q;have G:u=q:=by
    have e:(a.R (rX a c d)).K y=μ u:=hu;rw[X]at e;exact(Option.some.inj e).symm
   subst G;obtain⟨l,f1,f2,_⟩:=h.mf c d hc hd;have hv:=H.1.val y u X;have hy:=H.2.1.PE y (by rw[show(a.R (a.e c d).1).K y=μ u from X];rfl);refine⟨83::ru y u.1 u.2,?_,_,rfl,?_⟩
   ·rw[f1,f2 hi hl];refine av.2 (.inr (aO.2 (.inr (aT.2 ⟨(y,u),Mw hy Q,?_⟩))));rw[J2 hv];simp
   ·rw[nQ _ _ _ hv];exact⟨rfl,rfl,by rw[oc];exact Int.le_refl _⟩
 obtain⟨_,g,e1,e2,e3,e4⟩:=h.keep (λz=>yk (z.R (rX a c (1-d))).K y q.1 q.2 \/ ∃x∈z.F c d,∃s,x=83::s/\(iu s).2.2.2=0/\(iu s).1=y/\0<=l5 (iu s).2.1 (iu s).2.2.1 q.1 q.2) hm λz c' d' x l Y M hT j0 kh hF hP=>by
  have hmono:=Y.FQ h.l h.k1 hT j0 kh hF;rcases hP with g|⟨w,w1,s,E,V,w4,w5⟩
  ·exact .inl (g.mono (hmono _))
  ·have Z:c<z.nc:=by rw[M.2.1];exact hc
   obtain⟨em,f⟩:=(Y.env.pop h.l h.k1 j0 kh hF).2.2 c d Z hd;by_cases e:c=c'/\d=d'
   ·obtain⟨z1,z2⟩:=e;subst z1 z2;rw[ai ⟨rfl,rfl⟩]at f;rw[hF]at w1;rcases aO.1 w1 with v|v
    ·left;have hx:x=83::s:=by rw[<-v];exact E
     obtain⟨_,_,g2,_⟩:=Y.pop h.l h.k1 hT Z hd hF;obtain⟨D,S⟩:=Y.env.i.own;have U:∀d,rX z c d=rX a c d:=λd=>by unfold rX;rw[M.2.2.1]
     rw[<-U,g2,hx];have iQ:=(S.r _ (Y.env.i.qU.en c (1-d) Z eh).1).2.1;have hb:=(Y.pb c (1-d) Z eh (by rw[M.2.2.2];exact hi) (by rw[U,U,show 1-(1-d)=d by omega];exact λw=>hl w.symm)).2.1;have hle:=S.f c d Z hd x (by rw[hF];simp) s hx V;have kD:=S.b;have:=h.l;have hk:=ad1 iQ (z.e c (1-d)).2 s V hb eh;rw[w4]at hk;exact hk.trans w5
    ·right;exact⟨w,by rw[f];simp[v],s,E,V,w4,w5⟩
   ·right;rw[af e]at f;exact⟨w,by rw[f];simp[w1],s,E,V,w4,w5⟩
 rcases g with g|⟨x,hx,_⟩
 ·exact g
 ·rw[h1 c d hc hd]at hx;simp at hx
def Cl(a:AN)(C:Nat->Prop):Prop:=∀c d,c<a.nc->d<2->a.iT c=true->rX a c d≠rX a c (1-d)->C (rX a c d)->C (rX a c (1-d))
def Bd(C:Nat->Prop)(y:Int)(a0 a:AN):Prop:=∀x,C x->∀q:PS,(a.R x).K y=μ q->(∃x0,C x0/\yk (a0.R x0).K y q.1 q.2) \/ ∃i,C i/\(i:Int)+1=y/\yk (a.R i).K y q.1 q.2
theorem FR.bd(h:FR N k a m b)(hC:Cl a C) {y:Int} {a0:AN} (hB:Bd C y a0 a):Bd C y a0 b:=by
 have hm:Bd C y a0 m:=λx hx q Z=>by
  rw[(h.ko x).1]at Z;rcases hB x hx q Z with g|⟨i,g1,Y,X⟩
  ·exact .inl g
  ·exact .inr ⟨i,g1,Y,by rw[(h.ko i).1];exact X⟩
 obtain⟨_,g,_⟩:=h.keep (Bd C y a0) hm λz c d x l hz M hT hc hd hF E=>by
  have hmono:=hz.FQ h.l h.k1 hT hc hd hF;have U:∀q:PS,((∃x0,C x0/\yk (a0.R x0).K y q.1 q.2) \/ ∃i,C i/\(i:Int)+1=y/\yk (z.R i).K y q.1 q.2)->(∃x0,C x0/\yk (a0.R x0).K y q.1 q.2) \/ ∃i,C i/\(i:Int)+1=y/\yk ((z.pop c d x l).R i).K y q.1 q.2:=λq Z=>by
   rcases Z with g|⟨i,g1,Y,X⟩
   ·exact .inl g
   ·exact .inr ⟨i,g1,Y,X.mono (hmono i)⟩
  intro j H q Z;rcases hz.news h.l h.k1 hT hc hd hF j y with g|⟨g1,Y,X,u,⟨v,v1,v2⟩,g5,V⟩
  ·rw[g]at Z;exact U q (E j H q Z)
  ·have S:∀d,rX z c d=rX a c d:=λd=>by unfold rX;rw[M.2.2.1]
   rcases V with V|V
   ·exact .inr ⟨j,H,V.symm,uL Z⟩
   ·rw[V]at Z;injection Z with Z
    subst Z;have Q:C (rX z c d):=by
     have:=hC c (1-d) (by rw[<-M.2.1];exact hc) eh (by rw[<-M.2.2.2];exact Y) (by rw[<-S,<-S,show 1-(1-d)=d by omega];exact λw=>X w.symm);rw[<-S,<-S,show 1-(1-d)=d by omega]at this;exact this (by rw[<-g1];exact H)
    refine U u ?_;rcases E _ Q v v1 with⟨x0,w1,G⟩|⟨i,w1,G,w3⟩
    ·exact .inl ⟨x0,w1,G.trans v2⟩
    ·exact .inr ⟨i,w1,G,w3.trans v2⟩
 exact g
def Bo(C:Nat->Prop)(i:Nat)(o:PS)(a:AN):Prop:=(a.R i).K ((i:Int)+1)=μ o/\∀x,C x->∀q:PS,(a.R x).K ((i:Int)+1)=μ q->0<=l5 o.1 o.2 q.1 q.2
theorem J3 {y:Int} {u:PS} (h:K y=μ o)(g:0<=l5 o.1 o.2 u.1 u.2):¬0<newF K y u.1 u.2:=by
 rw[od h,um];omega
theorem FR.bo(h:FR N k a m b)(hC:Cl a C)(hi:C i)(G:Bo C i o a):Bo C i o b:=by
 have hm:Bo C i o m:=⟨by rw[(h.ko i).1];exact G.1,λx hx q Z=>G.2 x hx q (by rw[<-(h.ko x).1];exact Z)⟩
 obtain⟨_,g,_⟩:=h.keep (Bo C i o) hm λz c d x l hz M hT hc hd hF V=>by
  have Y:∀d,rX z c d=rX a c d:=λd=>by unfold rX;rw[M.2.2.1]
  have key:∀j,C j->((z.pop c d x l).R j).K ((i:Int)+1)=(z.R j).K ((i:Int)+1) \/(j≠i/\∃u:PS,((z.pop c d x l).R j).K ((i:Int)+1)=μ u/\0<=l5 o.1 o.2 u.1 u.2):=λj U=>by
   rcases hz.news h.l h.k1 hT hc hd hF j ((i:Int)+1)with g|⟨g1,S,E,u,⟨v,v1,v2⟩,g5,X⟩
   ·exact .inl g
   ·have Q:C (rX z c d):=by
     have:=hC c (1-d) (by rw[<-M.2.1];exact hc) eh (by rw[<-M.2.2.2];exact S) (by rw[<-Y,<-Y,show 1-(1-d)=d by omega];exact λw=>E w.symm);rw[<-Y,<-Y,show 1-(1-d)=d by omega]at this;exact this (by rw[<-g1];exact U)
    have H:0<=l5 o.1 o.2 u.1 u.2:=(yu (V.2 _ Q v v1) v2).1;by_cases e:j=i
    ·subst e;exact absurd g5 (J3 V.1 H)
    ·right;refine⟨e,u,?_,H⟩;rcases X with X|X
     ·exact absurd eh e
     ·exact X
  refine⟨?_,λj U q Z=> ?_⟩
  ·rcases key i hi with g|g
   ·rw[g];exact V.1
   ·exact absurd rfl g.1
  ·rcases key j U with g|⟨_,u,g1,S⟩
   ·rw[g]at Z;exact V.2 j U q Z
   ·rw[g1]at Z;injection Z with Z;rw[<-Z];exact S
 exact g
def Be(C:Nat->Prop)(y:Int)(v:Option PS)(a:AN):Prop:=∀x,C x->(a.R x).K y=v
theorem FR.be(h:FR N k a m b)(hC:Cl a C) {y:Int} {v:Option PS} (H:Be C y v a):Be C y v b:=by
 have E:Be C y v m:=λx hx=>by rw[(h.ko x).1];exact H x hx
 obtain⟨_,g,_⟩:=h.keep (Be C y v) E λz c d x l hz V G hc hd hF X=>by
  have Z:∀d,rX z c d=rX a c d:=λd=>by unfold rX;rw[V.2.2.1]
  intro j U;rcases hz.news h.l h.k1 G hc hd hF j y with g|⟨g1,S,Q,u,⟨w,v1,v2⟩,M,g6⟩
  ·rw[g];exact X j U
  ·have Y:C (rX z c d):=by
    have:=hC c (1-d) (by rw[<-V.2.1];exact hc) eh (by rw[<-V.2.2.2];exact S) (by rw[<-Z,<-Z,show 1-(1-d)=d by omega];exact λw=>Q w.symm);rw[<-Z,<-Z,show 1-(1-d)=d by omega]at this;exact this (by rw[<-g1];exact U)
   rw[X _ Y]at v1;exact absurd M (J3 (by rw[X j U];exact v1) v2)
 exact g
def Adj(a:AN)(x z:Nat):Prop:=∃c d,c<a.nc/\d<2/\a.iT c=true/\rX a c d=x/\rX a c (1-d)=z/\x≠z
theorem Adj.symm {a:AN} {x z:Nat} (h:Adj a x z):Adj a z x:=by
 obtain⟨c,d,Z,h2,Y,X,V,U⟩:=h;exact⟨c,1-d,Z,eh,Y,V,by rw[show 1-(1-d)=d by omega];exact X,U.symm⟩
inductive Way(a:AN):Nat->Nat->Nat->Prop
 |here (x:Nat):Way a 0 x x
 |stay {k x z:Nat}:Way a k x z->Way a (k+1) x z
 |go {k x w z:Nat}:Way a k x w->Adj a w z->Way a (k+1) x z
def oy(a:AN)(x z:Nat):Prop:=∃k,Way a k x z
theorem oy.trans {x:Nat} (h:oy a x w)(g:oy a w z):oy a x z:=by
 obtain⟨k,g⟩:=g
 induction g with
 |here=>exact h
 |stay _ ih=>exact ih h
 |go _ s ih=>obtain⟨j,Z⟩:=ih h;exact⟨j+1,Z.go s⟩
theorem oy.adj {x:Nat} (h:Adj a x z):oy a x z:=⟨1,(Way.here x).go h⟩
theorem oy.symm {a:AN} {x z:Nat} (h:oy a x z):oy a z x:=by
 obtain⟨k,g⟩:=h
 induction g with
 |here=>exact⟨0,Way.here _⟩
 |stay _ ih=>exact ih
 |go _ s ih=>exact(oy.adj s.symm).trans ih
theorem Way.lt(X:tP a) {x:Nat} (h:Way a k x z)(hx:x<a.n):z<a.n:=by
 induction h with
 |here=>exact hx
 |stay _ ih=>exact ih hx
 |go _ s _=>
  obtain⟨c,d,Z,h2,_,_,Y,_⟩:=s;rw[<-Y];exact(X.en c (1-d) Z eh).1
theorem Way.more {a:AN} {k x z:Nat} (h:Way a k x z):∀j,Way a (k+j) x z
 |0=>h
 |j+1=>(Way.more h j).stay
open Classical in
noncomputable def OJ (a:AN) (x k:Nat):Nat:=sm (λz=>if Way a k x z then 1 else 0) (gg a.n)
theorem zd {a:AN} (Z:tP a) {x k:Nat} (hx:x<a.n)(h:∀z,z<a.n->Way a (k+1) x z->Way a k x z):∀j z,Way a (k+j) x z->Way a k x z
 |0,_,g=>g
 |j+1,z,g=>by
  have Y:=g.lt Z hx;cases g with
  |stay g=>exact zd Z hx h j z g
  |go g s=>exact h z Y ((zd Z hx h j _ g).go s)
theorem ZQ(n:Nat):sm (λ_:Nat=>1) (gg n)=n:=by
 unfold sm
 induction n with
 |zero=>rfl
 |succ n ih=>rw[bX,cS,List.sum_append,ih];rfl
open Classical in
theorem ZR(X:tP a) {x:Nat} (hx:x<a.n)(h:oy a x z):Way a 6 x z:=by
 obtain⟨m,U⟩:=h;have key:∀k,k+1<=OJ a x k \/ ∃j,j<k/\∀z,z<a.n->Way a (j+1) x z->Way a j x z:=λk=>by
  induction k with
  |zero=>
   left;have:=Ae (f:=λ_:Nat=>0) (g:=λz=>if Way a 0 x z then 1 else 0) (y:=x) (k:=1) bV (aP.2 hx) λz _=>by
    by_cases e:z=x
    ·subst e;rw[ai rfl,ai (Way.here z)];exact Nat.le_refl _
    ·rw[af e];exact Nat.zero_le _
   show 0+1<=OJ a x 0;unfold OJ;omega
  |succ k ih=>
   rcases ih with g|⟨j,S,Y⟩
   ·by_cases hc:∀z,z<a.n->Way a (k+1) x z->Way a k x z
    ·exact .inr ⟨k,eh,hc⟩
    ·left;have:∃z,z<a.n/\Way a (k+1) x z/\¬Way a k x z:=by
      by_cases hh:∃z,z<a.n/\Way a (k+1) x z/\¬Way a k x z
      ·exact hh
      ·exact absurd (λz M Z=>by
        by_cases V:Way a k x z
        ·exact V
        ·exact absurd ⟨z,M,Z,V⟩ hh) hc
     obtain⟨z,H,G,E⟩:=this;have:=Ae (f:=λz=>if Way a k x z then 1 else 0) (g:=λz=>if Way a (k+1) x z then 1 else 0) (y:=z) (k:=1) bV (aP.2 H) λw _=>by
      by_cases e:w=z
      ·subst e;rw[ai rfl,ai G,af E];exact Nat.le_refl _
      ·rw[af e];by_cases Z:Way a k x w
       ·rw[ai Z,ai Z.stay];exact Nat.le_refl _
       ·rw[af Z];exact Nat.zero_le _
     show k+1+1<=OJ a x (k+1);unfold OJ at g⊢;omega
   ·exact .inr ⟨j,eh,Y⟩
 rcases key 6 with g|⟨j,S,Y⟩
 ·exfalso;have:OJ a x 6<=a.n:=by
   unfold OJ;refine Nat.le_trans (vH (g:=λ_=>1) λz _=> ?_) (Nat.le_of_eq (ZQ a.n));split
   ·exact Nat.le_refl _
   ·exact Nat.zero_le _
  have:=X.n6;omega
 ·have Q:Way a j x z:=by
   by_cases hjm:j<=m
   ·have:=zd X hx Y (m-j) z (by rw[show j+(m-j)=m by omega];exact U);exact this
   ·have:=U.more (j-m);rw[show m+(j-m)=j by omega]at this;exact this
  have:=Q.more (6-j);rw[show j+(6-j)=6 by omega]at this;exact this
structure Run(k J:Nat)(A:Nat->AN):Prop where
 r:∀j,j<J->∃N m,FR N k (A j) m (A (j+1))
 z:∀j,j<=J->∀c d,c<(A j).nc->d<2->(A j).F c d=[]
theorem FR.same(h:FR N k a m b):b.n=a.n/\b.nc=a.nc/\b.e=a.e/\b.iT=a.iT:=(h.keep (λ_=>True) trivial λ_ _ _ _ _ _ _ _ _ _ _ _=>trivial).2.2
theorem Run.same {k J:Nat} {A:Nat->AN} (h:Run k J A):∀j,j<=J->(A j).n=(A 0).n/\(A j).nc=(A 0).nc/\(A j).e=(A 0).e/\(A j).iT=(A 0).iT
 |0,_=>⟨rfl,rfl,rfl,rfl⟩
 |j+1,hj=>by
  obtain⟨N,m,U⟩:=h.r j eh;obtain⟨Z,Y,X,V⟩:=Run.same h j eh;obtain⟨b1,b2,b3,b4⟩:=U.same;exact⟨b1.trans Z,b2.trans Y,b3.trans X,b4.trans V⟩
theorem Run.spread {k J:Nat} {A:Nat->AN} (h:Run k J A) {i x z:Nat} (hw:Way (A 0) i x z):∀j,j+i<=J->∀(y:Int) (q:PS),((A j).R x).K y=μ q->yk ((A (j+i)).R z).K y q.1 q.2:=by
 induction hw with
 |here=>intro j _ y q Z;exact uL Z
 | @stay i x z _ ih=>
   intro j hj y q Z;obtain⟨N,m,Y⟩:=h.r (j+i) eh;exact(ih j eh y q Z).mono (Y.mono z)
 | @go i x w z _ s ih=>
   intro j hj y q Z;obtain⟨u,u1,u2⟩:=ih j eh y q Z;obtain⟨N,m,Y⟩:=h.r (j+i) eh;obtain⟨e1,S,Q,M⟩:=h.same (j+i) eh;obtain⟨c,d,H,G,E,V,U,h6⟩:=s;have X:∀d,rX (A (j+i)) c d=rX (A 0) c d:=λd=>by unfold rX;rw[Q]
   have:=Y.spread (λc' d' j0 kh=>h.z (j+i+1) eh c' d' (by rw[Y.same.2.1];exact j0) kh) (c:=c) (d:=d) (by rw[S];exact H) G (by rw[M];exact E) (by rw[X,X,V,U];exact h6) (y:=y) (q:=u) (by rw[X,V];exact u1);rw[X,U]at this;exact this.trans u2
theorem Run.cl(h:Run k J A)(x:Nat)(U:j<=J):Cl (A j) (oy (A 0) x):=λc d hc hd hi hl hC=>by
 obtain⟨e1,Y,X,V⟩:=h.same j U;have Z:∀d,rX (A j) c d=rX (A 0) c d:=λd=>by unfold rX;rw[X]
 rw[Z,Z]at hl;rw[Z]at hC⊢;exact hC.trans (oy.adj ⟨c,d,by rw[<-Y];exact hc,hd,by rw[<-V];exact hi,rfl,rfl,hl⟩)
theorem WX {L:Int->Option PS} {y:Int} {p:PS} (Y:K y=μ p)(X:L y=μ q)(V:yk L y p.1 p.2)(U:yk K y q.1 q.2):p=q:=by
 obtain⟨u,u1,u2⟩:=V;obtain⟨v,v1,v2⟩:=U;rw[X]at u1;rw[Y]at v1;injection u1 with u1
 injection v1 with v1
 subst u1 v1;rw[um]at v2;have Z:l5 q.1 q.2 p.1 p.2=0:=eh;have:=AK.1 Z;exact aV this.1.symm this.2.symm
theorem Run.equal(h:Run k J A)(hJ:12<=J) {x0:Nat} (H:x0<(A 0).n)(y:Int):∃v,Be (oy (A 0) x0) y v (A 12):=by
 obtain⟨N0,m0,r0⟩:=h.r 0 eh;have xw:=r0.s.env.i.qU;have kD:∀x,oy (A 0) x0 x->x<(A 0).n:=λx hx=>by obtain⟨k,Q⟩:=hx;exact Q.lt xw H
 have S:∀x z,oy (A 0) x0 x->oy (A 0) x0 z->Way (A 0) 6 x z:=λx z hx G=>ZR xw (kD x hx) (hx.symm.trans G);have bd:∀j,j<=6->Bd (oy (A 0) x0) y (A 0) (A j):=λj=>by
  induction j with
  |zero=>intro _ x hx q Z;exact .inl ⟨x,hx,uL Z⟩
  |succ j ih=>
   intro hj;obtain⟨N,m,Y⟩:=h.r j eh;exact Y.bd (h.cl x0 eh) (ih eh)
 have b6:=bd 6 (Nat.le_refl _);have be:∀j i v,Be (oy (A 0) x0) y v (A j)->j+i<=J->Be (oy (A 0) x0) y v (A (j+i)):=λj i v hv=>by
  induction i with
  |zero=>intro _;exact hv
  |succ i ih=>
   intro hi;obtain⟨N,m,Y⟩:=h.r (j+i) eh;exact Y.be (h.cl x0 eh) (ih eh)
 by_cases jq:∃i,oy (A 0) x0 i/\(i:Int)+1=y
 ·obtain⟨i,hi,hy⟩:=jq;subst hy;obtain⟨N6,m6,r6⟩:=h.r 6 eh;obtain⟨B,hB⟩:=r6.s.env.i.own;obtain⟨U,_,_,_⟩:=h.same 6 eh;have Gy:=hB.r i (by rw[U];exact kD i hi);obtain⟨o,X,_⟩:=Gy.2.1.own;rw[Gy.2.2.2.1]at X;have o6:Bo (oy (A 0) x0) i o (A 6):=by
   refine⟨X,λx hx q Z=> ?_⟩;have Q:yk ((A 6).R i).K ((i:Int)+1) q.1 q.2:=by
    rcases b6 x hx q Z with⟨x1,g1,u,u1,u2⟩|⟨i',g1,g2,g3⟩
    ·have:=h.spread (S x1 i g1 hi) 0 eh ((i:Int)+1) u u1;exact this.trans u2
    ·have:i'=i:=eh;subst this;exact g3
   obtain⟨u,u1,u2⟩:=Q;rw[X]at u1;injection u1 with u1;rw[u1];exact u2
  have bo:∀j,j<=6->Bo (oy (A 0) x0) i o (A (6+j)):=λj=>by
   induction j with
   |zero=>intro _;exact o6
   |succ j ih=>
    intro hj;obtain⟨N,m,Y⟩:=h.r (6+j) eh;exact Y.bo (h.cl x0 eh) hi (ih eh)
  have E:=bo 6 (Nat.le_refl _);refine⟨μ o,λx hx=> ?_⟩;obtain⟨u,u1,u2⟩:=h.spread (S i x hi hx) 6 eh ((i:Int)+1) o X;have M:=E.2 x hx u u1;rw[u1];congr 1;rw[um]at M;have h0:l5 u.1 u.2 o.1 o.2=0:=eh;have:=AK.1 h0;exact aV this.1 this.2
 ·have left:∀x,oy (A 0) x0 x->∀q:PS,((A 6).R x).K y=μ q->∃x1,oy (A 0) x0 x1/\yk ((A 0).R x1).K y q.1 q.2:=λx hx q Z=>by
   rcases b6 x hx q Z with g|⟨i,g1,g2,_⟩
   ·exact g
   ·exact absurd ⟨i,g1,g2⟩ jq
  have up:∀x z,oy (A 0) x0 x->oy (A 0) x0 z->∀q:PS,((A 6).R x).K y=μ q->yk ((A 6).R z).K y q.1 q.2:=λx z hx G q Z=>by
   obtain⟨x1,g1,u,u1,u2⟩:=left x hx q Z;exact(h.spread (S x1 z g1 G) 0 eh y u u1).trans u2
  have vD:oy (A 0) x0 x0:=⟨0,Way.here _⟩
  refine⟨((A 6).R x0).K y,be 6 6 _ (λx hx=> ?_) eh⟩;cases V:((A 6).R x0).K y with
  |none=>
   cases U:((A 6).R x).K y with
   |none=>rfl
   |some q=>
    obtain⟨u,u1,_⟩:=up x x0 hx vD q U;rw[V]at u1;exact absurd u1 gZ
  |some p=>
   obtain⟨q,q1,q2⟩:=up x0 x vD hx p V;rw[q1];congr 1;exact(WX V q1 ⟨q,q1,q2⟩ (up x x0 hx vD q q1)).symm
def EqA(a:AN):Prop:=∀c d,c<a.nc->d<2->a.iT c=true->rX a c d≠rX a c (1-d)->(a.R (rX a c d)).K=(a.R (rX a c (1-d))).K
def OwN(a:AN):Prop:=∀c d,c<a.nc->d<2->a.iT c=true->rX a c d≠rX a c (1-d)->∀y,(a.R (rX a c d)).O (a.e c d).2 y=ν
theorem Run.eqA(h:Run k J A)(X:12<=J):EqA (A 12):=λc d hc hd hi hl=>by
 obtain⟨e1,Y,V,U⟩:=h.same 12 X;obtain⟨N0,m0,S⟩:=h.r 0 eh;have Z:∀d,rX (A 12) c d=rX (A 0) c d:=λd=>by unfold rX;rw[V]
 have hx:rX (A 12) c d<(A 0).n:=by rw[Z];exact(S.s.env.i.qU.en c d (by rw[<-Y];exact hc) hd).1
 funext y
 obtain⟨v,hv⟩:=h.equal X hx y;rw[hv _ ⟨0,Way.here _⟩];rw[hv (rX (A 12) c (1-d)) (oy.adj ⟨c,d,by rw[<-Y];exact hc,hd,by rw[<-U];exact hi,(Z d).symm,(Z (1-d)).symm,hl⟩)]
theorem ahH(i:Nat)(s:List UInt8)(h:(iu s).2.2.2=0->(r.P i).pe.both=true->r.K (iu s).1=μ ((iu s).2.1,(iu s).2.2.1))(j:Nat)(y:Int)(Z:r.O j y=ν):(jm r i s).O j y=ν:=by
 unfold jm;simp only;split
 ·exact Z
 ·rename_i g
  have U:(iu s).2.2.2=0:=eh;have hb:(r.P i).pe.both=true:=by
   cases hb:(r.P i).pe.both
   ·exact absurd (.inr hb) g
   ·rfl
  have V:=h U hb;have Y:newF r.K (iu s).1 (iu s).2.1 (iu s).2.2.1=0:=by rw[od V];exact oc _ _
  rw[Y];rw[af gZ];have X:oX r.K r.O i (iu s).1 (iu s).2.1 (iu s).2.2.1 j y=ν:=by
   unfold oX;rw[Y,af eA,af eA];split
   ·rename_i e
    show(if y=(iu s).1 then ν else r.O i y)=ν;split
    ·rfl
    ·rw[<-e];exact Z
   ·exact Z
  split
  ·exact X
  ·exact X
theorem ZS(Y:Kh r)(i:Nat)(s:List UInt8)(V:(iu s).2.2.2=0)(hb:(r.P i).pe.both=true)(Z:(r.P i).L.st=9)(S:r.K (iu s).1=μ ((iu s).2.1,(iu s).2.2.1)):jo ((jP r i (83::s)).P i)=[65::ru (iu s).1 (iu s).2.1 (iu s).2.2.1] :=by
 have Q:jP r i (83::s)=jm r i s:=by
  show r.take i 83 s=_;rw[lP,uJ i s eA,af (by rw[Z];simp)];unfold mF;rw[af eA,ai rfl]
 rw[Q];have U:newF r.K (iu s).1 (iu s).2.1 (iu s).2.2.1=0:=by rw[od S];exact oc _ _
 unfold jm;simp only;rw[af (by rw[hb];simp;exact V),U,af gZ,ai eA,kK,ai rfl];have hv:oD (iu s).1 (iu s).2.1 (iu s).2.2.1=0:=pV (by rw[<-V]);have hlen:=DK hv;obtain⟨z,M⟩:∃z:iO,({r with K:=lF r.K (iu s).1 (iu s).2.1 (iu s).2.2.1,O:=oX r.K r.O i (iu s).1 (iu s).2.1 (iu s).2.2.1}:iO)=z:=⟨_,rfl⟩
 have hzP:z.P i=r.P i:=by rw[<-M]
 have X:=uI (p:=r.P i) (Y.fr i) 65 (ru (iu s).1 (iu s).2.1 (iu s).2.2.1);rw[af (by rw[Z];simp;omega),jC (Y i)]at X;exact X
def FE(a:AN):Prop:=∀c d,c<a.nc->d<2->a.iT c=true->rX a c d≠rX a c (1-d)->∀x∈a.F c d,∀s,(x=83::s \/x=65::s)->(iu s).2.2.2=0->(a.R (rX a c d)).K (iu s).1=μ ((iu s).2.1,(iu s).2.2.1)
theorem FR.paid(h:FR N k a m b)(h0:∀c d,c<a.nc->d<2->a.F c d=[])(h1:∀c d,c<a.nc->d<2->b.F c d=[])(Nd:EqA a):(∀j,(b.R j).K=(a.R j).K)/\EqA b/\OwN b:=by
 obtain⟨B,hB⟩:=h.s.env.i.own;have H:∀c d,rX m c d=rX a c d:=λc d=>by unfold rX;rw[h.me.2.2.1]
 have ad3:∀ {y:Int} {q:PS},oD y q.1 q.2=0->iu (ru y q.1 q.2)=(y,q.1,q.2,0):=λhv=>nQ _ _ _ hv
 let P:AN->Prop:=λz=>((∀j,(z.R j).K=(a.R j).K)/\FE z)/\∀c d,c<a.nc->d<2->a.iT c=true->rX a c d≠rX a c (1-d)->∀y,(z.R (rX a c d)).O (a.e c d).2 y=ν \/ ∃q:PS,(a.R (rX a c d)).K y=μ q/\(83::ru y q.1 q.2∈z.F c d \/65::ru y q.1 q.2∈z.F c (1-d))
 have hm:P m:=by
  refine⟨⟨λj=>(h.ko j).1,λc d hc hd hi hl x hx s hs Z=> ?_⟩,λc d hc hd hi hl y=> ?_⟩
  ·rw[h.me.2.1]at hc;rw[h.me.2.2.2]at hi;rw[H,H]at hl;obtain⟨l,f1,f2,_⟩:=h.mf c d hc hd;rw[f1,h0 c d hc hd,bT,f2 hi hl]at hx;rw[H,(h.ko _).1];have U:=hB.r _ (h.s.env.i.qU.en c d hc hd).1;rcases aO.1 hx with g|g
   ·rw[g]at hs;rcases hs with e|e<;>exact absurd (aC e).1 eA
   ·obtain⟨q,q1,q2⟩:=aT.1 g;have X:=U.1.tie _ _ _ (xL q1);have hv:=U.1.val _ _ X;have q2:x∈DH (q.1,q.2):=q2;rw[J2 hv]at q2;have vM:=ar.1 q2;have hs':s=ru q.1 q.2.1 q.2.2:=by
     rw[vM]at hs;rcases hs with e|e
     ·exact(aC e).2.symm
     ·exact absurd (aC e).1 eA
    rw[hs',ad3 hv];exact X
  ·rw[(h.ko _).2];cases hO:(a.R (rX a c d)).O (a.e c d).2 y with
   |none=>exact .inl rfl
   |some q=>
    right;have U:=hB.r _ (h.s.env.i.qU.en c d hc hd).1;have X:=U.1.tie _ _ _ hO;have hv:=U.1.val _ _ X;have hy:=U.2.1.PE y (by rw[X];rfl);obtain⟨l,f1,f2,_⟩:=h.mf c d hc hd;refine⟨q,X,.inl ?_⟩;rw[f1,f2 hi hl];refine av.2 (.inr (aO.2 (.inr (aT.2 ⟨(y,q),Mw hy hO,?_⟩))));rw[J2 hv];simp
 obtain⟨_,⟨⟨g1,_⟩,g3⟩,e1,e2,e3,e4⟩:=h.keep P hm λz c d x l Z M hT hc hd hF hP=>by
  obtain⟨⟨p1,p2⟩,p3⟩:=hP;have Y:∀c d,rX z c d=rX a c d:=λc d=>by unfold rX;rw[M.2.2.1]
  obtain⟨_,k1,k2,k3⟩:=Z.pop h.l h.k1 hT hc hd hF;obtain⟨D,hD⟩:=Z.env.i.own;have Sk:=Z.env.i.nrm;have WN:x∈z.F c d:=by rw[hF];simp
  have ahI:z.iT c=true->rX z c d≠rX z c (1-d)->(z.R (rX z c d)).K=(z.R (rX z c (1-d))).K:=λhi hl=>by
   rw[p1,p1,Y,Y];exact Nd c d (by rw[<-M.2.1];exact hc) hd (by rw[<-M.2.2.2];exact hi) (by rw[<-Y,<-Y];exact hl)
  have X:∀j,((z.pop c d x l).R j).K=(z.R j).K:=λj=>by
   funext y
   rcases Z.news h.l h.k1 hT hc hd hF j y with g|⟨g1,g2,g3,u,⟨v,v1,v2⟩,g5,_⟩
   ·exact g
   ·rw[ahI g2 g3,<-g1]at v1;exact absurd g5 (J3 v1 v2)
  have J4:∀c' d',c'<z.nc->d'<2->∃em,(z.pop c d x l).F c' d'=(if c'=c/\d'=d then l else z.F c' d')++em:=(Z.env.pop h.l h.k1 hc hd hF).2.2;have ku:∀s,x=83::s->(iu s).2.2.2=0->((z.R (rX z c (1-d))).P (z.e c (1-d)).2).pe.both=true->(z.iT c=true/\rX z c d≠rX z c (1-d))/\(z.R (rX z c (1-d))).K (iu s).1=μ ((iu s).2.1,(iu s).2.2.1):=λs hs mI hb=>by
   obtain⟨i1,i2⟩:=Z.WW hc (show 1-d<2 by omega) hb;rw[show 1-(1-d)=d by omega]at i2;refine⟨⟨i1,λw=>i2 w.symm⟩,?_⟩;rw[<-ahI i1 λw=>i2 w.symm];exact p2 c d hc hd i1 (λw=>i2 w.symm) x WN s (.inl hs) mI
  have hO:∀j p y,(z.R j).O p y=ν->((z.pop c d x l).R j).O p y=ν:=λj p y V=>by
   by_cases e:j=rX z c (1-d)
   ·rw[e]at V⊢;rw[k3];cases x with
    |nil=>exact V
    |cons u s=>
     by_cases h83:u=83
     ·subst h83;exact ahH (z.e c (1-d)).2 s (λa1 a2=>(ku s rfl a1 a2).2) p y V
     ·by_cases h65:u=65
      ·subst h65;show(kF (z.R (rX z c (1-d))) (z.e c (1-d)).2 s).O p y=ν;unfold kF;simp only;split
       ·show(if _ then yI _ _ else _) y=ν;split
        ·rename_i g
         show(if y=_ then ν else _)=ν;split
         ·rfl
         ·rw[<-g.1];exact V
        ·exact V
       ·exact V
      ·rw[IK _ _ s h83 h65];exact V
   ·rw[(k1 j e).2];exact V
  refine⟨⟨λj=>(X j).trans (p1 j),λc' d' j0 S G XX w hw s hs mI=> ?_⟩,λc' d' j0 S G XX y=> ?_⟩
  ·
   have E:c'<z.nc:=j0;have ahJ:rX z c' d'≠rX z c' (1-d'):=XX;show((z.pop c d x l).R (rX z c' d')).K _=_;rw[X];have CK:∀v,v∈(z.lH c d l).F c' d'->v∈z.F c' d':=λv hv=>by
    rw[sY]at hv;split at hv
    ·rename_i e;rw[e.1,e.2,hF];simp[hv]
    ·exact hv
   obtain⟨m1,_⟩:=qu (Sk.emp (z.e c (1-d)).1) (z.e c (1-d)).2 x;unfold AN.pop at hw;rw[vN]at hw;split at hw
   ·rename_i ahK
    rcases av.1 hw with u|u
    ·exact p2 c' d' E S G ahJ w (CK w u) s hs mI
    ·cases m1 ((z.lH c d l).e c' d').2 with
     |none h=>rw[h]at u;simp at u
     |link s' _ _ _ h=>rw[h]at u;obtain⟨v,hv⟩:=rT u;rw[hv]at hs;rcases hs with e|e<;>exact absurd (aC e).1 eA
     |JM u1 u2 s' _ _ _ _ h=>rw[h]at u;rw[ar.1 u]at hs;rcases hs with e|e<;>exact absurd (aC e).1 eA
     |heard s' vM hp' _ Tv qq _ _ h=>
      rw[h]at u;have hw':=ar.1 u;have hv:oD (iu s').1 (iu s').2.1 (iu s').2.2.1=0:=pV (by rw[<-Tv]);have TI:s=ru (iu s').1 (iu s').2.1 (iu s').2.2.1:=by
       rw[hw']at hs;rcases hs with e|e
       ·exact absurd (aC e).1 eA
       ·exact(aC e).2.symm
      rw[TI,nQ _ _ _ hv];have z8:=Z.env.i.qU.ds c' d' c (1-d) E S hc eh (aV ahK.2 hp');rw[z8.1,z8.2];exact(ku s' vM Tv qq).2
   ·exact p2 c' d' E S G ahJ w (CK w hw) s hs mI
  ·
   rcases p3 c' d' j0 S G XX y with g|⟨q,q1,q2⟩
   ·exact .inl (hO _ _ _ g)
   ·have E:c'<z.nc:=by rw[M.2.1];exact j0
    have U:=hB.r _ (h.s.env.i.qU.en c' d' j0 S).1;have hv:=U.1.val y q q1;have hzX:(z.R (rX z c' d')).K y=μ q:=by rw[p1,Y];exact q1
    have hzZ:(z.R (rX z c' (1-d'))).K y=μ q:=by rw[p1,Y,<-Nd c' d' j0 S G XX];exact q1
    rcases q2 with q2|q2
    ·by_cases e:c'=c/\d'=d
     ·obtain⟨z1,z2⟩:=e;subst z1 z2;rw[hF]at q2;rcases aO.1 q2 with v|v
      ·right;refine⟨q,q1,.inr ?_⟩;have oP:=Z.pb c' (1-d') hc eh (by rw[M.2.2.2];exact G) (by rw[Y,Y,show 1-(1-d')=d' by omega];exact λw=>XX w.symm);have h9:((z.R (z.e c' (1-d')).1).P (z.e c' (1-d')).2).L.st=9:=Z.env.o c' (1-d') hc eh (by rw[M.2.2.2];exact G);have hp:=nQ _ _ _ hv;have VC:=ZS (Sk.emp (z.e c' (1-d')).1) (z.e c' (1-d')).2 (ru y q.1 q.2) (by rw[hp]) oP.2.1 h9 (by rw[hp];exact hzZ);rw[hp]at VC;rw[<-v];unfold AN.pop;rw[vN,yY,ai ⟨⟨hc,eh⟩,rfl⟩,VC];simp
      ·right;obtain⟨em,f⟩:=J4 c' d' hc hd;rw[ai ⟨rfl,rfl⟩]at f;exact⟨q,q1,.inl (by rw[f];simp[v])⟩
     ·right;obtain⟨em,f⟩:=J4 c' d' E S;rw[af e]at f;exact⟨q,q1,.inl (by rw[f];simp[q2])⟩
    ·by_cases e:c'=c/\1-d'=d
     ·obtain⟨z1,z2⟩:=e;subst z1;have G7:1-d=d':=eh;rw[z2,hF]at q2;rcases aO.1 q2 with v|v
      ·left;have hX:rX a c' d'=rX z c' (1-d):=by rw[Y,G7]
       rw[hX,k3,<-v];show(kF (z.R (rX z c' (1-d))) (z.e c' (1-d)).2 (ru y q.1 q.2)).O (a.e c' d').2 y=ν;have hp:=nQ _ _ _ hv;unfold kF;simp only;rw[hp];simp only;rw[ai trivial];have hK0:newF (z.R (rX z c' (1-d))).K y q.1 q.2=0:=by rw[G7,od hzX];exact oc _ _
       show(if(a.e c' d').2=(z.e c' (1-d)).2/\0<=newF (z.R (rX z c' (1-d))).K y q.1 q.2 then yI ((z.R (rX z c' (1-d))).O (z.e c' (1-d)).2) y else _) y=ν;rw[ai ⟨by rw[M.2.2.1,G7],by rw[hK0];exact Int.le_refl _⟩];show(if y=y then ν else _)=ν;rw[ai rfl]
      ·right;obtain⟨em,f⟩:=J4 c' (1-d') hc eh;rw[ai ⟨rfl,z2⟩]at f;exact⟨q,q1,.inr (by rw[f];simp[v])⟩
     ·right;obtain⟨em,f⟩:=J4 c' (1-d') E eh;rw[af e]at f;exact⟨q,q1,.inr (by rw[f];simp[q2])⟩
 have Q:∀c d,rX b c d=rX a c d:=λc d=>by unfold rX;rw[e3]
 refine⟨g1,λc d hc hd hi hl=> ?_,λc d hc hd hi hl y=> ?_⟩
 ·rw[g1,g1,Q,Q];exact Nd c d (by rw[<-e2];exact hc) hd (by rw[<-e4];exact hi) (by rw[<-Q,<-Q];exact hl)
 ·have:=g3 c d (by rw[<-e2];exact hc) hd (by rw[<-e4];exact hi) (by rw[<-Q,<-Q];exact hl) y;rw[Q,e3];rcases this with g|⟨q,_,g|g⟩
  ·exact g
  ·rw[h1 c d (by rw[<-e2];exact hc) hd]at g;simp at g
  ·rw[h1 c (1-d) (by rw[<-e2];exact hc) eh]at g;simp at g
structure Fl(D N k:Nat)(y:iP):Prop where
 ok:j5 y D 0
 g:GN y
 f:jE y
 e:Env N k (iJ y)
 s:Still y
theorem Fl.st(h:Fl D N k y):St D N k y:=⟨h.ok,h.g,h.f,h.e.i⟩
theorem Fl.nil(h:Fl D N k y)(c d:Nat)(hc:c<(iJ y).nc)(hd:d<2):(iJ y).F c d=[] :=h.s.f c d hc hd
theorem Fl.round {D N k:Nat} {y:iP} (h:Fl D N k y)(Z:D<=800000000)(S:N+144<1000000)(Q:k+1<=126):∃m,xW (mV (iJ y).n) (iJ y) m/\vS m (iJ y.round)/\Fl (D+1300000) (N+144) k y.round/\∀c d,c<y.nc->d<2->(y.C c).iT=true->mR (iJ y.round) c d=ji ((rX (iJ y) c d:Int)+1) ((rX (iJ y) c (1-d):Int)+1) (iK (mR (iJ y) c (1-d))).who:=by
 obtain⟨m,X,V,U⟩:=h.st.light h.s Z S Q;obtain⟨_,len,_⟩:=pH y.n;have n6:=h.ok.n6;have hl:N+8*(mV (iJ y).n).length<1000000:=by show N+8*(mV y.n).length<_;rw[len];omega
 have H:∀c d,c<(iJ y).nc->d<2->(iJ y.round).F c d=[] :=λc d hc hd=>U.f c d (by rw[(kM y).2.1];exact hc) hd;obtain⟨Y,M⟩:=CJ (a:=iJ y) X V h.e hl eh h.nil H;refine⟨m,X,V,⟨h.ok.round Z,h.g.round h.ok Z,h.f.round h.ok Z,⟨Y.i.mono (by show N+8*(mV y.n).length<=_;rw[len];omega) λ_=>Nat.le_refl _,Y.o,Y.nl⟩,U⟩,λc d hc hd hi=>M c d hc hd hi⟩
theorem St.fl(h:St D N k y)(hD:D<=780000000)(hN:N+20*144<1000000)(M:k+8<=126):Fl (D+1300000*7) (N+144*7) (k+7) (lQ y 7):=by
 have U:=h.opens eh eh M 6 (Nat.le_refl _);simp only[Nat.reduceAdd,Nat.reduceSub]at U;obtain⟨Z,Y,S⟩:=U;obtain⟨Q,X,_,V⟩:=xP y 7;obtain⟨z,H⟩:=gq (lQ y 7);rw[H]at Z Y S Q X V⊢;exact⟨Z.ok,Z.g,Z.f,⟨Z.i,λc d hc hd hi=>(S c (by rw[<-X];exact hc) (by rw[<-(V c).2];exact hi)).open hd,λc d hc hd x hx=>by rw[Y.f c d hc hd]at hx;simp at hx⟩,Y⟩
structure Fs(D N k:Nat)(y:iP):Prop where
 ok:j5 y D 0
 g:GN y
 f:jE y
 s:Au N k [] (iJ y)
 z:Still y
theorem Fs.fl(h:Fs D N k y):Fl D N k y:=⟨h.ok,h.g,h.f,h.s.env,h.z⟩
theorem Fl.two(h:Fl D N k y)(hD:D<=790000000)(hN:N+3*144<1000000)(u:k+1<=126):Fs (D+1300000*2) (N+144*2) k (lQ y 2):=by
 obtain⟨_,_,_,h1,p1⟩:=h.round eh eh u;obtain⟨_,_,_,Z,p2⟩:=h1.round eh eh u;obtain⟨s1,s2,_,S⟩:=kM y;obtain⟨t1,t2,_,t4⟩:=kM y.round;have lg:∀c d,rX (iJ y.round) c d=rX (iJ y) c d:=λc d=>by show((y.round.C c).e d).1=_;rw[(S c).1];rfl
 have V:∀c d,rX (iJ y.round.round) c d=rX (iJ y) c d:=λc d=>by show((y.round.round.C c).e d).1=_;rw[(t4 c).1,(S c).1];rfl
 have vQ:(iJ y.round.round).nc=y.nc:=t2.trans s2;have E:∀c,(iJ y.round.round).iT c=(y.C c).iT:=λc=>((t4 c).2).trans (S c).2;obtain⟨X,hX⟩:=Z.e.i.lk;obtain⟨B,hB⟩:=Z.e.i.own;have Q:∀c d,c<(iJ y.round.round).nc->d<2->(mR (iJ y.round.round) c d).who=0->(mR (iJ y.round.round) c d).both=false:=λc d hc hd U=>by
  have G:=Z.e.i.qU.en c d hc hd;have hr:=hB.r _ G.1;have H:=hr.2.1.pe ((iJ y.round.round).e c d).2 (by rw[hr.2.2.2.2];exact G.2);cases hb:(mR (iJ y.round.round) c d).both
  ·rfl
  ·have:=H.both hb;unfold mR at U;omega
 have Y:∀c d,c<y.nc->d<2->(y.C c).iT=true->mR (iJ y.round.round) c d=ji ((rX (iJ y) c d:Int)+1) ((rX (iJ y) c (1-d):Int)+1) (iK (ji ((rX (iJ y) c (1-d):Int)+1) ((rX (iJ y) c d:Int)+1) (iK (mR (iJ y) c d)).who)).who:=λc d hc hd hi=>by
  rw[p2 c d (by rw[s2];exact hc) hd (by rw[(S c).2];exact hi),p1 c (1-d) hc eh hi,lg,lg,show 1-(1-d)=d by omega]
 refine⟨Z.ok.mono eh (Nat.le_refl _),Z.g,Z.f,⟨⟨Z.e.i.mono eh λ_=>Nat.le_refl _,Z.e.o,Z.e.nl⟩,λc d hc hd hi hl=> ?_,λc d hc hd Ax=> ?_,λc d hc hd _ _ x hx=> ?_,λi p hi H lh=> ?_⟩,Z.s⟩
 ·rw[show(iJ (lQ y 2))=iJ y.round.round from rfl]at*;rw[V,V]at hl;rw[Y c d (by rw[<-vQ];exact hc) hd (by rw[<-E];exact hi),V];have jx:¬((rX (iJ y) c (1-d):Int)+1=(rX (iJ y) c d:Int)+1):=eh;have M:¬((rX (iJ y) c d:Int)+1=(rX (iJ y) c (1-d):Int)+1):=eh;unfold ji;rw[af jx,af M];unfold iK;rw[af (by show¬(4:Int)<=1;decide)];refine⟨rfl,gZ,?_⟩;rw[af gZ];exact Int.le_refl _
 ·rw[show(iJ (lQ y 2))=iJ y.round.round from rfl]at*;have U:(mR (iJ y.round.round) c d).who=0:=by
   cases hi:(iJ y.round.round).iT c
   ·by_cases g:(mR (iJ y.round.round) c d).who=0
    ·exact g
    ·have:=Z.e.i.fl.gate c d hc hd g;have:=(hX.dn c hc hi d hd).2.1;omega
   ·have hl:rX (iJ y) c d=rX (iJ y) c (1-d):=by
     rcases Ax with g|g
     ·rw[hi]at g;exact absurd g gZ
     ·rw[V,V]at g;exact g
    rw[Y c d (by rw[<-vQ];exact hc) hd (by rw[<-E];exact hi)];unfold ji;rw[ai (by rw[hl])];rfl
  exact⟨U,Q c d hc hd U⟩
 ·rw[show(iJ (lQ y 2))=iJ y.round.round from rfl]at*;rw[Z.s.f c d hc hd]at hx;simp at hx
 ·have:=Z.ok.idle i p hi H λc d hc hd=>lh c d hc hd;have Y:((y.round.round.R i).P p).pe=nobody:=this.pe;exact⟨this.st,by show((y.round.round.R i).P p).pe.who=0;rw[Y];rfl,by show((y.round.round.R i).P p).pe.both=false;rw[Y];rfl⟩
theorem Fs.round {D N k:Nat} {y:iP} (h:Fs D N k y)(U:D<=800000000)(S:N+144<1000000)(Q:k+1<=126):∃m,FR N k (iJ y) m (iJ y.round)/\Fs (D+1300000) (N+144) k y.round:=by
 obtain⟨m,X,V,Z,_⟩:=h.fl.round U S Q;obtain⟨_,len,_⟩:=pH y.n;have n6:=h.ok.n6;have hl:N+8*(mV (iJ y).n).length<1000000:=by show N+8*(mV y.n).length<_;rw[len];omega
 have Y:=FR.of h.s X V hl eh;have hs:=Y.sta h.fl.nil λc d hc hd=>Z.nil c d (by show c<y.round.nc;rw[(kM y).2.1];exact hc) hd;refine⟨m,Y,Z.ok,Z.g,Z.f,?_,Z.s⟩;have M:N+8*(mV (iJ y).n).length<=N+144:=by show N+8*(mV y.n).length<=_;rw[len];omega
 exact⟨⟨hs.env.i.mono M λ_=>Nat.le_refl _,hs.env.o,hs.env.nl⟩,hs.pb,hs.pn,hs.hh,hs.id⟩
theorem Av(y:iP)(i:Nat):∀j,lQ y (i+j)=lQ (lQ y i) j
 |0=>rfl
 |j+1=>by show(lQ y (i+j)).round=(lQ (lQ y i) j).round;rw[Av y i j]
theorem Fs.many {D N k:Nat} {y:iP} (h:Fs D N k y)(Y:k+1<=126):∀j,D+1300000*j<=800000000->N+144*(j+1)<1000000->Fs (D+1300000*j) (N+144*j) k (lQ y j)
 |0,_,_=>h
 |j+1,hD,hN=>by
  have U:=h.many Y j eh eh;obtain⟨m,_,Z⟩:=U.round eh eh Y;have X:D+1300000*j+1300000=D+1300000*(j+1):=eh;have V:N+144*j+144=N+144*(j+1):=eh;rw[X,V]at Z;exact Z
structure Fin(D N k:Nat)(y:iP):Prop where
 s:Fs D N k y
 e:EqA (iJ y)
 o:OwN (iJ y)
theorem Fin.round {D N k:Nat} {y:iP} (h:Fin D N k y)(Y:D<=800000000)(X:N+144<1000000)(V:k+1<=126):Fin (D+1300000) (N+144) k y.round/\∀j,((iJ y.round).R j).K=((iJ y).R j).K:=by
 obtain⟨m,U,Z⟩:=h.s.round Y X V;obtain⟨S,Q,p3⟩:=U.paid h.s.fl.nil (λc d hc hd=>Z.fl.nil c d (by show c<y.round.nc;rw[(kM y).2.1];exact hc) hd) h.e;exact⟨⟨Z,Q,p3⟩,S⟩
theorem Fs.fin(h:Fs D N k y)(V:k+1<=126)(hD:D+1300000*14<=800000000)(hN:N+144*15<1000000):Fin (D+1300000*13) (N+144*13) k (lQ y 13):=by
 have run:Run k 12 λj=>iJ (lQ y j):=by
  refine⟨λj H=> ?_,λj H c d hc hd=> ?_⟩
  ·obtain⟨m,U,_⟩:=(h.many V j eh eh).round eh eh V;exact⟨_,m,U⟩
  ·exact(h.many V j eh eh).fl.nil c d hc hd
 have Z:=h.many V 12 eh eh;have heq:=run.eqA (Nat.le_refl _);have M:lQ y 13=(lQ y 12).round:=rfl;have X:EqA (iJ (lQ y 12)):=heq;rw[M];obtain⟨z,G⟩:=gq (lQ y 12);rw[G]at Z X⊢;obtain⟨m,U,Y⟩:=Z.round eh eh V;obtain⟨_,E,p3⟩:=U.paid Z.fl.nil (λc d hc hd=>Y.fl.nil c d (by show c<z.round.nc;rw[(kM z).2.1];exact hc) hd) X;have S:D+1300000*12+1300000=D+1300000*13:=eh;have Q:N+144*12+144=N+144*13:=eh;rw[S,Q]at Y;exact⟨Y,E,p3⟩
theorem Fin.many {D N k:Nat} {y:iP} (h:Fin D N k y)(Y:k+1<=126):∀j,D+1300000*j<=800000000->N+144*(j+1)<1000000->Fin (D+1300000*j) (N+144*j) k (lQ y j)/\∀i,((iJ (lQ y j)).R i).K=((iJ y).R i).K
 |0,_,_=>⟨h,λ_=>rfl⟩
 |j+1,hD,hN=>by
  obtain⟨U,k1⟩:=h.many Y j eh eh;obtain⟨Z,k2⟩:=U.round eh eh Y;have X:D+1300000*j+1300000=D+1300000*(j+1):=eh;have V:N+144*j+144=N+144*(j+1):=eh;rw[X,V]at Z;exact⟨Z,λi=>(k2 i).trans (k1 i)⟩
theorem St.settled(h:St D N k y)(hD:D<=600000000)(hN:N+50*144<1000000)(Q:k+8<=126):Fin (D+1300000*45) (N+144*45) (k+7) (lQ y 45):=by
 have U:=h.fl eh eh Q;have S:=U.two eh eh eh;have Y:=S.fin eh eh eh;have Z:=(Y.many eh 23 eh eh).1;rw[show lQ (lQ (lQ (lQ y 7) 2) 13) 23=lQ y 45 by rw[<-Av,<-Av,<-Av]]at Z;have X:D+1300000*7+1300000*2+1300000*13+1300000*23=D+1300000*45:=eh;have V:N+144*7+144*2+144*13+144*23=N+144*45:=eh;rw[X,V]at Z;exact Z
theorem Tf {many:Nat} {L:List oQ} (Z:j5 (jS many L) D 0):St D 2 0 (jS many L):=by
 have H:∀i,i<many->(1:Int)<=(i:Int)+1/\(i:Int)+1<=6:=λi hi=>by have:=Z.n6;have:(jS many L).n=many:=rfl;omega
 have V:∀i p,i<many->p<3->1<=pz L i p/\pz L i p<=20:=λi p hi E=>Z.ms i p hi E;have hF:∀c d,(iJ (jS many L)).F c d=[] :=λc d=>by
  show(if c<L.length/\d<2 then ud (jS many L) c d else [])=[]
  split
  ·rfl
  ·rfl
 have hRr:∀i,(iJ (jS many L)).R i=jO ((i:Int)+1) 3 (pz L i):=λi=>rfl;have Q:∀c d,mR (iJ (jS many L)) c d=nobody:=λc d=>rfl;have G:∀(i:Nat) (x:Int) (q:PS),(jO ((i:Int)+1) 3 (pz L i)).K x=μ q->x=(i:Int)+1/\q=(1,[]):=λi x q h=>by
  have X:(if x=(i:Int)+1 then μ ((1:Int),([] :List jH))else ν)=μ q:=h;split at X
  ·rename_i e;injection X with X;exact⟨e,X.symm⟩
  ·exact absurd X gZ
 have u:∀i,i<many->Own (jO ((i:Int)+1) 3 (pz L i)):=λi hi=>by
  refine⟨λp x q h=>h,λx q h=> ?_,?_⟩
  ·obtain⟨U,Y⟩:=G i x q h;rw[U,Y];have:=H i hi;unfold oD;rw[af eh,af gZ];rfl
  ·have U:C5 (jO ((i:Int)+1) 3 (pz L i)).K (jO ((i:Int)+1) 3 (pz L i)).id=[] :=by
    show(match (if(i:Int)+1=(i:Int)+1 then some ((1:Int),([] :List jH))else none)with|none=>[] |some q=>q.2)=_;rw[ai rfl]
   rw[U];have Y:∀n k,jR (jO ((i:Int)+1) 3 (pz L i)).P n k=ν:=λn k=>by
    induction k with
    |zero=>rfl
    |succ k ih=>unfold jR;rw[af (λh=>absurd h.1 (show¬false=true by simp)),ih]
   unfold jz;simp only[Y,Option.map_none];rfl
 refine⟨Z,Fk many L,OA many L,Z.qU,wZ _,⟨1,λi hi=>⟨u i hi,zW (H i hi) (V i · hi),λx q h=> ?_,rfl,rfl⟩,λc d _ _ x hx=> ?_,?_,Nat.le_refl _,V⟩,⟨λ_ _ _=>false,λc hc hi=> ?_,λc hc hi d hd=> ?_⟩,?_⟩
 ·obtain⟨_,Y⟩:=G i x q h;rw[Y];exact Int.le_refl _
 ·rw[hF]at hx;simp at hx
 ·have w0:(iJ (jS many L)).W sw=0:=by
   unfold AN.W;rw[tf (g:=λ_=>0) λx _=>by show sm sw ((iJ (jS many L)).F x.1 x.2)=0;rw[hF];rfl];generalize SQ (iJ (jS many L)).nc=m
   induction m with
   |nil=>rfl
   |cons x l ih=>simpa[sm]using ih
  have c0:sm (λi=>rh ((iJ (jS many L)).R i)) (gg (iJ (jS many L)).n)=0:=by
   rw[tf (g:=λ_=>0) λi _=>by rfl];generalize gg (iJ (jS many L)).n=m
   induction m with
   |nil=>rfl
   |cons x l ih=>simpa[sm]using ih
  omega
 ·exact absurd (show false=true from hi) gZ
 ·have M:=Z.en c d hc hd;have S:=Z.n6;obtain⟨z1,z2,z3⟩:=Ms (i:=((iJ (jS many L)).e c d).1) (p:=((iJ (jS many L)).e c d).2) (Nat.lt_of_lt_of_le M.1 S) M.2 (pz L ((iJ (jS many L)).e c d).1);have hl:j3 (iJ (jS many L)) c d=(Hz ((((iJ (jS many L)).e c d).1:Int)+1) (pz L ((iJ (jS many L)).e c d).1) ((iJ (jS many L)).e c d).2).L:=rfl;rw[hl];exact⟨z1,z2,by rw[z3];exact Int.natCast_nonneg _,hF c d⟩
 ·refine⟨λc d _ _ h=>absurd (by rw[Q];rfl) h,λc d _ _ h=>absurd (by rw[Q];rfl) h,λc d _ _ x hx=> ?_,λc d _ _ h=> ?_⟩
  ·rw[hF]at hx;simp at hx
  ·rw[Q]at h;exact absurd h (by simp[nobody])
