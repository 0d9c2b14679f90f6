import Derived.Test.YtieklnlbljejdaaGreatDoorG38
open Go.Value renaming int → ι, slice → σ, pointer → π, tuple → τ, nilIface → η
open Go.IntKind renaming i64 → κ
open Go.Ending renaming returned → ρ
open Go.Obj renaming cells → γ
open Option renaming none → ν, some → μ
open List renaming range → gJ
open Go renaming World → eB, Calls → fj
open Go.Proofs.Tryz renaming prog → fk
open Go.RowKit renaming intOf → ft
set_option maxRecDepth 100000
set_option maxHeartbeats 16000000
namespace Go.Proofs.YtieklnlbljejdaaGreatDoor
open Go.RowKit St
namespace Rt
variable {D N a i j k m n2 nc:Nat} {L:List oI} {S:List (Int×List UInt8)} {T:List (Nat×Nat)} {V:Nat->AV} {W w0:World} {X:Nat->Prop} {l:List tV} {r:iY} {used:Nat->Bool} {y:jc}
theorem PU {many:Nat} (jb:j6 (jE many L) D 0):St D 2 0 (jE many L):=by
 have hI:∀i,i<many->(1:Int)<=(i:Int)+1/\(i:Int)+1<=6:=λi hi=>by have:=jb.n6;have:(jE many L).n=many:=rfl;omega
 have Xi:∀i p,i<many->p<3->1<=pM L i p/\pM L i p<=20:=λi p hi hp=>jb.ms i p hi hp;have hF:∀c d,(jl (jE many L)).F c d=[] :=λc d=>by
  show(if c<L.length/\d<2 then tK (jE many L) c d else [])=[]
  split
  ·rfl
  ·rfl
 have hRr:∀i,(jl (jE many L)).R i=jX ((i:Int)+1) 3 (pM L i):=λi=>rfl;have vK:∀c d,yL (jl (jE many L)) c d=nobody:=λc d=>rfl;have hK:∀(i:Nat) (x:Int) (q:PS),(jX ((i:Int)+1) 3 (pM L i)).K x=μ q->x=(i:Int)+1/\q=(1,[]):=λi x q h=>by
  have h':(if x=(i:Int)+1 then μ ((1:Int),([] :List j2))else ν)=μ q:=h;split at h'
  ·rename_i e;injection h' with h';exact⟨e,h'.symm⟩
  ·exact absurd h' iC
 have jC:∀i,i<many->Own (jX ((i:Int)+1) 3 (pM L i)):=λi hi=>by
  refine⟨λp x q h=>h,λx q h=> ?_,?_⟩
  ·obtain⟨e1,e2⟩:=hK i x q h;rw[e1,e2];have:=hI i hi;unfold pj;rw[ae eE,ae iC];rfl
  ·have e1:Cm (jX ((i:Int)+1) 3 (pM L i)).K (jX ((i:Int)+1) 3 (pM L i)).id=[] :=by
    show(match (if(i:Int)+1=(i:Int)+1 then some ((1:Int),([] :List j2))else none)with|none=>[] |some q=>q.2)=_;rw[ag rfl]
   rw[e1];have e2:∀n k,kd (jX ((i:Int)+1) 3 (pM L i)).P n k=ν:=λn k=>by
    induction k with
    |zero=>rfl
    |succ k ih=>unfold kd;rw[ae (λh=>absurd h.1 (show¬false=true by simp)),ih]
   unfold jZ;simp only[e2,Option.map_none];rfl
 refine⟨jb,C6 many L,Lz many L,jb.Tr,yq _,⟨1,λi hi=>⟨jC i hi,yh (hI i hi) (Xi i · hi),λx q h=> ?_,rfl,rfl⟩,λc d _ _ x hx=> ?_,?_,Nat.le_refl _,Xi⟩,⟨λ_ _ _=>false,λc hc hi=> ?_,λc hc hi d hd=> ?_⟩,?_⟩
 ·obtain⟨_,e2⟩:=hK i x q h;rw[e2];exact Int.le_refl _
 ·rw[hF]at hx;simp at hx
 ·have w0:(jl (jE many L)).W sw=0:=by
   unfold AN.W;rw[Dq (g:=λ_=>0) λx _=>by show sm sw ((jl (jE many L)).F x.1 x.2)=0;rw[hF];rfl];generalize Tq (jl (jE many L)).nc=m
   induction m with
   |nil=>rfl
   |cons x l ih=>simpa[sm]using ih
  have c0:sm (λi=>qo ((jl (jE many L)).R i)) (gJ (jl (jE many L)).n)=0:=by
   rw[Dq (g:=λ_=>0) λi _=>by rfl];generalize gJ (jl (jE many L)).n=m
   induction m with
   |nil=>rfl
   |cons x l ih=>simpa[sm]using ih
  omega
 ·exact absurd (show false=true from hi) iC
 ·have Oa:=jb.en c d hc hd;have hn6:=jb.n6;obtain⟨z1,z2,z3⟩:=JM (i:=((jl (jE many L)).e c d).1) (p:=((jl (jE many L)).e c d).2) (Nat.lt_of_lt_of_le Oa.1 hn6) Oa.2 (pM L ((jl (jE many L)).e c d).1);have hl:mb (jl (jE many L)) c d=(EA ((((jl (jE many L)).e c d).1:Int)+1) (pM L ((jl (jE many L)).e c d).1) ((jl (jE many L)).e c d).2).L:=rfl;rw[hl];exact⟨z1,z2,by rw[z3];exact Int.natCast_nonneg _,hF c d⟩
 ·refine⟨λc d _ _ h=>absurd (by rw[vK];rfl) h,λc d _ _ h=>absurd (by rw[vK];rfl) h,λc d _ _ x hx=> ?_,λc d _ _ h=> ?_⟩
  ·rw[hF]at hx;simp at hx
  ·rw[vK]at h;exact absurd h (by simp[nobody])
def kR(r s:iY):Prop:=∀p,(s.P p).m=(r.P p).m
theorem kR.trans {r s t:iY} (h:kR r s)(g:kR s t):kR r t:=λp=>(g p).trans (h p)
theorem kR.meet(r:iY)(i:Nat)(q:ln):kR r (r.meet i q):=λp=>(kC r i q p).2.2.1
theorem kR.jd(r:iY)(i:Nat)(q:jF)(h:q.m=(r.P i).m):kR r (r.jd i q):=λp=>by
 rw[la];split
 ·rename_i e;rw[e,h]
 ·rfl
theorem kR.state(r:iY)(i:Nat)(s:List UInt8):kR r (jK r i s):=by
 unfold jK;simp only;split
 ·exact λ_=>rfl
 ·split
  ·unfold iY.behind;split<;>exact λ_=>rfl
  ·split
   ·exact λp=>(kR.jd _ i _ (qW _ _ _).1) p
   ·exact λ_=>rfl
theorem kR.heard(r:iY)(i:Nat)(s:List UInt8):kR r (kO r i s):=by
 unfold kO;simp only;split<;>exact λ_=>rfl
theorem kR.send(r:iY)(t:tV):kR r (r.send t):=λp=>((oR r t).2.2.2.2 p).1
theorem kR.link(h:JA r)(i:Nat)(c:UInt8)(s:List UInt8):kR r (jY r i c s):=λp=>((yu h i c s).2.2.1 p).2.1
theorem kR.j7 {r:iY} (h:JA r)(i:Nat)(x:mQ):kR r (j7 r i x):=by
 cases x with
 |nil=>exact λ_=>rfl
 |cons c s=>
  show kR r (r.take i c s);rw[lF];refine(kR.link h i c s).trans ?_;split
  ·exact kR.meet _ _ _
  ·unfold mJ;split
   ·split
    ·exact kR.meet _ _ _
    ·exact λ_=>rfl
   ·split
    ·exact kR.state _ _ _
    ·split
     ·exact kR.heard _ _ _
     ·split
      ·unfold qw
       first
        |(split
          ·exact kR.send _ _
          ·exact λ_=>rfl)
        |exact kR.send _ _
      ·exact λ_=>rfl
theorem kR.jx(r:iY)(i:Nat):kR r (r.jx i):=by
 rw[k9];have h1:kR r (jn r i):=λp=>(mP r i p).1;split
 ·exact h1.trans (kR.meet _ _ _)
 ·exact(h1.trans (kR.meet _ _ _)).trans λp=>((rH _ i).2.2.2.2 p).1
theorem kR.iW(r:iY)(i:Nat)(up:Bool):kR r (r.iW i up).1:=by
 unfold iY.iW;simp only;split
 ·exact λ_=>rfl
 ·refine(kR.jd r i _ ?_).trans (kR.meet _ _ _);unfold jF.iW;simp only;by_cases e:(k7 (r.P i).L (if up=true then 0 else 1)).2.2≠0
  ·rw[ag e]
  ·rw[ae e,(ve _ _).1]
def Fl(a:AN):Prop:=∀i p,i<a.n->((a.R i).P p).m=a.ms i p
theorem Fl.op {a:AN} (h:Fl a)(i:Nat) {s:iY} (hs:kR (a.R i) s):Fl (a.op i s):=λj p hj=>by
 show(((a.op i s).R j).P p).m=a.ms j p;rw[LX];split
 ·rename_i e
  subst e;exact(hs p).trans (h j p hj)
 ·exact h j p hj
theorem Fl.lH {a:AN} (h:Fl a)(c d:Nat)(up:Bool):Fl (a.lH c d up):=h.op _ (kR.iW _ _ _)
theorem Fl.step {a b:AN} (s:mE a T S b)(hN:Norm a)(h:Fl a):Fl b:=by
 cases s with
 |lost hl=>
  obtain⟨e,_⟩:=hl;rw[e];exact h
 |tick i p hi hp=>exact h.op i (kR.jx _ _)
 |pop c d x l hc hd hF=>exact Fl.op (a:=a.lg c d l) h _ (kR.j7 (hN.emp _) _ _)
 |send i t tx hi h1 h6 hl=>exact h.op i (kR.send _ _)
 |iW c hc hi h0 h1=>exact Fl.lH (Fl.lH h c 0 true) c 1 true
 |draw c hc hi=>exact Fl.lH (Fl.lH h c 0 false) c 1 false
 |anew i m hi hx=>
  intro j p hj;show((jI a.R i (jX ((i:Int)+1) 3 (a.ms i)) j).P p).m=a.ms j p;by_cases e:j=i
  ·subst e;rw[iP];rfl
  ·rw[iL _ _ e];exact h j p hj
theorem Fl.path {a b:AN} (s:jU a T S b)(hN:Norm a)(h:Fl a):Fl b:=by
 induction s with
 |nil=>exact h
 |snoc p q ih=>exact Fl.step q (p.norm hN) ih
theorem TI(many:Nat)(L:List oI):Fl (jl (jE many L)):=λ_ _ _=>rfl
structure Wh(m:Nat)(L:List oI)(D N k:Nat)(y:jc):Prop where
 s:St D N k y
 ma:Fl (jl y)
 n:y.n=m
 nc:y.nc=L.length
 e:∀x,(y.C x).e=(rY L x).e
 ms:y.ms=pM L
theorem Wh.new {many:Int} (h:pH many L):Wh many.toNat L D 2 0 (jE many.toNat L):=
 ⟨PU ((ym h).mono (Nat.zero_le _) (Nat.le_refl _)),TI _ _,rfl,rfl,λ_=>rfl,rfl⟩
theorem Wh.Nr {D' N' k':Nat} {y':jc} (h:Wh m L D N k y)(hs:St D' N' k' y')(p:jU (jl y) T S (jl y')):Wh m L D' N' k' y':=by
 obtain⟨h1,h2,h3,h4⟩:=p.same;exact⟨hs,h.ma.path p (yq y),h1.trans h.n,h2.trans h.nc,λx=>(ch h3 x).trans (h.e x),h4.trans h.ms⟩
theorem Wh.act {m:Nat} {L:List oI} {D N k:Nat} {y:jc} (h:Wh m L D N k y)(hD:D<=800000000)(hN:N+144<1000000)(hk:k+1<=126)(v:AV):Wh m L (D+1300000) (N+144) (k+1) (rF y v):=by
 obtain⟨T,_,p⟩:=yr h.s.f h.s.g h.s.ok hD v;exact h.Nr (h.s.act hD hN hk v) p
theorem Wh.round {m:Nat} {L:List oI} {D N k:Nat} {y:jc} (h:Wh m L D N k y)(hD:D<=800000000)(hN:N+144<1000000)(hk:k+1<=126):Wh m L (D+1300000) (N+144) (k+1) y.round:=
 h.Nr (h.s.round hD hN hk) (rG h.s.f h.s.ok hD)
theorem Wh.Dv {m:Nat} {L:List oI} {D N k:Nat} {y:jc} (V:Nat->AV)(h:Wh m L D N k y):∀i,D+1300000*i<=800000000->N+144*(i+1)<1000000->k+i+1<=126->Wh m L (D+1300000*i) (N+144*i) (k+i) (n9 y V i)
 |0,_,_,_=>h
 |i+1,hD,hN,hk=>by
  have ih:=Wh.Dv V h i eE eE eE;have:=ih.act eE eE eE (V i);have e1:D+1300000*(i+1)=D+1300000*i+1300000:=eE;have e2:N+144*(i+1)=N+144*i+144:=eE;rw[e1,e2];exact this
theorem Fm {D:Nat} (y:jc):∀j,(∀i,i<j->∃D',D'<=D/\j6 (tG y i) D' 0/\j1 (tG y i))->D<=800000000->∃T,jU (jl y) T [] (jl (tG y j))
 |0,_,_=>⟨[],.nil _⟩
 |j+1,h,hD=>by
  obtain⟨T,p⟩:=Fm y j (λi hi=>h i eE) hD;obtain⟨D',h1,h2,h3⟩:=h j eE;have q:=rG h3 h2 eE;exact⟨_,p.trans q⟩
theorem St.TJ {D N k:Nat} {y:jc} (h:St D N k y):∀i,D+1300000*i<=800000000->j6 (tG y i) (D+1300000*i) 0/\j1 (tG y i)
 |0,_=>⟨h.ok,h.f⟩
 |i+1,hD=>by
  obtain⟨h1,h2⟩:=St.TJ h i eE;have n6:=h1.n6;have e1:D+1300000*(i+1)=D+1300000*i+1300000:=eE;rw[e1];exact⟨h1.round eE,h2.round h1 eE⟩
theorem yK.round {w0:eB} {N:Nat} {X:Nat->Prop} {m nc i:Nat} {n:jc} {W:eB} (h:yK w0 N X m nc i n W)(hT:jo w0)(hi:i<=300):
 fj fk 54 #[π (μ ⟨N,0,ν⟩)] W λe w'=>e=ρ (τ #[])/\yK w0 N X m nc (i+1) n.round w'/\∀b,X b->w'.heap[b]? =W.heap[b]? :=by
 obtain⟨hA,hG,jb,hn,hc⟩:=h;obtain⟨s1,s2,_,_⟩:=rD n;refine(hA.call (E:=λe=>e=ρ (τ #[])) (n':=n.round) s1 λy hR hN=> ?_).mono ?_
 ·rw[<-hN];exact zp y n (1300000*i) W hR (hA.tab hT) jb eE
 ·rintro e w' ⟨he,hA',hX⟩;exact⟨he,⟨hA',hG.round jb eE,(jb.round eE).mono eE (Nat.le_refl _),s1.trans hn,s2.trans hc⟩,hX⟩
theorem LY(h:yK w0 N X m nc i y W)(hT:jo w0)(hi:i<=200):
 fj fk 44 #[π (μ ⟨N,0,ν⟩)] W λe w'=>e=ρ (τ #[])/\yK w0 N X m nc (i+45) (tG y 45) w'/\∀b,X b->w'.heap[b]? =W.heap[b]? :=by
 have Dd:∀k V,k<45->(yK w0 N X m nc (i+k) (tG y k) V/\∀b,X b->V.heap[b]? =W.heap[b]?)->fj fk 54 #[π (μ ⟨N,0,ν⟩)] V λe w'=>e=ρ (τ #[])/\(yK w0 N X m nc (i+(k+1)) (tG y (k+1)) w'/\∀b,X b->w'.heap[b]? =W.heap[b]?):=by
  rintro k V hk ⟨hA,hX⟩;refine(hA.round hT eE).mono ?_;rintro e w' ⟨he,h1,h2⟩;exact⟨he,h1,λb hb=>(h2 b hb).trans (hX b hb)⟩
 obtain⟨Q,hQ⟩:∃Q:Nat->eB->Prop,Q=λk V=>yK w0 N X m nc (i+k) (tG y k) V/\∀b,X b->V.heap[b]? =W.heap[b]? :=⟨_,rfl⟩
 have hr:∀k V,k<45->Q k V->fj fk 54 #[π (μ ⟨N,0,ν⟩)] V λe w'=>e=ρ (τ #[])/\Q (k+1) w':=by
  rw[hQ];exact Dd
 have h0:Q 0 W:=by rw[hQ];exact⟨h,λ_ _=>rfl⟩
 have sD:∀V,Q 45 V->yK w0 N X m nc (i+45) (tG y 45) V/\∀b,X b->V.heap[b]? =W.heap[b]? :=λV hv=>by rw[hQ]at hv;exact hv
 have HR:Hid _:=hr;have HE:Hid _:=sD;have H0:Hid (Q 0 W):=h0;clear Dd hr h0 sD h hT hQ
 go_in
 go_wp2
 go_loopw [2] (λx wr=>∃k:Nat,k<=45/\x=ι κ k/\Q k wr) (λx _=>45-(ft x).toNat)
 case atStart=>exact⟨0,Nat.zero_le _,rfl,H0.out⟩
 case round=>
  obtain⟨k,hk,rfl,hq⟩:=hrel;obtain⟨V,rfl⟩:∃V,V=wr:=⟨_,rfl⟩
  by_cases kH:k<45
  ·have nG:(k:Int)<45:=eE;have hr:=HR.out k V kH hq;clear hq;go_wp2_with(fail);refine hr.mono ?_;rintro e w3 ⟨rfl,hA3⟩;have HA3:Hid (Q (k+1) w3):=hA3;clear hr hA3
   go_wp2
   go_roundw
   case rel=>exact⟨k+1,eE,by go_num,HA3.out⟩
   case measure=>simp[ft];omega
  ·have yG:¬(k:Int)<45:=eE;obtain rfl:k=45:=eE;have HQ:Hid (Q 45 V):=hq;clear hq
   go_wp2
   first|go_end0|refine aj (ar rfl _ _ _) rfl ?_
   exact⟨rfl,HE.out V HQ.out⟩
theorem yK.still {w0:eB} {N:Nat} {X:Nat->Prop} {m nc i:Nat} {y:jc} {W W':eB} (h:yK w0 N X m nc i y W)(hb:eN W W'):yK w0 N X m nc i y W':=⟨h.1.still hb,h.2⟩
theorem yK.beside {W':eB} (h:yK w0 N X m nc i y W)(hX:∀k,X k->w0.heap.size<=k)(hb:eN W W')(Z:Nat->Prop)(hZ:∀k,Z k->W.heap.size<=k/\k<W'.heap.size):yK w0 N (λb=>X b \/Z b) m nc i y W':=
 ⟨h.1.write hb.size (λk hk _=>hb.block k hk) hX hb.os hb.tape hb.output Z hZ,h.2⟩
theorem LZ(y:jc)(k:Nat):(y.inbox k).n=y.n/\(y.inbox k).nc=y.nc:=⟨(ld ({y with jA:=jI y.jA k [] }:jc)).1,(ld ({y with jA:=jI y.jA k [] }:jc)).2.1⟩
theorem yK.inbox {w0:eB} {N:Nat} {X:Nat->Prop} {m nc i:Nat} {y:jc} {W:eB} (h:yK w0 N X m nc i y W)(hi:i<=300) {k:Nat} (hk:k<m):
 fj fk 52 #[π (μ ⟨N,0,ν⟩),ι κ ((k:Int)+1)] W λe w'=>∃v,e=ρ (τ #[v,η])/\Row w' 3 v (y.jA k).length (nh (y.jA k))/\(∀b,v.ownBlock=μ b->¬X b)/\yK w0 N X m nc i (y.inbox k) w'/\∀b,X b->w'.heap[b]? =W.heap[b]? :=by
 obtain⟨⟨⟨z,hR,hN,ha,hx⟩,ja⟩,hG,jb,hn,hc⟩:=h;have hi:=O6 z y (1300000*i) k W hR jb eE (by rw[hn];exact hk);rw[hN]at hi;refine hi.mono ?_;rintro e w' ⟨v,he,hr,hw,hv⟩;obtain⟨s1,s2⟩:=LZ y k;obtain⟨hA',hX⟩:=n8.went hR ha hx ja s1 hw;rw[hN]at hA';have hG':GN (y.inbox k):=GN.gather (y:=({y with jA:=jI y.jA k [] }:jc)) ⟨hG.ends,hG.off⟩;exact⟨v,he,hr,λb e hxb=>hv b e ((hx b).2 hxb),⟨hA',hG',jb.inbox eE k,s1.trans hn,s2.trans hc⟩,hX⟩
def qA(id:Int)(l:List tV):Prop:=∀t∈l,t.1=id/\0<=t.2.1/\t.2.1<=8
theorem qA.nil(id:Int):qA id [] :=λt h=>absurd h iC
theorem Dw(r:iY):r.change.jA=r.jA:=by
 unfold iY.change iY.behind iY.w7;split
 ·rfl
 ·split<;>rfl
theorem tH(r:iY)(i:Nat)(q:ln):(r.meet i q).jA=r.jA:=by
 unfold iY.meet;simp only;split
 ·rfl
 ·split
  ·show(iY.change _).jA=_;rw[Dw];rfl
  ·rw[Dw];rfl
theorem Fp(h:qA r.id r.jA) {t:tV} (h0:0<=t.2.1)(h8:t.2.1<=8):qA r.id (r.send t).jA:=by
 unfold iY.send;split
 ·rename_i e
  intro x hx;rcases aD.1 hx with hx|hx
  ·exact h x hx
  ·obtain rfl:x=t:=by simpa using hx
   exact⟨e,h0,h8⟩
 ·split
  ·exact h
  ·exact h
theorem L5(hE:JA r)(h:qA r.id r.jA)(i:Nat) {x:mQ} (hx:yE x):qA r.id (j7 r i x).jA:=by
 cases x with
 |nil=>exact h
 |cons c s=>
  show qA r.id (r.take i c s).jA;rw[lF];have hl:=yu hE i c s;have e1:(jY r i c s).jA=r.jA:=hl.2.2.2.2.2.1;have e2:(jY r i c s).id=r.id:=hl.2.2.2.2.2.2.1;obtain⟨r1,kU⟩:=gH (jY r i c s);rw[kU]at e1 e2⊢;have h1:qA r1.id r1.jA:=by rw[e1,e2];exact h
  rw[<-e2];split
  ·rw[tH];exact h1
  ·unfold mJ;split
   ·split
    ·rw[tH];exact h1
    ·exact h1
   ·split
    ·unfold jK;simp only;split
     ·exact h1
     ·split
      ·unfold iY.behind iY.w7;split<;>exact h1
      ·split<;>exact h1
    ·split
     ·unfold kO;simp only;split<;>exact h1
     ·split
      ·rename_i e77
       unfold qw;split
       ·rename_i hlen
        refine Fp h1 (by simp only;omega) ?_;simp only;cases s with
        |nil=>exact absurd hlen.1 iC
        |cons a s=>
         cases s with
         |nil=>exact absurd hlen.1 iC
         |cons b s=>
          have:=hx.2 a b s (by rw[e77]);show((b.toNat:Nat):Int)<=8;omega
       ·exact h1
      ·exact h1
theorem PW(r:iY)(i:Nat):(r.jx i).jA=r.jA:=by
 rw[k9];split
 ·rw[tH];rfl
 ·have:∀q:iY,(lE q i).jA=q.jA:=λq=>rfl;rw[this,tH];rfl
theorem TK(r:iY)(i:Nat)(up:Bool):(r.iW i up).1.jA=r.jA:=by
 unfold iY.iW;simp only;split
 ·rfl
 ·rw[tH];rfl
def ny(a:AN):Prop:=∀i,i<a.n->qA ((i:Int)+1) (a.ib i)
theorem ny.op {a:AN} (h:ny a)(i:Nat) {s:iY} (hs:qA ((i:Int)+1) s.jA):ny (a.op i s):=by
 intro j hj;show qA ((j:Int)+1) (jI a.ib i (a.ib i++s.jA) j);by_cases e:j=i
 ·subst e;rw[iP];intro t ht;rcases aD.1 ht with ht|ht
  ·exact h j hj t ht
  ·exact hs t ht
 ·rw[iL _ _ e];exact h j hj
theorem ny.lH {a:AN} (h:ny a)(hN:Norm a)(c d:Nat)(up:Bool):ny (a.lH c d up):=by
 refine h.op _ ?_;rw[TK,hN.jA];exact qA.nil _
theorem ny.iW {a:AN} (h:ny a)(hN:Norm a)(c:Nat)(up:Bool):ny (a.iW c up):=by
 have h0:ny ((({a with jG:=jI a.jG c up}:AN).lg c 0 []).lg c 1 []):=h;have n0:Norm ((({a with jG:=jI a.jG c up}:AN).lg c 0 []).lg c 1 []):=hN;exact(h0.lH n0 c 0 up).lH (pI n0 _ _) c 1 up
theorem ny.step {a b:AN} (s:mE a T S b) {t:Nat×Nat->Nat} (hI:Inv N t a)(h:ny a):ny b:=by
 obtain⟨B,hO⟩:=hI.own;cases s with
 |lost hl=>
  obtain⟨e,_⟩:=hl;rw[e];exact h
 |tick i p hi hp=>
  refine h.op i ?_;rw[PW,hI.nrm.jA];exact qA.nil _
 |pop c d x l hc hd hF=>
  have hk:=(hI.fl.kn c d hc hd x (by rw[hF];simp)).2;have hi:=(hI.Tr.en c (1-d) hc eE).1;have h1:=L5 (hI.nrm.emp (a.e c (1-d)).1) (by rw[hI.nrm.jA];exact qA.nil _) (a.e c (1-d)).2 hk;rw[(hO.r _ hi).2.2.2.1]at h1;exact ny.op (a:=a.lg c d l) h _ h1
 |send i t tx hi h1 h6 hl=>
  refine h.op i ?_;have h1:=Fp (r:=a.R i) (by rw[hI.nrm.jA];exact qA.nil _) (t:=(t,8,tx)) (by show(0:Int)<=8;omega) (by show(8:Int)<=8;omega);rw[(hO.r _ hi).2.2.2.1]at h1;exact h1
 |iW c hc hi h0 h1=>exact h.iW hI.nrm c true
 |draw c hc hi=>exact h.iW hI.nrm c false
 |anew i m hi hx=>
  intro j hj;show qA ((j:Int)+1) (jI a.ib i ((a.ib i).take m) j);by_cases e:j=i
  ·subst e;rw[iP];exact λt ht=>h j hj t (dm ht)
  ·rw[iL _ _ e];exact h j hj
theorem ny.path {a b:AN} {T:List (Nat×Nat)} {S:List (Int×List UInt8)} (s:jU a T S b) {N:Nat} {t:Nat×Nat->Nat} (hI:Inv N t a)(hl:N+8*T.length<1000000)(ht:∀x,qh t T x<=126)(h:ny a):ny b:=by
 induction s with
 |nil=>exact h
 |snoc p s ih=>
  rw[Av]at ht;rw[aA]at hl;have h1:=hI.path p eE λx=>Nat.le_trans (Nat.le_add_right _ _) (ht x);exact(ih eE λx=>Nat.le_trans (Nat.le_add_right _ _) (ht x)).step s h1
theorem L6(many:Nat)(L:List oI):ny (jl (jE many L)):=λ_ _=>qA.nil _
theorem TL(h:St D N k y)(hD:D<=800000000)(hN:N+144<1000000)(hk:k+1<=126)(hm:ny (jl y))(v:AV):ny (jl (rF y v)):=by
 obtain⟨T,hT,hp⟩:=yr h.f h.g h.ok hD v;have hlen:=hT.len;exact hm.path hp h.i eE λx=>Nat.le_trans (tD hT.nd k x) hk
theorem L7(h:St D N k y)(hD:D<=800000000)(hN:N+144<1000000)(hk:k+1<=126)(hm:ny (jl y)):ny (jl y.round):=by
 have n6:=h.ok.n6;obtain⟨t1,t2,_⟩:=Bo y.n;exact hm.path (rG h.f h.ok hD) h.i (by rw[t2];omega) λx=>Nat.le_trans (tD t1 k x) hk
theorem GX {α:Type} (f:α->Nat):∀l:List α,(∀x∈l,f x=0)->sm f l=0
 |[],_=>rfl
 |x::l,h=>by
  have h1:=h x iC;have h2:=GX f l λy hy=>h y (by simp[hy]);show(List.map f (x::l)).sum=0;rw[List.map_cons,List.sum_cons,h1];show 0+sm f l=0;omega
theorem TM(many:Nat)(L:List oI)(k:Nat)(tx:List UInt8):(jl (jE many L)).mu k tx=0:=by
 unfold AN.mu AN.W;have h1:sm (λx:Nat×Nat=>sm (mw k tx) ((jl (jE many L)).F x.1 x.2)) (Tq (jl (jE many L)).nc)=0:=by
  refine GX _ _ λx _=> ?_;have:(jl (jE many L)).F x.1 x.2=[] :=by
   show(if x.1<L.length/\x.2<2 then tK (jE many L) x.1 x.2 else [])=[]
   split
   ·rfl
   ·rfl
  rw[this];rfl
 have h2:sm (λi=>cI k tx ((jl (jE many L)).ib i)) (gJ (jl (jE many L)).n)=0:=GX _ _ λx _=>rfl;rw[h1,h2]
def GY(n:Nat)(V:Nat->AV)(i:Nat):List (Int×List UInt8):=(gJ i).flatMap λa=>D8 n (V a)
theorem Fq(n:Nat)(V:Nat->AV)(i:Nat):GY n V (i+1)=GY n V i++D8 n (V i):=by
 unfold GY;rw[cQ,dq];simp
theorem Aw {m:Nat} {L:List oI} {D N k:Nat} {y:jc} (V:Nat->AV)(h:Wh m L D N k y):∀i,D+1300000*i<=800000000->N+144*(i+1)<1000000->k+i+1<=126->∃T,jU (jl y) T (GY m V i) (jl (n9 y V i))
 |0,_,_,_=>⟨[],.nil _⟩
 |i+1,hD,hN,hk=>by
  obtain⟨T,p⟩:=Aw V h i eE eE eE;have hw:=h.Dv V i eE eE eE;obtain⟨U,_,q⟩:=yr hw.s.f hw.s.g hw.s.ok eE (V i);rw[hw.n]at q;rw[Fq];exact⟨T++U,p.trans q⟩
theorem TN(hc:pH (m:Int) L)(V:Nat->AV)(h40:n2<=40) {x:Nat} (hx:x<m)(k:Nat)(tx:List UInt8):cI k tx ((jl (tG (n9 (jE m L) V n2) 45)).ib x)<=cS k tx (GY m V n2):=by
 have h0:Wh m L 0 2 0 (jE m L):=by
  have:=Wh.new hc (D:=0);rw[Int.toNat_natCast]at this;exact this
 obtain⟨T,p⟩:=Aw V h0 n2 eE eE eE;have h1:=h0.Dv V n2 eE eE eE;have DC:=h1.s.TJ;obtain⟨U,q⟩:=Fm (D:=0+1300000*n2+1300000*45) (n9 (jE m L) V n2) 45 (λi hi=>⟨0+1300000*n2+1300000*i,eE,DC i eE⟩) eE;have pq:=p.trans q;have hmu:=pq.mu h0.s.i.Tr (yq _) k tx;rw[TM,aM,Nat.zero_add]at hmu;have hn:x<(jl (tG (n9 (jE m L) V n2) 45)).n:=by
  rw[pq.same.1];show x<m;exact hx
 exact Nat.le_trans (adI _ hn k tx) hmu
def cU(n:Nat)(V:Nat->AV)(used:Nat->Bool)(k:Nat)(tx:List UInt8):Nat->Nat
 |0=>0
 |i+1=>cU n V used k tx i+(if used i=true/\D8 n (V i)=[((k:Int),tx)]then 1 else 0)
theorem Wt(n:Nat)(v:AV):D8 n v=[] \/ ∃x,D8 n v=[x] :=by
 unfold D8 r7;split
 ·split
  ·exact .inr ⟨_,rfl⟩
  ·exact .inl rfl
 ·exact .inl rfl
theorem aae(k:Nat)(tx:List UInt8)(n:Nat)(v:AV):cS k tx (D8 n v)=if D8 n v=[((k:Int),tx)]then 1 else 0:=by
 rcases Wt n v with e|⟨x,e⟩
 ·rw[e];rfl
 ·rw[e];unfold cS;by_cases h:x=((k:Int),tx)
  ·subst h;simp
  ·rw[ae (by simpa using h),List.countP_cons_of_neg]
   ·rfl
   ·intro h2;simp only[Bool.and_eq_true,beq_iff_eq]at h2;exact h (bu h2.1 h2.2)
theorem zJ(n:Nat)(V:Nat->AV)(used:Nat->Bool)(k:Nat)(tx:List UInt8):∀i,cU n V used k tx i<cS k tx (GY n V i)->∃a,a<i/\used a=false/\D8 n (V a)=[((k:Int),tx)]
 |0,h=>absurd h (by simp[cU,GY,cS])
 |i+1,h=>by
  rw[Fq,Fe,aae]at h;have e:cU n V used k tx (i+1)=cU n V used k tx i+(if used i=true/\D8 n (V i)=[((k:Int),tx)]then 1 else 0):=rfl;rw[e]at h;by_cases hs:D8 n (V i)=[((k:Int),tx)]
  ·cases hu:used i with
   |false=>exact⟨i,eE,hu,hs⟩
   |true=>
    rw[ag ⟨hu,hs⟩,ag hs]at h;obtain⟨a,h1,h2⟩:=zJ n V used k tx i eE;exact⟨a,eE,h2⟩
  ·rw[ae (λe2=>hs e2.2),ae hs]at h;obtain⟨a,h1,h2⟩:=zJ n V used k tx i eE;exact⟨a,eE,h2⟩
theorem Ns(n:Nat)(V:Nat->AV)(used:Nat->Bool)(a k k':Nat)(tx LM:List UInt8)(hu:used a=false)(ha:D8 n (V a)=[((k:Int),tx)]):∀i,cU n V (λb=>if b=a then true else used b) k' LM i=cU n V used k' LM i+(if a<i/\k'=k/\LM=tx then 1 else 0)
 |0=>by simp[cU]
 |i+1=>by
  have ih:=Ns n V used a k k' tx LM hu ha i;show cU n V _ k' LM i+_=cU n V used k' LM i+_+_;rw[ih];by_cases e:i=a
  ·subst e;have e1:(λb=>if b=i then true else used b) i=true:=iC;rw[e1,hu];by_cases hk:k'=k/\LM=tx
   ·obtain⟨rfl,rfl⟩:=hk;rw[ae (λh=>absurd h.1 (Nat.lt_irrefl _)),ag ⟨rfl,ha⟩,ae iC,ag ⟨Nat.lt_succ_self _,rfl,rfl⟩]
   ·have jV:¬D8 n (V i)=[((k':Int),LM)] :=by
     rw[ha];intro h;simp only[List.cons.injEq,Prod.mk.injEq,and_true]at h;exact hk ⟨eE,h.2.symm⟩
    rw[ae (λh=>hk h.2),ae (λh=>jV h.2),ae iC,ae (λh=>hk h.2)]
  ·have e1:(λb=>if b=a then true else used b) i=used i:=by simp[e]
   rw[e1];have h2:(a<i+1/\k'=k/\LM=tx)↔(a<i/\k'=k/\LM=tx):=by
    constructor
    ·rintro⟨h1,h2⟩;exact⟨eE,h2⟩
    ·rintro⟨h1,h2⟩;exact⟨eE,h2⟩
   simp only[h2];omega
def AN.box(a:AN)(f:Nat->List tV):AN:={a with ib:=f}
theorem L8(jb:j6 y D 0):Room y:=λc d hc hd=>.inl (jb.Wf c d hc hd)
theorem PX(hF:j1 y)(jb:j6 y D 0)(hk:k<y.n):jl (y.inbox k)=(jl y).box (jI (jl y).ib k []):=by
 obtain⟨y1,yc⟩:∃y1:jc,y1={y with jA:=jI y.jA k [] }:=⟨_,rfl⟩
 have XC:j1 y1:=by rw[yc];exact⟨hF.q,hF.o⟩
 have kN:j6 y1 D 0:=by
  rw[yc];refine⟨jb.n1,jb.n6,jb.c9,jb.en,jb.ds,jb.ms,jb.rn,jb.ok,jb.drop,jb.ol,λj hj=> ?_,jb.idle,jb.fit⟩;show(jI y.jA k [] j).length<=D;by_cases e:j=k
  ·subst e;rw[iP];exact Nat.zero_le _
  ·rw[iL _ _ e];exact jb.ib j hj
 have h1:jl (y.inbox k)=jl y1:=by
  have:y.inbox k=y1.gather:=by rw[yc];rfl
  rw[this];exact(qg XC kN.oQ).2 (L8 kN)
 rw[h1,yc];have hR:(y.R k).jA=[] :=dS.1 (Nat.le_zero.1 (jb.fit k hk).1);refine AN.ext' rfl rfl rfl rfl rfl rfl rfl ?_
 funext i
 show jI y.jA k [] i++(y.R i).jA=jI (λi=>y.jA i++(y.R i).jA) k [] i;by_cases e:i=k
 ·subst e;rw[iP,iP,hR];rfl
 ·rw[iL _ _ e,iL _ _ e]
theorem TP(jb:j6 y D 0)(hk:k<y.n):y.jA k=(jl y).ib k:=by
 have hR:(y.R k).jA=[] :=dS.1 (Nat.le_zero.1 (jb.fit k hk).1);show y.jA k=y.jA k++(y.R k).jA;rw[hR,aM]
def oD(y:jc):Nat->jc
 |0=>y
 |k+1=>(oD y k).inbox k
theorem TQ:(fk.info? 4).map (λi=>(i.zero,i.size,i.bytes))=μ (μ (.bool false),1,1):=gT
theorem aaf(p:Nat)(hp:p<=1000)(W:eB):(Instr.makeSlice 87 (ι κ (p:Int)) (ι κ (p:Int))).run fk W=.ok (σ (μ ⟨W.heap.size,0,ν⟩) p p) (W.alloc (γ (lq p) 4)):=by
 obtain⟨i0,hi,oz,mW,nT⟩:=aW TQ;have h:=run_makeSlice (P:=fk) W 87 4 i0 (.bool false) Tryz.underlying87 hi oz .i64 .i64 (p:Int) (p:Int) eE eE (by rw[mW];omega) (by rw[nT];omega) eE;rw[h,mW];have e:madeCells (Value.bool false).cells (((p:Int)).toNat*1)=lq p:=by
  rw[Int.toNat_natCast,Nat.mul_one];show madeCells #[.bool false] p=_;apply db.1;rw[toList_madeCells_one];simp[lq]
 rw[e,Int.toNat_natCast]
structure rL(w:eB)(N g gu m nc i n2:Nat)(y:jc)(used:Nat->Bool)(W:eB):Prop where
 g0:w.heap.size<=g/\w.heap.size<=gu
 at_:yK w N (λb=>b=g \/b=gu) m nc i y W
 row:pL W gu 0 n2 (λa=>.bool (used a))
theorem L9 {p:Nat} (h:j<p):(lq p)[j]? =μ (.bool false):=by
 unfold lq;rw[dP,ag h]
theorem rL.new {w:eB} {N g m nc i:Nat} {y:jc} {W:eB} (h:yK w N (λb=>b=g) m nc i y W)(hg:w.heap.size<=g)(n2:Nat):rL w N g W.heap.size m nc i n2 y (λ_=>false) (W.alloc (γ (lq n2) 4)):=by
 have hb:=iB W (γ (lq n2) 4);refine⟨⟨hg,h.1.nU.size⟩,h.beside (λk e=>by subst e;exact hg) hb (λb=>b=W.heap.size) (λk e=>by subst e;simp),λj hj=>⟨?_,?_⟩⟩
 ·rw[Nat.zero_add,aq];exact L9 hj
 ·rw[Nat.zero_add];exact(jr.new W (lq n2) 4).frozen j
theorem rL.still {w:eB} {N g gu m nc i n2:Nat} {y:jc} {used:Nat->Bool} {W W':eB} (h:rL w N g gu m nc i n2 y used W)(hb:eN W W'):rL w N g gu m nc i n2 y used W':=by
 have hl:gu<W.heap.size:=by
  obtain⟨⟨⟨z,hR,_,_,hx⟩,_⟩,_⟩:=h.at_;exact hR.lt (.inr ((hx gu).2 (.inr rfl)))
 exact⟨h.g0,h.at_.still hb,h.row.keep (hb.block gu hl)⟩
theorem rL.lt {w:eB} {N g gu m nc i n2:Nat} {y:jc} {used:Nat->Bool} {W:eB} (h:rL w N g gu m nc i n2 y used W):gu<W.heap.size:=by
 obtain⟨⟨⟨z,hR,_,_,hx⟩,_⟩,_⟩:=h.at_;exact hR.lt (.inr ((hx gu).2 (.inr rfl)))
theorem rL.mark {w:eB} {g gu:Nat} (h:rL w N g gu m nc i n2 y used W)(ha:a<n2):rL w N g gu m nc i n2 y (λb=>if b=a then true else used b) (W.setCell ⟨gu,a,ν⟩ (.bool true)):=by
 refine⟨h.g0,⟨?_,h.at_.2⟩,?_⟩
 ·refine(n8.write h.at_.1 (W':=W.setCell ⟨gu,a,none⟩ (.bool true)) iC (λx _ jV=>ak _ _ _ x (λe=>jV (.inr e))) (λx e=>by rcases e with rfl|rfl;exact h.g0.1;exact h.g0.2) rfl rfl rfl (λ_=>False) (λ_ e=>e.elim)).LH (λb=>iC)
 ·have h1:=h.row.set a ha (.bool true);rw[Nat.zero_add]at h1;refine h1.congr (λx hx=> ?_);show qF _ a (.bool true) x=Value.bool _;by_cases e:x=a
  ·rw[e,og,ag rfl]
  ·rw[jP _ _ e,ae e]
theorem JN:∀(l:List tV) (j:Nat) (h:j<l.length),(nh l)[j*3]? =μ (ι κ l[j].1)/\(nh l)[j*3+1]? =μ (ι κ l[j].2.1)/\(nh l)[j*3+2]? =μ (.string ⟨l[j].2.2.toArray⟩)
 |[],j,h=>absurd h (Nat.not_lt_zero _)
 |x::l,0,h=>⟨rfl,rfl,rfl⟩
 |x::l,j+1,h=>by
  obtain⟨a,b,c⟩:=JN l j (by simpa using h);have e:nh (x::l)=ι κ x.1::ι κ x.2.1::.string ⟨x.2.2.toArray⟩::nh l:=rfl;have e1:(j+1)*3=j*3+3:=eE;have e2:(j+1)*3+1=j*3+1+3:=eE;have e3:(j+1)*3+2=j*3+2+3:=eE;rw[e,e2,e3,e1];simp only[List.getElem?_cons_succ,List.getElem_cons_succ];exact⟨a,b,c⟩
theorem Ma(hF:j1 y)(_:j6 y D 0)(j:Nat):j1 (y.inbox j):=by
 obtain⟨y1,yc⟩:∃y1:jc,y1={y with jA:=jI y.jA j [] }:=⟨_,rfl⟩
 have hyi:y.inbox j=y1.gather:=by rw[yc];rfl
 have XC:j1 y1:=by rw[yc];exact⟨hF.q,hF.o⟩
 rw[hyi];exact XC.gather
theorem Dx {y:jc} {D:Nat} (hF:j1 y)(jb:j6 y D 0)(hD:D<=1000000000):∀j,j<=y.n->j1 (oD y j)/\j6 (oD y j) D 0/\(oD y j).n=y.n/\∀i,j<=i->(jl (oD y j)).ib i=(jl y).ib i
 |0,_=>⟨hF,jb,rfl,λ_ _=>rfl⟩
 |j+1,hj=>by
  obtain⟨h1,h2,h3,h4⟩:=Dx hF jb hD j eE;have Me:j<(oD y j).n:=eE;have e:=PX h1 h2 Me;have hn:((oD y j).inbox j).n=(oD y j).n:=congrArg AN.n e;refine⟨Ma h1 h2 j,h2.inbox eE j,hn.trans h3,λi hi=> ?_⟩;show(jl ((oD y j).inbox j)).ib i=_;rw[e];show jI (jl (oD y j)).ib j [] i=_;rw[iL _ _ eE];exact h4 i eE
def wu(m:Nat)(V:Nat->AV)(used:Nat->Bool)(k:Nat)(tx:List UInt8)(a:Nat):Bool:=
 zB (V a)&& !used a&&decide ((V a).b=(k:Int))&& ((V a).s.data.toList==tx)&&decide (1<=(V a).a)&&decide ((V a).a<=(m:Int))
theorem JO {tx:List UInt8} (hk:1<=k/\k<=6)(ht:tx.length<=20):wu m V used k tx a=true↔used a=false/\D8 m (V a)=[((k:Int),tx)] :=by
 unfold wu D8 r7;simp only[Bool.and_eq_true,decide_eq_true_eq,beq_iff_eq,Bool.not_eq_true'];constructor
 ·rintro⟨⟨⟨⟨⟨h1,h2⟩,h3⟩,h4⟩,h5⟩,h6⟩;refine⟨h2,?_⟩;rw[ag h1,ag ⟨⟨h5,h6⟩,eE,by rw[h4];exact ht⟩,h3,h4]
 ·rintro⟨h2,h⟩;split at h
  ·rename_i h1
   split at h
   ·rename_i h7
    injection h with h8
    injection h8 with h9 h10
    exact⟨⟨⟨⟨⟨h1,h2⟩,h9⟩,h10⟩,h7.1.1⟩,h7.1.2⟩
   ·cases h
  ·cases h
theorem PY(hk:1<=k/\k<=6)(hl:∀tx,cI k tx l<=cS k tx (GY m V n2))(Sr:∀t∈l,t.1=(k:Int))(hj:j<l.length)(hc:∀tx,cU m V used k tx n2=cI k tx (l.take j)):(l[j].2.2).length<=20/\∃a,a<n2/\wu m V used k l[j].2.2 a=true:=by
 have e1:cI k l[j].2.2 (l.take (j+1))=cI k l[j].2.2 (l.take j)+1:=by
  rw[ax hj,vW];unfold cI;rw[bY,ag];unfold Ut;rw[Sr _ (aE hj)];simp
 have e2:cI k l[j].2.2 (l.take (j+1))<=cI k l[j].2.2 l:=by
  unfold cI;exact(dJ _ _).countP_le
 obtain⟨a,h1,h2,h3⟩:=zJ m V used k l[j].2.2 n2 (by have:=hl l[j].2.2;have:=hc l[j].2.2;omega);have hlen:(l[j].2.2).length<=20:=by
  unfold D8 r7 at h3;split at h3
  ·split at h3
   ·rename_i h7
    injection h3 with h8
    injection h8 with h9 h10
    rw[<-h10];exact h7.2.2
   ·cases h3
  ·cases h3
 exact⟨hlen,a,h1,(JO hk hlen).2 ⟨h2,h3⟩⟩
theorem Wu(Sr:∀t∈l,t.1=(k:Int))(hj:j<l.length)(tx:List UInt8):cI k tx (l.take (j+1))=cI k tx (l.take j)+(if tx=l[j].2.2 then 1 else 0):=by
 rw[ax hj,vW];unfold cI;rw[bY];unfold Ut;rw[Sr _ (aE hj)];by_cases e:tx=l[j].2.2
 ·rw[ag e,e];simp
 ·rw[ae e,ae];simp;exact λh=>e h.symm
structure ahN(m n2:Nat)(V:Nat->AV)(z:jc):Prop where
 box:∀x,x<m->∃l:List tV,(oD z x).jA x=l/\(∀t∈l,t.1=(x:Int)+1/\0<=t.2.1/\t.2.1<=8)/\∀tx,cI (x+1) tx l<=cS (x+1) tx (GY m V n2)
theorem Fs {m:Nat} {L:List oI} {D N k:Nat} {y:jc} (h:Wh m L D N k y)(hD:D<=600000000)(hN:N+50*144<1000000)(hk:k+50<=126)(hm:ny (jl y)):∀j,j<=45->ny (jl (tG y j))/\Wh m L (D+1300000*j) (N+144*j) (k+j) (tG y j)
 |0,_=>⟨hm,h⟩
 |j+1,hj=>by
  obtain⟨a,b⟩:=Fs h hD hN hk hm j eE;have e:tG y (j+1)=(tG y j).round:=rfl;rw[e];have h1:=L7 b.s eE eE eE a;have h2:=b.round eE eE eE;rw[show D+1300000*(j+1)=D+1300000*j+1300000 by omega,show N+144*(j+1)=N+144*j+144 by omega,show k+(j+1)=k+j+1 by omega];exact⟨h1,h2⟩
theorem Ax {m:Nat} {L:List oI} {D N k:Nat} {y:jc} (V:Nat->AV)(h:Wh m L D N k y)(hm:ny (jl y)):∀i,D+1300000*i<=800000000->N+144*(i+1)<1000000->k+i+1<=126->ny (jl (n9 y V i))
 |0,_,_,_=>hm
 |i+1,hD,hN,hk=>TL (h.Dv V i eE eE eE).s eE eE eE (Ax V h hm i eE eE eE) (V i)
theorem TR(hc:pH (m:Int) L)(V:Nat->AV)(h40:n2<=40):ahN m n2 V (tG (n9 (jE m L) V n2) 45):=by
 have h0:Wh m L 0 2 0 (jE m L):=by
  have:=Wh.new hc (D:=0);rw[Int.toNat_natCast]at this;exact this
 have h1:=h0.Dv V n2 eE eE eE;have vY:=Ax V h0 (L6 m L) n2 eE eE eE;obtain⟨yH,h2⟩:=Fs h1 eE eE eE vY 45 eE;have uo:=λx (hx:x<m) k tx=>TN hc V h40 hx k tx;generalize tG (n9 (jE m L) V n2) 45=z at yH h2 uo⊢;refine⟨λx hx=>⟨_,rfl,?_⟩⟩;obtain⟨hF,jb,hn,hf⟩:=Dx h2.s.f h2.s.ok eE x (by rw[h2.n];omega);have e:(oD z x).jA x=(jl z).ib x:=by
  rw[TP jb (k:=x) (by rw[hn,h2.n];exact hx)];exact hf x (Nat.le_refl _)
 rw[e];exact⟨λt ht=>yH x (by rw[show(jl z).n=z.n from rfl,h2.n];exact hx) t ht,λtx=>uo x hx (x+1) tx⟩
theorem TS(many:Int)(a:Option Addr)(n cap:Nat)(L:List oI)(a2:Option Addr)(n2 cap2:Nat)(V:Nat->AV)(E:Nat->List j2)(w:eB)(hL:AX w a L)(hl:L.length=n)(hn:n<=maxLen)(hA:BU w a2 n2 V E)(hT:jo w):
 fj fk 12 #[ι κ many,σ a n cap,σ a2 n2 cap2] w λe w'=>e=ρ (.bool true)/\eN w w':=by
 have hw:=PB w hT;have Bh:∀W,eN w W->fj fk 43 #[ι κ many,σ a n cap,σ a2 n2 cap2] W λe w'=>XF W many L n2 V e w':=λW hb=>
  LJ many a n cap L a2 n2 cap2 V E W (hL.below hb) hl hn (hA.below hb) (jo.below (w:=w) hT hb)
 have HT:Hid (jo w):=hT;have HA:Hid _:=hA;clear hL hA hT hl
 go_in
 go_wp2_with(fail);refine hw.mono ?_;rintro e w1 ⟨rfl,kt⟩;have hp:=Bh w1 kt;have Bf:Hid _:=kt;clear hw Bh kt;go_wp2_with(fail);refine hp.mono ?_;rintro e w2 hP;clear hp;rcases hP with⟨rfl,mf⟩|⟨h0,h40,N,g,rfl,hI⟩
 ·have yS:Hid (eN w w2):=iA Bf.out mf;clear mf
  go_wp2
  go_ret;exact⟨rfl,yS.out⟩
 ·have aag:=tY h0;have vY:=aag.m;obtain⟨m,rfl⟩:∃m:Nat,many=(m:Int):=⟨many.toNat,eE⟩
  rw[Int.toNat_natCast]at hI;have Wv:=TR aag V h40;have hAt:=hI.at_;have KB:=hI.g0;obtain⟨Y,hY⟩:=gH (n9 (jE m L) V n2);rw[hY]at Wv hAt;have Vk:jo w1:=jo.below (w:=w) HT.out Bf.out;have kD:=LY hAt Vk eE;obtain⟨z,hz⟩:=gH (tG Y 45);rw[hz]at kD Wv;have ahO:Hid _:=Wv;have HN:Hid (n2<=40/\w1.heap.size<=g/\m<=6/\1<=m):=⟨h40,KB,eE,eE⟩
  clear hI h0 aag hAt hY Vk hz KB Wv;go_wp2_with(fail);refine kD.mono ?_;rintro e w3 ⟨rfl,hA3,xG⟩;have Xx:=rL.new hA3 HN.out.2.1 n2;have T6:=aaf n2 eE w3;have Xy:Hid _:=Xx;clear kD hA3 xG Xx;go_wp2_with(fail);obtain⟨gu,hgu⟩:=gH (w3.heap.size);obtain⟨w4,G9⟩:=gH (w3.alloc (γ (lq n2) 4));rw[hgu,G9]at Xy;rw[hgu,G9];clear T6 hgu G9;have HC0:Hid (∀k tx,cU m V (λ_=>false) k tx n2=0):=by
   intro k tx;have:∀i,cU m V (λ_=>false) k tx i=0:=λi=>by
    induction i with
    |zero=>rfl
    |succ i ih=>
     show cU m V (λ_=>false) k tx i+(if false=true/\_ then 1 else 0)=0;rw[ih,ae iC]
   exact this n2
  go_loopw [11] (λiv wr=>∃x:Nat,∃used:Nat->Bool,x<=m/\iv=ι κ ((x:Int)+1)/\rL w1 N g gu m L.length (n2+45) n2 (oD z x) used wr/\∀k tx,x<k->cU m V used k tx n2=0) (λiv _=>m+1-(ft iv).toNat)
  case atStart=>exact⟨0,λ_=>false,Nat.zero_le _,rfl,Xy.out,λk tx _=>HC0.out k tx⟩
  case round=>
   obtain⟨x,used,hx,rfl,hM,hcu⟩:=hrel;obtain⟨V0,rfl⟩:∃V0,V0=wr:=⟨_,rfl⟩
   clear Xy HC0;by_cases kH:x<m
   case neg=>
    have yG:¬(x:Int)+1<=(m:Int):=eE;have ahR:Hid (eN w V0):=iA Bf.out hM.at_.1.nU;clear hM hcu
    go_wp2
    go_ret;exact⟨rfl,ahR.out⟩
   case pos=>
    have nG:(x:Int)+1<=(m:Int):=eE;have h1:=hM.at_.inbox eE kH;obtain⟨l,hle,pK,LK⟩:=ahO.out.box x kH;rw[hle]at h1;have HCu:Hid _:=hcu;have HM:Hid _:=hM;have HLo:Hid _:=pK;have HLc:Hid _:=LK;clear hM hcu hle pK LK;go_wp2_with(fail);refine h1.mono ?_;rintro e w5 ⟨v,rfl,FI,hv5,hA5,hX5⟩;have HM5:Hid (rL w1 N g gu m L.length (n2+45) n2 (oD z (x+1)) used w5):=⟨HM.out.g0,hA5,HM.out.row.keep (hX5 gu (.inr rfl))⟩
    have HV5:Hid (∀b,v.ownBlock=μ b->b≠gu):=λb e e2=>hv5 b e (.inr e2);obtain⟨ao,cp,rfl⟩:=Row.shape FI;have HR5:Hid (Row w5 3 (σ ao l.length cp) l.length (nh l)):=FI;clear h1 FI hv5 hA5 hX5 HM
    go_wp2
    go_loopw [14] (λjv wr=>∃j:Nat,∃us:Nat->Bool,j<=l.length/\jv=ι κ j/\rL w1 N g gu m L.length (n2+45) n2 (oD z (x+1)) us wr/\Row wr 3 (σ ao l.length cp) l.length (nh l)/\(∀k tx,x+1<k->cU m V us k tx n2=0)/\∀tx,cU m V us (x+1) tx n2=cI (x+1) tx (l.take j)) (λjv _=>l.length-(ft jv).toNat)
    case atStart=>exact⟨0,used,Nat.zero_le _,rfl,HM5.out,HR5.out,λk tx h=>HCu.out k tx eE,λtx=>by rw[HCu.out (x+1) tx eE];rfl⟩
    case round=>
     obtain⟨j,us,hj,rfl,hMj,XQ,hcj,Ug⟩:=hrel;obtain⟨V1,rfl⟩:∃V1,V1=wr:=⟨_,rfl⟩
     clear HM5 HR5 HCu;by_cases VF:j<l.length
     case neg=>
      have yG:¬(j:Int)<(l.length:Int):=eE;have HMj:Hid _:=hMj;have HCj:Hid _:=hcj;clear hMj XQ hcj Ug
      go_wp2
      go_roundw
      case rel=>exact⟨x+1,us,eE,by go_num,HMj.out,HCj.out⟩
      case measure=>simp[ft];omega
     case pos=>
      have acG:(j:Int)<(l.length:Int):=eE;obtain⟨gm,rfl⟩:∃gm,ao=μ ⟨gm,0,ν⟩:=by
       rcases XQ.2 with⟨h1,h2⟩|⟨gm,cap,h1,_⟩
       ·omega
       ·injection h1 with h2;exact⟨gm,h2⟩
      have hll:l.length<=maxLen:=by
       rcases XQ.2 with⟨_,h1⟩|⟨_,_,h1,_,h2,h3,_⟩
       ·omega
       ·exact Nat.le_trans h2 h3
      have hwj:IntKind.i64.wrap ((j:Int)+1)=(j:Int)+1:=aS _ ⟨eE,by unfold maxLen at hll;omega⟩;obtain⟨p0,p1,p2⟩:=JN l j VF;have c0:=Row.cell XQ _ _ p0;have c1:=Row.cell XQ _ _ p1;have c2:=Row.cell XQ _ _ p2;obtain⟨o1,o2,o3⟩:=HLo.out _ (aE VF);rw[o1]at c0;obtain⟨hop,OI⟩:=gH ((l[j]).2.1);obtain⟨tx,Y7⟩:=gH ((l[j]).2.2);rw[OI]at c1 o2 o3;rw[Y7]at c2;have sU:=PY (m:=m) (V:=V) (used:=us) (k:=x+1) (n2:=n2) (l:=l) (by have:=HN.out.2.2.1;omega) HLc.out (λt ht=>(HLo.out t ht).1) VF Ug;rw[Y7]at sU;have XR:Hid _:=sU;have HTx:Hid _:=Y7;have KB:¬hop<0:=eE;have hg8:¬8<hop:=eE;have amB:¬(0>hop):=eE;have Mg:=af _ _ c0;have HMj:Hid _:=hMj;have HRj:Hid (Row V1 3 (σ (μ ⟨gm,0,ν⟩) l.length cp) l.length (nh l)):=XQ;have HCj:Hid _:=hcj;have HCx:Hid _:=Ug;have HC2:Hid _:=c2;have HGm:Hid (gm≠gu):=HV5.out gm rfl;clear hMj XQ hcj Ug sU Y7 OI o1 p0 p1 p2;obtain⟨bs,Cb⟩:∃bs:ByteArray,(⟨tx.toArray⟩:ByteArray)=bs:=⟨_,rfl⟩
      have HBs:Hid (bs.data.toList=tx):=by show _=_;rw[<-Cb]
      rw[Cb]at c2 HC2;clear Cb
      go_wp2
      go_loopw [15,16] (λfv iv wr=>∃c:Nat,c<=n2/\iv=ι κ c/\((fv=.bool false/\eN V1 wr/\∀b,b<c->wu m V us (x+1) tx b=false) \/(fv=.bool true/\∃d,d<n2/\wu m V us (x+1) tx d=true/\rL w1 N g gu m L.length (n2+45) n2 (oD z (x+1)) (λb=>if b=d then true else us b) wr/\Row wr 3 (σ (μ ⟨gm,0,ν⟩) l.length cp) l.length (nh l)))) (λ_ iv _=>n2-(ft iv).toNat)
      case atStart=>exact⟨0,Nat.zero_le _,rfl,.inl ⟨rfl,au _ _,λb hb=>eE⟩⟩
      case round=>
       obtain⟨c,hc,rfl,JJ⟩:=hrel;obtain⟨V2,rfl⟩:∃V2,V2=wr:=⟨_,rfl⟩
       rcases JJ with⟨rfl,mf,mr⟩|⟨rfl,d,hd,TU,Xk,hRd⟩
       case inr=>
        have HMd:Hid _:=Xk;have HRd:Hid (Row V2 3 (σ (μ ⟨gm,0,ν⟩) l.length cp) l.length (nh l)):=hRd;have Vz:=(JO (by have:=HN.out.2.2.1;omega) XR.out.1).1 TU;have HC1:Hid (∀k t2,cU m V (λb=>if b=d then true else us b) k t2 n2=cU m V us k t2 n2+(if d<n2/\k=x+1/\t2=tx then 1 else 0)):=λk t2=>Ns m V us d (x+1) k tx t2 Vz.1 Vz.2 n2;have adV:Hid ((∀k t2,x+1<k->cU m V (λb=>if b=d then true else us b) k t2 n2=0)/\∀t2,cU m V (λb=>if b=d then true else us b) (x+1) t2 n2=cI (x+1) t2 (l.take (j+1))):=by
         refine⟨λk t2 hk=> ?_,λt2=> ?_⟩
         ·rw[HC1.out,HCj.out k t2 hk,ae eE]
         ·rw[HC1.out,HCx.out,Wu (λt ht=>(HLo.out t ht).1) VF t2,HTx.out];by_cases e:t2=tx
          ·rw[ag ⟨hd,rfl,e⟩,ag e]
          ·rw[ae (λh=>e h.2.2),ae e]
        clear TU Xk hRd Vz;by_cases hcn:(c:Int)<(n2:Int)
        all_goals
         go_wp2
         go_roundw
         case rel=>exact⟨j+1,λb=>if b=d then true else us b,eE,by go_num,HMd.out,HRd.out,adV.out.1,adV.out.2⟩
         case measure=>simp[ft];omega
       case inl=>
        by_cases LK:c<n2
        case neg=>
         exfalso;obtain⟨_,a,ha,TU⟩:=XR.out;rw[mr a eE]at TU;cases TU
        case pos=>
         have amG:(c:Int)<(n2:Int):=eE;have yS:Hid _:=mf;have HNo:Hid (wu m V us (x+1) tx c=false->∀b,b<c+1->wu m V us (x+1) tx b=false):=λh b hb=>by
          by_cases e:b=c
          ·rw[e];exact h
          ·exact mr b eE
         have TV:=HMj.out.still mf;have cu:=TV.row.cell c LK;rw[Nat.zero_add]at cu;have gul:=TV.lt;have gfz:=TV.row.fz c LK;rw[Nat.zero_add]at gfz;have hA2:=HA.out.below (iA Bf.out TV.at_.1.nU);have ct:=(mf.cell (p:=⟨gm,j*3+2,ν⟩) (af _ _ HC2.out)).trans HC2.out;have gml:=af _ _ ct;obtain⟨ba,off,rfl,PD⟩:∃ba off,a2=μ ⟨ba,off,ν⟩/\(V c).at_ V2 ba (off+c*12):=by
          rcases hA2.row with h|⟨ba,off,h,hh⟩
          ·omega
          ·exact⟨ba,off,h,hh c LK⟩
         have Ay:Hid (wu m V us (x+1) tx c=((V c).kind.toList==[115,101,110,100] && !us c&&decide ((V c).b=(x:Int)+1)&& ((V c).s.data.toList==tx)&&decide (1<=(V c).a)&&decide ((V c).a<=(m:Int)))):=by
          show _=_;unfold wu zB;push_cast;rfl
         obtain⟨e0,e1,e2,e3,e4,e5,-⟩:=PD;obtain⟨vk,Xc⟩:=gH ((V c).kind);obtain⟨va,hva⟩:=gH ((V c).a);obtain⟨vb,hvb⟩:=gH ((V c).b);obtain⟨vs,hvs⟩:=gH ((V c).s);obtain⟨uc,huc⟩:=gH (us c);rw[Xc,hva,hvb,hvs,huc]at Ay;rw[Xc]at e0;rw[hva]at e1;rw[hvb]at e2;rw[hvs]at e5;rw[huc]at cu;have HTs:Hid ((vs.toList==bs.toList)=(vs.data.toList==tx)):=by
          show _=_;rw[cy,cy,HBs.out]
         have al:=af _ _ e0;clear TV hA2 Xc hva hvb hvs huc mr mf e3 e4;go_wp2_with(fail);cases k1:(vk.toList==[115,101,110,100])
         case false=>
          have zL:Hid (wu m V us (x+1) tx c=false):=by show _=_;rw[Ay.out,k1];simp
          go_quiet(fail)
          go_wp2
          go_roundw
          case rel=>exact⟨c+1,eE,by go_num,.inl ⟨rfl,iA yS.out (below_drewN (au _ _) _),HNo.out zL.out⟩⟩
          case measure=>simp[ft];omega
         case true=>
          cases uc
          case true=>
           have zL:Hid (wu m V us (x+1) tx c=false):=by show _=_;rw[Ay.out];simp
           go_quiet(fail)
           go_wp2
           go_roundw
           case rel=>exact⟨c+1,eE,by go_num,.inl ⟨rfl,iA yS.out (below_drewN (au _ _) _),HNo.out zL.out⟩⟩
           case measure=>simp[ft];omega
          case false=>
           by_cases k3:vb=(x:Int)+1
           case neg=>
            have zL:Hid (wu m V us (x+1) tx c=false):=by show _=_;rw[Ay.out,bG k3];simp
            have d3:decide (vb=(x:Int)+1)=false:=bG k3
            go_quiet(fail)
            go_wp2
            go_roundw
            case rel=>exact⟨c+1,eE,by go_num,.inl ⟨rfl,iA yS.out (below_drewN (au _ _) _),HNo.out zL.out⟩⟩
            case measure=>simp[ft];omega
           case pos=>
            subst k3;cases k4:(vs.toList==bs.toList)
            case false=>
             have zL:Hid (wu m V us (x+1) tx c=false):=by show _=_;rw[Ay.out,<-HTs.out,k4];simp
             go_quiet(fail)
             go_wp2
             go_roundw
             case rel=>exact⟨c+1,eE,by go_num,.inl ⟨rfl,iA yS.out (below_drewN (au _ _) _),HNo.out zL.out⟩⟩
             case measure=>simp[ft];omega
            case true=>
             by_cases k5:1<=va
             case neg=>
              have zL:Hid (wu m V us (x+1) tx c=false):=by show _=_;rw[Ay.out,bG k5];simp
              have d5:decide (1<=va)=false:=bG k5
              go_quiet(fail)
              go_wp2
              go_roundw
              case rel=>exact⟨c+1,eE,by go_num,.inl ⟨rfl,iA yS.out (below_drewN (au _ _) _),HNo.out zL.out⟩⟩
              case measure=>simp[ft];omega
             case pos=>
              have d5:decide (1<=va)=true:=du k5;by_cases k6:va<=(m:Int)
              case neg=>
               have zL:Hid (wu m V us (x+1) tx c=false):=by show _=_;rw[Ay.out,bG k6];simp
               have d6:decide (va<=(m:Int))=false:=bG k6
               go_quiet(fail)
               go_wp2
               go_roundw
               case rel=>exact⟨c+1,eE,by go_num,.inl ⟨rfl,iA yS.out (below_drewN (au _ _) _),HNo.out zL.out⟩⟩
               case measure=>simp[ft];omega
              case pos=>
               have d6:decide (va<=(m:Int))=true:=du k6;have zL:Hid (wu m V us (x+1) tx c=true):=by show _=_;rw[Ay.out,k1,<-HTs.out,k4,d5,d6];simp
               go_quiet(fail)
               go_wp2
               go_roundw
               case rel=>exact⟨c+1,eE,by go_num,.inr ⟨rfl,c,LK,zL.out,((HMj.out.still yS.out).still (below_drewN (au _ _) _)).mark LK,((HRj.out.below yS.out).below (below_drewN (au _ _) _)).keep iC (λb e=>ak _ _ _ b (HV5.out b e))⟩⟩
               case measure=>simp[ft];omega
end Rt
end Go.Proofs.YtieklnlbljejdaaGreatDoor
