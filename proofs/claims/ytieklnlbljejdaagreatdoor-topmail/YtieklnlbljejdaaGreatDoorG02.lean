import Derived.Test.YtieklnlbljejdaaGreatDoorG01
open Go.Value renaming int → ι, slice → σ, pointer → π, tuple → τ, nilIface → η
open Go.IntKind renaming i64 → κ
open Go.Ending renaming returned → ρ
open Go.Obj renaming cells → γ
open Option renaming none → ν, some → μ
open Go renaming Value → eD, World → eB
open Go.Proofs.Tryz renaming prog → fk
open Go.Value renaming ownBlock → eF
open And renaming intro → fE
set_option maxRecDepth 100000
set_option maxHeartbeats 8000000
namespace Go.Proofs.YtieklnlbljejdaaGreatDoor
open Go.RowKit
variable {B:Nat} {X:Nat->Prop} {o:Obj} {v:Value} {w w' x:World}
structure PV where
 code:Int
 id:Int
 a:Option Addr
 n:Nat
 cap:Nat
 os:List j2
def PV.val(p:PV):eD:=σ p.a p.n p.cap
def PV.cells(p:PV):List eD:=[ι κ p.code,ι κ p.id,p.val]
def NI(ps:List PV):List eD:=ps.flatMap PV.cells
theorem Qv(ps:List PV)(p:PV):NI (ps++ [p])=NI ps++ [ι κ p.code,ι κ p.id,p.val] :=by simp[NI,PV.cells]
structure um(w:eB)(X:Nat->Prop)(v:eD)(p:PV):Prop where
 opt:jm w p.a p.n p.os
 nil:kM p.a p.cap
 le:p.n<=p.cap
 few:p.n<=1000
 far:∀k,tM p.a p.n=μ k->¬X k/\v.ownBlock≠μ k/\k<w.heap.size
structure LS where
 fs:Int
 fm:Int
 ns:Int
 nm:Int
 qs:Int
 qm:Int
 st:Int
 sz:Int
 lf:Int
 wt:Int
 ow:Int
def LS.c(s:LS)(v:eD):Array eD:=Qs s.fs s.fm s.ns s.nm s.qs s.qm s.st s.sz s.lf s.wt s.ow v
structure qB(w:eB)(B:Nat)(X:Nat->Prop)(s:LS)(v:eD)(ps:List PV):Prop where
 lk:Lk w B (s.c v)
 row:Row w 3 v ps.length (NI ps)
 own:∀g,v.ownBlock=μ g->¬X g
 self:X B
 old:∀k,X k->k<w.heap.size
 pk:∀p∈ps,um w X v p
structure Kept(w w':eB)(B:Nat)(o:Option Nat):Prop where
 os:w'.os=w.os
 tape:w'.tape=w.tape
 output:w'.output=w.output
 size:w.heap.size<=w'.heap.size
 block:∀i,i<w.heap.size->i≠B->o≠μ i->w'.heap[i]? =w.heap[i]?
theorem Kept.refl(w:eB)(B:Nat)(o:Option Nat):Kept w w B o:=⟨rfl,rfl,rfl,Nat.le_refl _,λ_ _ _ _=>rfl⟩
theorem Kept.je(B:Nat)(o:Option Nat)(h:eN w w'):Kept w w' B o:=⟨h.os,h.tape,h.output,h.size,λi hi _ _=>h.block i hi⟩
theorem Kept.trans {a b c:eB} {B:Nat} {o o':Option Nat} (h:Kept a b B o)(k:Kept b c B o')(hoo:∀i,o'=μ i->o=μ i \/a.heap.size<=i):Kept a c B o:=
 ⟨k.os.trans h.os,k.tape.trans h.tape,k.output.trans h.output,Nat.le_trans h.size k.size,λi hi jV ho=>by
  rw[k.block i (Nat.lt_of_lt_of_le hi h.size) jV (λe=>by
   rcases hoo i e with e1|e1
   ·exact ho e1
   ·omega)]
  exact h.block i hi jV ho⟩
theorem um.kept {v':eD} {p:PV} (h:um w X v p)(hX:X B)(k:Kept w w' B v.ownBlock)(hv:∀g,v'.ownBlock=μ g->v.ownBlock=μ g \/w.heap.size<=g):um w' X v' p:=
 ⟨h.opt.Md (λj hj=>by obtain⟨a1,a2,a3⟩:=h.far j hj;exact k.block j a3 (λe=>a1 (by rw[e];exact hX)) a2),h.nil,h.le,h.few,λj hj=>by
  obtain⟨a1,a2,a3⟩:=h.far j hj;refine⟨a1,λe=> ?_,Nat.lt_of_lt_of_le a3 k.size⟩;rcases hv j e with e1|e1
  ·exact a2 e1
  ·omega⟩
theorem qB.below {w w':eB} {B:Nat} {X:Nat->Prop} {s:LS} {v:eD} {ps:List PV} (h:qB w B X s v ps)(hb:eN w w'):qB w' B X s v ps:=
 ⟨h.lk.below hb,h.row.below hb,h.own,h.self,λk hk=>Nat.lt_of_lt_of_le (h.old k hk) hb.size,λp hp=>(h.pk p hp).kept h.self (Kept.je B _ hb) (λ_ e=>.inl e)⟩
theorem qB.ne {s:LS} {ps:List PV} (h:qB w B X s v ps):v.ownBlock≠μ B:=λe=>h.own B e h.self
theorem UD {C:Array eD} (h:Lk w B C)(hg:(w.alloc o).drew.grownBy x v.ownBlock)(hv:v.ownBlock≠μ B):Lk x B C:=by
 refine h.keep ?_;rw[hg.block B (by show B<(w.alloc o).heap.size;have:=h.lt;simp;omega) (λe=>hv e.symm)];exact aT w o B h.lt
theorem NJ(hg:(w.alloc o).drew.grownBy x v.ownBlock):Kept w x B v.ownBlock:=
 ⟨hg.os,hg.tape,hg.output,Nat.le_trans (by show w.heap.size<=(w.alloc o).heap.size;simp) hg.size,λi hi _ ho=>by
  rw[hg.block i (by show i<(w.alloc o).heap.size;simp;omega) (λe=>ho e.symm)];exact aT w o i hi⟩
theorem kI {o:Option Nat} (h:Kept w x B o)(j:Nat)(v:eD):Kept w (x.setCell ⟨B,j,ν⟩ v) B o:=by
 have b1:Below 0 x (x.setCell ⟨B,j,ν⟩ v):=(au 0 x).setCell (Nat.zero_le _) _;exact⟨b1.os.trans h.os,b1.tape.trans h.tape,b1.output.trans h.output,Nat.le_trans h.size b1.size,λi hi jV ho=>(ak _ _ _ i jV).trans (h.block i hi jV ho)⟩
theorem FD(B:Nat)(X:Nat->Prop)(s:LS)(v:eD)(ps:List PV)(p:PV)(w:eB)(h:qB w B X s v ps)(hp:um w X v p)(hn:ps.length<=100):
 Calls fk 225 #[π (μ ⟨B,0,ν⟩),.agg #[ι κ p.code,ι κ p.id,σ p.a p.n p.cap]] w λe w'=>e=ρ (τ #[])/\∃v',qB w' B X s v' (ps++ [p])/\Kept w w' B v.ownBlock/\(∀g,v'.ownBlock=μ g->v.ownBlock=μ g \/w.heap.size<=g):=by
 obtain⟨i0,hi,oz,mW,nT⟩:=aW Qr;have qC:=iB w (γ #[ι κ p.code,ι κ p.id,σ p.a p.n p.cap] 37);have h1:=h.below qC;have hA:=λj=>aq w #[ι κ p.code,ι κ p.id,σ p.a p.n p.cap] 37 (0,0) j;obtain⟨C,hC⟩:=gH (s.c);have tN:∀x,(C x)[11]? =μ x:=by rw[<-hC];intro x;rfl
 have hcs:∀x y,(C x).setIfInBounds 11 y=C y:=by rw[<-hC];intro x y;rfl
 have qN:=h1.lk;rw[hC]at qN;have ji:=h1.row;obtain⟨nn,AE⟩:=gH (ps.length);rw[AE]at ji hn
 go_in
 go_wp2_with(fail);obtain⟨Z,hZ⟩:=gH (w.heap.size);obtain⟨W0,nL⟩:=gH (w.alloc (γ #[ι κ p.code,ι κ p.id,σ p.a p.n p.cap] 37));have d0:W0.cell? ⟨Z,0,ν⟩=μ (ι κ p.code):=by rw[<-nL,<-hZ];exact hA 0
 have d1:W0.cell? ⟨Z,1,ν⟩=μ (ι κ p.id):=by rw[<-nL,<-hZ];exact hA 1
 have d2:W0.cell? ⟨Z,2,ν⟩=μ (σ p.a p.n p.cap):=by rw[<-nL,<-hZ];exact hA 2
 rw[nL]at h1 qC qN ji;rw[nL,hZ];have UE:B<W0.heap.size:=qN.lt;have G0:Z<W0.heap.size:=af W0 _ d0;have UF:W0.cell? ⟨B,11,ν⟩=μ v:=(qN.cell 11).trans (tN v);have HB:Hid _:=qC;have HR:Hid _:=h;have HP:Hid _:=hp;have HO:Hid (v.ownBlock≠μ B):=h.ne;have HZ:Hid _:=hZ;have HC:Hid _:=hC;have HN:Hid _:=AE;have HL:Hid _:=hcs;have HK:Hid _:=tN;clear hA nL hZ h qC hp h1 hC AE hcs tN
 go_region_law ((refine kL (by rfl) (.tmp 8) (.tmp 10) 175 (by rfl) 37 i0 (.agg #[ι κ 0,ι κ 0,σ ν 0 0]) 3 40 Tryz.underlying175 hi oz mW nT (by rfl) eH v nn (NI ps) (by rfl) ((ji.alloc _).drew) _ 1 1 [ι κ p.code,ι κ p.id,σ p.a p.n p.cap] (by rfl) (by rfl) eH (xL _ _ _ _ _ _ rfl) (Qt _ _ _ _ _) (by unfold maxLen;omega) eE ?_;intro g' jL x1 kU ki jD;have Ka:=UD qN ki HO.out;have f11:=Ka.frozen 11;have g11:x1.cell? ⟨B,11,ν⟩=μ v:=(Ka.cell 11).trans (HK.out v)))
 all_goals
  go_wp2
  first|go_end0|refine aj (ar rfl _ _ _) rfl ?_
  have hgs:g'≠B:=by
   rcases jD with hh|hh
   ·exact λe=>HO.out (by rw[hh,e])
   ·have:=qN.lt;have h2:W0.heap.size<=g':=Nat.le_trans (by show W0.heap.size<=(W0.alloc _).heap.size;simp) hh;omega
  have hK:=kI ((Kept.je B v.ownBlock HB.out).trans (NJ (B:=B) ki) (λi e=>.inl e)) 11 (σ (μ ⟨g',0,ν⟩) (nn+1) jL);have hv:∀g,eF (σ (μ ⟨g',0,ν⟩) (nn+1) jL)=μ g->v.ownBlock=μ g \/w.heap.size<=g:=by
   intro g hg;have Qw:g'=g:=by simpa[eF]using hg
   subst Qw;rcases jD with hh|hh
   ·exact .inl hh
   ·right;have h2:W0.heap.size<=g':=Nat.le_trans (by show W0.heap.size<=(W0.alloc _).heap.size;simp) hh;have:=HB.out.size;omega
  refine⟨rfl,σ (μ ⟨g',0,ν⟩) (nn+1) jL,⟨?_,?_,?_,HR.out.self,λk hk=>Nat.lt_of_lt_of_le (HR.out.old k hk) hK.size,?_⟩,hK,hv⟩
  ·have:=Ka.set 11 (σ (μ ⟨g',0,ν⟩) (nn+1) jL);rw[HL.out]at this;rw[HC.out];exact this
  ·rw[Qv,aA,HN.out];refine kU.keep iC (λk hk=> ?_);have wa:g'=k:=by simpa[eF]using hk
   exact ak _ _ _ k (by show k≠B;omega)
  ·intro g hg hx;rcases hv g hg with e|e
   ·exact HR.out.own g e hx
   ·have:=HR.out.old g hx;omega
  ·intro q hq;rcases aD.1 hq with hq|hq
   ·exact(HR.out.pk q hq).kept HR.out.self hK hv
   ·have:q=p:=by simpa using hq
    subst this;exact HP.out.kept HR.out.self hK hv
abbrev kZ:=Int×Int×List j2
def PV.abs(p:PV):kZ:=(p.code,p.id,p.os)
def LS.asked(s:LS):LS:={s with lf:=s.lf-1,wt:=3,ow:=(s.ow+1) %256}
def pg(c:UInt8)(s:LS):LS:=
 if c=105 then {s with lf:=4}else if c=122 then {s with lf:=0,wt:=3}else if c=114 then({s with qs:=s.ns,qm:=s.nm}:LS).asked else if c=116 then s.asked else s
def DJ(c:UInt8)(s:LS)(xM:kZ):List kZ:=
 if c=114 then [(1,(s.ow+1) %256,nS s.ns s.nm)]else if c=116 then [(5,(s.ow+1) %256,[])]else if c=97 \/c=110 then [xM]else if c=107 then [(6,xM.2.1,[])]else []
def ph:List UInt8->LS->LS
 |[],s=>s
 |c::r,s=>ph r (pg c s)
def wM:List UInt8->LS->kZ->List kZ
 |[],_,_=>[]
 |c::r,s,xM=>DJ c s xM++wM r (pg c s) xM
structure Bd(s:LS)(n:Int):Prop where
 o1:0<=s.ow
 o2:s.ow<=255
 l1: -n<=s.lf
 l2:s.lf<=n
theorem Bd.act {s:LS} {n:Int} (h:Bd s n)(hn:4<=n)(c:UInt8):Bd (pg c s) (n+1):=by
 obtain⟨a,b,d,e⟩:=h;unfold pg;split
 ·exact⟨a,b,by simp;omega,by simp;omega⟩
 ·split
  ·exact⟨a,b,by simp;omega,by simp;omega⟩
  ·split
   ·exact⟨by simp[LS.asked];omega,by simp[LS.asked];omega,by simp[LS.asked];omega,by simp[LS.asked];omega⟩
   ·split
    ·exact⟨by simp[LS.asked];omega,by simp[LS.asked];omega,by simp[LS.asked];omega,by simp[LS.asked];omega⟩
    ·exact⟨a,b,eE,eE⟩
structure m8(w w':eB)(B:Nat)(X:Nat->Prop)(s':LS)(v:eD)(ps:List PV)(out:List kZ):Prop where
 more:∃v' qs,qB w' B X s' v' (ps++qs)/\qs.map PV.abs=out/\(∀g,v'.ownBlock=μ g->v.ownBlock=μ g \/w.heap.size<=g)
 kept:Kept w w' B v.ownBlock
theorem qB.ll {s:LS} {ps:List PV} (h:qB w B X s v ps)(j:Nat)(x:eD)(s':LS)(hs:(s.c v).setIfInBounds j x=s'.c v):qB (w.setCell ⟨B,j,ν⟩ x) B X s' v ps:=by
 have hk:Kept w (w.setCell ⟨B,j,ν⟩ x) B v.ownBlock:=kI (Kept.refl w B _) j x;refine⟨?_,h.row.keep hk.size (λk sg=> ?_),h.own,h.self,λk XY=>Nat.lt_of_lt_of_le (h.old k XY) hk.size,λp hp=>(h.pk p hp).kept h.self hk (λ_ e=>.inl e)⟩
 ·have:=h.lk.set j x;rw[hs]at this;exact this
 ·exact ak _ _ _ k (λe=>h.ne (by rw[sg];exact congrArg μ e))
theorem Mj(B:Nat)(X:Nat->Prop)(s:LS)(v:eD)(ps:List PV)(code:Int)(a:Option Addr)(n cap:Nat)(os:List j2)(w:eB)(h:qB w B X s v ps)(hb:Bd s 1000)(hp:um w X v ⟨code,(s.ow+1) %256,a,n,cap,os⟩)(hn:ps.length<=100):
 Calls fk 223 #[π (μ ⟨B,0,ν⟩),ι κ code,σ a n cap] w λe w'=>e=ρ (τ #[])/\m8 w w' B X s.asked v ps [(code,(s.ow+1) %256,os)] :=by
 obtain⟨fs,fm,ns,nm,qs,qm,st,sz,lf,wt,ow⟩:=s;obtain⟨o1,o2,l1,l2⟩:=hb;simp only at o1 o2 l1 l2 hp;have c8:w.cell? ⟨B,8,ν⟩=μ (ι κ lf):=h.lk.cell 8;have c9:w.cell? ⟨B,9,ν⟩=μ (ι κ wt):=h.lk.cell 9;have Qx:w.cell? ⟨B,10,ν⟩=μ (ι κ ow):=h.lk.cell 10;have fz:∀j,w.frozen? ⟨B,j,ν⟩=false:=h.lk.frozen;have hl:=h.lk.lt;have h1:qB (((w.setCell ⟨B,10,ν⟩ (ι κ ((ow+1) %256))).setCell ⟨B,8,ν⟩ (ι κ (lf-1))).setCell ⟨B,9,ν⟩ (ι κ 3)) B X ⟨fs,fm,ns,nm,qs,qm,st,sz,lf-1,3,(ow+1) %256⟩ v ps:=
  ((h.ll 10 _ ⟨fs,fm,ns,nm,qs,qm,st,sz,lf,wt,(ow+1) %256⟩ rfl).ll 8 _ ⟨fs,fm,ns,nm,qs,qm,st,sz,lf-1,wt,(ow+1) %256⟩ rfl).ll 9 _ _ rfl
 have hk:Kept w (((w.setCell ⟨B,10,ν⟩ (ι κ ((ow+1) %256))).setCell ⟨B,8,ν⟩ (ι κ (lf-1))).setCell ⟨B,9,ν⟩ (ι κ 3)) B v.ownBlock:=kI (kI (kI (Kept.refl w B _) 10 _) 8 _) 9 _;have DK:=hp.kept h.self hk (λ_ e=>.inl e);have HC:=FD B X _ v ps ⟨code,(ow+1) %256,a,n,cap,os⟩ _ h1 DK hn;clear h h1 hp DK
 go_in
 go_wp2_with(fail);refine HC.mono ?_;rintro e w1 ⟨rfl,v',hR,hK,hv⟩;clear HC
 go_wp2
 first|go_end0|refine aj (ar rfl _ _ _) rfl ?_
 refine⟨rfl,⟨v',[_],hR,rfl,λg hg=> ?_⟩,hk.trans hK (λi e=>.inl e)⟩;rcases hv g hg with e|e
 ·exact .inl e
 ·exact .inr (Nat.le_trans hk.size e)
theorem m8.from {s':LS} {ps:List PV} {out:List kZ} (h:m8 x w' B X s' v ps out)(hk:Kept w x B v.ownBlock):m8 w w' B X s' v ps out:=by
 obtain⟨⟨v',qs,hR,ho,hv⟩,hK⟩:=h;refine⟨⟨v',qs,hR,ho,λg hg=> ?_⟩,hk.trans hK (λi e=>.inl e)⟩;rcases hv g hg with e|e
 ·exact .inl e
 ·exact .inr (Nat.le_trans hk.size e)
theorem m8.still {s':LS} {ps:List PV} (h:qB w' B X s' v ps)(hk:Kept w w' B v.ownBlock):m8 w w' B X s' v ps [] :=
 ⟨⟨v,[],by rw[aM];exact h,rfl,λ_ e=>.inl e⟩,hk⟩
theorem qk(w:eB)(X:Nat->Prop)(v:eD)(code id:Int):um w X v ⟨code,id,ν,0,0,[]⟩:=
 ⟨jm.nil w ν,λ_=>rfl,Nat.le_refl _,Nat.zero_le _,λk hk=>by simp[tM]at hk⟩
theorem FE {w0:eB} {u:eD} {l:List j2} (code id:Int)(hM:Made w0 w u l)(hl:l.length<=1000)(hX:∀k,X k->k<w0.heap.size)(hv:∀k,v.ownBlock=μ k->k<w0.heap.size):
 ∃a n cap,u=σ a n cap/\um w X v ⟨code,id,a,n,cap,l⟩:=by
 obtain⟨a,cap,rfl,kj,hle⟩:=hM.shape;refine⟨a,l.length,cap,rfl,hM.opts.2,kj,hle,hl,λk hk=> ?_⟩;have si:eF (σ a l.length cap)=μ k:=Bu hk;have h1:=hM.new k si;exact⟨λe=>by have:=hX k e;omega,λe=>by have:=hv k e;omega,hM.row.lt k si⟩
theorem Ei(a b:Int):(nS a b).length<=1000:=by
 unfold nS;split<;>split<;>simp
theorem A4(c:UInt8)(B:Nat)(X:Nat->Prop)(s:LS)(v:eD)(ps:List PV)(p:PV)(w:eB)(h:qB w B X s v ps)(hb:Bd s 1000)(hp:um w X v p)(hn:ps.length<=100):
 Calls fk 208 #[π (μ ⟨B,0,ν⟩),.int .u8 (c.toNat:Int),.agg #[ι κ p.code,ι κ p.id,σ p.a p.n p.cap]] w λe w'=>e=ρ (τ #[])/\m8 w w' B X (pg c s) v ps (DJ c s p.abs):=by
 have qC:=iB w (γ #[ι κ p.code,ι κ p.id,σ p.a p.n p.cap] 37);have hl:=h.lk.lt;have fz:∀j,w.frozen? ⟨B,j,ν⟩=false:=h.lk.frozen;have nb:∀k:UInt8,c≠k->((c.toNat:Int)==(k.toNat:Int))=false:=λk hk=>by
  rw[cN];intro e;exact hk (UInt8.toNat_inj.mp eE)
 by_cases c1:c=105
 ·subst c1;have H1:Hid (qB (w.setCell ⟨B,8,ν⟩ (ι κ 4)) B X {s with lf:=4} v ps):=h.ll 8 _ _ rfl;have k1:Kept w (w.setCell ⟨B,8,ν⟩ (ι κ 4)) B v.ownBlock:=kI (Kept.refl w B _) 8 _;have d8:w.cell? ⟨B,8,ν⟩=μ (ι κ s.lf):=h.lk.cell 8;have e1:((105:UInt8).toNat:Int)=105:=rfl;rw[e1];clear h hp hb nb qC
  go_in
  go_wp2
  first|go_end0|refine aj (ar rfl _ _ _) rfl ?_
  exact⟨rfl,m8.still (H1.out.below (iB _ _)) (k1.trans (Kept.je B v.ownBlock (iB _ _)) (λi e=>.inl e))⟩
 ·by_cases c2:c=122
  ·subst c2;have H1:Hid (qB ((w.setCell ⟨B,8,ν⟩ (ι κ 0)).setCell ⟨B,9,ν⟩ (ι κ 3)) B X {s with lf:=0,wt:=3} v ps):=(h.ll 8 _ {s with lf:=0} rfl).ll 9 _ _ rfl;have k1:Kept w ((w.setCell ⟨B,8,ν⟩ (ι κ 0)).setCell ⟨B,9,ν⟩ (ι κ 3)) B v.ownBlock:=kI (kI (Kept.refl w B _) 8 _) 9 _;have d8:w.cell? ⟨B,8,ν⟩=μ (ι κ s.lf):=h.lk.cell 8;have d9:w.cell? ⟨B,9,ν⟩=μ (ι κ s.wt):=h.lk.cell 9;have e1:((122:UInt8).toNat:Int)=122:=rfl;rw[e1];clear h hp hb nb qC c1
   go_in
   go_wp2
   first|go_end0|refine aj (ar rfl _ _ _) rfl ?_
   exact⟨rfl,m8.still (H1.out.below (iB _ _)) (k1.trans (Kept.je B v.ownBlock (iB _ _)) (λi e=>.inl e))⟩
  ·by_cases c3:c=114
   ·subst c3;have H1:Hid (qB ((w.setCell ⟨B,4,ν⟩ (ι κ s.ns)).setCell ⟨B,5,ν⟩ (ι κ s.nm)) B X {s with qs:=s.ns,qm:=s.nm} v ps):=(h.ll 4 _ {s with qs:=s.ns} rfl).ll 5 _ _ rfl;have k1:Kept w ((w.setCell ⟨B,4,ν⟩ (ι κ s.ns)).setCell ⟨B,5,ν⟩ (ι κ s.nm)) B v.ownBlock:=kI (kI (Kept.refl w B _) 4 _) 5 _;have d2:w.cell? ⟨B,2,ν⟩=μ (ι κ s.ns):=h.lk.cell 2;have d3:w.cell? ⟨B,3,ν⟩=μ (ι κ s.nm):=h.lk.cell 3;have d4:w.cell? ⟨B,4,ν⟩=μ (ι κ s.qs):=h.lk.cell 4;have d5:w.cell? ⟨B,5,ν⟩=μ (ι κ s.qm):=h.lk.cell 5;have e1:((114:UInt8).toNat:Int)=114:=rfl;have UG:=h.row.lt;have Nt:=h.old;rw[e1];clear h hp nb qC c1 c2
    go_in
    go_wp2_with(fail);refine(Hl s.ns s.nm _).mono ?_;rintro e w1 ⟨u,rfl,hM⟩;have BF:w.heap.size<=(((w.setCell ⟨B,4,ν⟩ (ι κ s.ns)).setCell ⟨B,5,ν⟩ (ι κ s.nm)).alloc (γ #[ι κ p.code,ι κ p.id,σ p.a p.n p.cap] 37)).heap.size:=iC;obtain⟨a',n',jL,rfl,hP⟩:=FE (X:=X) (v:=v) 1 ((s.ow+1) %256) hM (Ei _ _) (λk hk=>Nat.lt_of_lt_of_le (Nt k hk) BF) (λk hk=>Nat.lt_of_lt_of_le (UG k hk) BF);have R2:=(H1.out.below (iB _ _)).below hM.below;have K2:=k1.trans (Kept.je B v.ownBlock (iA (iB _ (γ #[ι κ p.code,ι κ p.id,σ p.a p.n p.cap] 37)) hM.below)) (λi e=>.inl e);have HC:=Mj B X {s with qs:=s.ns,qm:=s.nm} v ps 1 a' n' jL (nS s.ns s.nm) w1 R2 ⟨hb.o1,hb.o2,hb.l1,hb.l2⟩ hP hn;clear H1 d2 d3 d4 d5 fz hM R2 hP BF;go_wp2_with(fail);refine HC.mono ?_;rintro e w2 ⟨rfl,hW⟩;clear HC
    go_wp2
    first|go_end0|refine aj (ar rfl _ _ _) rfl ?_
    exact⟨rfl,hW.from K2⟩
   ·by_cases c4:c=116
    ·subst c4;have R1:=h.below qC;have HC:=Mj B X s v ps 5 ν 0 0 [] _ R1 hb (qk _ _ _ _ _) hn;have K1:=Kept.je B v.ownBlock qC;have e1:((116:UInt8).toNat:Int)=116:=rfl;rw[e1];clear h hp nb qC c1 c2 c3 R1
     go_in
     go_wp2_with(fail);refine HC.mono ?_;rintro e w2 ⟨rfl,hW⟩;clear HC
     go_wp2
     first|go_end0|refine aj (ar rfl _ _ _) rfl ?_
     exact⟨rfl,hW.from K1⟩
    ·by_cases c5:c=107
     ·subst c5;have R1:=h.below qC;have HC:=FD B X s v ps ⟨6,p.id,ν,0,0,[]⟩ _ R1 (qk _ _ _ _ _) hn;have K1:=Kept.je B v.ownBlock qC;have e1:((107:UInt8).toNat:Int)=107:=rfl;have hz:∀w:eB,(zeroValue 37).run fk w=.ok (.agg #[ι κ 0,ι κ 0,σ ν 0 0]) w:=λw=>gT;rw[e1];clear h hp nb qC c1 c2 c3 c4 R1
      go_in
      go_wp2_with(fail);refine HC.mono ?_;rintro e w2 ⟨rfl,v',hR,hK,hv⟩;clear HC
      go_wp2
      first|go_end0|refine aj (ar rfl _ _ _) rfl ?_
      exact⟨rfl,(show m8 _ w2 B X s v ps [(6,p.id,[])]from⟨⟨v',[_],hR,rfl,hv⟩,hK⟩).from K1⟩
     ·have R1:=h.below qC;have P1:=hp.kept h.self (Kept.je B v.ownBlock qC) (λ_ e=>.inl e);have HC:=FD B X s v ps p _ R1 P1 hn;have K1:=Kept.je B v.ownBlock qC;by_cases c6:c=97
      ·subst c6;have e1:((97:UInt8).toNat:Int)=97:=rfl;rw[e1];clear h hp nb qC c1 c2 c3 c4 c5 R1 P1
       go_in
       go_wp2_with(fail);refine HC.mono ?_;rintro e w2 ⟨rfl,v',hR,hK,hv⟩;clear HC
       go_wp2
       first|go_end0|refine aj (ar rfl _ _ _) rfl ?_
       exact⟨rfl,(show m8 _ w2 B X s v ps [p.abs]from⟨⟨v',[_],hR,rfl,hv⟩,hK⟩).from K1⟩
      ·by_cases c7:c=110
       ·subst c7;have e1:((110:UInt8).toNat:Int)=110:=rfl;rw[e1];clear h hp nb qC c1 c2 c3 c4 c5 c6 R1 P1
        go_in
        go_wp2_with(fail);refine HC.mono ?_;rintro e w2 ⟨rfl,v',hR,hK,hv⟩;clear HC
        go_wp2
        first|go_end0|refine aj (ar rfl _ _ _) rfl ?_
        exact⟨rfl,(show m8 _ w2 B X s v ps [p.abs]from⟨⟨v',[_],hR,rfl,hv⟩,hK⟩).from K1⟩
       ·have hS:pg c s=s:=by simp[pg,c1,c2,c3,c4]
        have hO:DJ c s p.abs=[] :=by simp[DJ,c3,c4,c5,c6,c7]
        have q1:((c.toNat:Int)==105)=false:=nb 105 c1;have q2:((c.toNat:Int)==122)=false:=nb 122 c2;have q3:((c.toNat:Int)==114)=false:=nb 114 c3;have q4:((c.toNat:Int)==116)=false:=nb 116 c4;have q5:((c.toNat:Int)==107)=false:=nb 107 c5;have q6:((c.toNat:Int)==97)=false:=nb 97 c6;have q7:((c.toNat:Int)==110)=false:=nb 110 c7;rw[hS,hO];have HR:Hid _:=R1;clear h hp nb qC c1 c2 c3 c4 c5 c6 c7 R1 P1 HC hS hO
        go_in
        go_wp2
        first|go_end0|refine aj (ar rfl _ _ _) rfl ?_
        exact⟨rfl,m8.still HR.out K1⟩
def LS.next(s:LS)(nx:Int):LS:=if nx<=3 then {s with st:=nx,ns:=s.fs,nm:=s.fm,sz:=255}else {s with st:=nx}
theorem Kept.tab {o:Option Nat} (k:Kept w w' B o)(h:jo w)(hB:B≠0)(ho:o≠μ 0):jo w':=λe s he hs=>
 (ai (a:=⟨0,e*10+s,ν⟩) (k.block 0 h.lt eE ho)).trans (h e s he hs)
theorem Ml(B:Nat)(X:Nat->Prop)(s:LS)(v:eD)(ps:List PV)(p:PV)(ev:Int)(D:List UInt8)(nx:Int)(f:Nat)(w:eB)(hT:jo w)(h:qB w B X s v ps)(hR:jt s.st ev=(D,nx,f))(hf:f≠0):
 Calls fk 171 #[π (μ ⟨B,0,ν⟩),ι κ ev,.agg #[ι κ p.code,ι κ p.id,σ p.a p.n p.cap]] w λe w'=>e=ρ (.iface 128 (ι κ (f:Int)))/\eN w w':=by
 have hk:=iB w (γ #[ι κ p.code,ι κ p.id,σ p.a p.n p.cap] 37);have kD:=Fw s.st ev D nx f hR _ (hT.below hk);have e1:jy f=.iface 128 (ι κ (f:Int)):=by simp[jy,hf]
 rw[e1]at kD;have hl:=h.lk.lt;have c6:w.cell? ⟨B,6,ν⟩=μ (ι κ s.st):=h.lk.cell 6;clear h hT e1
 go_in
 go_wp2_with(fail);refine kD.mono ?_;rintro e w1 ⟨rfl,m1,rfl⟩
 go_wp2
 go_ret;exact⟨rfl,below_drewN hk _⟩
structure NK(w wr:eB)(B:Nat)(X:Nat->Prop)(Z:Nat)(v:eD)(ps:List PV)(p:PV)(S:ByteArray)(k:Nat)(sF:LS)(oF:List kZ)(sk:LS)(vk:eD)(qs:List PV):Prop where
 rep:qB wr B X sk vk (ps++qs)
 bd:Bd sk (100+k)
 fin:ph (S.data.toList.drop k) sk=sF
 out:qs.map PV.abs++wM (S.data.toList.drop k) sk p.abs=oF
 xM:um wr X vk p
 kept:Kept w wr B v.ownBlock
 hv:∀g,vk.ownBlock=μ g->v.ownBlock=μ g \/w.heap.size<=g
 d0:wr.cell? ⟨Z,0,ν⟩=μ (ι κ p.code)
 d1:wr.cell? ⟨Z,1,ν⟩=μ (ι κ p.id)
 d2:wr.cell? ⟨Z,2,ν⟩=μ (σ p.a p.n p.cap)
 nz:vk.ownBlock≠μ Z
 few:qs.length<=k
theorem Hq(c:UInt8)(s:LS)(a:kZ):(DJ c s a).length<=1:=by
 unfold DJ;split
 ·simp
 ·split
  ·simp
  ·split
   ·simp
   ·split<;>simp
theorem Hr {wr V:eB} {Z:Nat} {ps:List PV} {p:PV} {S:ByteArray} {k:Nat} {sF:LS} {oF:List kZ} {sk:LS} {vk:eD} {qs:List PV} {c:UInt8} {r:List UInt8}
 (hM:NK w wr B X Z v ps p S k sF oF sk vk qs) (hD:S.data.toList.drop k=c::r) (hW:m8 wr.drew V B X (pg c sk) vk (ps++qs) (DJ c sk p.abs)) (UH:eN wr wr.drew):
 ∃v2 q2,NK w V B X Z v ps p S (k+1) sF oF (pg c sk) v2 q2:=by
 obtain⟨⟨v2,q2,hR,ho,hv⟩,hK⟩:=hW;have hr:S.data.toList.drop (k+1)=r:=by
  have:=congrArg (List.drop 1) hD;simpa using this
 have T7:Kept wr V B vk.ownBlock:=(Kept.je B vk.ownBlock UH).trans hK (λi e=>.inl e);have BG:∀j,V.cell? ⟨Z,j,ν⟩=wr.cell? ⟨Z,j,ν⟩:=λj=>ai (a:=⟨Z,j,ν⟩) (T7.block Z (af wr _ hM.d0) (λe=>by
  subst e;have h1:=hM.d0;have h2:=hM.d1;have h3:=hM.d2;have h4:wr.cell? ⟨Z,2,ν⟩=μ (ι κ sk.ns):=hM.rep.lk.cell 2;rw[h3]at h4;simp at h4) hM.nz)
 have qI:wr.drew.heap.size=wr.heap.size:=rfl;refine⟨v2,qs++q2,by rw[<-aC];exact hR,?_,?_,?_,?_,?_,?_,(BG 0).trans hM.d0,(BG 1).trans hM.d1,(BG 2).trans hM.d2,?_,?_⟩
 ·have:=Bd.act hM.bd eE c;exact⟨this.o1,this.o2,by have:=this.l1;push_cast;omega,by have:=this.l2;push_cast;omega⟩
 ·rw[hr,<-hM.fin,hD];rfl
 ·rw[hr,<-hM.out,hD,dh,ho,aC];rfl
 ·exact hM.xM.kept hM.rep.self T7 (λg hg=>hv g hg)
 ·refine hM.kept.trans T7 (λi e=> ?_);rcases hM.hv i e with h1|h1
  ·exact .inl h1
  ·exact .inr h1
 ·intro g hg;rcases hv g hg with h1|h1
  ·exact hM.hv g h1
  ·exact .inr (Nat.le_trans hM.kept.size h1)
 ·intro e;rcases hv Z e with h1|h1
  ·exact hM.nz h1
  ·have h3:Z<wr.heap.size:=af wr _ hM.d0;have h2:wr.heap.size<=Z:=h1;omega
 ·rw[aA];have h1:q2.length=(DJ c sk p.abs).length:=by rw[<-ho];simp
  have h2:=Hq c sk p.abs;have h3:=hM.few;omega
theorem Qy(B:Nat)(X:Nat->Prop)(s:LS)(v:eD)(ps:List PV)(p:PV)(ev:Int)(S:ByteArray)(nx:Int)(w:eB)(hT:jo w)(h:qB w B X s v ps)(hb:Bd s 100)(hp:um w X v p)(hn:ps.length<=50)(hR:jt s.st ev=(S.data.toList,nx,0))(hS:S.size<=4):
 Calls fk 171 #[π (μ ⟨B,0,ν⟩),ι κ ev,.agg #[ι κ p.code,ι κ p.id,σ p.a p.n p.cap]] w λe w'=>e=ρ η/\m8 w w' B X (ph S.data.toList (s.next nx)) v ps (wM S.data.toList (s.next nx) p.abs):=by
 have hk:=iB w (γ #[ι κ p.code,ι κ p.id,σ p.a p.n p.cap] 37);have hA:=λj=>aq w #[ι κ p.code,ι κ p.id,σ p.a p.n p.cap] 37 (0,0) j;have kD:=Fw s.st ev S.data.toList nx 0 hR _ (hT.below hk);have e0:jy 0=η:=rfl;have eS:(⟨S.data.toList.toArray⟩:ByteArray)=S:=iC;rw[e0,eS]at kD;have hl:=h.lk.lt;have UG:=h.row.lt;have c6:w.cell? ⟨B,6,ν⟩=μ (ι κ s.st):=h.lk.cell 6;have h0:=h.below hk;have XZ:=hp.kept h.self (Kept.je B v.ownBlock hk) (λ_ e=>.inl e);obtain⟨sF,hsF⟩:=gH (ph S.data.toList (s.next nx));obtain⟨oF,hoF⟩:=gH (wM S.data.toList (s.next nx) p.abs);rw[hsF,hoF];have HsF:Hid _:=hsF;have HoF:Hid _:=hoF;clear hsF hoF
 go_in
 go_wp2_with(fail);refine kD.mono ?_;rintro e w1 ⟨rfl,m1,rfl⟩;obtain⟨W1,ke⟩:=gH ((w.alloc (γ #[ι κ p.code,ι κ p.id,σ p.a p.n p.cap] 37)).drewN m1);obtain⟨Z,hZ⟩:=gH (w.heap.size);have d0:W1.cell? ⟨Z,0,ν⟩=μ (ι κ p.code):=by rw[<-ke,<-hZ];exact hA 0
 have d1:W1.cell? ⟨Z,1,ν⟩=μ (ι κ p.id):=by rw[<-ke,<-hZ];exact hA 1
 have d2:W1.cell? ⟨Z,2,ν⟩=μ (σ p.a p.n p.cap):=by rw[<-ke,<-hZ];exact hA 2
 have kt:eN w W1:=by rw[<-ke];exact below_drewN hk m1
 have h1:qB W1 B X s v ps:=h.below kt;have DK:um W1 X v p:=hp.kept h.self (Kept.je B v.ownBlock kt) (λ_ e=>.inl e);have T8:=Kept.je B v.ownBlock kt;rw[ke,hZ];have wN:B≠Z:=eE;have hnz:v.ownBlock≠μ Z:=λe=>by have:=UG Z e;omega
 clear kD ke hZ hA h0 hk h c6 hl e0 eS hT hp XZ kt UG;have UE:=h1.lk.lt;have c0:W1.cell? ⟨B,0,ν⟩=μ (ι κ s.fs):=h1.lk.cell 0;have c1:W1.cell? ⟨B,1,ν⟩=μ (ι κ s.fm):=h1.lk.cell 1;have c2:W1.cell? ⟨B,2,ν⟩=μ (ι κ s.ns):=h1.lk.cell 2;have c3:W1.cell? ⟨B,3,ν⟩=μ (ι κ s.nm):=h1.lk.cell 3;have c6:W1.cell? ⟨B,6,ν⟩=μ (ι κ s.st):=h1.lk.cell 6;have c7:W1.cell? ⟨B,7,ν⟩=μ (ι κ s.sz):=h1.lk.cell 7;have fz:∀j,W1.frozen? ⟨B,j,ν⟩=false:=h1.lk.frozen;have tail:∀(W2:eB) (s2:LS),qB W2 B X s2 v ps->Kept W1 W2 B v.ownBlock->s.next nx=s2->Bd s2 100->NK w W2 B X Z v ps p S 0 sF oF s2 v [] :=by
  intro W2 s2 Hs DL hs2 mf;have BG:∀j,W2.cell? ⟨Z,j,ν⟩=W1.cell? ⟨Z,j,ν⟩:=λj=>ai (a:=⟨Z,j,ν⟩) (DL.block Z (af W1 _ d0) (λe=>wN e.symm) hnz);exact⟨by rw[aM];exact Hs,⟨mf.o1,mf.o2,by have:=mf.l1;omega,by have:=mf.l2;omega⟩,by rw[<-HsF.out,hs2];rfl,by rw[<-HoF.out,hs2];rfl,DK.kept h1.self DL (λ_ e=>.inl e),T8.trans DL (λi e=>.inl e),λ_ e=>.inl e,(BG 0).trans d0,(BG 1).trans d1,(BG 2).trans d2,hnz,Nat.le_refl _⟩
 have HT:Hid _:=tail;clear tail;clear HsF HoF;by_cases hx:nx<=3
 ·have M0:Hid (NK w ((((W1.setCell ⟨B,6,ν⟩ (ι κ nx)).setCell ⟨B,2,ν⟩ (ι κ s.fs)).setCell ⟨B,3,ν⟩ (ι κ s.fm)).setCell ⟨B,7,ν⟩ (ι κ 255)) B X Z v ps p S 0 sF oF {s with st:=nx,ns:=s.fs,nm:=s.fm,sz:=255} v []):=
   HT.out _ _ ((((h1.ll 6 _ {s with st:=nx} rfl).ll 2 _ {s with st:=nx,ns:=s.fs} rfl).ll 3 _ {s with st:=nx,ns:=s.fs,nm:=s.fm} rfl).ll 7 _ _ rfl) (kI (kI (kI (kI (Kept.refl _ B _) 6 _) 2 _) 3 _) 7 _) (by simp[LS.next,hx]) ⟨hb.o1,hb.o2,hb.l1,hb.l2⟩
  clear HT h1 T8 DK;go_wp2_with(fail);obtain⟨W2,nH⟩:=gH (((((W1.setCell ⟨B,6,ν⟩ (ι κ nx)).setCell ⟨B,2,ν⟩ (ι κ s.fs)).setCell ⟨B,3,ν⟩ (ι κ s.fm)).setCell ⟨B,7,ν⟩ (ι κ 255)));have M1:Hid (NK w W2 B X Z v ps p S 0 sF oF {s with st:=nx,ns:=s.fs,nm:=s.fm,sz:=255} v []):=by show NK _ _ _ _ _ _ _ _ _ _ _ _ _ _ _;rw[<-nH];exact M0.out
  rw[nH];clear M0 nH d0 d1 d2 c0 c1 c2 c3 c6 c7 fz
  go_loopw [42] (λi wr=>∃(k:Nat) (sk:LS) (vk:eD) (qs:List PV),k<=S.size/\i=ι κ k/\NK w wr B X Z v ps p S k sF oF sk vk qs) (λi _=>S.size-(intOf i).toNat)
  case atStart=>exact⟨0,_,v,[],Nat.zero_le _,rfl,M1.out⟩
  case round=>
   obtain⟨k,sk,vk,qs,hk,rfl,hM⟩:=hrel;by_cases kH:k<S.size
   ·have nG:(k:Int)<(S.size:Int):=eE;have Ht:(0:Int)<=(k:Int):=eE;have HD:Hid (S.data.toList.drop k=S[k] ::S.data.toList.drop (k+1)):=by
     show _=_;rw[aR (by simpa using kH)];rfl
    obtain⟨x0,x1,x2⟩:=fE hM.d0 (fE hM.d1 hM.d2);have xl:Z<wr.heap.size:=af wr _ x0;have UH:eN wr wr.drew:=jO (au _ _);have HC:=A4 S[k] B X sk vk (ps++qs) p wr.drew (hM.rep.below UH) ⟨hM.bd.o1,hM.bd.o2,by have:=hM.bd.l1;omega,by have:=hM.bd.l2;omega⟩ (hM.xM.kept hM.rep.self (Kept.je B vk.ownBlock UH) (λ_ e=>.inl e)) (by rw[aA];have:=hM.few;omega)
    go_wp2
    go_region_with(go_at_call 208;refine HC.mono ?_;rintro e V ⟨rfl,hW⟩)
    all_goals
     have M2:Hid (∃v2 q2,NK w V B X Z v ps p S (k+1) sF oF (pg S[k] sk) v2 q2):=Hr hM HD.out hW UH;clear HC
     go_wp2
     go_roundw
     case rel=>
      obtain⟨v2,q2,qq⟩:=M2.out;exact⟨k+1,_,v2,q2,eE,by go_num,qq⟩
     case measure=>simp[intOf];omega
   ·have Mm:S.data.toList.drop k=[] :=aX (by
     have:S.data.toList.length=S.size:=iC;omega)
    have HF:Hid (m8 w wr B X sF v ps oF):=by
     have h1:=hM.fin;have h2:=hM.out;rw[Mm]at h1 h2;have h3:sk=sF:=h1;subst h3;refine⟨⟨vk,qs,hM.rep,by simpa[wM]using h2,hM.hv⟩,hM.kept⟩
    clear hM Mm
    go_wp2
    go_ret;exact⟨rfl,HF.out⟩
 ·have M0:Hid (NK w (W1.setCell ⟨B,6,ν⟩ (ι κ nx)) B X Z v ps p S 0 sF oF {s with st:=nx} v []):=
   HT.out _ _ (h1.ll 6 _ _ rfl) (kI (Kept.refl _ B _) 6 _) (by simp[LS.next,hx]) ⟨hb.o1,hb.o2,hb.l1,hb.l2⟩
  clear HT h1 T8 DK;go_wp2_with(fail);obtain⟨W2,nH⟩:=gH ((W1.setCell ⟨B,6,ν⟩ (ι κ nx)));have M1:Hid (NK w W2 B X Z v ps p S 0 sF oF {s with st:=nx} v []):=by show NK _ _ _ _ _ _ _ _ _ _ _ _ _ _ _;rw[<-nH];exact M0.out
  rw[nH];clear M0 nH d0 d1 d2 c0 c1 c2 c3 c6 c7 fz
  go_loopw [42] (λi wr=>∃(k:Nat) (sk:LS) (vk:eD) (qs:List PV),k<=S.size/\i=ι κ k/\NK w wr B X Z v ps p S k sF oF sk vk qs) (λi _=>S.size-(intOf i).toNat)
  case atStart=>exact⟨0,_,v,[],Nat.zero_le _,rfl,M1.out⟩
  case round=>
   obtain⟨k,sk,vk,qs,hk,rfl,hM⟩:=hrel;by_cases kH:k<S.size
   ·have nG:(k:Int)<(S.size:Int):=eE;have Ht:(0:Int)<=(k:Int):=eE;have HD:Hid (S.data.toList.drop k=S[k] ::S.data.toList.drop (k+1)):=by
     show _=_;rw[aR (by simpa using kH)];rfl
    obtain⟨x0,x1,x2⟩:=fE hM.d0 (fE hM.d1 hM.d2);have xl:Z<wr.heap.size:=af wr _ x0;have UH:eN wr wr.drew:=jO (au _ _);have HC:=A4 S[k] B X sk vk (ps++qs) p wr.drew (hM.rep.below UH) ⟨hM.bd.o1,hM.bd.o2,by have:=hM.bd.l1;omega,by have:=hM.bd.l2;omega⟩ (hM.xM.kept hM.rep.self (Kept.je B vk.ownBlock UH) (λ_ e=>.inl e)) (by rw[aA];have:=hM.few;omega)
    go_wp2
    go_region_with(go_at_call 208;refine HC.mono ?_;rintro e V ⟨rfl,hW⟩)
    all_goals
     have M2:Hid (∃v2 q2,NK w V B X Z v ps p S (k+1) sF oF (pg S[k] sk) v2 q2):=Hr hM HD.out hW UH;clear HC
     go_wp2
     go_roundw
     case rel=>
      obtain⟨v2,q2,qq⟩:=M2.out;exact⟨k+1,_,v2,q2,eE,by go_num,qq⟩
     case measure=>simp[intOf];omega
   ·have Mm:S.data.toList.drop k=[] :=aX (by
     have:S.data.toList.length=S.size:=iC;omega)
    have HF:Hid (m8 w wr B X sF v ps oF):=by
     have h1:=hM.fin;have h2:=hM.out;rw[Mm]at h1 h2;have h3:sk=sF:=h1;subst h3;refine⟨⟨vk,qs,hM.rep,by simpa[wM]using h2,hM.hv⟩,hM.kept⟩
    clear hM Mm
    go_wp2
    go_ret;exact⟨rfl,HF.out⟩
theorem Mn:∀(ps:List PV) (j:Nat) (p:PV),ps[j]? =μ p->(NI ps)[j*3]? =μ (ι κ p.code)/\(NI ps)[j*3+1]? =μ (ι κ p.id)/\(NI ps)[j*3+2]? =μ p.val
 |[],j,p,h=>by simp at h
 |q::r,0,p,h=>by
  have:q=p:=by simpa using h
  subst this;exact⟨rfl,rfl,rfl⟩
 |q::r,j+1,p,h=>by
  have h':r[j]? =μ p:=by simpa using h
  obtain⟨a,b,c⟩:=Mn r j p h';have e:NI (q::r)=ι κ q.code::ι κ q.id::q.val::NI r:=rfl;rw[e,show(j+1)*3=j*3+1+1+1 by omega,show j*3+1+1+1+1=(j*3+1)+1+1+1 by omega,show j*3+1+1+1+2=(j*3+2)+1+1+1 by omega];simp only[List.getElem?_cons_succ];exact⟨a,b,c⟩
structure X2(w:eB)(v:eD)(ps:List PV):Prop where
 row:Row w 3 v ps.length (NI ps)
 opt:∀p∈ps,jm w p.a p.n p.os/\p.n<=1000
theorem X2.shape {ps:List PV} (h:X2 w v ps):∃(a:Option Addr) (c:Nat),v=σ a ps.length c/\∀j p,ps[j]? =μ p->∃g,a=μ ⟨g,0,ν⟩/\w.cell? ⟨g,0+j*3,ν⟩=μ (ι κ p.code)/\w.cell? ⟨g,0+j*3+1,ν⟩=μ (ι κ p.id)/\w.cell? ⟨g,0+j*3+2,ν⟩=μ (σ p.a p.n p.cap):=by
 rcases h.row.2 with⟨e1,e2⟩|⟨g,c,e1,hg,sH,J6,hcell,_⟩
 ·refine⟨ν,0,by rw[e2,e1],λj p hj=> ?_⟩;have:=(aH.1 hj).1;omega
 ·refine⟨_,c,e1,λj p hj=>⟨g,rfl,?_⟩⟩;obtain⟨a,b,d⟩:=Mn ps j p hj;rw[Nat.zero_add];exact⟨hcell _ _ a,hcell _ _ b,hcell _ _ d⟩
end Go.Proofs.YtieklnlbljejdaaGreatDoor
