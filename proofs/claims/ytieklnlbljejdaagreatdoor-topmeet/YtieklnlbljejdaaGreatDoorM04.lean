import Derived.Test.YtieklnlbljejdaaGreatDoorM02
import Derived.Test.YtieklnlbljejdaaGreatDoorM03
open Go.Value renaming int → ι, slice → σ, pointer → π, tuple → τ, nilIface → η
open Go.IntKind renaming i64 → κ
open Go.Ending renaming returned → ρ
open Go.Obj renaming cells → γ
open Option renaming none → ν, some → μ
open Go renaming Addr → dX, Value → dZ, World → dY, Calls → eW
open Go.Proofs.Tryz renaming prog → eX
open Go.Value renaming ownBlock → eu
open Go.RowKit renaming intOf → eY
open And renaming intro → fV
set_option maxRecDepth 100000
set_option maxHeartbeats 8000000
namespace Go.Proofs.YtieklnlbljejdaaGreatDoor
open Go.RowKit
variable {B:Nat} {C:Array Value} {X:Nat->Prop} {ev:Int} {o:Obj} {v:Value} {w w' x:World}
structure PV where
 code:Int
 id:Int
 a:Option dX
 n:Nat
 cap:Nat
 os:List jE
def PV.val(p:PV):dZ:=σ p.a p.n p.cap
def PV.cells(p:PV):List dZ:=[ι κ p.code,ι κ p.id,p.val]
def QC(ps:List PV):List dZ:=ps.flatMap PV.cells
theorem Uk(ps:List PV)(p:PV):QC (ps++ [p])=QC ps++ [ι κ p.code,ι κ p.id,p.val] :=by simp[QC,PV.cells]
structure vz(w:dY)(X:Nat->Prop)(v:dZ)(p:PV):Prop where
 opt:jc w p.a p.n p.os
 nil:kI p.a p.cap
 le:p.n<=p.cap
 few:p.n<=1000
 far:∀k,uH p.a p.n=μ k->¬X k/\v.ownBlock≠μ k/\k<w.heap.size
structure LS where
 fs:Int
 fm:Int
 ns:Int
 nm:Int
 qs:Int
 qm:Int
 st:Int
 sz:Int
 lf:Int
 wt:Int
 ow:Int
def LS.c(s:LS)(v:dZ):Array dZ:=Tx s.fs s.fm s.ns s.nm s.qs s.qm s.st s.sz s.lf s.wt s.ow v
structure rI(w:dY)(B:Nat)(X:Nat->Prop)(s:LS)(v:dZ)(ps:List PV):Prop where
 lk:Lk w B (s.c v)
 row:Row w 3 v ps.length (QC ps)
 own:∀g,v.ownBlock=μ g->¬X g
 self:X B
 old:∀k,X k->k<w.heap.size
 pk:∀p∈ps,vz w X v p
structure Kept(w w':dY)(B:Nat)(o:Option Nat):Prop where
 os:w'.os=w.os
 tape:w'.tape=w.tape
 output:w'.output=w.output
 size:w.heap.size<=w'.heap.size
 block:∀i,i<w.heap.size->i≠B->o≠μ i->w'.heap[i]? =w.heap[i]?
theorem Kept.refl(w:dY)(B:Nat)(o:Option Nat):Kept w w B o:=⟨rfl,rfl,rfl,Nat.le_refl _,λ_ _ _ _=>rfl⟩
theorem Kept.iT(B:Nat)(o:Option Nat)(h:eE w w'):Kept w w' B o:=⟨h.os,h.tape,h.output,h.size,λi hi _ _=>h.block i hi⟩
theorem Kept.trans {a b c:dY} {B:Nat} {o o':Option Nat} (h:Kept a b B o)(k:Kept b c B o')(Z:∀i,o'=μ i->o=μ i \/a.heap.size<=i):Kept a c B o:=
 ⟨k.os.trans h.os,k.tape.trans h.tape,k.output.trans h.output,Nat.le_trans h.size k.size,λi hi Y V=>by
  rw[k.block i (Nat.lt_of_lt_of_le hi h.size) Y (λe=>by
   rcases Z i e with U|U
   ·exact V U
   ·omega)]
  exact h.block i hi Y V⟩
theorem vz.kept {v':dZ} {p:PV} (h:vz w X v p)(M:X B)(k:Kept w w' B v.ownBlock)(hv:∀g,v'.ownBlock=μ g->v.ownBlock=μ g \/w.heap.size<=g):vz w' X v' p:=
 ⟨h.opt.OC (λj U=>by obtain⟨Z,V,Y⟩:=h.far j U;exact k.block j Y (λe=>Z (by rw[e];exact M)) V),h.nil,h.le,h.few,λj U=>by
  obtain⟨Z,V,Y⟩:=h.far j U;refine⟨Z,λe=> ?_,Nat.lt_of_lt_of_le Y k.size⟩;rcases hv j e with T|T
  ·exact V T
  ·omega⟩
theorem rI.below {w w':dY} {B:Nat} {X:Nat->Prop} {s:LS} {v:dZ} {ps:List PV} (h:rI w B X s v ps)(hb:eE w w'):rI w' B X s v ps:=
 ⟨h.lk.below hb,h.row.below hb,h.own,h.self,λk Z=>Nat.lt_of_lt_of_le (h.old k Z) hb.size,λp Y=>(h.pk p Y).kept h.self (Kept.iT B _ hb) (λ_ e=>.inl e)⟩
theorem rI.ne {s:LS} {ps:List PV} (h:rI w B X s v ps):v.ownBlock≠μ B:=λe=>h.own B e h.self
theorem XU(h:Lk w B C)(Z:(w.alloc o).drew.grownBy x v.ownBlock)(hv:v.ownBlock≠μ B):Lk x B C:=by
 refine h.keep ?_;rw[Z.block B (by show B<(w.alloc o).heap.size;have:=h.lt;simp;omega) (λe=>hv e.symm)];exact aU w o B h.lt
theorem QD(Z:(w.alloc o).drew.grownBy x v.ownBlock):Kept w x B v.ownBlock:=
 ⟨Z.os,Z.tape,Z.output,Nat.le_trans (by show w.heap.size<=(w.alloc o).heap.size;simp) Z.size,λi hi _ Y=>by
  rw[Z.block i (by show i<(w.alloc o).heap.size;simp;omega) (λe=>Y e.symm)];exact aU w o i hi⟩
theorem kL {o:Option Nat} (h:Kept w x B o)(j:Nat)(v:dZ):Kept w (x.setCell ⟨B,j,ν⟩ v) B o:=by
 have b1:Below 0 x (x.setCell ⟨B,j,ν⟩ v):=(av 0 x).setCell (Nat.zero_le _) _;exact⟨b1.os.trans h.os,b1.tape.trans h.tape,b1.output.trans h.output,Nat.le_trans h.size b1.size,λi hi Z Y=>(aq _ _ _ i Z).trans (h.block i hi Z Y)⟩
theorem I1(B:Nat)(X:Nat->Prop)(s:LS)(v:dZ)(ps:List PV)(p:PV)(w:dY)(h:rI w B X s v ps)(hp:vz w X v p)(hn:ps.length<=100):
 eW eX 225 #[π (μ ⟨B,0,ν⟩),.agg #[ι κ p.code,ι κ p.id,σ p.a p.n p.cap]] w λe w'=>e=ρ (τ #[])/\∃v',rI w' B X s v' (ps++ [p])/\Kept w w' B v.ownBlock/\(∀g,v'.ownBlock=μ g->v.ownBlock=μ g \/w.heap.size<=g):=by
 obtain⟨i0,hi,ox,nh,mO⟩:=aY Tw;have E:=gW w (γ #[ι κ p.code,ι κ p.id,σ p.a p.n p.cap] 37);have D:=h.below E;have hA:=λj=>ar w #[ι κ p.code,ι κ p.id,σ p.a p.n p.cap] 37 (0,0) j;obtain⟨C,hC⟩:=gg (s.c);have qR:∀x,(C x)[11]? =μ x:=by rw[<-hC];intro x;rfl
 have hcs:∀x y,(C x).setIfInBounds 11 y=C y:=by rw[<-hC];intro x y;rfl
 have T:=D.lk;rw[hC]at T;have iW:=D.row;obtain⟨nn,Ap⟩:=gg (ps.length);rw[Ap]at iW hn
 go_in
 go_wp2_with(fail);obtain⟨Z,M⟩:=gg (w.heap.size);obtain⟨Y,J⟩:=gg (w.alloc (γ #[ι κ p.code,ι κ p.id,σ p.a p.n p.cap] 37));have d0:Y.cell? ⟨Z,0,ν⟩=μ (ι κ p.code):=by rw[<-J,<-M];exact hA 0
 have d1:Y.cell? ⟨Z,1,ν⟩=μ (ι κ p.id):=by rw[<-J,<-M];exact hA 1
 have d2:Y.cell? ⟨Z,2,ν⟩=μ (σ p.a p.n p.cap):=by rw[<-J,<-M];exact hA 2
 rw[J]at D E T iW;rw[J,M];have XV:B<Y.heap.size:=T.lt;have JX:Z<Y.heap.size:=ag Y _ d0;have XK:Y.cell? ⟨B,11,ν⟩=μ v:=(T.cell 11).trans (qR v);have HB:Hid _:=E;have U:Hid _:=h;have HP:Hid _:=hp;have HO:Hid (v.ownBlock≠μ B):=h.ne;have HZ:Hid _:=M;have HC:Hid _:=hC;have HN:Hid _:=Ap;have HL:Hid _:=hcs;have HK:Hid _:=qR;clear hA J M h E hp D hC Ap hcs qR
 go_region_law ((refine lU (by rfl) (.tmp 8) (.tmp 10) 175 (by rfl) 37 i0 (.agg #[ι κ 0,ι κ 0,σ ν 0 0]) 3 40 Tryz.underlying175 hi ox nh mO (by rfl) eA v nn (QC ps) (by rfl) ((iW.alloc _).drew) _ 1 1 [ι κ p.code,ι κ p.id,σ p.a p.n p.cap] (by rfl) (by rfl) eA (zf _ _ _ _ _ _ rfl) (Ty _ _ _ _ _) (by unfold maxLen;omega) eh ?_;intro V G x1 k8 kE jF;have M7:=XU T kE HO.out;have f11:=M7.frozen 11;have g11:x1.cell? ⟨B,11,ν⟩=μ v:=(M7.cell 11).trans (HK.out v)))
 all_goals
  go_wp2
  first|go_end0|refine iJ rfl rfl ?_
  have hgs:V≠B:=by
   rcases jF with hh|hh
   ·exact λe=>HO.out (by rw[hh,e])
   ·have:=T.lt;have h2:Y.heap.size<=V:=Nat.le_trans (by show Y.heap.size<=(Y.alloc _).heap.size;simp) hh;omega
  have A:=kL ((Kept.iT B v.ownBlock HB.out).trans (QD (B:=B) kE) (λi e=>.inl e)) 11 (σ (μ ⟨V,0,ν⟩) (nn+1) G);have hv:∀g,eu (σ (μ ⟨V,0,ν⟩) (nn+1) G)=μ g->v.ownBlock=μ g \/w.heap.size<=g:=by
   intro g hg;have QB:V=g:=by simpa[eu]using hg
   subst QB;rcases jF with hh|hh
   ·exact .inl hh
   ·right;have h2:Y.heap.size<=V:=Nat.le_trans (by show Y.heap.size<=(Y.alloc _).heap.size;simp) hh;have:=HB.out.size;omega
  refine⟨rfl,σ (μ ⟨V,0,ν⟩) (nn+1) G,⟨?_,?_,?_,U.out.self,λk u=>Nat.lt_of_lt_of_le (U.out.old k u) A.size,?_⟩,A,hv⟩
  ·have:=M7.set 11 (σ (μ ⟨V,0,ν⟩) (nn+1) G);rw[HL.out]at this;rw[HC.out];exact this
  ·rw[Uk,aA,HN.out];refine k8.keep gY (λk u=> ?_);have ze:V=k:=by simpa[eu]using u
   exact aq _ _ _ k (by show k≠B;omega)
  ·intro g hg hx;rcases hv g hg with e|e
   ·exact U.out.own g e hx
   ·have:=U.out.old g hx;omega
  ·intro q H;rcases aw.1 H with H|H
   ·exact(U.out.pk q H).kept U.out.self A hv
   ·have:q=p:=by simpa using H
    subst this;exact HP.out.kept U.out.self A hv
abbrev kM:=Int×Int×List jE
def PV.abs(p:PV):kM:=(p.code,p.id,p.os)
def LS.asked(s:LS):LS:={s with lf:=s.lf-1,wt:=3,ow:=(s.ow+1) %256}
def pS(c:UInt8)(s:LS):LS:=
 if c=105 then {s with lf:=4}else if c=122 then {s with lf:=0,wt:=3}else if c=114 then({s with qs:=s.ns,qm:=s.nm}:LS).asked else if c=116 then s.asked else s
def Gi(c:UInt8)(s:LS)(zo:kM):List kM:=
 if c=114 then [(1,(s.ow+1) %256,od s.ns s.nm)]else if c=116 then [(5,(s.ow+1) %256,[])]else if c=97 \/c=110 then [zo]else if c=107 then [(6,zo.2.1,[])]else []
def qJ:List UInt8->LS->LS
 |[],s=>s
 |c::r,s=>qJ r (pS c s)
def yu:List UInt8->LS->kM->List kM
 |[],_,_=>[]
 |c::r,s,zo=>Gi c s zo++yu r (pS c s) zo
structure Bd(s:LS)(n:Int):Prop where
 o1:0<=s.ow
 o2:s.ow<=255
 l1: -n<=s.lf
 l2:s.lf<=n
theorem Bd.act {s:LS} {n:Int} (h:Bd s n)(hn:4<=n)(c:UInt8):Bd (pS c s) (n+1):=by
 obtain⟨a,b,d,e⟩:=h;unfold pS;split
 ·exact⟨a,b,by simp;omega,by simp;omega⟩
 ·split
  ·exact⟨a,b,by simp;omega,by simp;omega⟩
  ·split
   ·exact⟨by simp[LS.asked];omega,by simp[LS.asked];omega,by simp[LS.asked];omega,by simp[LS.asked];omega⟩
   ·split
    ·exact⟨by simp[LS.asked];omega,by simp[LS.asked];omega,by simp[LS.asked];omega,by simp[LS.asked];omega⟩
    ·exact⟨a,b,eh,eh⟩
structure nE(w w':dY)(B:Nat)(X:Nat->Prop)(s':LS)(v:dZ)(ps:List PV)(out:List kM):Prop where
 more:∃v' qs,rI w' B X s' v' (ps++qs)/\qs.map PV.abs=out/\(∀g,v'.ownBlock=μ g->v.ownBlock=μ g \/w.heap.size<=g)
 kept:Kept w w' B v.ownBlock
theorem rI.lq {s:LS} {ps:List PV} (h:rI w B X s v ps)(j:Nat)(x:dZ)(s':LS)(hs:(s.c v).setIfInBounds j x=s'.c v):rI (w.setCell ⟨B,j,ν⟩ x) B X s' v ps:=by
 have Z:Kept w (w.setCell ⟨B,j,ν⟩ x) B v.ownBlock:=kL (Kept.refl w B _) j x;refine⟨?_,h.row.keep Z.size (λk V=> ?_),h.own,h.self,λk Y=>Nat.lt_of_lt_of_le (h.old k Y) Z.size,λp U=>(h.pk p U).kept h.self Z (λ_ e=>.inl e)⟩
 ·have:=h.lk.set j x;rw[hs]at this;exact this
 ·exact aq _ _ _ k (λe=>h.ne (by rw[V];exact congrArg μ e))
theorem O5(B:Nat)(X:Nat->Prop)(s:LS)(v:dZ)(ps:List PV)(code:Int)(a:Option dX)(n cap:Nat)(os:List jE)(w:dY)(h:rI w B X s v ps)(hb:Bd s 1000)(Z:vz w X v ⟨code,(s.ow+1) %256,a,n,cap,os⟩)(H:ps.length<=100):
 eW eX 223 #[π (μ ⟨B,0,ν⟩),ι κ code,σ a n cap] w λe w'=>e=ρ (τ #[])/\nE w w' B X s.asked v ps [(code,(s.ow+1) %256,os)] :=by
 obtain⟨fs,fm,ns,nm,qs,qm,st,sz,lf,wt,ow⟩:=s;obtain⟨o1,o2,l1,l2⟩:=hb;simp only at o1 o2 l1 l2 Z;have c8:w.cell? ⟨B,8,ν⟩=μ (ι κ lf):=h.lk.cell 8;have c9:w.cell? ⟨B,9,ν⟩=μ (ι κ wt):=h.lk.cell 9;have TV:w.cell? ⟨B,10,ν⟩=μ (ι κ ow):=h.lk.cell 10;have fz:∀j,w.frozen? ⟨B,j,ν⟩=false:=h.lk.frozen;have hl:=h.lk.lt;have V:rI (((w.setCell ⟨B,10,ν⟩ (ι κ ((ow+1) %256))).setCell ⟨B,8,ν⟩ (ι κ (lf-1))).setCell ⟨B,9,ν⟩ (ι κ 3)) B X ⟨fs,fm,ns,nm,qs,qm,st,sz,lf-1,3,(ow+1) %256⟩ v ps:=
  ((h.lq 10 _ ⟨fs,fm,ns,nm,qs,qm,st,sz,lf,wt,(ow+1) %256⟩ rfl).lq 8 _ ⟨fs,fm,ns,nm,qs,qm,st,sz,lf-1,wt,(ow+1) %256⟩ rfl).lq 9 _ _ rfl
 have Y:Kept w (((w.setCell ⟨B,10,ν⟩ (ι κ ((ow+1) %256))).setCell ⟨B,8,ν⟩ (ι κ (lf-1))).setCell ⟨B,9,ν⟩ (ι κ 3)) B v.ownBlock:=kL (kL (kL (Kept.refl w B _) 10 _) 8 _) 9 _;have U:=Z.kept h.self Y (λ_ e=>.inl e);have T:=I1 B X _ v ps ⟨code,(ow+1) %256,a,n,cap,os⟩ _ V U H;clear h V Z U
 go_in
 go_wp2_with(fail);refine T.mono ?_;rintro e w1 ⟨rfl,v',J,G,hv⟩;clear T
 go_wp2
 first|go_end0|refine iJ rfl rfl ?_
 refine⟨rfl,⟨v',[_],J,rfl,λg M=> ?_⟩,Y.trans G (λi e=>.inl e)⟩;rcases hv g M with e|e
 ·exact .inl e
 ·exact .inr (Nat.le_trans Y.size e)
theorem nE.from {s':LS} {ps:List PV} {out:List kM} (h:nE x w' B X s' v ps out)(Z:Kept w x B v.ownBlock):nE w w' B X s' v ps out:=by
 obtain⟨⟨v',qs,T,U,hv⟩,V⟩:=h;refine⟨⟨v',qs,T,U,λg Y=> ?_⟩,Z.trans V (λi e=>.inl e)⟩;rcases hv g Y with e|e
 ·exact .inl e
 ·exact .inr (Nat.le_trans Z.size e)
theorem nE.still {s':LS} {ps:List PV} (h:rI w' B X s' v ps)(Z:Kept w w' B v.ownBlock):nE w w' B X s' v ps [] :=
 ⟨⟨v,[],by rw[aC];exact h,rfl,λ_ e=>.inl e⟩,Z⟩
theorem qS(w:dY)(X:Nat->Prop)(v:dZ)(code id:Int):vz w X v ⟨code,id,ν,0,0,[]⟩:=
 ⟨jc.nil w ν,λ_=>rfl,Nat.le_refl _,Nat.zero_le _,λk Z=>by simp[uH]at Z⟩
theorem I2 {w0:dY} {u:dZ} {l:List jE} (code id:Int)(Z:Made w0 w u l)(hl:l.length<=1000)(U:∀k,X k->k<w0.heap.size)(hv:∀k,v.ownBlock=μ k->k<w0.heap.size):
 ∃a n cap,u=σ a n cap/\vz w X v ⟨code,id,a,n,cap,l⟩:=by
 obtain⟨a,cap,rfl,T,Y⟩:=Z.shape;refine⟨a,l.length,cap,rfl,Z.opts.2,T,Y,hl,λk M=> ?_⟩;have V:eu (σ a l.length cap)=μ k:=DC M;have h1:=Z.new k V;exact⟨λe=>by have:=U k e;omega,λe=>by have:=hv k e;omega,Z.row.lt k V⟩
theorem G8(a b:Int):(od a b).length<=1000:=by
 unfold od;split<;>split<;>simp
theorem Dd(c:UInt8)(B:Nat)(X:Nat->Prop)(s:LS)(v:dZ)(ps:List PV)(p:PV)(w:dY)(h:rI w B X s v ps)(hb:Bd s 1000)(T:vz w X v p)(hn:ps.length<=100):
 eW eX 208 #[π (μ ⟨B,0,ν⟩),.int .u8 (c.toNat:Int),.agg #[ι κ p.code,ι κ p.id,σ p.a p.n p.cap]] w λe w'=>e=ρ (τ #[])/\nE w w' B X (pS c s) v ps (Gi c s p.abs):=by
 have Z:=gW w (γ #[ι κ p.code,ι κ p.id,σ p.a p.n p.cap] 37);have hl:=h.lk.lt;have fz:∀j,w.frozen? ⟨B,j,ν⟩=false:=h.lk.frozen;have nb:∀k:UInt8,c≠k->((c.toNat:Int)==(k.toNat:Int))=false:=λk E=>by
  rw[cT];intro e;exact E (UInt8.toNat_inj.mp eh)
 by_cases c1:c=105
 ·subst c1;have H:Hid (rI (w.setCell ⟨B,8,ν⟩ (ι κ 4)) B X {s with lf:=4} v ps):=h.lq 8 _ _ rfl;have k1:Kept w (w.setCell ⟨B,8,ν⟩ (ι κ 4)) B v.ownBlock:=kL (Kept.refl w B _) 8 _;have d8:w.cell? ⟨B,8,ν⟩=μ (ι κ s.lf):=h.lk.cell 8;have V:((105:UInt8).toNat:Int)=105:=rfl;rw[V];clear h T hb nb Z
  go_in
  go_wp2
  first|go_end0|refine iJ rfl rfl ?_
  exact⟨rfl,nE.still (H.out.below (gW _ _)) (k1.trans (Kept.iT B v.ownBlock (gW _ _)) (λi e=>.inl e))⟩
 ·by_cases c2:c=122
  ·subst c2;have H:Hid (rI ((w.setCell ⟨B,8,ν⟩ (ι κ 0)).setCell ⟨B,9,ν⟩ (ι κ 3)) B X {s with lf:=0,wt:=3} v ps):=(h.lq 8 _ {s with lf:=0} rfl).lq 9 _ _ rfl;have k1:Kept w ((w.setCell ⟨B,8,ν⟩ (ι κ 0)).setCell ⟨B,9,ν⟩ (ι κ 3)) B v.ownBlock:=kL (kL (Kept.refl w B _) 8 _) 9 _;have d8:w.cell? ⟨B,8,ν⟩=μ (ι κ s.lf):=h.lk.cell 8;have d9:w.cell? ⟨B,9,ν⟩=μ (ι κ s.wt):=h.lk.cell 9;have V:((122:UInt8).toNat:Int)=122:=rfl;rw[V];clear h T hb nb Z c1
   go_in
   go_wp2
   first|go_end0|refine iJ rfl rfl ?_
   exact⟨rfl,nE.still (H.out.below (gW _ _)) (k1.trans (Kept.iT B v.ownBlock (gW _ _)) (λi e=>.inl e))⟩
  ·by_cases c3:c=114
   ·subst c3;have H:Hid (rI ((w.setCell ⟨B,4,ν⟩ (ι κ s.ns)).setCell ⟨B,5,ν⟩ (ι κ s.nm)) B X {s with qs:=s.ns,qm:=s.nm} v ps):=(h.lq 4 _ {s with qs:=s.ns} rfl).lq 5 _ _ rfl;have k1:Kept w ((w.setCell ⟨B,4,ν⟩ (ι κ s.ns)).setCell ⟨B,5,ν⟩ (ι κ s.nm)) B v.ownBlock:=kL (kL (Kept.refl w B _) 4 _) 5 _;have d2:w.cell? ⟨B,2,ν⟩=μ (ι κ s.ns):=h.lk.cell 2;have d3:w.cell? ⟨B,3,ν⟩=μ (ι κ s.nm):=h.lk.cell 3;have d4:w.cell? ⟨B,4,ν⟩=μ (ι κ s.qs):=h.lk.cell 4;have d5:w.cell? ⟨B,5,ν⟩=μ (ι κ s.qm):=h.lk.cell 5;have V:((114:UInt8).toNat:Int)=114:=rfl;have XW:=h.row.lt;have Qb:=h.old;rw[V];clear h T nb Z c1 c2
    go_in
    go_wp2_with(fail);refine(Ka s.ns s.nm _).mono ?_;rintro e w1 ⟨u,rfl,hM⟩;have D7:w.heap.size<=(((w.setCell ⟨B,4,ν⟩ (ι κ s.ns)).setCell ⟨B,5,ν⟩ (ι κ s.nm)).alloc (γ #[ι κ p.code,ι κ p.id,σ p.a p.n p.cap] 37)).heap.size:=gY;obtain⟨a',n',jr,rfl,hP⟩:=I2 (X:=X) (v:=v) 1 ((s.ow+1) %256) hM (G8 _ _) (λk E=>Nat.lt_of_lt_of_le (Qb k E) D7) (λk E=>Nat.lt_of_lt_of_le (XW k E) D7);have R2:=(H.out.below (gW _ _)).below hM.below;have K2:=k1.trans (Kept.iT B v.ownBlock (gk (gW _ (γ #[ι κ p.code,ι κ p.id,σ p.a p.n p.cap] 37)) hM.below)) (λi e=>.inl e);have Y:=O5 B X {s with qs:=s.ns,qm:=s.nm} v ps 1 a' n' jr (od s.ns s.nm) w1 R2 ⟨hb.o1,hb.o2,hb.l1,hb.l2⟩ hP hn;clear H d2 d3 d4 d5 fz hM R2 hP D7;go_wp2_with(fail);refine Y.mono ?_;rintro e J ⟨rfl,hW⟩;clear Y
    go_wp2
    first|go_end0|refine iJ rfl rfl ?_
    exact⟨rfl,hW.from K2⟩
   ·by_cases c4:c=116
    ·subst c4;have U:=h.below Z;have Y:=O5 B X s v ps 5 ν 0 0 [] _ U hb (qS _ _ _ _ _) hn;have M:=Kept.iT B v.ownBlock Z;have V:((116:UInt8).toNat:Int)=116:=rfl;rw[V];clear h T nb Z c1 c2 c3 U
     go_in
     go_wp2_with(fail);refine Y.mono ?_;rintro e J ⟨rfl,hW⟩;clear Y
     go_wp2
     first|go_end0|refine iJ rfl rfl ?_
     exact⟨rfl,hW.from M⟩
    ·by_cases G:c=107
     ·subst G;have U:=h.below Z;have Y:=I1 B X s v ps ⟨6,p.id,ν,0,0,[]⟩ _ U (qS _ _ _ _ _) hn;have M:=Kept.iT B v.ownBlock Z;have V:((107:UInt8).toNat:Int)=107:=rfl;have hz:∀w:dY,(zeroValue 37).run eX w=.ok (.agg #[ι κ 0,ι κ 0,σ ν 0 0]) w:=λw=>gq;rw[V];clear h T nb Z c1 c2 c3 c4 U
      go_in
      go_wp2_with(fail);refine Y.mono ?_;rintro e J ⟨rfl,v',D,y,hv⟩;clear Y
      go_wp2
      first|go_end0|refine iJ rfl rfl ?_
      exact⟨rfl,(show nE _ J B X s v ps [(6,p.id,[])]from⟨⟨v',[_],D,rfl,hv⟩,y⟩).from M⟩
     ·have U:=h.below Z;have P1:=T.kept h.self (Kept.iT B v.ownBlock Z) (λ_ e=>.inl e);have Y:=I1 B X s v ps p _ U P1 hn;have M:=Kept.iT B v.ownBlock Z;by_cases A:c=97
      ·subst A;have V:((97:UInt8).toNat:Int)=97:=rfl;rw[V];clear h T nb Z c1 c2 c3 c4 G U P1
       go_in
       go_wp2_with(fail);refine Y.mono ?_;rintro e J ⟨rfl,v',D,y,hv⟩;clear Y
       go_wp2
       first|go_end0|refine iJ rfl rfl ?_
       exact⟨rfl,(show nE _ J B X s v ps [p.abs]from⟨⟨v',[_],D,rfl,hv⟩,y⟩).from M⟩
      ·by_cases c7:c=110
       ·subst c7;have V:((110:UInt8).toNat:Int)=110:=rfl;rw[V];clear h T nb Z c1 c2 c3 c4 G A U P1
        go_in
        go_wp2_with(fail);refine Y.mono ?_;rintro e J ⟨rfl,v',D,y,hv⟩;clear Y
        go_wp2
        first|go_end0|refine iJ rfl rfl ?_
        exact⟨rfl,(show nE _ J B X s v ps [p.abs]from⟨⟨v',[_],D,rfl,hv⟩,y⟩).from M⟩
       ·have hS:pS c s=s:=by simp[pS,c1,c2,c3,c4]
        have hO:Gi c s p.abs=[] :=by simp[Gi,c3,c4,G,A,c7]
        have q1:((c.toNat:Int)==105)=false:=nb 105 c1;have q2:((c.toNat:Int)==122)=false:=nb 122 c2;have q3:((c.toNat:Int)==114)=false:=nb 114 c3;have q4:((c.toNat:Int)==116)=false:=nb 116 c4;have q5:((c.toNat:Int)==107)=false:=nb 107 G;have q6:((c.toNat:Int)==97)=false:=nb 97 A;have q7:((c.toNat:Int)==110)=false:=nb 110 c7;rw[hS,hO];have HR:Hid _:=U;clear h T nb Z c1 c2 c3 c4 G A c7 U P1 Y hS hO
        go_in
        go_wp2
        first|go_end0|refine iJ rfl rfl ?_
        exact⟨rfl,nE.still HR.out M⟩
def LS.next(s:LS)(nx:Int):LS:=if nx<=3 then {s with st:=nx,ns:=s.fs,nm:=s.fm,sz:=255}else {s with st:=nx}
theorem Kept.tab {o:Option Nat} (k:Kept w w' B o)(h:jf w)(hB:B≠0)(Z:o≠μ 0):jf w':=λe s Y hs=>
 (aj (a:=⟨0,e*10+s,ν⟩) (k.block 0 h.lt eh Z)).trans (h e s Y hs)
theorem O6(B:Nat)(X:Nat->Prop)(s:LS)(v:dZ)(ps:List PV)(p:PV)(ev:Int)(D:List UInt8)(nx:Int)(f:Nat)(w:dY)(Z:jf w)(h:rI w B X s v ps)(T:jh s.st ev=(D,nx,f))(hf:f≠0):
 eW eX 171 #[π (μ ⟨B,0,ν⟩),ι κ ev,.agg #[ι κ p.code,ι κ p.id,σ p.a p.n p.cap]] w λe w'=>e=ρ (.iface 128 (ι κ (f:Int)))/\eE w w':=by
 have U:=gW w (γ #[ι κ p.code,ι κ p.id,σ p.a p.n p.cap] 37);have V:=IB s.st ev D nx f T _ (Z.below U);have Y:jm f=.iface 128 (ι κ (f:Int)):=by simp[jm,hf]
 rw[Y]at V;have hl:=h.lk.lt;have c6:w.cell? ⟨B,6,ν⟩=μ (ι κ s.st):=h.lk.cell 6;clear h Z Y
 go_in
 go_wp2_with(fail);refine V.mono ?_;rintro e w1 ⟨rfl,m1,rfl⟩
 go_wp2
 go_ret;exact⟨rfl,below_drewN U _⟩
structure QE(w wr:dY)(B:Nat)(X:Nat->Prop)(Z:Nat)(v:dZ)(ps:List PV)(p:PV)(S:ByteArray)(k:Nat)(sF:LS)(oF:List kM)(sk:LS)(vk:dZ)(qs:List PV):Prop where
 rep:rI wr B X sk vk (ps++qs)
 bd:Bd sk (100+k)
 fin:qJ (S.data.toList.drop k) sk=sF
 out:qs.map PV.abs++yu (S.data.toList.drop k) sk p.abs=oF
 zo:vz wr X vk p
 kept:Kept w wr B v.ownBlock
 hv:∀g,vk.ownBlock=μ g->v.ownBlock=μ g \/w.heap.size<=g
 d0:wr.cell? ⟨Z,0,ν⟩=μ (ι κ p.code)
 d1:wr.cell? ⟨Z,1,ν⟩=μ (ι κ p.id)
 d2:wr.cell? ⟨Z,2,ν⟩=μ (σ p.a p.n p.cap)
 nz:vk.ownBlock≠μ Z
 few:qs.length<=k
theorem KC(c:UInt8)(s:LS)(a:kM):(Gi c s a).length<=1:=by
 unfold Gi;split
 ·simp
 ·split
  ·simp
  ·split
   ·simp
   ·split<;>simp
theorem KE {wr V:dY} {Z:Nat} {ps:List PV} {p:PV} {S:ByteArray} {k:Nat} {sF:LS} {oF:List kM} {sk:LS} {vk:dZ} {qs:List PV} {c:UInt8} {r:List UInt8}
 (Y:QE w wr B X Z v ps p S k sF oF sk vk qs) (H:S.data.toList.drop k=c::r) (h:nE wr.drew V B X (pS c sk) vk (ps++qs) (Gi c sk p.abs)) (u:eE wr wr.drew):
 ∃v2 q2,QE w V B X Z v ps p S (k+1) sF oF (pS c sk) v2 q2:=by
 obtain⟨⟨v2,q2,hR,D,hv⟩,hK⟩:=h;have A:S.data.toList.drop (k+1)=r:=by
  have:=congrArg (List.drop 1) H;simpa using this
 have J:Kept wr V B vk.ownBlock:=(Kept.iT B vk.ownBlock u).trans hK (λi e=>.inl e);have M:∀j,V.cell? ⟨Z,j,ν⟩=wr.cell? ⟨Z,j,ν⟩:=λj=>aj (a:=⟨Z,j,ν⟩) (J.block Z (ag wr _ Y.d0) (λe=>by
  subst e;have U:=Y.d0;have E:=Y.d1;have T:=Y.d2;have y:wr.cell? ⟨Z,2,ν⟩=μ (ι κ sk.ns):=Y.rep.lk.cell 2;rw[T]at y;simp at y) Y.nz)
 have rQ:wr.drew.heap.size=wr.heap.size:=rfl;refine⟨v2,qs++q2,by rw[<-aE];exact hR,?_,?_,?_,?_,?_,?_,(M 0).trans Y.d0,(M 1).trans Y.d1,(M 2).trans Y.d2,?_,?_⟩
 ·have:=Bd.act Y.bd eh c;exact⟨this.o1,this.o2,by have:=this.l1;push_cast;omega,by have:=this.l2;push_cast;omega⟩
 ·rw[A,<-Y.fin,H];rfl
 ·rw[A,<-Y.out,H,cU,D,aE];rfl
 ·exact Y.zo.kept Y.rep.self J (λg G=>hv g G)
 ·refine Y.kept.trans J (λi e=> ?_);rcases Y.hv i e with U|U
  ·exact .inl U
  ·exact .inr U
 ·intro g G;rcases hv g G with U|U
  ·exact Y.hv g U
  ·exact .inr (Nat.le_trans Y.kept.size U)
 ·intro e;rcases hv Z e with U|U
  ·exact Y.nz U
  ·have T:Z<wr.heap.size:=ag wr _ Y.d0;have E:wr.heap.size<=Z:=U;omega
 ·rw[aA];have U:q2.length=(Gi c sk p.abs).length:=by rw[<-D];simp
  have E:=KC c sk p.abs;have T:=Y.few;omega
theorem Ul(B:Nat)(X:Nat->Prop)(s:LS)(v:dZ)(ps:List PV)(p:PV)(ev:Int)(S:ByteArray)(nx:Int)(w:dY)(hT:jf w)(h:rI w B X s v ps)(hb:Bd s 100)(hp:vz w X v p)(hn:ps.length<=50)(hR:jh s.st ev=(S.data.toList,nx,0))(hS:S.size<=4):
 eW eX 171 #[π (μ ⟨B,0,ν⟩),ι κ ev,.agg #[ι κ p.code,ι κ p.id,σ p.a p.n p.cap]] w λe w'=>e=ρ η/\nE w w' B X (qJ S.data.toList (s.next nx)) v ps (yu S.data.toList (s.next nx) p.abs):=by
 have D:=gW w (γ #[ι κ p.code,ι κ p.id,σ p.a p.n p.cap] 37);have hA:=λj=>ar w #[ι κ p.code,ι κ p.id,σ p.a p.n p.cap] 37 (0,0) j;have ki:=IB s.st ev S.data.toList nx 0 hR _ (hT.below D);have e0:jm 0=η:=rfl;have eS:(⟨S.data.toList.toArray⟩:ByteArray)=S:=gY;rw[e0,eS]at ki;have hl:=h.lk.lt;have XW:=h.row.lt;have c6:w.cell? ⟨B,6,ν⟩=μ (ι κ s.st):=h.lk.cell 6;have h0:=h.below D;have hp0:=hp.kept h.self (Kept.iT B v.ownBlock D) (λ_ e=>.inl e);obtain⟨M,hsF⟩:=gg (qJ S.data.toList (s.next nx));obtain⟨J,u⟩:=gg (yu S.data.toList (s.next nx) p.abs);rw[hsF,u];have HsF:Hid _:=hsF;have HoF:Hid _:=u;clear hsF u
 go_in
 go_wp2_with(fail);refine ki.mono ?_;rintro e w1 ⟨rfl,m1,rfl⟩;obtain⟨U,j6⟩:=gg ((w.alloc (γ #[ι κ p.code,ι κ p.id,σ p.a p.n p.cap] 37)).drewN m1);obtain⟨Z,hZ⟩:=gg (w.heap.size);have d0:U.cell? ⟨Z,0,ν⟩=μ (ι κ p.code):=by rw[<-j6,<-hZ];exact hA 0
 have d1:U.cell? ⟨Z,1,ν⟩=μ (ι κ p.id):=by rw[<-j6,<-hZ];exact hA 1
 have d2:U.cell? ⟨Z,2,ν⟩=μ (σ p.a p.n p.cap):=by rw[<-j6,<-hZ];exact hA 2
 have kA:eE w U:=by rw[<-j6];exact below_drewN D m1
 have T:rI U B X s v ps:=h.below kA;have CJ:vz U X v p:=hp.kept h.self (Kept.iT B v.ownBlock kA) (λ_ e=>.inl e);have Xe:=Kept.iT B v.ownBlock kA;rw[j6,hZ];have yv:B≠Z:=eh;have hnz:v.ownBlock≠μ Z:=λe=>by have:=XW Z e;omega
 clear ki j6 hZ hA h0 D h c6 hl e0 eS hT hp hp0 kA XW;have XV:=T.lk.lt;have c0:U.cell? ⟨B,0,ν⟩=μ (ι κ s.fs):=T.lk.cell 0;have c1:U.cell? ⟨B,1,ν⟩=μ (ι κ s.fm):=T.lk.cell 1;have c2:U.cell? ⟨B,2,ν⟩=μ (ι κ s.ns):=T.lk.cell 2;have c3:U.cell? ⟨B,3,ν⟩=μ (ι κ s.nm):=T.lk.cell 3;have c6:U.cell? ⟨B,6,ν⟩=μ (ι κ s.st):=T.lk.cell 6;have c7:U.cell? ⟨B,7,ν⟩=μ (ι κ s.sz):=T.lk.cell 7;have fz:∀j,U.frozen? ⟨B,j,ν⟩=false:=T.lk.frozen;have tail:∀(E:dY) (s2:LS),rI E B X s2 v ps->Kept U E B v.ownBlock->s.next nx=s2->Bd s2 100->QE w E B X Z v ps p S 0 M J s2 v [] :=by
  intro E s2 FO Gj hs2 mR;have D8:∀j,E.cell? ⟨Z,j,ν⟩=U.cell? ⟨Z,j,ν⟩:=λj=>aj (a:=⟨Z,j,ν⟩) (Gj.block Z (ag U _ d0) (λe=>yv e.symm) hnz);exact⟨by rw[aC];exact FO,⟨mR.o1,mR.o2,by have:=mR.l1;omega,by have:=mR.l2;omega⟩,by rw[<-HsF.out,hs2];rfl,by rw[<-HoF.out,hs2];rfl,CJ.kept T.self Gj (λ_ e=>.inl e),Xe.trans Gj (λi e=>.inl e),λ_ e=>.inl e,(D8 0).trans d0,(D8 1).trans d1,(D8 2).trans d2,hnz,Nat.le_refl _⟩
 have HT:Hid _:=tail;clear tail;clear HsF HoF;by_cases hx:nx<=3
 ·have M0:Hid (QE w ((((U.setCell ⟨B,6,ν⟩ (ι κ nx)).setCell ⟨B,2,ν⟩ (ι κ s.fs)).setCell ⟨B,3,ν⟩ (ι κ s.fm)).setCell ⟨B,7,ν⟩ (ι κ 255)) B X Z v ps p S 0 M J {s with st:=nx,ns:=s.fs,nm:=s.fm,sz:=255} v []):=
   HT.out _ _ ((((T.lq 6 _ {s with st:=nx} rfl).lq 2 _ {s with st:=nx,ns:=s.fs} rfl).lq 3 _ {s with st:=nx,ns:=s.fs,nm:=s.fm} rfl).lq 7 _ _ rfl) (kL (kL (kL (kL (Kept.refl _ B _) 6 _) 2 _) 3 _) 7 _) (by simp[LS.next,hx]) ⟨hb.o1,hb.o2,hb.l1,hb.l2⟩
  clear HT T Xe CJ;go_wp2_with(fail);obtain⟨E,y⟩:=gg (((((U.setCell ⟨B,6,ν⟩ (ι κ nx)).setCell ⟨B,2,ν⟩ (ι κ s.fs)).setCell ⟨B,3,ν⟩ (ι κ s.fm)).setCell ⟨B,7,ν⟩ (ι κ 255)));have M1:Hid (QE w E B X Z v ps p S 0 M J {s with st:=nx,ns:=s.fs,nm:=s.fm,sz:=255} v []):=by show QE _ _ _ _ _ _ _ _ _ _ _ _ _ _ _;rw[<-y];exact M0.out
  rw[y];clear M0 y d0 d1 d2 c0 c1 c2 c3 c6 c7 fz
  go_loopw [42] (λi wr=>∃(k:Nat) (G:LS) (H:dZ) (qs:List PV),k<=S.size/\i=ι κ k/\QE w wr B X Z v ps p S k M J G H qs) (λi _=>S.size-(eY i).toNat)
  case atStart=>exact⟨0,_,v,[],Nat.zero_le _,rfl,M1.out⟩
  case round=>
   obtain⟨k,G,H,qs,D,rfl,Y⟩:=hrel;by_cases kB:k<S.size
   ·have nQ:(k:Int)<(S.size:Int):=eh;have G6:(0:Int)<=(k:Int):=eh;have HD:Hid (S.data.toList.drop k=S[k] ::S.data.toList.drop (k+1)):=by
     show _=_;rw[aS (by simpa using kB)];rfl
    obtain⟨x0,x1,x2⟩:=fV Y.d0 (fV Y.d1 Y.d2);have xl:Z<wr.heap.size:=ag wr _ x0;have A:eE wr wr.drew:=jD (av _ _);have HC:=Dd S[k] B X G H (ps++qs) p wr.drew (Y.rep.below A) ⟨Y.bd.o1,Y.bd.o2,by have:=Y.bd.l1;omega,by have:=Y.bd.l2;omega⟩ (Y.zo.kept Y.rep.self (Kept.iT B H.ownBlock A) (λ_ e=>.inl e)) (by rw[aA];have:=Y.few;omega)
    go_wp2
    go_region_with(go_at_call 208;refine HC.mono ?_;rintro e V ⟨rfl,hW⟩)
    all_goals
     have M2:Hid (∃v2 q2,QE w V B X Z v ps p S (k+1) M J (pS S[k] G) v2 q2):=KE Y HD.out hW A;clear HC
     go_wp2
     go_roundw
     case rel=>
      obtain⟨v2,q2,tY⟩:=M2.out;exact⟨k+1,_,v2,q2,eh,by go_num,tY⟩
     case measure=>simp[eY];omega
   ·have GJ:S.data.toList.drop k=[] :=a9 (by
     have:S.data.toList.length=S.size:=gY;omega)
    have HF:Hid (nE w wr B X M v ps J):=by
     have T:=Y.fin;have h2:=Y.out;rw[GJ]at T h2;have h3:G=M:=T;subst h3;refine⟨⟨H,qs,Y.rep,by simpa[yu]using h2,Y.hv⟩,Y.kept⟩
    clear Y GJ
    go_wp2
    go_ret;exact⟨rfl,HF.out⟩
 ·have M0:Hid (QE w (U.setCell ⟨B,6,ν⟩ (ι κ nx)) B X Z v ps p S 0 M J {s with st:=nx} v []):=
   HT.out _ _ (T.lq 6 _ _ rfl) (kL (Kept.refl _ B _) 6 _) (by simp[LS.next,hx]) ⟨hb.o1,hb.o2,hb.l1,hb.l2⟩
  clear HT T Xe CJ;go_wp2_with(fail);obtain⟨E,y⟩:=gg ((U.setCell ⟨B,6,ν⟩ (ι κ nx)));have M1:Hid (QE w E B X Z v ps p S 0 M J {s with st:=nx} v []):=by show QE _ _ _ _ _ _ _ _ _ _ _ _ _ _ _;rw[<-y];exact M0.out
  rw[y];clear M0 y d0 d1 d2 c0 c1 c2 c3 c6 c7 fz
  go_loopw [42] (λi wr=>∃(k:Nat) (G:LS) (H:dZ) (qs:List PV),k<=S.size/\i=ι κ k/\QE w wr B X Z v ps p S k M J G H qs) (λi _=>S.size-(eY i).toNat)
  case atStart=>exact⟨0,_,v,[],Nat.zero_le _,rfl,M1.out⟩
  case round=>
   obtain⟨k,G,H,qs,D,rfl,Y⟩:=hrel;by_cases kB:k<S.size
   ·have nQ:(k:Int)<(S.size:Int):=eh;have G6:(0:Int)<=(k:Int):=eh;have HD:Hid (S.data.toList.drop k=S[k] ::S.data.toList.drop (k+1)):=by
     show _=_;rw[aS (by simpa using kB)];rfl
    obtain⟨x0,x1,x2⟩:=fV Y.d0 (fV Y.d1 Y.d2);have xl:Z<wr.heap.size:=ag wr _ x0;have A:eE wr wr.drew:=jD (av _ _);have HC:=Dd S[k] B X G H (ps++qs) p wr.drew (Y.rep.below A) ⟨Y.bd.o1,Y.bd.o2,by have:=Y.bd.l1;omega,by have:=Y.bd.l2;omega⟩ (Y.zo.kept Y.rep.self (Kept.iT B H.ownBlock A) (λ_ e=>.inl e)) (by rw[aA];have:=Y.few;omega)
    go_wp2
    go_region_with(go_at_call 208;refine HC.mono ?_;rintro e V ⟨rfl,hW⟩)
    all_goals
     have M2:Hid (∃v2 q2,QE w V B X Z v ps p S (k+1) M J (pS S[k] G) v2 q2):=KE Y HD.out hW A;clear HC
     go_wp2
     go_roundw
     case rel=>
      obtain⟨v2,q2,tY⟩:=M2.out;exact⟨k+1,_,v2,q2,eh,by go_num,tY⟩
     case measure=>simp[eY];omega
   ·have GJ:S.data.toList.drop k=[] :=a9 (by
     have:S.data.toList.length=S.size:=gY;omega)
    have HF:Hid (nE w wr B X M v ps J):=by
     have T:=Y.fin;have h2:=Y.out;rw[GJ]at T h2;have h3:G=M:=T;subst h3;refine⟨⟨H,qs,Y.rep,by simpa[yu]using h2,Y.hv⟩,Y.kept⟩
    clear Y GJ
    go_wp2
    go_ret;exact⟨rfl,HF.out⟩
theorem AR(a b:Option dX)(ca A n m:Nat)(os qs:List jE)(w:dY)(J:jc w a n os)(hb:jc w b m qs)(hn:n<=1000000)(hm:m<=1000000):
 eW eX 230 #[σ a n ca,σ b m A] w λe w'=>e=ρ (.bool (decide (os=qs)))/\∃k,w'=w.drewN k:=by
 have hl:=J.1;have IE:=hb.1;by_cases E:n=m
 ·subst E;have heq:((n:Int) !=(n:Int))=false:=gY
  go_in
  go_wp2
  go_loopw [13] (λi wr=>∃k m:Nat,k<=n/\i=ι κ k/\os.take k=qs.take k/\wr=w.drewN m) (λi _=>n-(eY i).toNat)
  case atStart=>exact⟨0,0,Nat.zero_le _,rfl,rfl,rfl⟩
  case round=>
   obtain⟨k,m,hk,rfl,T,rfl⟩:=hrel;have H:Hid _:=T;clear T;by_cases kB:k<n
   ·rcases J.2 with hA|⟨b1,o1,rfl,hA⟩
    ·omega
    rcases hb.2 with V|⟨b2,o2,rfl,V⟩
    ·omega
    obtain⟨c1,c2⟩:=hA k eh;obtain⟨c3,c4⟩:=V k eh;have U:Hid (os.take (k+1)=os.take k++ [os[k]'(by omega)]):=aB eh;have M:Hid (qs.take (k+1)=qs.take k++ [qs[k]'(by omega)]):=aB eh;have Y:Hid (os=qs->os[k]'(by omega)=qs[k]'(by omega)):=λh=>by subst h;rfl
    clear hA V;generalize os[k]'(by omega)=o at c1 c2 U Y;generalize qs[k]'(by omega)=q at c3 c4 M Y;have nQ:(k:Int)<(n:Int):=eh;cases q1:(o.1==q.1)
    ·have Z:Hid (decide (os=qs)=false):=by
      show _=_;rw[bO];intro h;have:=Y.out h;rw[this]at q1;simp at q1
     go_wp2
     go_quiet(fail)
     go_wp2_with(fail);rw[Z.out];go_ret;exact⟨rfl,_,drewN_drewN _ _ _⟩
    ·cases q2:(o.2==q.2)
     ·have Z:Hid (decide (os=qs)=false):=by
       show _=_;rw[bO];intro h;have:=Y.out h;rw[this]at q2;simp at q2
      go_wp2
      go_quiet(fail)
      go_wp2_with(fail);rw[Z.out];go_ret;exact⟨rfl,_,drewN_drewN _ _ _⟩
     ·have D:Hid (os.take (k+1)=qs.take (k+1)):=by
       show _=_;rw[U.out,M.out,H.out];simp at q1 q2;congr 2;exact aV q1 q2
      go_wp2
      go_quiet(fail)
      go_wp2
      go_roundw
      case rel=>exact⟨k+1,_,eh,by go_num,D.out,rfl⟩
      case measure=>simp[eY];omega
   ·have G:decide (os=qs)=true:=by
     have y:os.take k=os:=aJ eh;have u:qs.take k=qs:=aJ eh;have:=H.out;rw[y,u]at this;simp[this]
    go_wp2_with(fail);rw[G];go_ret;exact⟨rfl,m,rfl⟩
 ·have heq:((n:Int) !=(m:Int))=true:=by simp;omega
  have Z:decide (os=qs)=false:=by
   rw[bO];intro h;subst h;omega
  rw[Z]
  go_in
  go_wp2
  go_ret;exact⟨rfl,0,rfl⟩
def nW(s:LS)(ev:Int):LS:=qJ (jh s.st ev).1 (s.next (jh s.st ev).2.1)
def pL(s:LS)(ev:Int)(zo:kM):List kM:=yu (jh s.st ev).1 (s.next (jh s.st ev).2.1) zo
theorem AU(s e:Int):(jh s e).1.length<=4:=by
 unfold jh;split
 ·simp
 ·rename_i h
  exact(show∀e,e<12->∀s,s<10->(lp s e).1.length<=4 by decide+kernel) e.toNat eh s.toNat eh
theorem zp(B:Nat)(X:Nat->Prop)(s:LS)(v:dZ)(ps:List PV)(p:PV)(ev:Int)(w:dY)(Y:jf w)(h:rI w B X s v ps)(hb:Bd s 100)(U:vz w X v p)(V:ps.length<=50)(hf:(jh s.st ev).2.2=0):
 eW eX 171 #[π (μ ⟨B,0,ν⟩),ι κ ev,.agg #[ι κ p.code,ι κ p.id,σ p.a p.n p.cap]] w λe w'=>e=ρ η/\nE w w' B X (nW s ev) v ps (pL s ev p.abs):=by
 have hl:=AU s.st ev;unfold nW pL;obtain⟨D,nx,f,Z⟩:∃D nx f,jh s.st ev=(D,nx,f):=⟨_,_,_,rfl⟩
 rw[Z]at hf hl⊢;simp only at hf hl⊢;subst hf;exact Ul B X s v ps p ev ⟨D.toArray⟩ nx w Y h hb U V Z (by show D.toArray.size<=4;simpa using hl)
def nt:List jE->Int
 |[] =>255
 |o::r=>if o.1=1 then o.2 else nt r
theorem M8(a:Option dX)(n cap:Nat)(os:List jE)(w:dY)(hn:n<=1000000)(U:jc w a n os):
 eW eX 229 #[σ a n cap] w λe w'=>e=ρ (ι κ (nt os))/\eE w w':=by
 go_in
 go_wp2
 go_loopw [7] (λi wr=>∃k:Nat,k<=n/\i=ι κ k/\nt os=nt (os.drop k)/\eE w wr) (λi _=>n-(eY i).toNat)
 case atStart=>exact⟨0,Nat.zero_le _,rfl,rfl,av _ _⟩
 case round=>
  obtain⟨k,hk,rfl,M,Y⟩:=hrel;have hF:Hid _:=M;clear M;by_cases H:k<n
  ·have G:=U.below Y;rcases G.2 with h0|⟨b,off,rfl,hc⟩
   ·omega
   have J:k<os.length:=by rw[U.1];exact H
   obtain⟨c1,c2⟩:=hc k J;have V:Hid (os.drop k=os[k] ::os.drop (k+1)):=aS J;generalize os[k] =o at c1 c2 V;clear hc;have nQ:(k:Int)<(n:Int):=eh;have T:=Y.alloc Y.size (γ #[ι κ o.1,ι κ o.2] 276);cases q1:(o.1==1)
   ·have Z:Hid (nt os=nt (os.drop (k+1))):=by
     show _=_;rw[hF.out,V.out,nt,af (by simpa using q1)]
    go_wp2
    go_roundw
    case rel=>exact⟨k+1,eh,by go_num,Z.out,T⟩
    case measure=>simp[eY];omega
   ·have Z:Hid (nt os=o.2):=by
     show _=_;rw[hF.out,V.out,nt,ai (by simpa using q1)]
    go_wp2_with(fail);rw[Z.out];go_ret;exact⟨rfl,T⟩
  ·have Z:Hid (nt os=255):=by
    show _=_;have E:os.drop k=[] :=a9 (by rw[U.1];omega);rw[hF.out,E,nt]
   go_wp2_with(fail);rw[Z.out];go_ret;exact⟨rfl,Y⟩
def LS.sized(s:LS)(os:List jE):LS:=if 6<=s.st then {s with sz:=nt os}else s
theorem KF(B:Nat)(X:Nat->Prop)(s:LS)(v:dZ)(ps:List PV)(id:Int)(a:Option dX)(n cap:Nat)(os:List jE)(w:dY)(hT:jf w)(h:rI w B X s v ps)(hb:Bd s 100)(hn:ps.length<=50)
 (ho:jc w a n os) (uK:∀k,uH a n=μ k->¬X k/\v.ownBlock≠μ k/\k<w.heap.size) (kh:kI a cap) (Ap:n<=1000) (m1:0<=s.nm) (m2:s.nm<=255) (hj:l9 s.nm os=(2,os)) (hf:(jh s.st 6).2.2=0):
 eW eX 211 #[π (μ ⟨B,0,ν⟩),.agg #[ι κ 1,ι κ id,σ a n cap]] w λe w'=>e=ρ η/\nE w w' B X ((nW s 6).sized os) v ps (pL s 6 (2,id,os)):=by
 have hk:=gW w (γ #[ι κ 1,ι κ id,σ a n cap] 37);have hA:=λj=>ar w #[ι κ 1,ι κ id,σ a n cap] 37 (0,0) j;have hl:=h.lk.lt;have XW:=h.row.lt;have T:=h.below hk;have hz:∀w:dY,(zeroValue 37).run eX w=.ok (.agg #[ι κ 0,ι κ 0,σ ν 0 0]) w:=λw=>gq;have XY:=ho.1;obtain⟨U,j6⟩:=gg (w.alloc (γ #[ι κ 1,ι κ id,σ a n cap] 37));obtain⟨Z,hZ⟩:=gg (w.heap.size);have d1:U.cell? ⟨Z,1,ν⟩=μ (ι κ id):=by rw[<-j6,<-hZ];exact hA 1
 have d2:U.cell? ⟨Z,2,ν⟩=μ (σ a n cap):=by rw[<-j6,<-hZ];exact hA 2
 rw[j6]at T hk;have yv:B≠Z:=eh;have hnz:v.ownBlock≠μ Z:=λe=>by have:=XW Z e;omega
 have HW:Hid _:=j6;have HZ:Hid _:=hZ;clear hA j6 hZ hl;have c2:U.cell? ⟨B,2,ν⟩=μ (ι κ s.ns):=T.lk.cell 2;have c3:U.cell? ⟨B,3,ν⟩=μ (ι κ s.nm):=T.lk.cell 3;have XV:=T.lk.lt;have JX:Z<U.heap.size:=ag U _ d1;have Qb:=T.old;have vj:=T.self;have hJ:=GH s.ns s.nm a n cap os U.drew m1 m2 eh kh (ho.below (jD hk));rw[hj]at hJ
 go_in
 go_wp2_with(fail);rw[HW.out,HZ.out]
 go_region_with(go_at_call 228;refine hJ.mono ?_;rintro e M ⟨u,rfl,hM⟩)
 all_goals
  obtain⟨a',n',jr,rfl,hP⟩:=I2 (X:=X) (v:=v) 2 id hM (show os.length<=1000 by omega) Qb (λk hk3=>Nat.lt_of_lt_of_le (XW k hk3) hk.size);have y8:eE U M:=gk (jD (av _ _)) hM.below;have R2:=T.below y8;have d1':M.cell? ⟨Z,1,ν⟩=μ (ι κ id):=(y8.cell (p:=⟨Z,1,ν⟩) JX).trans d1;have A:M.cell? ⟨Z,2,ν⟩=μ (σ a n cap):=(y8.cell (p:=⟨Z,2,ν⟩) JX).trans d2;have I3:Z<M.heap.size:=ag M _ d1';have y:=gW M (γ #[ι κ 2,ι κ id,σ a' n' jr] 37);have D:=gk hk (gk y8 y);have R3:=R2.below y;have P3:=hP.kept vj (Kept.iT B v.ownBlock y) (λ_ e=>.inl e);have HC:=zp B X s v ps ⟨2,id,a',n',jr,os⟩ 6 _ (hT.below D) R3 hb P3 hn hf;have G:=(y.cell (p:=⟨Z,2,ν⟩) I3).trans A;have zq:=ho.below D;have ae1:Z<(M.alloc (γ #[ι κ 2,ι κ id,σ a' n' jr] 37)).heap.size:=ag _ _ G;clear hM hP R2 y8 c2 c3 d1 d2 T hJ R3 P3;go_wp2_with(fail);refine HC.mono ?_;rintro e H ⟨rfl,hW⟩;obtain⟨⟨v',qs,Y,XZ,hv4⟩,V⟩:=hW;have c6:H.cell? ⟨B,6,ν⟩=μ (ι κ (nW s 6).st):=Y.lk.cell 6;have z2:H.cell? ⟨Z,2,ν⟩=μ (σ a n cap):=(aj (a:=⟨Z,2,ν⟩) (V.block Z ae1 (λe=>yv e.symm) hnz)).trans G;have Xg:jc H a n os:=zq.OC (λk hk4=>by obtain⟨q1,q2,q3⟩:=uK k hk4;exact V.block k (Nat.lt_of_lt_of_le q3 D.size) (λe=>q1 (by rw[e];exact vj)) q2);have hl4:=Y.lk.lt;have aoV:Z<H.heap.size:=ag H _ z2;have E:Kept w H B v.ownBlock:=(Kept.iT B v.ownBlock D).trans V (λi e=>.inl e);have hvv:∀g,v'.ownBlock=μ g->v.ownBlock=μ g \/w.heap.size<=g:=λg hg=>by
   rcases hv4 g hg with e|e
   ·exact .inl e
   ·exact .inr (Nat.le_trans D.size e)
  clear HC hv4 V zq G A d1' I3 ae1 y D;obtain⟨s',J⟩:∃s',nW s 6=s':=⟨_,rfl⟩
  rw[J]at Y c6;have HS:Hid _:=J;clear J;by_cases h6:6<=s'.st
  ·go_wp2_with(fail);refine(M8 a n cap os H eh Xg).mono ?_;rintro e w5 ⟨rfl,k5⟩;have R5:=Y.below k5;have c7:w5.cell? ⟨B,7,ν⟩=μ (ι κ s'.sz):=R5.lk.cell 7;have fz:∀j,w5.frozen? ⟨B,j,ν⟩=false:=R5.lk.frozen;have hl5:=R5.lk.lt;have HR6:Hid (rI (w5.setCell ⟨B,7,ν⟩ (ι κ (nt os))) B X {s' with sz:=nt os} v' (ps++qs)):=R5.lq 7 _ _ rfl;have HK6:Hid (Kept w (w5.setCell ⟨B,7,ν⟩ (ι κ (nt os))) B v.ownBlock):=kL (E.trans (Kept.iT B v.ownBlock k5) (λi e=>.inl e)) 7 _;clear R5 Y E k5 Xg z2 c6
   go_wp2
   go_ret;rw[HS.out];have e6:s'.sized os={s' with sz:=nt os}:=by simp[LS.sized,h6]
   rw[e6];exact⟨rfl,⟨v',qs,HR6.out,XZ,hvv⟩,HK6.out⟩
  ·go_wp2
   go_ret;rw[HS.out];have e6:s'.sized os=s':=by unfold LS.sized;rw[af eh]
   rw[e6];exact⟨rfl,⟨v',qs,Y,XZ,hvv⟩,E⟩
theorem X2(B:Nat)(X:Nat->Prop)(s:LS)(v:dZ)(ps:List PV)(w:dY)(h:rI w B X s v ps):
 eW eX 174 #[π (μ ⟨B,0,ν⟩)] w λe w'=>e=ρ v/\rI w' B X s (σ ν 0 0) [] /\Row w' 3 v ps.length (QC ps)/\(∀p∈ps,vz w' X v p)/\Kept w w' B ν:=by
 have hl:=h.lk.lt;have XK:w.cell? ⟨B,11,ν⟩=μ v:=h.lk.cell 11;have fz:∀j,w.frozen? ⟨B,j,ν⟩=false:=h.lk.frozen;have U:Kept w (w.setCell ⟨B,11,ν⟩ (σ ν 0 0)) B ν:=kL (Kept.refl w B _) 11 _;have T:Kept w (w.setCell ⟨B,11,ν⟩ (σ ν 0 0)) B v.ownBlock:=kL (Kept.refl w B _) 11 _;have J:Hid (rI (w.setCell ⟨B,11,ν⟩ (σ ν 0 0)) B X s (σ ν 0 0) []):=⟨h.lk.set 11 _,Row.nil _ 3,λg M=>by simp[eu]at M,h.self,λk Z=>Nat.lt_of_lt_of_le (h.old k Z) U.size,λp V=>by simp at V⟩
 have H:Hid (Row (w.setCell ⟨B,11,ν⟩ (σ ν 0 0)) 3 v ps.length (QC ps)):=h.row.keep U.size (λk Y=>aq _ _ _ k (λe=>h.ne (by rw[Y];exact congrArg μ e)));have HP:Hid (∀p∈ps,vz (w.setCell ⟨B,11,ν⟩ (σ ν 0 0)) X v p):=λp V=>(h.pk p V).kept h.self T (λ_ e=>.inl e);clear h T
 go_in
 go_wp2
 go_ret;exact⟨rfl,J.out,H.out,HP.out,U⟩
theorem sG(w:dY):(zeroValue 37).run eX w=.ok (.agg #[ι κ 0,ι κ 0,σ ν 0 0]) w:=gq
theorem ajL(ev:Int)(V:ev=0 \/ev=1 \/ev=2 \/ev=3)(B:Nat)(X:Nat->Prop)(s:LS)(v:dZ)(ps:List PV)(w:dY)(Z:jf w)(h:rI w B X s v ps)(hb:Bd s 100)(U:ps.length<=50)(hf:(jh s.st ev).2.2=0):
 eW eX 120 #[π (μ ⟨B,0,ν⟩),ι κ ev] w λe w'=>e=ρ η/\nE w w' B X (nW s ev) v ps (pL s ev (0,0,[])):=by
 have hz:=sG;have hc:=zp B X s v ps ⟨0,0,ν,0,0,[]⟩ ev w Z h hb (qS _ _ _ _ _) U hf;clear h Z hb hf;rcases V with rfl|rfl|rfl|rfl
 all_goals
  go_in
  go_wp2_with(fail);refine hc.mono ?_;rintro e w1 ⟨rfl,Y⟩;clear hc
  go_wp2
  go_ret;exact⟨rfl,Y⟩
theorem G9(B:Nat)(X:Nat->Prop)(s:LS)(v:dZ)(ps:List PV)(w:dY)(h:rI w B X s v ps):
 eW eX 114 #[π (μ ⟨B,0,ν⟩)] w λe w'=>e=ρ (ι κ s.st)/\w=w':=by
 have hl:=h.lk.lt;have c6:w.cell? ⟨B,6,ν⟩=μ (ι κ s.st):=h.lk.cell 6;clear h
 go_in
 go_wp2
 go_ret;exact⟨rfl,rfl⟩
def kj(s:LS):LS:=if(decide (4<=s.st)&&decide (s.st<=8))=false then s else if 0<s.wt-1 then {s with wt:=s.wt-1}else if 0<s.lf then nW {s with wt:=s.wt-1} 4 else nW {s with wt:=s.wt-1} 5
def lM(s:LS):List kM:=if(decide (4<=s.st)&&decide (s.st<=8))=false then []else if 0<s.wt-1 then []else if 0<s.lf then pL {s with wt:=s.wt-1} 4 (0,0,[])else pL {s with wt:=s.wt-1} 5 (0,0,[])
theorem KG:∀s:Nat,4<=s->s<=8->(lp s 4).2.2=0/\(lp s 5).2.2=0:=by
 intro s Z h2;exact(show∀s,s<9->4<=s->(lp s 4).2.2=0/\(lp s 5).2.2=0 by decide+kernel) s eh Z
theorem Um(B:Nat)(X:Nat->Prop)(s:LS)(v:dZ)(ps:List PV)(w:dY)(hT:jf w)(hB:B≠0)(S8:v.ownBlock≠μ 0)(h:rI w B X s v ps)(hb:Bd s 100)(hn:ps.length<=50)(w1: -1000<=s.wt)(w2:s.wt<=1000):
 eW eX 147 #[π (μ ⟨B,0,ν⟩)] w λe w'=>e=ρ (τ #[])/\nE w w' B X (kj s) v ps (lM s):=by
 have hz:=sG;have hl:=h.lk.lt;have c6:w.cell? ⟨B,6,ν⟩=μ (ι κ s.st):=h.lk.cell 6;have c8:w.cell? ⟨B,8,ν⟩=μ (ι κ s.lf):=h.lk.cell 8;have c9:w.cell? ⟨B,9,ν⟩=μ (ι κ s.wt):=h.lk.cell 9;have fz:∀j,w.frozen? ⟨B,j,ν⟩=false:=h.lk.frozen;have T:=Qc s.st w;cases Z:(decide (4<=s.st)&&decide (s.st<=8))
 ·have V:kj s=s:=by unfold kj;rw[ai Z]
  have Y:lM s=[] :=by unfold lM;rw[ai Z]
  rw[V,Y];rw[Z]at T;have HW:Hid (nE w w B X s v ps []):=nE.still h (Kept.refl _ _ _);clear h hb V Y Z
  go_in
  go_wp2_with(fail);refine T.mono ?_;rintro e u ⟨rfl,rfl⟩
  go_wp2
  first|go_end0|refine iJ rfl rfl ?_
  exact⟨rfl,HW.out⟩
 ·have J:rI (w.setCell ⟨B,9,ν⟩ (ι κ (s.wt-1))) B X {s with wt:=s.wt-1} v ps:=h.lq 9 _ _ rfl;have G:Kept w (w.setCell ⟨B,9,ν⟩ (ι κ (s.wt-1))) B v.ownBlock:=kL (Kept.refl _ _ _) 9 _;have H:=G.tab hT hB S8;have E:Bd {s with wt:=s.wt-1} 100:=⟨hb.o1,hb.o2,hb.l1,hb.l2⟩
  have y:4<=s.st/\s.st<=8:=by simpa using Z
  have D:(jh s.st 4).2.2=0/\(jh s.st 5).2.2=0:=by
   obtain⟨A,abm⟩:∃A:Nat,s.st=A:=⟨s.st.toNat,eh⟩
   rw[abm];have:=KG A eh eh;rw[show(4:Int)=((4:Nat):Int)from rfl,show(5:Int)=((5:Nat):Int)from rfl,nA A 4 eh eA,nA A 5 eh eA];exact this
  by_cases M:0<s.wt-1
  ·have V:kj s={s with wt:=s.wt-1}:=by unfold kj;rw[af (by rw[Z];simp),ai M]
   have Y:lM s=[] :=by unfold lM;rw[af (by rw[Z];simp),ai M]
   rw[V,Y];rw[Z]at T;have HW:Hid (nE w _ B X _ v ps []):=nE.still J G;clear h J hb E V Y Z D y H G
   go_in
   go_wp2_with(fail);refine T.mono ?_;rintro e u ⟨rfl,rfl⟩
   go_wp2
   first|go_end0|refine iJ rfl rfl ?_
   exact⟨rfl,HW.out⟩
  ·by_cases U:0<s.lf
   ·have V:kj s=nW {s with wt:=s.wt-1} 4:=by unfold kj;rw[af (by rw[Z];simp),af M,ai U]
    have Y:lM s=pL {s with wt:=s.wt-1} 4 (0,0,[]):=by unfold lM;rw[af (by rw[Z];simp),af M,ai U]
    rw[V,Y];rw[Z]at T;have hc:=zp B X {s with wt:=s.wt-1} v ps ⟨0,0,ν,0,0,[]⟩ 4 _ H J E (qS _ _ _ _ _) hn D.1;clear h J hb E V Y Z D y H
    go_in
    go_wp2_with(fail);refine T.mono ?_;rintro e u ⟨rfl,rfl⟩;go_wp2_with(fail);refine hc.mono ?_;rintro e w4 ⟨rfl,hW⟩;clear hc
    go_wp2
    first|go_end0|refine iJ rfl rfl ?_
    exact⟨rfl,hW.from G⟩
   ·have V:kj s=nW {s with wt:=s.wt-1} 5:=by unfold kj;rw[af (by rw[Z];simp),af M,af U]
    have Y:lM s=pL {s with wt:=s.wt-1} 5 (0,0,[]):=by unfold lM;rw[af (by rw[Z];simp),af M,af U]
    rw[V,Y];rw[Z]at T;have hc:=zp B X {s with wt:=s.wt-1} v ps ⟨0,0,ν,0,0,[]⟩ 5 _ H J E (qS _ _ _ _ _) hn D.2;clear h J hb E V Y Z D y H
    go_in
    go_wp2_with(fail);refine T.mono ?_;rintro e u ⟨rfl,rfl⟩;go_wp2_with(fail);refine hc.mono ?_;rintro e w4 ⟨rfl,hW⟩;clear hc
    go_wp2
    first|go_end0|refine iJ rfl rfl ?_
    exact⟨rfl,hW.from G⟩
def sW(s:LS)(ev:Int)(zo:kM):LS×List kM×Nat:=if(jh s.st ev).2.2=0 then(nW s ev,pL s ev zo,0)else(s,[],(jh s.st ev).2.2)
theorem tO {s:LS} (zo:kM)(h:(jh s.st ev).2.2=0):sW s ev zo=(nW s ev,pL s ev zo,0):=by unfold sW;rw[ai h]
theorem wa {s:LS} (zo:kM)(h:(jh s.st ev).2.2≠0):sW s ev zo=(s,[],(jh s.st ev).2.2):=by unfold sW;rw[af h]
theorem uj(B:Nat)(X:Nat->Prop)(s:LS)(v:dZ)(ps:List PV)(p:PV)(ev:Int)(w:dY)(Y:jf w)(h:rI w B X s v ps)(hb:Bd s 100)(U:vz w X v p)(V:ps.length<=50):
 eW eX 171 #[π (μ ⟨B,0,ν⟩),ι κ ev,.agg #[ι κ p.code,ι κ p.id,σ p.a p.n p.cap]] w λe w'=>e=ρ (jm (sW s ev p.abs).2.2)/\nE w w' B X (sW s ev p.abs).1 v ps (sW s ev p.abs).2.1:=by
 by_cases hf:(jh s.st ev).2.2=0
 ·rw[tO _ hf];exact zp B X s v ps p ev w Y h hb U V hf
 ·rw[wa _ hf];obtain⟨D,nx,f,Z⟩:∃D nx f,jh s.st ev=(D,nx,f):=⟨_,_,_,rfl⟩
  rw[Z]at hf⊢;refine(O6 B X s v ps p ev D nx f w Y h Z hf).mono ?_;rintro e w' ⟨rfl,hb⟩;exact⟨by simp only[jm];rw[af hf],nE.still (h.below hb) (Kept.iT B _ hb)⟩
theorem M9 {mg:Int} {os:List jE} (h:(l9 mg os).1=2):l9 mg os=(2,os):=by
 unfold l9 at*;split
 ·rename_i Z;rw[ai Z]at h;simp at h
 ·rename_i Z
  rw[af Z]at h;split
  ·rename_i Y;rw[ai Y]at h;simp at h
  ·rfl
def uk(s:LS)(id:Int)(os:List jE):LS×List kM×Nat:=
 if(l9 s.nm os).1=2 then(if(sW s 6 (2,id,os)).2.2=0 then((sW s 6 (2,id,os)).1.sized os,(sW s 6 (2,id,os)).2.1,0)else sW s 6 (2,id,os))else sW s 7 ((l9 s.nm os).1,id,(l9 s.nm os).2)
theorem KH(mg:Int):∀os:List jE,(qZ mg os).length<=os.length
 |[] =>by simp[qZ]
 |o::r=>by
  have ih:=KH mg r;have e:qZ mg (o::r)=xH mg o++qZ mg r:=by simp[qZ]
  have h1:(xH mg o).length<=1:=by
   unfold xH;split
   ·simp
   ·split<;>simp
  rw[e,aA,cO];omega
theorem Na(mg:Int)(os:List jE):(l9 mg os).2.length<=os.length:=by
 unfold l9;split
 ·exact cJ _ _
 ·split
  ·exact KH mg os
  ·exact Nat.le_refl _
theorem D9(B:Nat)(X:Nat->Prop)(s:LS)(v:dZ)(ps:List PV)(id:Int)(a:Option dX)(n cap:Nat)(os:List jE)(w:dY)(hT:jf w)(h:rI w B X s v ps)(hb:Bd s 100)(hn:ps.length<=50)
 (ho:jc w a n os) (kh:kI a cap) (Ap:n<=1000) (m1:0<=s.nm) (m2:s.nm<=255) (Y:Int) (V:List jE) (hj:l9 s.nm os=(Y,V)) (ev:Int) (vZ:Y=2/\ev=6/\(jh s.st 6).2.2≠0 \/Y≠2/\ev=7):
 eW eX 211 #[π (μ ⟨B,0,ν⟩),.agg #[ι κ 1,ι κ id,σ a n cap]] w λe w'=>e=ρ (jm (sW s ev (Y,id,V)).2.2)/\nE w w' B X (sW s ev (Y,id,V)).1 v ps (sW s ev (Y,id,V)).2.1:=by
 have H:=gW w (γ #[ι κ 1,ι κ id,σ a n cap] 37);have hA:=λj=>ar w #[ι κ 1,ι κ id,σ a n cap] 37 (0,0) j;have hl:=h.lk.lt;have XW:=h.row.lt;have T:=h.below H;have hz:∀w:dY,(zeroValue 37).run eX w=.ok (.agg #[ι κ 0,ι κ 0,σ ν 0 0]) w:=λw=>gq;have XY:=ho.1;obtain⟨U,G⟩:=gg (w.alloc (γ #[ι κ 1,ι κ id,σ a n cap] 37));obtain⟨Z,hZ⟩:=gg (w.heap.size);have d1:U.cell? ⟨Z,1,ν⟩=μ (ι κ id):=by rw[<-G,<-hZ];exact hA 1
 have d2:U.cell? ⟨Z,2,ν⟩=μ (σ a n cap):=by rw[<-G,<-hZ];exact hA 2
 rw[G]at T H;have HW:Hid _:=G;have HZ:Hid _:=hZ;clear hA G hZ hl;have c2:U.cell? ⟨B,2,ν⟩=μ (ι κ s.ns):=T.lk.cell 2;have c3:U.cell? ⟨B,3,ν⟩=μ (ι κ s.nm):=T.lk.cell 3;have XV:=T.lk.lt;have JX:Z<U.heap.size:=ag U _ d1;have Qb:=T.old;have vj:=T.self;have hJ:=GH s.ns s.nm a n cap os U.drew m1 m2 eh kh (ho.below (jD H));have yn:=Na s.nm os;rw[hj]at hJ yn;simp only at hJ yn;have hlj:V.length<=1000:=eh;clear yn hj;obtain⟨E,y⟩:=gg (jm (sW s ev (Y,id,V)).2.2);obtain⟨S',J⟩:∃S',(sW s ev (Y,id,V)).1=S':=⟨_,rfl⟩
 obtain⟨O',M⟩:∃O',(sW s ev (Y,id,V)).2.1=O':=⟨_,rfl⟩
 rw[y,J,M];have ajM:Y=2/\ev=6/\(∃f:Nat,E=.iface 128 (ι κ (f:Int))) \/Y≠2/\ev=7:=by
  rcases vZ with⟨rfl,rfl,hf⟩|h7
  ·refine .inl ⟨rfl,rfl,(jh s.st 6).2.2,?_⟩;rw[<-y,wa _ hf];simp only[jm];rw[af hf]
  ·exact .inr h7
 have HE:Hid _:=fV y (fV J M);clear vZ y J M
 go_in
 go_wp2_with(fail);rw[HW.out,HZ.out]
 go_region_with(go_at_call 228;refine hJ.mono ?_;rintro e D ⟨u,rfl,hM⟩)
 all_goals
  obtain⟨a',n',jr,rfl,hP⟩:=I2 (X:=X) (v:=v) Y id hM hlj Qb (λk hk3=>Nat.lt_of_lt_of_le (XW k hk3) H.size);have y8:eE U D:=gk (jD (av _ _)) hM.below;have R2:=T.below y8;have d1':D.cell? ⟨Z,1,ν⟩=μ (ι κ id):=(y8.cell (p:=⟨Z,1,ν⟩) JX).trans d1;have I3:Z<D.heap.size:=ag D _ d1';have QF:=gW D (γ #[ι κ Y,ι κ id,σ a' n' jr] 37);have Xf:=gk H (gk y8 QF);have R3:=R2.below QF;have P3:=hP.kept vj (Kept.iT B v.ownBlock QF) (λ_ e=>.inl e);have A:=uj B X s v ps ⟨Y,id,a',n',jr,V⟩ ev _ (hT.below Xf) R3 hb P3 hn;have De:PV.abs ⟨Y,id,a',n',jr,V⟩=(Y,id,V):=rfl;rw[De,HE.out.1,HE.out.2.1,HE.out.2.2]at A;clear De HE;clear hM hP R2 y8 c2 c3 d1 d2 T hJ R3 P3;rcases ajM with⟨rfl,rfl,f,rfl⟩|⟨hc,rfl⟩
  ·go_wp2_with(fail);refine A.mono ?_;rintro e w4 ⟨rfl,hW⟩;clear A
   go_wp2
   go_ret;exact⟨rfl,hW.from (Kept.iT B v.ownBlock Xf)⟩
  ·have uM:(Y !=2)=true:=by simpa using hc
   clear hc;go_wp2_with(fail);refine A.mono ?_;rintro e w4 ⟨rfl,hW⟩;clear A
   go_wp2
   go_ret;exact⟨rfl,hW.from (Kept.iT B v.ownBlock Xf)⟩
theorem KI(B:Nat)(X:Nat->Prop)(s:LS)(v:dZ)(ps:List PV)(id:Int)(a:Option dX)(n cap:Nat)(os:List jE)(w:dY)(V:jf w)(h:rI w B X s v ps)(hb:Bd s 100)(U:ps.length<=50)
 (M:jc w a n os) (H:∀k,uH a n=μ k->¬X k/\v.ownBlock≠μ k/\k<w.heap.size) (T:kI a cap) (Y:n<=1000) (m1:0<=s.nm) (m2:s.nm<=255):
 eW eX 211 #[π (μ ⟨B,0,ν⟩),.agg #[ι κ 1,ι κ id,σ a n cap]] w λe w'=>e=ρ (jm (uk s id os).2.2)/\nE w w' B X (uk s id os).1 v ps (uk s id os).2.1:=by
 by_cases Z:(l9 s.nm os).1=2
 ·have J:=M9 Z;by_cases hf:(jh s.st 6).2.2=0
  ·have e:uk s id os=((nW s 6).sized os,pL s 6 (2,id,os),0):=by
    unfold uk;rw[ai Z,tO _ hf,ai rfl]
   rw[e];exact KF B X s v ps id a n cap os w V h hb U M H T Y m1 m2 J hf
  ·have e:uk s id os=sW s 6 (2,id,os):=by
    unfold uk;rw[ai Z,wa _ hf,af hf]
   rw[e];exact D9 B X s v ps id a n cap os w V h hb U M T Y m1 m2 2 os J 6 (.inl ⟨rfl,rfl,hf⟩)
 ·have e:uk s id os=sW s 7 ((l9 s.nm os).1,id,(l9 s.nm os).2):=by
   unfold uk;rw[af Z]
  rw[e];exact D9 B X s v ps id a n cap os w V h hb U M T Y m1 m2 _ _ rfl 7 (.inr ⟨Z,rfl⟩)
structure ae4(w:dY)(B:Nat)(v ak:dZ)(os:List jE):Prop where
 ex:∃(a:Option dX) (n cap:Nat),ak=σ a n cap/\jc w a n os/\kI a cap/\n<=cap/\n<=1000
 far:∀k,ak.ownBlock=μ k->k≠B/\v.ownBlock≠μ k/\k<w.heap.size
section
variable {P:Program}
end
section
variable {P:Program} {md:Region.Mode} {ops:Array Oper} {Q:Exit->Act->World->Prop} {S:World->Prop}
theorem jn(i:Nat)(d:Option Tmp) {oi:Oper} {fuel:Nat} {listed:Array Bool} {a:Act} (hi:ops[i]? =μ oi)(hd:oi.dst=d)
 (hs:Region.noSelect ops=true) (hf:Region.free md ops listed i=true) (U:(Region.ready md ops listed).contains i=true)
 (V:∀c a w,Q (.panic c) (a.put d v) w->Q (.panic c) a w) (Z:Region.wanted oi (yielded ops a.tmps)=true) (hy:∀w,S w->(execOp a.eval oi).run P w=.ok (.value v) w) (Y:S w)
 (h:wpAnyH P md ops Q S fuel (listed.setIfInBounds i true) (a.put d v) w):wpAnyH P md ops Q S (fuel+1) listed a w:=by
 subst hd;exact wpAnyH_take hi hs hf U V (Or.inl ⟨Z,hy⟩) Y h
end
theorem um {t:TypeId} (h:iX w B C t)(Z:(w.alloc o).drew.grownBy x v.ownBlock)(hv:v.ownBlock≠μ B):iX x B C t:=by
 refine h.keep ?_;rw[Z.block B (by show B<(w.alloc o).heap.size;have:=h.lt;simp;omega) (λe=>hv e.symm)];exact aU w o B h.lt
theorem O7:∀(ps:List PV) (j:Nat) (p:PV),ps[j]? =μ p->(QC ps)[j*3]? =μ (ι κ p.code)/\(QC ps)[j*3+1]? =μ (ι κ p.id)/\(QC ps)[j*3+2]? =μ p.val
 |[],j,p,h=>by simp at h
 |q::r,0,p,h=>by
  have:q=p:=by simpa using h
  subst this;exact⟨rfl,rfl,rfl⟩
 |q::r,j+1,p,h=>by
  have Z:r[j]? =μ p:=by simpa using h
  obtain⟨a,b,c⟩:=O7 r j p Z;have e:QC (q::r)=ι κ q.code::ι κ q.id::q.val::QC r:=rfl;rw[e,show(j+1)*3=j*3+1+1+1 by omega,show j*3+1+1+1+1=(j*3+1)+1+1+1 by omega,show j*3+1+1+1+2=(j*3+2)+1+1+1 by omega];simp only[List.getElem?_cons_succ];exact⟨a,b,c⟩
structure abD(w:dY)(v:dZ)(ps:List PV):Prop where
 row:Row w 3 v ps.length (QC ps)
 opt:∀p∈ps,jc w p.a p.n p.os/\p.n<=1000
theorem abD.shape {ps:List PV} (h:abD w v ps):∃(a:Option dX) (c:Nat),v=σ a ps.length c/\∀j p,ps[j]? =μ p->∃g,a=μ ⟨g,0,ν⟩/\w.cell? ⟨g,0+j*3,ν⟩=μ (ι κ p.code)/\w.cell? ⟨g,0+j*3+1,ν⟩=μ (ι κ p.id)/\w.cell? ⟨g,0+j*3+2,ν⟩=μ (σ p.a p.n p.cap):=by
 rcases h.row.2 with⟨Z,V⟩|⟨g,c,Z,hg,tX,FY,hcell,_⟩
 ·refine⟨ν,0,by rw[V,Z],λj p Y=> ?_⟩;have:=(aL.1 Y).1;omega
 ·refine⟨_,c,Z,λj p Y=>⟨g,rfl,?_⟩⟩;obtain⟨a,b,d⟩:=O7 ps j p Y;rw[Nat.zero_add];exact⟨hcell _ _ a,hcell _ _ b,hcell _ _ d⟩
theorem QG(B:Nat)(l code id:Int)(a:Option dX)(n cap:Nat)(w:dY)(h1:(l==105)=false)(h2:(l==122)=false)(h3:(l==114)=false)(h4:(l==116)=false)(h5:(l==97)=false)(h6:(l==110)=false)(h7:(l==107)=false):
 eW eX 208 #[π (μ ⟨B,0,ν⟩),.int .u8 l,.agg #[ι κ code,ι κ id,σ a n cap]] w λe w'=>e=ρ (τ #[])/\eE w w':=by
 have hb:=gW w (γ #[ι κ code,ι κ id,σ a n cap] 37)
 go_in
 go_wp2
 first|go_end0|refine iJ rfl rfl ?_
 exact⟨rfl,hb⟩
theorem Nb(B:Nat)(fs fm ns nm qs qm sz lf wt ow code id:Int)(v:dZ)(a:Option dX)(n cap:Nat)(w:dY)(hT:jf w)(h:Lk w B (Tx fs fm ns nm qs qm 0 sz lf wt ow v)):
 eW eX 171 #[π (μ ⟨B,0,ν⟩),ι κ 2,.agg #[ι κ code,ι κ id,σ a n cap]] w λe w'=>e=ρ η/\Lk w' B (Tx fs fm fs fm qs qm 1 255 lf wt ow v)/\w.grownBy w' (μ B):=by
 have G:=gW w (γ #[ι κ code,ι κ id,σ a n cap] 37);have hA:=λj=>ar w #[ι κ code,ι κ id,σ a n cap] 37 (0,0) j;have h0:=h.below G;have S6:=hT.below G;have E:=IB 0 2 [115] 1 0 (by decide+kernel) _ S6;have u:jm 0=η:=rfl;rw[u]at E;have hl:=h.lt;have D:w.cell? ⟨B,6,ν⟩=μ (ι κ 0):=h.cell 6
 go_in
 go_wp2_with(fail);refine E.mono ?_;rintro e w1 ⟨rfl,m1,rfl⟩;obtain⟨Y,M⟩:=gg ((w.alloc (γ #[ι κ code,ι κ id,σ a n cap] 37)).drewN m1);obtain⟨Z,H⟩:=gg (w.heap.size);have d0:Y.cell? ⟨Z,0,ν⟩=μ (ι κ code):=by rw[<-M,<-H];exact hA 0
 have d1:Y.cell? ⟨Z,1,ν⟩=μ (ι κ id):=by rw[<-M,<-H];exact hA 1
 have d2:Y.cell? ⟨Z,2,ν⟩=μ (σ a n cap):=by rw[<-M,<-H];exact hA 2
 have U:Lk Y B (Tx fs fm ns nm qs qm 0 sz lf wt ow v):=by rw[<-M];exact h0
 have A:w.grownBy Y (μ B):=by rw[<-M];exact su B (below_drewN G m1)
 rw[M,H];have V:B≠Z:=eh;clear E M H hA h0 S6 G h D hl u hT;have XV:=U.lt;have c0:Y.cell? ⟨B,0,ν⟩=μ (ι κ fs):=U.cell 0;have c1:Y.cell? ⟨B,1,ν⟩=μ (ι κ fm):=U.cell 1;have c2:Y.cell? ⟨B,2,ν⟩=μ (ι κ ns):=U.cell 2;have c3:Y.cell? ⟨B,3,ν⟩=μ (ι κ nm):=U.cell 3;have D:Y.cell? ⟨B,6,ν⟩=μ (ι κ 0):=U.cell 6;have c7:Y.cell? ⟨B,7,ν⟩=μ (ι κ sz):=U.cell 7;have fz:∀j,Y.frozen? ⟨B,j,ν⟩=false:=U.frozen;have H2:Hid (Lk ((((Y.setCell ⟨B,6,ν⟩ (ι κ 1)).setCell ⟨B,2,ν⟩ (ι κ fs)).setCell ⟨B,3,ν⟩ (ι κ fm)).setCell ⟨B,7,ν⟩ (ι κ 255)) B (Tx fs fm fs fm qs qm 1 255 lf wt ow v)):=((((U.set 6 _).set 2 _).set 3 _).set 7 _)
 have G2:Hid (w.grownBy ((((Y.setCell ⟨B,6,ν⟩ (ι κ 1)).setCell ⟨B,2,ν⟩ (ι κ fs)).setCell ⟨B,3,ν⟩ (ι κ fm)).setCell ⟨B,7,ν⟩ (ι κ 255)) (μ B)):=(pw (pw (pw (pw A 6 _) 2 _) 3 _) 7 _)
 have D0:Hid (((((Y.setCell ⟨B,6,ν⟩ (ι κ 1)).setCell ⟨B,2,ν⟩ (ι κ fs)).setCell ⟨B,3,ν⟩ (ι κ fm)).setCell ⟨B,7,ν⟩ (ι κ 255)).cell? ⟨Z,0,ν⟩=μ (ι κ code)):=by show _=_;rw[aN _ _ _ _ V,aN _ _ _ _ V,aN _ _ _ _ V,aN _ _ _ _ V];exact d0
 have y:Hid (((((Y.setCell ⟨B,6,ν⟩ (ι κ 1)).setCell ⟨B,2,ν⟩ (ι κ fs)).setCell ⟨B,3,ν⟩ (ι κ fm)).setCell ⟨B,7,ν⟩ (ι κ 255)).cell? ⟨Z,1,ν⟩=μ (ι κ id)):=by show _=_;rw[aN _ _ _ _ V,aN _ _ _ _ V,aN _ _ _ _ V,aN _ _ _ _ V];exact d1
 have D2:Hid (((((Y.setCell ⟨B,6,ν⟩ (ι κ 1)).setCell ⟨B,2,ν⟩ (ι κ fs)).setCell ⟨B,3,ν⟩ (ι κ fm)).setCell ⟨B,7,ν⟩ (ι κ 255)).cell? ⟨Z,2,ν⟩=μ (σ a n cap)):=by show _=_;rw[aN _ _ _ _ V,aN _ _ _ _ V,aN _ _ _ _ V,aN _ _ _ _ V];exact d2
 go_wp2_with(fail);obtain⟨J,T⟩:=gg ((((Y.setCell ⟨B,6,ν⟩ (ι κ 1)).setCell ⟨B,2,ν⟩ (ι κ fs)).setCell ⟨B,3,ν⟩ (ι κ fm)).setCell ⟨B,7,ν⟩ (ι κ 255));have h2:Lk J B (Tx fs fm fs fm qs qm 1 255 lf wt ow v):=by rw[<-T];exact H2.out
 have BF:w.grownBy J (μ B):=by rw[<-T];exact G2.out
 have d0:J.cell? ⟨Z,0,ν⟩=μ (ι κ code):=by rw[<-T];exact D0.out
 have d1:J.cell? ⟨Z,1,ν⟩=μ (ι κ id):=by rw[<-T];exact y.out
 have d2:J.cell? ⟨Z,2,ν⟩=μ (σ a n cap):=by rw[<-T];exact D2.out
 rw[T];clear H2 G2 D0 y D2 T fz XV D U A c0 c1 c2 c3 c7;have JX:Z<J.heap.size:=ag J _ d0;refine cg 2 ?_;rw[bT]
 go_wp2
 go_region_with(go_at_call 208;refine(QG B 115 code id a n cap _ eA eA eA eA eA eA eA).mono ?_;rintro e V0 ⟨rfl,k0⟩)
 all_goals
  have L0:=(h2.drew).below k0;have g0:=BH BF (BH (su B (jD (av _ _))) (su B k0));go_wp2_with(fail);rw[bT]
  go_wp2
  go_ret;exact⟨rfl,L0,g0⟩
theorem Un(B:Nat)(fs fm ns nm qs qm sz lf wt ow:Int)(v:dZ)(w:dY)(Z:jf w)(h:Lk w B (Tx fs fm ns nm qs qm 0 sz lf wt ow v)):
 eW eX 120 #[π (μ ⟨B,0,ν⟩),ι κ 2] w λe w'=>e=ρ η/\Lk w' B (Tx fs fm fs fm qs qm 1 255 lf wt ow v)/\w.grownBy w' (μ B):=by
 have hz:=sG;have hc:=Nb B fs fm ns nm qs qm sz lf wt ow 0 0 v ν 0 0 w Z h;clear h Z
 go_in
 go_wp2_with(fail);refine hc.mono ?_;rintro e w1 ⟨rfl,V,Y⟩
 go_wp2
 go_ret;exact⟨rfl,V,Y⟩
