import Derived.Test.YtieklnlbljejdaaGreatDoorQ04
open Go.Value renaming int → ι, slice → σ, pointer → π, tuple → τ, nilIface → η
open Go.IntKind renaming i64 → κ
open Go.Ending renaming returned → ρ
open Go.Obj renaming cells → γ
open Option renaming none → ν, some → μ
open Go renaming Addr → dQ, Value → dT, World → dR, Calls → eT
open Go.Proofs.Tryz renaming prog → eU
open Go.Value renaming ownBlock → dV
open Go.RowKit renaming intOf → eV
open And renaming intro → fQ
set_option maxRecDepth 100000
set_option maxHeartbeats 8000000
namespace Go.Proofs.YtieklnlbljejdaaGreatDoor
open Go.RowKit
variable {B:Nat} {C:Array Value} {X:Nat->Prop} {ev:Int} {o:Obj} {v:Value} {w w' x:World}
structure PV where
 code:Int
 id:Int
 a:Option dQ
 n:Nat
 cap:Nat
 os:List jG
def PV.val(p:PV):dT:=σ p.a p.n p.cap
def PV.cells(p:PV):List dT:=[ι κ p.code,ι κ p.id,p.val]
def O1(ps:List PV):List dT:=ps.flatMap PV.cells
theorem SK(ps:List PV)(p:PV):O1 (ps++ [p])=O1 ps++ [ι κ p.code,ι κ p.id,p.val] :=by simp[O1,PV.cells]
structure uP(w:dR)(X:Nat->Prop)(v:dT)(p:PV):Prop where
 opt:iU w p.a p.n p.os
 nil:kt p.a p.cap
 le:p.n<=p.cap
 few:p.n<=1000
 far:∀k,tZ p.a p.n=μ k->¬X k/\v.ownBlock≠μ k/\k<w.heap.size
structure LS where
 fs:Int
 fm:Int
 ns:Int
 nm:Int
 qs:Int
 qm:Int
 st:Int
 sz:Int
 lf:Int
 wt:Int
 ow:Int
def LS.c(s:LS)(v:dT):Array dT:=Ru s.fs s.fm s.ns s.nm s.qs s.qm s.st s.sz s.lf s.wt s.ow v
structure qF(w:dR)(B:Nat)(X:Nat->Prop)(s:LS)(v:dT)(ps:List PV):Prop where
 lk:Lk w B (s.c v)
 row:Row w 3 v ps.length (O1 ps)
 own:∀g,v.ownBlock=μ g->¬X g
 self:X B
 old:∀k,X k->k<w.heap.size
 pk:∀p∈ps,uP w X v p
structure Kept(w w':dR)(B:Nat)(o:Option Nat):Prop where
 os:w'.os=w.os
 tape:w'.tape=w.tape
 output:w'.output=w.output
 size:w.heap.size<=w'.heap.size
 block:∀i,i<w.heap.size->i≠B->o≠μ i->w'.heap[i]? =w.heap[i]?
theorem Kept.refl(w:dR)(B:Nat)(o:Option Nat):Kept w w B o:=⟨rfl,rfl,rfl,Nat.le_refl _,λ_ _ _ _=>rfl⟩
theorem Kept.iJ(B:Nat)(o:Option Nat)(h:eh w w'):Kept w w' B o:=⟨h.os,h.tape,h.output,h.size,λi hi _ _=>h.block i hi⟩
theorem Kept.trans {a b c:dR} {B:Nat} {o o':Option Nat} (h:Kept a b B o)(k:Kept b c B o')(Z:∀i,o'=μ i->o=μ i \/a.heap.size<=i):Kept a c B o:=
 ⟨k.os.trans h.os,k.tape.trans h.tape,k.output.trans h.output,Nat.le_trans h.size k.size,λi hi U V=>by
  rw[k.block i (Nat.lt_of_lt_of_le hi h.size) U (λe=>by
   rcases Z i e with Y|Y
   ·exact V Y
   ·omega)]
  exact h.block i hi U V⟩
theorem uP.kept {v':dT} {p:PV} (h:uP w X v p)(M:X B)(k:Kept w w' B v.ownBlock)(hv:∀g,v'.ownBlock=μ g->v.ownBlock=μ g \/w.heap.size<=g):uP w' X v' p:=
 ⟨h.opt.M9 (λj V=>by obtain⟨Z,U,Y⟩:=h.far j V;exact k.block j Y (λe=>Z (by rw[e];exact M)) U),h.nil,h.le,h.few,λj V=>by
  obtain⟨Z,U,Y⟩:=h.far j V;refine⟨Z,λe=> ?_,Nat.lt_of_lt_of_le Y k.size⟩;rcases hv j e with T|T
  ·exact U T
  ·omega⟩
theorem qF.below {w w':dR} {B:Nat} {X:Nat->Prop} {s:LS} {v:dT} {ps:List PV} (h:qF w B X s v ps)(hb:eh w w'):qF w' B X s v ps:=
 ⟨h.lk.below hb,h.row.below hb,h.own,h.self,λk Y=>Nat.lt_of_lt_of_le (h.old k Y) hb.size,λp Z=>(h.pk p Z).kept h.self (Kept.iJ B _ hb) (λ_ e=>.inl e)⟩
theorem qF.ne {s:LS} {ps:List PV} (h:qF w B X s v ps):v.ownBlock≠μ B:=λe=>h.own B e h.self
theorem VX(h:Lk w B C)(Z:(w.alloc o).drew.grownBy x v.ownBlock)(hv:v.ownBlock≠μ B):Lk x B C:=by
 refine h.keep ?_;rw[Z.block B (by show B<(w.alloc o).heap.size;have:=h.lt;simp;omega) (λe=>hv e.symm)];exact aT w o B h.lt
theorem O2(Z:(w.alloc o).drew.grownBy x v.ownBlock):Kept w x B v.ownBlock:=
 ⟨Z.os,Z.tape,Z.output,Nat.le_trans (by show w.heap.size<=(w.alloc o).heap.size;simp) Z.size,λi hi _ Y=>by
  rw[Z.block i (by show i<(w.alloc o).heap.size;simp;omega) (λe=>Y e.symm)];exact aT w o i hi⟩
theorem ku {o:Option Nat} (h:Kept w x B o)(j:Nat)(v:dT):Kept w (x.setCell ⟨B,j,ν⟩ v) B o:=by
 have b1:Below 0 x (x.setCell ⟨B,j,ν⟩ v):=(au 0 x).setCell (Nat.zero_le _) _;exact⟨b1.os.trans h.os,b1.tape.trans h.tape,b1.output.trans h.output,Nat.le_trans h.size b1.size,λi hi Z Y=>(aq _ _ _ i Z).trans (h.block i hi Z Y)⟩
theorem Hf(B:Nat)(X:Nat->Prop)(s:LS)(v:dT)(ps:List PV)(p:PV)(w:dR)(h:qF w B X s v ps)(hp:uP w X v p)(hn:ps.length<=100):
 eT eU 225 #[π (μ ⟨B,0,ν⟩),.agg #[ι κ p.code,ι κ p.id,σ p.a p.n p.cap]] w λe w'=>e=ρ (τ #[])/\∃v',qF w' B X s v' (ps++ [p])/\Kept w w' B v.ownBlock/\(∀g,v'.ownBlock=μ g->v.ownBlock=μ g \/w.heap.size<=g):=by
 obtain⟨i0,hi,od,mK,mL⟩:=aY Rs;have D:=gN w (γ #[ι κ p.code,ι κ p.id,σ p.a p.n p.cap] 37);have A:=h.below D;have hA:=λj=>aj w #[ι κ p.code,ι κ p.id,σ p.a p.n p.cap] 37 (0,0) j;obtain⟨C,hC⟩:=fW (s.c);have u:∀x,(C x)[11]? =μ x:=by rw[<-hC];intro x;rfl
 have hcs:∀x y,(C x).setIfInBounds 11 y=C y:=by rw[<-hC];intro x y;rfl
 have M:=A.lk;rw[hC]at M;have iQ:=A.row;obtain⟨nn,BO⟩:=fW (ps.length);rw[BO]at iQ hn
 go_in
 go_wp2_with(fail);obtain⟨Z,T⟩:=fW (w.heap.size);obtain⟨W0,U⟩:=fW (w.alloc (γ #[ι κ p.code,ι κ p.id,σ p.a p.n p.cap] 37));have d0:W0.cell? ⟨Z,0,ν⟩=μ (ι κ p.code):=by rw[<-U,<-T];exact hA 0
 have d1:W0.cell? ⟨Z,1,ν⟩=μ (ι κ p.id):=by rw[<-U,<-T];exact hA 1
 have d2:W0.cell? ⟨Z,2,ν⟩=μ (σ p.a p.n p.cap):=by rw[<-U,<-T];exact hA 2
 rw[U]at A D M iQ;rw[U,T];have VY:B<W0.heap.size:=M.lt;have IA:Z<W0.heap.size:=af W0 _ d0;have VM:W0.cell? ⟨B,11,ν⟩=μ v:=(M.cell 11).trans (u v);have HB:Hid _:=D;have V:Hid _:=h;have HP:Hid _:=hp;have HO:Hid (v.ownBlock≠μ B):=h.ne;have HZ:Hid _:=T;have HC:Hid _:=hC;have HN:Hid _:=BO;have HL:Hid _:=hcs;have HK:Hid _:=u;clear hA U T h D hp A hC BO hcs u
 go_region_law ((refine lv (by rfl) (.tmp 8) (.tmp 10) 175 (by rfl) 37 i0 (.agg #[ι κ 0,ι κ 0,σ ν 0 0]) 3 40 Tryz.underlying175 hi od mK mL (by rfl) dX v nn (O1 ps) (by rfl) ((iQ.alloc _).drew) _ 1 1 [ι κ p.code,ι κ p.id,σ p.a p.n p.cap] (by rfl) (by rfl) dX (yx _ _ _ _ _ _ rfl) (Rv _ _ _ _ _) (by unfold maxLen;omega) dU ?_;intro Y G x1 kQ ke jv;have LL:=VX M ke HO.out;have f11:=LL.frozen 11;have g11:x1.cell? ⟨B,11,ν⟩=μ v:=(LL.cell 11).trans (HK.out v)))
 all_goals
  go_wp2
  first|go_end0|refine iC rfl rfl ?_
  have hgs:Y≠B:=by
   rcases jv with hh|hh
   ·exact λe=>HO.out (by rw[hh,e])
   ·have:=M.lt;have h2:W0.heap.size<=Y:=Nat.le_trans (by show W0.heap.size<=(W0.alloc _).heap.size;simp) hh;omega
  have H:=ku ((Kept.iJ B v.ownBlock HB.out).trans (O2 (B:=B) ke) (λi e=>.inl e)) 11 (σ (μ ⟨Y,0,ν⟩) (nn+1) G);have hv:∀g,dV (σ (μ ⟨Y,0,ν⟩) (nn+1) G)=μ g->v.ownBlock=μ g \/w.heap.size<=g:=by
   intro g hg;have SF:Y=g:=by simpa[dV]using hg
   subst SF;rcases jv with hh|hh
   ·exact .inl hh
   ·right;have h2:W0.heap.size<=Y:=Nat.le_trans (by show W0.heap.size<=(W0.alloc _).heap.size;simp) hh;have:=HB.out.size;omega
  refine⟨rfl,σ (μ ⟨Y,0,ν⟩) (nn+1) G,⟨?_,?_,?_,V.out.self,λk hk=>Nat.lt_of_lt_of_le (V.out.old k hk) H.size,?_⟩,H,hv⟩
  ·have:=LL.set 11 (σ (μ ⟨Y,0,ν⟩) (nn+1) G);rw[HL.out]at this;rw[HC.out];exact this
  ·rw[SK,az,HN.out];refine kQ.keep gO (λk hk=> ?_);have yv:Y=k:=by simpa[dV]using hk
   exact aq _ _ _ k (by show k≠B;omega)
  ·intro g hg hx;rcases hv g hg with e|e
   ·exact V.out.own g e hx
   ·have:=V.out.old g hx;omega
  ·intro q J;rcases av.1 J with J|J
   ·exact(V.out.pk q J).kept V.out.self H hv
   ·have:q=p:=by simpa using J
    subst this;exact HP.out.kept V.out.self H hv
abbrev kG:=Int×Int×List jG
def PV.abs(p:PV):kG:=(p.code,p.id,p.os)
def LS.asked(s:LS):LS:={s with lf:=s.lf-1,wt:=3,ow:=(s.ow+1) %256}
def pB(c:UInt8)(s:LS):LS:=
 if c=105 then {s with lf:=4}else if c=122 then {s with lf:=0,wt:=3}else if c=114 then({s with qs:=s.ns,qm:=s.nm}:LS).asked else if c=116 then s.asked else s
def ET(c:UInt8)(s:LS)(yG:kG):List kG:=
 if c=114 then [(1,(s.ow+1) %256,nL s.ns s.nm)]else if c=116 then [(5,(s.ow+1) %256,[])]else if c=97 \/c=110 then [yG]else if c=107 then [(6,yG.2.1,[])]else []
def qb:List UInt8->LS->LS
 |[],s=>s
 |c::r,s=>qb r (pB c s)
def xJ:List UInt8->LS->kG->List kG
 |[],_,_=>[]
 |c::r,s,yG=>ET c s yG++xJ r (pB c s) yG
structure Bd(s:LS)(n:Int):Prop where
 o1:0<=s.ow
 o2:s.ow<=255
 l1: -n<=s.lf
 l2:s.lf<=n
theorem Bd.act {s:LS} {n:Int} (h:Bd s n)(hn:4<=n)(c:UInt8):Bd (pB c s) (n+1):=by
 obtain⟨a,b,d,e⟩:=h;unfold pB;split
 ·exact⟨a,b,by simp;omega,by simp;omega⟩
 ·split
  ·exact⟨a,b,by simp;omega,by simp;omega⟩
  ·split
   ·exact⟨by simp[LS.asked];omega,by simp[LS.asked];omega,by simp[LS.asked];omega,by simp[LS.asked];omega⟩
   ·split
    ·exact⟨by simp[LS.asked];omega,by simp[LS.asked];omega,by simp[LS.asked];omega,by simp[LS.asked];omega⟩
    ·exact⟨a,b,dU,dU⟩
structure mW(w w':dR)(B:Nat)(X:Nat->Prop)(s':LS)(v:dT)(ps:List PV)(out:List kG):Prop where
 more:∃v' qs,qF w' B X s' v' (ps++qs)/\qs.map PV.abs=out/\(∀g,v'.ownBlock=μ g->v.ownBlock=μ g \/w.heap.size<=g)
 kept:Kept w w' B v.ownBlock
theorem qF.kX {s:LS} {ps:List PV} (h:qF w B X s v ps)(j:Nat)(x:dT)(s':LS)(hs:(s.c v).setIfInBounds j x=s'.c v):qF (w.setCell ⟨B,j,ν⟩ x) B X s' v ps:=by
 have Z:Kept w (w.setCell ⟨B,j,ν⟩ x) B v.ownBlock:=ku (Kept.refl w B _) j x;refine⟨?_,h.row.keep Z.size (λk U=> ?_),h.own,h.self,λk V=>Nat.lt_of_lt_of_le (h.old k V) Z.size,λp Y=>(h.pk p Y).kept h.self Z (λ_ e=>.inl e)⟩
 ·have:=h.lk.set j x;rw[hs]at this;exact this
 ·exact aq _ _ _ k (λe=>h.ne (by rw[U];exact congrArg μ e))
theorem Nz(B:Nat)(X:Nat->Prop)(s:LS)(v:dT)(ps:List PV)(code:Int)(a:Option dQ)(n cap:Nat)(os:List jG)(w:dR)(h:qF w B X s v ps)(hb:Bd s 1000)(Z:uP w X v ⟨code,(s.ow+1) %256,a,n,cap,os⟩)(H:ps.length<=100):
 eT eU 223 #[π (μ ⟨B,0,ν⟩),ι κ code,σ a n cap] w λe w'=>e=ρ (τ #[])/\mW w w' B X s.asked v ps [(code,(s.ow+1) %256,os)] :=by
 obtain⟨fs,fm,ns,nm,qs,qm,st,sz,lf,wt,ow⟩:=s;obtain⟨o1,o2,l1,l2⟩:=hb;simp only at o1 o2 l1 l2 Z;have c8:w.cell? ⟨B,8,ν⟩=μ (ι κ lf):=h.lk.cell 8;have c9:w.cell? ⟨B,9,ν⟩=μ (ι κ wt):=h.lk.cell 9;have Sc:w.cell? ⟨B,10,ν⟩=μ (ι κ ow):=h.lk.cell 10;have fz:∀j,w.frozen? ⟨B,j,ν⟩=false:=h.lk.frozen;have hl:=h.lk.lt;have V:qF (((w.setCell ⟨B,10,ν⟩ (ι κ ((ow+1) %256))).setCell ⟨B,8,ν⟩ (ι κ (lf-1))).setCell ⟨B,9,ν⟩ (ι κ 3)) B X ⟨fs,fm,ns,nm,qs,qm,st,sz,lf-1,3,(ow+1) %256⟩ v ps:=
  ((h.kX 10 _ ⟨fs,fm,ns,nm,qs,qm,st,sz,lf,wt,(ow+1) %256⟩ rfl).kX 8 _ ⟨fs,fm,ns,nm,qs,qm,st,sz,lf-1,wt,(ow+1) %256⟩ rfl).kX 9 _ _ rfl
 have Y:Kept w (((w.setCell ⟨B,10,ν⟩ (ι κ ((ow+1) %256))).setCell ⟨B,8,ν⟩ (ι κ (lf-1))).setCell ⟨B,9,ν⟩ (ι κ 3)) B v.ownBlock:=ku (ku (ku (Kept.refl w B _) 10 _) 8 _) 9 _;have U:=Z.kept h.self Y (λ_ e=>.inl e);have T:=Hf B X _ v ps ⟨code,(ow+1) %256,a,n,cap,os⟩ _ V U H;clear h V Z U
 go_in
 go_wp2_with(fail);refine T.mono ?_;rintro e w1 ⟨rfl,v',G,M,hv⟩;clear T
 go_wp2
 first|go_end0|refine iC rfl rfl ?_
 refine⟨rfl,⟨v',[_],G,rfl,λg J=> ?_⟩,Y.trans M (λi e=>.inl e)⟩;rcases hv g J with e|e
 ·exact .inl e
 ·exact .inr (Nat.le_trans Y.size e)
theorem mW.from {s':LS} {ps:List PV} {out:List kG} (h:mW x w' B X s' v ps out)(Z:Kept w x B v.ownBlock):mW w w' B X s' v ps out:=by
 obtain⟨⟨v',qs,T,V,hv⟩,Y⟩:=h;refine⟨⟨v',qs,T,V,λg U=> ?_⟩,Z.trans Y (λi e=>.inl e)⟩;rcases hv g U with e|e
 ·exact .inl e
 ·exact .inr (Nat.le_trans Z.size e)
theorem mW.still {s':LS} {ps:List PV} (h:qF w' B X s' v ps)(Z:Kept w w' B v.ownBlock):mW w w' B X s' v ps [] :=
 ⟨⟨v,[],by rw[aC];exact h,rfl,λ_ e=>.inl e⟩,Z⟩
theorem qt(w:dR)(X:Nat->Prop)(v:dT)(code id:Int):uP w X v ⟨code,id,ν,0,0,[]⟩:=
 ⟨iU.nil w ν,λ_=>rfl,Nat.le_refl _,Nat.zero_le _,λk Z=>by simp[tZ]at Z⟩
theorem Hg {w0:dR} {u:dT} {l:List jG} (code id:Int)(Z:Made w0 w u l)(hl:l.length<=1000)(U:∀k,X k->k<w0.heap.size)(hv:∀k,v.ownBlock=μ k->k<w0.heap.size):
 ∃a n cap,u=σ a n cap/\uP w X v ⟨code,id,a,n,cap,l⟩:=by
 obtain⟨a,cap,rfl,M,Y⟩:=Z.shape;refine⟨a,l.length,cap,rfl,Z.opts.2,M,Y,hl,λk T=> ?_⟩;have V:dV (σ a l.length cap)=μ k:=CG T;have h1:=Z.new k V;exact⟨λe=>by have:=U k e;omega,λe=>by have:=hv k e;omega,Z.row.lt k V⟩
theorem FF(a b:Int):(nL a b).length<=1000:=by
 unfold nL;split<;>split<;>simp
theorem Ci(c:UInt8)(B:Nat)(X:Nat->Prop)(s:LS)(v:dT)(ps:List PV)(p:PV)(w:dR)(h:qF w B X s v ps)(hb:Bd s 1000)(T:uP w X v p)(hn:ps.length<=100):
 eT eU 208 #[π (μ ⟨B,0,ν⟩),.int .u8 (c.toNat:Int),.agg #[ι κ p.code,ι κ p.id,σ p.a p.n p.cap]] w λe w'=>e=ρ (τ #[])/\mW w w' B X (pB c s) v ps (ET c s p.abs):=by
 have Z:=gN w (γ #[ι κ p.code,ι κ p.id,σ p.a p.n p.cap] 37);have hl:=h.lk.lt;have fz:∀j,w.frozen? ⟨B,j,ν⟩=false:=h.lk.frozen;have nb:∀k:UInt8,c≠k->((c.toNat:Int)==(k.toNat:Int))=false:=λk hk=>by
  rw[cL];intro e;exact hk (UInt8.toNat_inj.mp dU)
 by_cases c1:c=105
 ·subst c1;have G:Hid (qF (w.setCell ⟨B,8,ν⟩ (ι κ 4)) B X {s with lf:=4} v ps):=h.kX 8 _ _ rfl;have k1:Kept w (w.setCell ⟨B,8,ν⟩ (ι κ 4)) B v.ownBlock:=ku (Kept.refl w B _) 8 _;have d8:w.cell? ⟨B,8,ν⟩=μ (ι κ s.lf):=h.lk.cell 8;have V:((105:UInt8).toNat:Int)=105:=rfl;rw[V];clear h T hb nb Z
  go_in
  go_wp2
  first|go_end0|refine iC rfl rfl ?_
  exact⟨rfl,mW.still (G.out.below (gN _ _)) (k1.trans (Kept.iJ B v.ownBlock (gN _ _)) (λi e=>.inl e))⟩
 ·by_cases c2:c=122
  ·subst c2;have G:Hid (qF ((w.setCell ⟨B,8,ν⟩ (ι κ 0)).setCell ⟨B,9,ν⟩ (ι κ 3)) B X {s with lf:=0,wt:=3} v ps):=(h.kX 8 _ {s with lf:=0} rfl).kX 9 _ _ rfl;have k1:Kept w ((w.setCell ⟨B,8,ν⟩ (ι κ 0)).setCell ⟨B,9,ν⟩ (ι κ 3)) B v.ownBlock:=ku (ku (Kept.refl w B _) 8 _) 9 _;have d8:w.cell? ⟨B,8,ν⟩=μ (ι κ s.lf):=h.lk.cell 8;have d9:w.cell? ⟨B,9,ν⟩=μ (ι κ s.wt):=h.lk.cell 9;have V:((122:UInt8).toNat:Int)=122:=rfl;rw[V];clear h T hb nb Z c1
   go_in
   go_wp2
   first|go_end0|refine iC rfl rfl ?_
   exact⟨rfl,mW.still (G.out.below (gN _ _)) (k1.trans (Kept.iJ B v.ownBlock (gN _ _)) (λi e=>.inl e))⟩
  ·by_cases c3:c=114
   ·subst c3;have G:Hid (qF ((w.setCell ⟨B,4,ν⟩ (ι κ s.ns)).setCell ⟨B,5,ν⟩ (ι κ s.nm)) B X {s with qs:=s.ns,qm:=s.nm} v ps):=(h.kX 4 _ {s with qs:=s.ns} rfl).kX 5 _ _ rfl;have k1:Kept w ((w.setCell ⟨B,4,ν⟩ (ι κ s.ns)).setCell ⟨B,5,ν⟩ (ι κ s.nm)) B v.ownBlock:=ku (ku (Kept.refl w B _) 4 _) 5 _;have d2:w.cell? ⟨B,2,ν⟩=μ (ι κ s.ns):=h.lk.cell 2;have d3:w.cell? ⟨B,3,ν⟩=μ (ι κ s.nm):=h.lk.cell 3;have d4:w.cell? ⟨B,4,ν⟩=μ (ι κ s.qs):=h.lk.cell 4;have d5:w.cell? ⟨B,5,ν⟩=μ (ι κ s.qm):=h.lk.cell 5;have V:((114:UInt8).toNat:Int)=114:=rfl;have SL:=h.row.lt;have Oq:=h.old;rw[V];clear h T nb Z c1 c2
    go_in
    go_wp2_with(fail);refine(IU s.ns s.nm _).mono ?_;rintro e w1 ⟨u,rfl,hM⟩;have CW:w.heap.size<=(((w.setCell ⟨B,4,ν⟩ (ι κ s.ns)).setCell ⟨B,5,ν⟩ (ι κ s.nm)).alloc (γ #[ι κ p.code,ι κ p.id,σ p.a p.n p.cap] 37)).heap.size:=gO;obtain⟨a',n',jn,rfl,hP⟩:=Hg (X:=X) (v:=v) 1 ((s.ow+1) %256) hM (FF _ _) (λk hk=>Nat.lt_of_lt_of_le (Oq k hk) CW) (λk hk=>Nat.lt_of_lt_of_le (SL k hk) CW);have R2:=(G.out.below (gN _ _)).below hM.below;have K2:=k1.trans (Kept.iJ B v.ownBlock (fY (gN _ (γ #[ι κ p.code,ι κ p.id,σ p.a p.n p.cap] 37)) hM.below)) (λi e=>.inl e);have Y:=Nz B X {s with qs:=s.ns,qm:=s.nm} v ps 1 a' n' jn (nL s.ns s.nm) w1 R2 ⟨hb.o1,hb.o2,hb.l1,hb.l2⟩ hP hn;clear G d2 d3 d4 d5 fz hM R2 hP CW;go_wp2_with(fail);refine Y.mono ?_;rintro e M ⟨rfl,hW⟩;clear Y
    go_wp2
    first|go_end0|refine iC rfl rfl ?_
    exact⟨rfl,hW.from K2⟩
   ·by_cases c4:c=116
    ·subst c4;have U:=h.below Z;have Y:=Nz B X s v ps 5 ν 0 0 [] _ U hb (qt _ _ _ _ _) hn;have J:=Kept.iJ B v.ownBlock Z;have V:((116:UInt8).toNat:Int)=116:=rfl;rw[V];clear h T nb Z c1 c2 c3 U
     go_in
     go_wp2_with(fail);refine Y.mono ?_;rintro e M ⟨rfl,hW⟩;clear Y
     go_wp2
     first|go_end0|refine iC rfl rfl ?_
     exact⟨rfl,hW.from J⟩
    ·by_cases H:c=107
     ·subst H;have U:=h.below Z;have Y:=Hf B X s v ps ⟨6,p.id,ν,0,0,[]⟩ _ U (qt _ _ _ _ _) hn;have J:=Kept.iJ B v.ownBlock Z;have V:((107:UInt8).toNat:Int)=107:=rfl;have hz:∀w:dR,(zeroValue 37).run eU w=.ok (.agg #[ι κ 0,ι κ 0,σ ν 0 0]) w:=λw=>gL;rw[V];clear h T nb Z c1 c2 c3 c4 U
      go_in
      go_wp2_with(fail);refine Y.mono ?_;rintro e M ⟨rfl,v',y,D,hv⟩;clear Y
      go_wp2
      first|go_end0|refine iC rfl rfl ?_
      exact⟨rfl,(show mW _ M B X s v ps [(6,p.id,[])]from⟨⟨v',[_],y,rfl,hv⟩,D⟩).from J⟩
     ·have U:=h.below Z;have P1:=T.kept h.self (Kept.iJ B v.ownBlock Z) (λ_ e=>.inl e);have Y:=Hf B X s v ps p _ U P1 hn;have J:=Kept.iJ B v.ownBlock Z;by_cases A:c=97
      ·subst A;have V:((97:UInt8).toNat:Int)=97:=rfl;rw[V];clear h T nb Z c1 c2 c3 c4 H U P1
       go_in
       go_wp2_with(fail);refine Y.mono ?_;rintro e M ⟨rfl,v',y,D,hv⟩;clear Y
       go_wp2
       first|go_end0|refine iC rfl rfl ?_
       exact⟨rfl,(show mW _ M B X s v ps [p.abs]from⟨⟨v',[_],y,rfl,hv⟩,D⟩).from J⟩
      ·by_cases c7:c=110
       ·subst c7;have V:((110:UInt8).toNat:Int)=110:=rfl;rw[V];clear h T nb Z c1 c2 c3 c4 H A U P1
        go_in
        go_wp2_with(fail);refine Y.mono ?_;rintro e M ⟨rfl,v',y,D,hv⟩;clear Y
        go_wp2
        first|go_end0|refine iC rfl rfl ?_
        exact⟨rfl,(show mW _ M B X s v ps [p.abs]from⟨⟨v',[_],y,rfl,hv⟩,D⟩).from J⟩
       ·have hS:pB c s=s:=by simp[pB,c1,c2,c3,c4]
        have hO:ET c s p.abs=[] :=by simp[ET,c3,c4,H,A,c7]
        have q1:((c.toNat:Int)==105)=false:=nb 105 c1;have q2:((c.toNat:Int)==122)=false:=nb 122 c2;have q3:((c.toNat:Int)==114)=false:=nb 114 c3;have q4:((c.toNat:Int)==116)=false:=nb 116 c4;have q5:((c.toNat:Int)==107)=false:=nb 107 H;have q6:((c.toNat:Int)==97)=false:=nb 97 A;have q7:((c.toNat:Int)==110)=false:=nb 110 c7;rw[hS,hO];have HR:Hid _:=U;clear h T nb Z c1 c2 c3 c4 H A c7 U P1 Y hS hO
        go_in
        go_wp2
        first|go_end0|refine iC rfl rfl ?_
        exact⟨rfl,mW.still HR.out J⟩
def LS.next(s:LS)(nx:Int):LS:=if nx<=3 then {s with st:=nx,ns:=s.fs,nm:=s.fm,sz:=255}else {s with st:=nx}
theorem Kept.tab {o:Option Nat} (k:Kept w w' B o)(h:iV w)(hB:B≠0)(Y:o≠μ 0):iV w':=λe s Z hs=>
 (ai (a:=⟨0,e*10+s,ν⟩) (k.block 0 h.lt dU Y)).trans (h e s Z hs)
theorem NA(B:Nat)(X:Nat->Prop)(s:LS)(v:dT)(ps:List PV)(p:PV)(ev:Int)(D:List UInt8)(nx:Int)(f:Nat)(w:dR)(V:iV w)(h:qF w B X s v ps)(T:ja s.st ev=(D,nx,f))(hf:f≠0):
 eT eU 171 #[π (μ ⟨B,0,ν⟩),ι κ ev,.agg #[ι κ p.code,ι κ p.id,σ p.a p.n p.cap]] w λe w'=>e=ρ (.iface 128 (ι κ (f:Int)))/\eh w w':=by
 have U:=gN w (γ #[ι κ p.code,ι κ p.id,σ p.a p.n p.cap] 37);have Z:=GM s.st ev D nx f T _ (V.below U);have Y:jb f=.iface 128 (ι κ (f:Int)):=by simp[jb,hf]
 rw[Y]at Z;have hl:=h.lk.lt;have c6:w.cell? ⟨B,6,ν⟩=μ (ι κ s.st):=h.lk.cell 6;clear h V Y
 go_in
 go_wp2_with(fail);refine Z.mono ?_;rintro e w1 ⟨rfl,m1,rfl⟩
 go_wp2
 go_ret;exact⟨rfl,below_drewN U _⟩
structure O3(w wr:dR)(B:Nat)(X:Nat->Prop)(Z:Nat)(v:dT)(ps:List PV)(p:PV)(S:ByteArray)(k:Nat)(sF:LS)(oF:List kG)(sk:LS)(vk:dT)(qs:List PV):Prop where
 rep:qF wr B X sk vk (ps++qs)
 bd:Bd sk (100+k)
 fin:qb (S.data.toList.drop k) sk=sF
 out:qs.map PV.abs++xJ (S.data.toList.drop k) sk p.abs=oF
 yG:uP wr X vk p
 kept:Kept w wr B v.ownBlock
 hv:∀g,vk.ownBlock=μ g->v.ownBlock=μ g \/w.heap.size<=g
 d0:wr.cell? ⟨Z,0,ν⟩=μ (ι κ p.code)
 d1:wr.cell? ⟨Z,1,ν⟩=μ (ι κ p.id)
 d2:wr.cell? ⟨Z,2,ν⟩=μ (σ p.a p.n p.cap)
 nz:vk.ownBlock≠μ Z
 few:qs.length<=k
theorem Js(c:UInt8)(s:LS)(a:kG):(ET c s a).length<=1:=by
 unfold ET;split
 ·simp
 ·split
  ·simp
  ·split
   ·simp
   ·split<;>simp
theorem Jt {wr V:dR} {Z:Nat} {ps:List PV} {p:PV} {S:ByteArray} {k:Nat} {sF:LS} {oF:List kG} {sk:LS} {vk:dT} {qs:List PV} {c:UInt8} {r:List UInt8}
 (Y:O3 w wr B X Z v ps p S k sF oF sk vk qs) (G:S.data.toList.drop k=c::r) (hW:mW wr.drew V B X (pB c sk) vk (ps++qs) (ET c sk p.abs)) (h:eh wr wr.drew):
 ∃v2 q2,O3 w V B X Z v ps p S (k+1) sF oF (pB c sk) v2 q2:=by
 obtain⟨⟨v2,q2,hR,y,hv⟩,hK⟩:=hW;have A:S.data.toList.drop (k+1)=r:=by
  have:=congrArg (List.drop 1) G;simpa using this
 have T:Kept wr V B vk.ownBlock:=(Kept.iJ B vk.ownBlock h).trans hK (λi e=>.inl e);have H:∀j,V.cell? ⟨Z,j,ν⟩=wr.cell? ⟨Z,j,ν⟩:=λj=>ai (a:=⟨Z,j,ν⟩) (T.block Z (af wr _ Y.d0) (λe=>by
  subst e;have U:=Y.d0;have D:=Y.d1;have J:=Y.d2;have u:wr.cell? ⟨Z,2,ν⟩=μ (ι κ sk.ns):=Y.rep.lk.cell 2;rw[J]at u;simp at u) Y.nz)
 have qX:wr.drew.heap.size=wr.heap.size:=rfl;refine⟨v2,qs++q2,by rw[<-aD];exact hR,?_,?_,?_,?_,?_,?_,(H 0).trans Y.d0,(H 1).trans Y.d1,(H 2).trans Y.d2,?_,?_⟩
 ·have:=Bd.act Y.bd dU c;exact⟨this.o1,this.o2,by have:=this.l1;push_cast;omega,by have:=this.l2;push_cast;omega⟩
 ·rw[A,<-Y.fin,G];rfl
 ·rw[A,<-Y.out,G,cu,y,aD];rfl
 ·exact Y.yG.kept Y.rep.self T (λg M=>hv g M)
 ·refine Y.kept.trans T (λi e=> ?_);rcases Y.hv i e with U|U
  ·exact .inl U
  ·exact .inr U
 ·intro g M;rcases hv g M with U|U
  ·exact Y.hv g U
  ·exact .inr (Nat.le_trans Y.kept.size U)
 ·intro e;rcases hv Z e with U|U
  ·exact Y.nz U
  ·have J:Z<wr.heap.size:=af wr _ Y.d0;have D:wr.heap.size<=Z:=U;omega
 ·rw[az];have U:q2.length=(ET c sk p.abs).length:=by rw[<-y];simp
  have D:=Js c sk p.abs;have J:=Y.few;omega
theorem SM(B:Nat)(X:Nat->Prop)(s:LS)(v:dT)(ps:List PV)(p:PV)(ev:Int)(S:ByteArray)(nx:Int)(w:dR)(hT:iV w)(h:qF w B X s v ps)(hb:Bd s 100)(hp:uP w X v p)(hn:ps.length<=50)(hR:ja s.st ev=(S.data.toList,nx,0))(hS:S.size<=4):
 eT eU 171 #[π (μ ⟨B,0,ν⟩),ι κ ev,.agg #[ι κ p.code,ι κ p.id,σ p.a p.n p.cap]] w λe w'=>e=ρ η/\mW w w' B X (qb S.data.toList (s.next nx)) v ps (xJ S.data.toList (s.next nx) p.abs):=by
 have u:=gN w (γ #[ι κ p.code,ι κ p.id,σ p.a p.n p.cap] 37);have hA:=λj=>aj w #[ι κ p.code,ι κ p.id,σ p.a p.n p.cap] 37 (0,0) j;have jY:=GM s.st ev S.data.toList nx 0 hR _ (hT.below u);have e0:jb 0=η:=rfl;have eS:(⟨S.data.toList.toArray⟩:ByteArray)=S:=gO;rw[e0,eS]at jY;have hl:=h.lk.lt;have SL:=h.row.lt;have c6:w.cell? ⟨B,6,ν⟩=μ (ι κ s.st):=h.lk.cell 6;have h0:=h.below u;have ZA:=hp.kept h.self (Kept.iJ B v.ownBlock u) (λ_ e=>.inl e);obtain⟨M,A⟩:=fW (qb S.data.toList (s.next nx));obtain⟨H,y⟩:=fW (xJ S.data.toList (s.next nx) p.abs);rw[A,y];have HsF:Hid _:=A;have HoF:Hid _:=y;clear A y
 go_in
 go_wp2_with(fail);refine jY.mono ?_;rintro e w1 ⟨rfl,m1,rfl⟩;obtain⟨U,j0⟩:=fW ((w.alloc (γ #[ι κ p.code,ι κ p.id,σ p.a p.n p.cap] 37)).drewN m1);obtain⟨Z,hZ⟩:=fW (w.heap.size);have d0:U.cell? ⟨Z,0,ν⟩=μ (ι κ p.code):=by rw[<-j0,<-hZ];exact hA 0
 have d1:U.cell? ⟨Z,1,ν⟩=μ (ι κ p.id):=by rw[<-j0,<-hZ];exact hA 1
 have d2:U.cell? ⟨Z,2,ν⟩=μ (σ p.a p.n p.cap):=by rw[<-j0,<-hZ];exact hA 2
 have j7:eh w U:=by rw[<-j0];exact below_drewN u m1
 have T:qF U B X s v ps:=h.below j7;have BN:uP U X v p:=hp.kept h.self (Kept.iJ B v.ownBlock j7) (λ_ e=>.inl e);have Vd:=Kept.iJ B v.ownBlock j7;rw[j0,hZ];have xK:B≠Z:=dU;have hnz:v.ownBlock≠μ Z:=λe=>by have:=SL Z e;omega
 clear jY j0 hZ hA h0 u h c6 hl e0 eS hT hp ZA j7 SL;have VY:=T.lk.lt;have c0:U.cell? ⟨B,0,ν⟩=μ (ι κ s.fs):=T.lk.cell 0;have c1:U.cell? ⟨B,1,ν⟩=μ (ι κ s.fm):=T.lk.cell 1;have c2:U.cell? ⟨B,2,ν⟩=μ (ι κ s.ns):=T.lk.cell 2;have c3:U.cell? ⟨B,3,ν⟩=μ (ι κ s.nm):=T.lk.cell 3;have c6:U.cell? ⟨B,6,ν⟩=μ (ι κ s.st):=T.lk.cell 6;have c7:U.cell? ⟨B,7,ν⟩=μ (ι κ s.sz):=T.lk.cell 7;have fz:∀j,U.frozen? ⟨B,j,ν⟩=false:=T.lk.frozen;have tail:∀(D:dR) (s2:LS),qF D B X s2 v ps->Kept U D B v.ownBlock->s.next nx=s2->Bd s2 100->O3 w D B X Z v ps p S 0 M H s2 v [] :=by
  intro D s2 Jr EU hs2 lN;have Dd:∀j,D.cell? ⟨Z,j,ν⟩=U.cell? ⟨Z,j,ν⟩:=λj=>ai (a:=⟨Z,j,ν⟩) (EU.block Z (af U _ d0) (λe=>xK e.symm) hnz);exact⟨by rw[aC];exact Jr,⟨lN.o1,lN.o2,by have:=lN.l1;omega,by have:=lN.l2;omega⟩,by rw[<-HsF.out,hs2];rfl,by rw[<-HoF.out,hs2];rfl,BN.kept T.self EU (λ_ e=>.inl e),Vd.trans EU (λi e=>.inl e),λ_ e=>.inl e,(Dd 0).trans d0,(Dd 1).trans d1,(Dd 2).trans d2,hnz,Nat.le_refl _⟩
 have HT:Hid _:=tail;clear tail;clear HsF HoF;by_cases hx:nx<=3
 ·have M0:Hid (O3 w ((((U.setCell ⟨B,6,ν⟩ (ι κ nx)).setCell ⟨B,2,ν⟩ (ι κ s.fs)).setCell ⟨B,3,ν⟩ (ι κ s.fm)).setCell ⟨B,7,ν⟩ (ι κ 255)) B X Z v ps p S 0 M H {s with st:=nx,ns:=s.fs,nm:=s.fm,sz:=255} v []):=
   HT.out _ _ ((((T.kX 6 _ {s with st:=nx} rfl).kX 2 _ {s with st:=nx,ns:=s.fs} rfl).kX 3 _ {s with st:=nx,ns:=s.fs,nm:=s.fm} rfl).kX 7 _ _ rfl) (ku (ku (ku (ku (Kept.refl _ B _) 6 _) 2 _) 3 _) 7 _) (by simp[LS.next,hx]) ⟨hb.o1,hb.o2,hb.l1,hb.l2⟩
  clear HT T Vd BN;go_wp2_with(fail);obtain⟨D,nC⟩:=fW (((((U.setCell ⟨B,6,ν⟩ (ι κ nx)).setCell ⟨B,2,ν⟩ (ι κ s.fs)).setCell ⟨B,3,ν⟩ (ι κ s.fm)).setCell ⟨B,7,ν⟩ (ι κ 255)));have M1:Hid (O3 w D B X Z v ps p S 0 M H {s with st:=nx,ns:=s.fs,nm:=s.fm,sz:=255} v []):=by show O3 _ _ _ _ _ _ _ _ _ _ _ _ _ _ _;rw[<-nC];exact M0.out
  rw[nC];clear M0 nC d0 d1 d2 c0 c1 c2 c3 c6 c7 fz
  go_loopw [42] (λi wr=>∃(k:Nat) (G:LS) (J:dT) (qs:List PV),k<=S.size/\i=ι κ k/\O3 w wr B X Z v ps p S k M H G J qs) (λi _=>S.size-(eV i).toNat)
  case atStart=>exact⟨0,_,v,[],Nat.zero_le _,rfl,M1.out⟩
  case round=>
   obtain⟨k,G,J,qs,u,rfl,Y⟩:=hrel;by_cases ka:k<S.size
   ·have m8:(k:Int)<(S.size:Int):=dU;have Jh:(0:Int)<=(k:Int):=dU;have HD:Hid (S.data.toList.drop k=S[k] ::S.data.toList.drop (k+1)):=by
     show _=_;rw[aO (by simpa using ka)];rfl
    obtain⟨x0,x1,x2⟩:=fQ Y.d0 (fQ Y.d1 Y.d2);have xl:Z<wr.heap.size:=af wr _ x0;have VZ:eh wr wr.drew:=jt (au _ _);have HC:=Ci S[k] B X G J (ps++qs) p wr.drew (Y.rep.below VZ) ⟨Y.bd.o1,Y.bd.o2,by have:=Y.bd.l1;omega,by have:=Y.bd.l2;omega⟩ (Y.yG.kept Y.rep.self (Kept.iJ B J.ownBlock VZ) (λ_ e=>.inl e)) (by rw[az];have:=Y.few;omega)
    go_wp2
    go_region_with(go_at_call 208;refine HC.mono ?_;rintro e V ⟨rfl,hW⟩)
    all_goals
     have M2:Hid (∃v2 q2,O3 w V B X Z v ps p S (k+1) M H (pB S[k] G) v2 q2):=Jt Y HD.out hW VZ;clear HC
     go_wp2
     go_roundw
     case rel=>
      obtain⟨v2,q2,tj⟩:=M2.out;exact⟨k+1,_,v2,q2,dU,by go_num,tj⟩
     case measure=>simp[eV];omega
   ·have Fw:S.data.toList.drop k=[] :=aZ (by
     have:S.data.toList.length=S.size:=gO;omega)
    have HF:Hid (mW w wr B X M v ps H):=by
     have T:=Y.fin;have h2:=Y.out;rw[Fw]at T h2;have h3:G=M:=T;subst h3;refine⟨⟨J,qs,Y.rep,by simpa[xJ]using h2,Y.hv⟩,Y.kept⟩
    clear Y Fw
    go_wp2
    go_ret;exact⟨rfl,HF.out⟩
 ·have M0:Hid (O3 w (U.setCell ⟨B,6,ν⟩ (ι κ nx)) B X Z v ps p S 0 M H {s with st:=nx} v []):=
   HT.out _ _ (T.kX 6 _ _ rfl) (ku (Kept.refl _ B _) 6 _) (by simp[LS.next,hx]) ⟨hb.o1,hb.o2,hb.l1,hb.l2⟩
  clear HT T Vd BN;go_wp2_with(fail);obtain⟨D,nC⟩:=fW ((U.setCell ⟨B,6,ν⟩ (ι κ nx)));have M1:Hid (O3 w D B X Z v ps p S 0 M H {s with st:=nx} v []):=by show O3 _ _ _ _ _ _ _ _ _ _ _ _ _ _ _;rw[<-nC];exact M0.out
  rw[nC];clear M0 nC d0 d1 d2 c0 c1 c2 c3 c6 c7 fz
  go_loopw [42] (λi wr=>∃(k:Nat) (G:LS) (J:dT) (qs:List PV),k<=S.size/\i=ι κ k/\O3 w wr B X Z v ps p S k M H G J qs) (λi _=>S.size-(eV i).toNat)
  case atStart=>exact⟨0,_,v,[],Nat.zero_le _,rfl,M1.out⟩
  case round=>
   obtain⟨k,G,J,qs,u,rfl,Y⟩:=hrel;by_cases ka:k<S.size
   ·have m8:(k:Int)<(S.size:Int):=dU;have Jh:(0:Int)<=(k:Int):=dU;have HD:Hid (S.data.toList.drop k=S[k] ::S.data.toList.drop (k+1)):=by
     show _=_;rw[aO (by simpa using ka)];rfl
    obtain⟨x0,x1,x2⟩:=fQ Y.d0 (fQ Y.d1 Y.d2);have xl:Z<wr.heap.size:=af wr _ x0;have VZ:eh wr wr.drew:=jt (au _ _);have HC:=Ci S[k] B X G J (ps++qs) p wr.drew (Y.rep.below VZ) ⟨Y.bd.o1,Y.bd.o2,by have:=Y.bd.l1;omega,by have:=Y.bd.l2;omega⟩ (Y.yG.kept Y.rep.self (Kept.iJ B J.ownBlock VZ) (λ_ e=>.inl e)) (by rw[az];have:=Y.few;omega)
    go_wp2
    go_region_with(go_at_call 208;refine HC.mono ?_;rintro e V ⟨rfl,hW⟩)
    all_goals
     have M2:Hid (∃v2 q2,O3 w V B X Z v ps p S (k+1) M H (pB S[k] G) v2 q2):=Jt Y HD.out hW VZ;clear HC
     go_wp2
     go_roundw
     case rel=>
      obtain⟨v2,q2,tj⟩:=M2.out;exact⟨k+1,_,v2,q2,dU,by go_num,tj⟩
     case measure=>simp[eV];omega
   ·have Fw:S.data.toList.drop k=[] :=aZ (by
     have:S.data.toList.length=S.size:=gO;omega)
    have HF:Hid (mW w wr B X M v ps H):=by
     have T:=Y.fin;have h2:=Y.out;rw[Fw]at T h2;have h3:G=M:=T;subst h3;refine⟨⟨J,qs,Y.rep,by simpa[xJ]using h2,Y.hv⟩,Y.kept⟩
    clear Y Fw
    go_wp2
    go_ret;exact⟨rfl,HF.out⟩
theorem zT(a b:Option dQ)(ca j n m:Nat)(os qs:List jG)(w:dR)(T:iU w a n os)(hb:iU w b m qs)(hn:n<=1000000)(hm:m<=1000000):
 eT eU 230 #[σ a n ca,σ b m j] w λe w'=>e=ρ (.bool (decide (os=qs)))/\∃k,w'=w.drewN k:=by
 have hl:=T.1;have GQ:=hb.1;by_cases A:n=m
 ·subst A;have heq:((n:Int) !=(n:Int))=false:=gO
  go_in
  go_wp2
  go_loopw [13] (λi wr=>∃k m:Nat,k<=n/\i=ι κ k/\os.take k=qs.take k/\wr=w.drewN m) (λi _=>n-(eV i).toNat)
  case atStart=>exact⟨0,0,Nat.zero_le _,rfl,rfl,rfl⟩
  case round=>
   obtain⟨k,m,hk,rfl,U,rfl⟩:=hrel;have H:Hid _:=U;clear U;by_cases ka:k<n
   ·rcases T.2 with hA|⟨b1,o1,rfl,hA⟩
    ·omega
    rcases hb.2 with V|⟨b2,o2,rfl,V⟩
    ·omega
    obtain⟨c1,c2⟩:=hA k dU;obtain⟨c3,c4⟩:=V k dU;have M:Hid (os.take (k+1)=os.take k++ [os[k]'(by omega)]):=ay dU;have J:Hid (qs.take (k+1)=qs.take k++ [qs[k]'(by omega)]):=ay dU;have Y:Hid (os=qs->os[k]'(by omega)=qs[k]'(by omega)):=λh=>by subst h;rfl
    clear hA V;generalize os[k]'(by omega)=o at c1 c2 M Y;generalize qs[k]'(by omega)=q at c3 c4 J Y;have m8:(k:Int)<(n:Int):=dU;cases q1:(o.1==q.1)
    ·have Z:Hid (decide (os=qs)=false):=by
      show _=_;rw[a7];intro h;have:=Y.out h;rw[this]at q1;simp at q1
     go_wp2
     go_quiet(fail)
     go_wp2_with(fail);rw[Z.out];go_ret;exact⟨rfl,_,drewN_drewN _ _ _⟩
    ·cases q2:(o.2==q.2)
     ·have Z:Hid (decide (os=qs)=false):=by
       show _=_;rw[a7];intro h;have:=Y.out h;rw[this]at q2;simp at q2
      go_wp2
      go_quiet(fail)
      go_wp2_with(fail);rw[Z.out];go_ret;exact⟨rfl,_,drewN_drewN _ _ _⟩
     ·have y:Hid (os.take (k+1)=qs.take (k+1)):=by
       show _=_;rw[M.out,J.out,H.out];simp at q1 q2;congr 2;exact aR q1 q2
      go_wp2
      go_quiet(fail)
      go_wp2
      go_roundw
      case rel=>exact⟨k+1,_,dU,by go_num,y.out,rfl⟩
      case measure=>simp[eV];omega
   ·have G:decide (os=qs)=true:=by
     have u:os.take k=os:=aG dU;have D:qs.take k=qs:=aG dU;have:=H.out;rw[u,D]at this;simp[this]
    go_wp2_with(fail);rw[G];go_ret;exact⟨rfl,m,rfl⟩
 ·have heq:((n:Int) !=(m:Int))=true:=by simp;omega
  have Z:decide (os=qs)=false:=by
   rw[a7];intro h;subst h;omega
  rw[Z]
  go_in
  go_wp2
  go_ret;exact⟨rfl,0,rfl⟩
def nD(s:LS)(ev:Int):LS:=qb (ja s.st ev).1 (s.next (ja s.st ev).2.1)
def pg(s:LS)(ev:Int)(yG:kG):List kG:=xJ (ja s.st ev).1 (s.next (ja s.st ev).2.1) yG
theorem zU(s e:Int):(ja s e).1.length<=4:=by
 unfold ja;split
 ·simp
 ·rename_i h
  exact(show∀e,e<12->∀s,s<10->(kV s e).1.length<=4 by decide+kernel) e.toNat dU s.toNat dU
theorem yH(B:Nat)(X:Nat->Prop)(s:LS)(v:dT)(ps:List PV)(p:PV)(ev:Int)(w:dR)(U:iV w)(h:qF w B X s v ps)(hb:Bd s 100)(Y:uP w X v p)(V:ps.length<=50)(hf:(ja s.st ev).2.2=0):
 eT eU 171 #[π (μ ⟨B,0,ν⟩),ι κ ev,.agg #[ι κ p.code,ι κ p.id,σ p.a p.n p.cap]] w λe w'=>e=ρ η/\mW w w' B X (nD s ev) v ps (pg s ev p.abs):=by
 have hl:=zU s.st ev;unfold nD pg;obtain⟨D,nx,f,Z⟩:∃D nx f,ja s.st ev=(D,nx,f):=⟨_,_,_,rfl⟩
 rw[Z]at hf hl⊢;simp only at hf hl⊢;subst hf;exact SM B X s v ps p ev ⟨D.toArray⟩ nx w U h hb Y V Z (by show D.toArray.size<=4;simpa using hl)
def mM:List jG->Int
 |[] =>255
 |o::r=>if o.1=1 then o.2 else mM r
theorem LM(a:Option dQ)(n cap:Nat)(os:List jG)(w:dR)(hn:n<=1000000)(V:iU w a n os):
 eT eU 229 #[σ a n cap] w λe w'=>e=ρ (ι κ (mM os))/\eh w w':=by
 go_in
 go_wp2
 go_loopw [7] (λi wr=>∃k:Nat,k<=n/\i=ι κ k/\mM os=mM (os.drop k)/\eh w wr) (λi _=>n-(eV i).toNat)
 case atStart=>exact⟨0,Nat.zero_le _,rfl,rfl,au _ _⟩
 case round=>
  obtain⟨k,hk,rfl,J,Y⟩:=hrel;have hF:Hid _:=J;clear J;by_cases H:k<n
  ·have G:=V.below Y;rcases G.2 with h0|⟨b,off,rfl,hc⟩
   ·omega
   have M:k<os.length:=by rw[V.1];exact H
   obtain⟨c1,c2⟩:=hc k M;have U:Hid (os.drop k=os[k] ::os.drop (k+1)):=aO M;generalize os[k] =o at c1 c2 U;clear hc;have m8:(k:Int)<(n:Int):=dU;have T:=Y.alloc Y.size (γ #[ι κ o.1,ι κ o.2] 276);cases q1:(o.1==1)
   ·have Z:Hid (mM os=mM (os.drop (k+1))):=by
     show _=_;rw[hF.out,U.out,mM,ae (by simpa using q1)]
    go_wp2
    go_roundw
    case rel=>exact⟨k+1,dU,by go_num,Z.out,T⟩
    case measure=>simp[eV];omega
   ·have Z:Hid (mM os=o.2):=by
     show _=_;rw[hF.out,U.out,mM,ag (by simpa using q1)]
    go_wp2_with(fail);rw[Z.out];go_ret;exact⟨rfl,T⟩
  ·have Z:Hid (mM os=255):=by
    show _=_;have D:os.drop k=[] :=aZ (by rw[V.1];omega);rw[hF.out,D,mM]
   go_wp2_with(fail);rw[Z.out];go_ret;exact⟨rfl,Y⟩
def LS.sized(s:LS)(os:List jG):LS:=if 6<=s.st then {s with sz:=mM os}else s
theorem Ju(B:Nat)(X:Nat->Prop)(s:LS)(v:dT)(ps:List PV)(id:Int)(a:Option dQ)(n cap:Nat)(os:List jG)(w:dR)(hT:iV w)(h:qF w B X s v ps)(hb:Bd s 100)(hn:ps.length<=50)
 (ho:iU w a n os) (uh:∀k,tZ a n=μ k->¬X k/\v.ownBlock≠μ k/\k<w.heap.size) (j5:kt a cap) (BO:n<=1000) (m1:0<=s.nm) (m2:s.nm<=255) (hj:lM s.nm os=(2,os)) (hf:(ja s.st 6).2.2=0):
 eT eU 211 #[π (μ ⟨B,0,ν⟩),.agg #[ι κ 1,ι κ id,σ a n cap]] w λe w'=>e=ρ η/\mW w w' B X ((nD s 6).sized os) v ps (pg s 6 (2,id,os)):=by
 have hk:=gN w (γ #[ι κ 1,ι κ id,σ a n cap] 37);have hA:=λj=>aj w #[ι κ 1,ι κ id,σ a n cap] 37 (0,0) j;have hl:=h.lk.lt;have SL:=h.row.lt;have T:=h.below hk;have hz:∀w:dR,(zeroValue 37).run eU w=.ok (.agg #[ι κ 0,ι κ 0,σ ν 0 0]) w:=λw=>gL;have V5:=ho.1;obtain⟨U,j0⟩:=fW (w.alloc (γ #[ι κ 1,ι κ id,σ a n cap] 37));obtain⟨Z,hZ⟩:=fW (w.heap.size);have d1:U.cell? ⟨Z,1,ν⟩=μ (ι κ id):=by rw[<-j0,<-hZ];exact hA 1
 have d2:U.cell? ⟨Z,2,ν⟩=μ (σ a n cap):=by rw[<-j0,<-hZ];exact hA 2
 rw[j0]at T hk;have xK:B≠Z:=dU;have hnz:v.ownBlock≠μ Z:=λe=>by have:=SL Z e;omega
 have HW:Hid _:=j0;have HZ:Hid _:=hZ;clear hA j0 hZ hl;have c2:U.cell? ⟨B,2,ν⟩=μ (ι κ s.ns):=T.lk.cell 2;have c3:U.cell? ⟨B,3,ν⟩=μ (ι κ s.nm):=T.lk.cell 3;have VY:=T.lk.lt;have IA:Z<U.heap.size:=af U _ d1;have Oq:=T.old;have uJ:=T.self;have hJ:=Fh s.ns s.nm a n cap os U.drew m1 m2 dU j5 (ho.below (jt hk));rw[hj]at hJ
 go_in
 go_wp2_with(fail);rw[HW.out,HZ.out]
 go_region_with(go_at_call 228;refine hJ.mono ?_;rintro e M ⟨u,rfl,hM⟩)
 all_goals
  obtain⟨a',n',jn,rfl,hP⟩:=Hg (X:=X) (v:=v) 2 id hM (show os.length<=1000 by omega) Oq (λk Zz=>Nat.lt_of_lt_of_le (SL k Zz) hk.size);have ym:eh U M:=fY (jt (au _ _)) hM.below;have R2:=T.below ym;have ZB:M.cell? ⟨Z,1,ν⟩=μ (ι κ id):=(ym.cell (p:=⟨Z,1,ν⟩) IA).trans d1;have d2':M.cell? ⟨Z,2,ν⟩=μ (σ a n cap):=(ym.cell (p:=⟨Z,2,ν⟩) IA).trans d2;have Hh:Z<M.heap.size:=af M _ ZB;have G:=gN M (γ #[ι κ 2,ι κ id,σ a' n' jn] 37);have H:=fY hk (fY ym G);have R3:=R2.below G;have P3:=hP.kept uJ (Kept.iJ B v.ownBlock G) (λ_ e=>.inl e);have HC:=yH B X s v ps ⟨2,id,a',n',jn,os⟩ 6 _ (hT.below H) R3 hb P3 hn hf;have ZC:=(G.cell (p:=⟨Z,2,ν⟩) Hh).trans d2';have yI:=ho.below H;have A:Z<(M.alloc (γ #[ι κ 2,ι κ id,σ a' n' jn] 37)).heap.size:=af _ _ ZC;clear hM hP R2 ym c2 c3 d1 d2 T hJ R3 P3;go_wp2_with(fail);refine HC.mono ?_;rintro e J ⟨rfl,hW⟩;obtain⟨⟨v',qs,Y,V6,y⟩,V⟩:=hW;have c6:J.cell? ⟨B,6,ν⟩=μ (ι κ (nD s 6).st):=Y.lk.cell 6;have z2:J.cell? ⟨Z,2,ν⟩=μ (σ a n cap):=(ai (a:=⟨Z,2,ν⟩) (V.block Z A (λe=>xK e.symm) hnz)).trans ZC;have Vk:iU J a n os:=yI.M9 (λk hk4=>by obtain⟨q1,q2,q3⟩:=uh k hk4;exact V.block k (Nat.lt_of_lt_of_le q3 H.size) (λe=>q1 (by rw[e];exact uJ)) q2);have hl4:=Y.lk.lt;have amx:Z<J.heap.size:=af J _ z2;have ZD:Kept w J B v.ownBlock:=(Kept.iJ B v.ownBlock H).trans V (λi e=>.inl e);have D:∀g,v'.ownBlock=μ g->v.ownBlock=μ g \/w.heap.size<=g:=λg hg=>by
   rcases y g hg with e|e
   ·exact .inl e
   ·exact .inr (Nat.le_trans H.size e)
  clear HC y V yI ZC d2' ZB Hh A G H;obtain⟨s',ZE⟩:∃s',nD s 6=s':=⟨_,rfl⟩
  rw[ZE]at Y c6;have HS:Hid _:=ZE;clear ZE;by_cases h6:6<=s'.st
  ·go_wp2_with(fail);refine(LM a n cap os J dU Vk).mono ?_;rintro e w5 ⟨rfl,k5⟩;have R5:=Y.below k5;have c7:w5.cell? ⟨B,7,ν⟩=μ (ι κ s'.sz):=R5.lk.cell 7;have fz:∀j,w5.frozen? ⟨B,j,ν⟩=false:=R5.lk.frozen;have hl5:=R5.lk.lt;have HR6:Hid (qF (w5.setCell ⟨B,7,ν⟩ (ι κ (mM os))) B X {s' with sz:=mM os} v' (ps++qs)):=R5.kX 7 _ _ rfl;have HK6:Hid (Kept w (w5.setCell ⟨B,7,ν⟩ (ι κ (mM os))) B v.ownBlock):=ku (ZD.trans (Kept.iJ B v.ownBlock k5) (λi e=>.inl e)) 7 _;clear R5 Y ZD k5 Vk z2 c6
   go_wp2
   go_ret;rw[HS.out];have e6:s'.sized os={s' with sz:=mM os}:=by simp[LS.sized,h6]
   rw[e6];exact⟨rfl,⟨v',qs,HR6.out,V6,D⟩,HK6.out⟩
  ·go_wp2
   go_ret;rw[HS.out];have e6:s'.sized os=s':=by unfold LS.sized;rw[ae dU]
   rw[e6];exact⟨rfl,⟨v',qs,Y,V6,D⟩,ZD⟩
theorem V7(B:Nat)(X:Nat->Prop)(s:LS)(v:dT)(ps:List PV)(w:dR)(h:qF w B X s v ps):
 eT eU 174 #[π (μ ⟨B,0,ν⟩)] w λe w'=>e=ρ v/\qF w' B X s (σ ν 0 0) [] /\Row w' 3 v ps.length (O1 ps)/\(∀p∈ps,uP w' X v p)/\Kept w w' B ν:=by
 have hl:=h.lk.lt;have VM:w.cell? ⟨B,11,ν⟩=μ v:=h.lk.cell 11;have fz:∀j,w.frozen? ⟨B,j,ν⟩=false:=h.lk.frozen;have V:Kept w (w.setCell ⟨B,11,ν⟩ (σ ν 0 0)) B ν:=ku (Kept.refl w B _) 11 _;have U:Kept w (w.setCell ⟨B,11,ν⟩ (σ ν 0 0)) B v.ownBlock:=ku (Kept.refl w B _) 11 _;have H:Hid (qF (w.setCell ⟨B,11,ν⟩ (σ ν 0 0)) B X s (σ ν 0 0) []):=⟨h.lk.set 11 _,Row.nil _ 3,λg M=>by simp[dV]at M,h.self,λk Z=>Nat.lt_of_lt_of_le (h.old k Z) V.size,λp Y=>by simp at Y⟩
 have J:Hid (Row (w.setCell ⟨B,11,ν⟩ (σ ν 0 0)) 3 v ps.length (O1 ps)):=h.row.keep V.size (λk T=>aq _ _ _ k (λe=>h.ne (by rw[T];exact congrArg μ e)));have HP:Hid (∀p∈ps,uP (w.setCell ⟨B,11,ν⟩ (σ ν 0 0)) X v p):=λp Y=>(h.pk p Y).kept h.self U (λ_ e=>.inl e);clear h U
 go_in
 go_wp2
 go_ret;exact⟨rfl,H.out,J.out,HP.out,V⟩
theorem rM(w:dR):(zeroValue 37).run eU w=.ok (.agg #[ι κ 0,ι κ 0,σ ν 0 0]) w:=gL
theorem ahs(ev:Int)(Y:ev=0 \/ev=1 \/ev=2 \/ev=3)(B:Nat)(X:Nat->Prop)(s:LS)(v:dT)(ps:List PV)(w:dR)(Z:iV w)(h:qF w B X s v ps)(hb:Bd s 100)(V:ps.length<=50)(hf:(ja s.st ev).2.2=0):
 eT eU 120 #[π (μ ⟨B,0,ν⟩),ι κ ev] w λe w'=>e=ρ η/\mW w w' B X (nD s ev) v ps (pg s ev (0,0,[])):=by
 have hz:=rM;have hc:=yH B X s v ps ⟨0,0,ν,0,0,[]⟩ ev w Z h hb (qt _ _ _ _ _) V hf;clear h Z hb hf;rcases Y with rfl|rfl|rfl|rfl
 all_goals
  go_in
  go_wp2_with(fail);refine hc.mono ?_;rintro e w1 ⟨rfl,U⟩;clear hc
  go_wp2
  go_ret;exact⟨rfl,U⟩
theorem zV(B:Nat)(X:Nat->Prop)(s:LS)(v:dT)(ps:List PV)(w:dR)(h:qF w B X s v ps):
 eT eU 114 #[π (μ ⟨B,0,ν⟩)] w λe w'=>e=ρ (ι κ s.st)/\w=w':=by
 have hl:=h.lk.lt;have c6:w.cell? ⟨B,6,ν⟩=μ (ι κ s.st):=h.lk.cell 6;clear h
 go_in
 go_wp2
 go_ret;exact⟨rfl,rfl⟩
def j6(s:LS):LS:=if(decide (4<=s.st)&&decide (s.st<=8))=false then s else if 0<s.wt-1 then {s with wt:=s.wt-1}else if 0<s.lf then nD {s with wt:=s.wt-1} 4 else nD {s with wt:=s.wt-1} 5
def lh(s:LS):List kG:=if(decide (4<=s.st)&&decide (s.st<=8))=false then []else if 0<s.wt-1 then []else if 0<s.lf then pg {s with wt:=s.wt-1} 4 (0,0,[])else pg {s with wt:=s.wt-1} 5 (0,0,[])
theorem Jv:∀s:Nat,4<=s->s<=8->(kV s 4).2.2=0/\(kV s 5).2.2=0:=by
 intro s Z h2;exact(show∀s,s<9->4<=s->(kV s 4).2.2=0/\(kV s 5).2.2=0 by decide+kernel) s dU Z
theorem SN(B:Nat)(X:Nat->Prop)(s:LS)(v:dT)(ps:List PV)(w:dR)(hT:iV w)(hB:B≠0)(V8:v.ownBlock≠μ 0)(h:qF w B X s v ps)(hb:Bd s 100)(hn:ps.length<=50)(w1: -1000<=s.wt)(w2:s.wt<=1000):
 eT eU 147 #[π (μ ⟨B,0,ν⟩)] w λe w'=>e=ρ (τ #[])/\mW w w' B X (j6 s) v ps (lh s):=by
 have hz:=rM;have hl:=h.lk.lt;have c6:w.cell? ⟨B,6,ν⟩=μ (ι κ s.st):=h.lk.cell 6;have c8:w.cell? ⟨B,8,ν⟩=μ (ι κ s.lf):=h.lk.cell 8;have c9:w.cell? ⟨B,9,ν⟩=μ (ι κ s.wt):=h.lk.cell 9;have fz:∀j,w.frozen? ⟨B,j,ν⟩=false:=h.lk.frozen;have U:=Ot s.st w;cases Z:(decide (4<=s.st)&&decide (s.st<=8))
 ·have V:j6 s=s:=by unfold j6;rw[ag Z]
  have Y:lh s=[] :=by unfold lh;rw[ag Z]
  rw[V,Y];rw[Z]at U;have u:Hid (mW w w B X s v ps []):=mW.still h (Kept.refl _ _ _);clear h hb V Y Z
  go_in
  go_wp2_with(fail);refine U.mono ?_;rintro e w3 ⟨rfl,rfl⟩
  go_wp2
  first|go_end0|refine iC rfl rfl ?_
  exact⟨rfl,u.out⟩
 ·have T:qF (w.setCell ⟨B,9,ν⟩ (ι κ (s.wt-1))) B X {s with wt:=s.wt-1} v ps:=h.kX 9 _ _ rfl;have G:Kept w (w.setCell ⟨B,9,ν⟩ (ι κ (s.wt-1))) B v.ownBlock:=ku (Kept.refl _ _ _) 9 _;have D:=G.tab hT hB V8;have A:Bd {s with wt:=s.wt-1} 100:=⟨hb.o1,hb.o2,hb.l1,hb.l2⟩
  have jY:4<=s.st/\s.st<=8:=by simpa using Z
  have J:(ja s.st 4).2.2=0/\(ja s.st 5).2.2=0:=by
   obtain⟨H,Zf⟩:∃H:Nat,s.st=H:=⟨s.st.toNat,dU⟩
   rw[Zf];have:=Jv H dU dU;rw[show(4:Int)=((4:Nat):Int)from rfl,show(5:Int)=((5:Nat):Int)from rfl,mQ H 4 dU dX,mQ H 5 dU dX];exact this
  by_cases M:0<s.wt-1
  ·have V:j6 s={s with wt:=s.wt-1}:=by unfold j6;rw[ae (by rw[Z];simp),ag M]
   have Y:lh s=[] :=by unfold lh;rw[ae (by rw[Z];simp),ag M]
   rw[V,Y];rw[Z]at U;have u:Hid (mW w _ B X _ v ps []):=mW.still T G;clear h T hb A V Y Z J jY D G
   go_in
   go_wp2_with(fail);refine U.mono ?_;rintro e w3 ⟨rfl,rfl⟩
   go_wp2
   first|go_end0|refine iC rfl rfl ?_
   exact⟨rfl,u.out⟩
  ·by_cases y:0<s.lf
   ·have V:j6 s=nD {s with wt:=s.wt-1} 4:=by unfold j6;rw[ae (by rw[Z];simp),ae M,ag y]
    have Y:lh s=pg {s with wt:=s.wt-1} 4 (0,0,[]):=by unfold lh;rw[ae (by rw[Z];simp),ae M,ag y]
    rw[V,Y];rw[Z]at U;have hc:=yH B X {s with wt:=s.wt-1} v ps ⟨0,0,ν,0,0,[]⟩ 4 _ D T A (qt _ _ _ _ _) hn J.1;clear h T hb A V Y Z J jY D
    go_in
    go_wp2_with(fail);refine U.mono ?_;rintro e w3 ⟨rfl,rfl⟩;go_wp2_with(fail);refine hc.mono ?_;rintro e w4 ⟨rfl,hW⟩;clear hc
    go_wp2
    first|go_end0|refine iC rfl rfl ?_
    exact⟨rfl,hW.from G⟩
   ·have V:j6 s=nD {s with wt:=s.wt-1} 5:=by unfold j6;rw[ae (by rw[Z];simp),ae M,ae y]
    have Y:lh s=pg {s with wt:=s.wt-1} 5 (0,0,[]):=by unfold lh;rw[ae (by rw[Z];simp),ae M,ae y]
    rw[V,Y];rw[Z]at U;have hc:=yH B X {s with wt:=s.wt-1} v ps ⟨0,0,ν,0,0,[]⟩ 5 _ D T A (qt _ _ _ _ _) hn J.2;clear h T hb A V Y Z J jY D
    go_in
    go_wp2_with(fail);refine U.mono ?_;rintro e w3 ⟨rfl,rfl⟩;go_wp2_with(fail);refine hc.mono ?_;rintro e w4 ⟨rfl,hW⟩;clear hc
    go_wp2
    first|go_end0|refine iC rfl rfl ?_
    exact⟨rfl,hW.from G⟩
def r7(s:LS)(ev:Int)(yG:kG):LS×List kG×Nat:=if(ja s.st ev).2.2=0 then(nD s ev,pg s ev yG,0)else(s,[],(ja s.st ev).2.2)
theorem sP {s:LS} (yG:kG)(h:(ja s.st ev).2.2=0):r7 s ev yG=(nD s ev,pg s ev yG,0):=by unfold r7;rw[ag h]
theorem vz {s:LS} (yG:kG)(h:(ja s.st ev).2.2≠0):r7 s ev yG=(s,[],(ja s.st ev).2.2):=by unfold r7;rw[ae h]
theorem tG(B:Nat)(X:Nat->Prop)(s:LS)(v:dT)(ps:List PV)(p:PV)(ev:Int)(w:dR)(Y:iV w)(h:qF w B X s v ps)(hb:Bd s 100)(V:uP w X v p)(U:ps.length<=50):
 eT eU 171 #[π (μ ⟨B,0,ν⟩),ι κ ev,.agg #[ι κ p.code,ι κ p.id,σ p.a p.n p.cap]] w λe w'=>e=ρ (jb (r7 s ev p.abs).2.2)/\mW w w' B X (r7 s ev p.abs).1 v ps (r7 s ev p.abs).2.1:=by
 by_cases hf:(ja s.st ev).2.2=0
 ·rw[sP _ hf];exact yH B X s v ps p ev w Y h hb V U hf
 ·rw[vz _ hf];obtain⟨D,nx,f,Z⟩:∃D nx f,ja s.st ev=(D,nx,f):=⟨_,_,_,rfl⟩
  rw[Z]at hf⊢;refine(NA B X s v ps p ev D nx f w Y h Z hf).mono ?_;rintro e w' ⟨rfl,hb⟩;exact⟨by simp only[jb];rw[ae hf],mW.still (h.below hb) (Kept.iJ B _ hb)⟩
theorem LN {mg:Int} {os:List jG} (h:(lM mg os).1=2):lM mg os=(2,os):=by
 unfold lM at*;split
 ·rename_i Z;rw[ag Z]at h;simp at h
 ·rename_i Z
  rw[ae Z]at h;split
  ·rename_i Y;rw[ag Y]at h;simp at h
  ·rfl
def tH(s:LS)(id:Int)(os:List jG):LS×List kG×Nat:=
 if(lM s.nm os).1=2 then(if(r7 s 6 (2,id,os)).2.2=0 then((r7 s 6 (2,id,os)).1.sized os,(r7 s 6 (2,id,os)).2.1,0)else r7 s 6 (2,id,os))else r7 s 7 ((lM s.nm os).1,id,(lM s.nm os).2)
theorem Jw(mg:Int):∀os:List jG,(qA mg os).length<=os.length
 |[] =>by simp[qA]
 |o::r=>by
  have ih:=Jw mg r;have e:qA mg (o::r)=wO mg o++qA mg r:=by simp[qA]
  have h1:(wO mg o).length<=1:=by
   unfold wO;split
   ·simp
   ·split<;>simp
  rw[e,az,cH];omega
theorem LO(mg:Int)(os:List jG):(lM mg os).2.length<=os.length:=by
 unfold lM;split
 ·exact cE _ _
 ·split
  ·exact Jw mg os
  ·exact Nat.le_refl _
theorem De(B:Nat)(X:Nat->Prop)(s:LS)(v:dT)(ps:List PV)(id:Int)(a:Option dQ)(n cap:Nat)(os:List jG)(w:dR)(hT:iV w)(h:qF w B X s v ps)(hb:Bd s 100)(hn:ps.length<=50)
 (ho:iU w a n os) (j5:kt a cap) (BO:n<=1000) (m1:0<=s.nm) (m2:s.nm<=255) (Y:Int) (V:List jG) (hj:lM s.nm os=(Y,V)) (ev:Int) (vy:Y=2/\ev=6/\(ja s.st 6).2.2≠0 \/Y≠2/\ev=7):
 eT eU 211 #[π (μ ⟨B,0,ν⟩),.agg #[ι κ 1,ι κ id,σ a n cap]] w λe w'=>e=ρ (jb (r7 s ev (Y,id,V)).2.2)/\mW w w' B X (r7 s ev (Y,id,V)).1 v ps (r7 s ev (Y,id,V)).2.1:=by
 have G:=gN w (γ #[ι κ 1,ι κ id,σ a n cap] 37);have hA:=λj=>aj w #[ι κ 1,ι κ id,σ a n cap] 37 (0,0) j;have hl:=h.lk.lt;have SL:=h.row.lt;have T:=h.below G;have hz:∀w:dR,(zeroValue 37).run eU w=.ok (.agg #[ι κ 0,ι κ 0,σ ν 0 0]) w:=λw=>gL;have V5:=ho.1;obtain⟨U,H⟩:=fW (w.alloc (γ #[ι κ 1,ι κ id,σ a n cap] 37));obtain⟨Z,hZ⟩:=fW (w.heap.size);have d1:U.cell? ⟨Z,1,ν⟩=μ (ι κ id):=by rw[<-H,<-hZ];exact hA 1
 have d2:U.cell? ⟨Z,2,ν⟩=μ (σ a n cap):=by rw[<-H,<-hZ];exact hA 2
 rw[H]at T G;have HW:Hid _:=H;have HZ:Hid _:=hZ;clear hA H hZ hl;have c2:U.cell? ⟨B,2,ν⟩=μ (ι κ s.ns):=T.lk.cell 2;have c3:U.cell? ⟨B,3,ν⟩=μ (ι κ s.nm):=T.lk.cell 3;have VY:=T.lk.lt;have IA:Z<U.heap.size:=af U _ d1;have Oq:=T.old;have uJ:=T.self;have y:=Fh s.ns s.nm a n cap os U.drew m1 m2 dU j5 (ho.below (jt G));have ug:=LO s.nm os;rw[hj]at y ug;simp only at y ug;have hlj:V.length<=1000:=dU;clear ug hj;obtain⟨E,D⟩:=fW (jb (r7 s ev (Y,id,V)).2.2);obtain⟨S',ZG⟩:∃S',(r7 s ev (Y,id,V)).1=S':=⟨_,rfl⟩
 obtain⟨O',ZH⟩:∃O',(r7 s ev (Y,id,V)).2.1=O':=⟨_,rfl⟩
 rw[D,ZG,ZH];have aht:Y=2/\ev=6/\(∃f:Nat,E=.iface 128 (ι κ (f:Int))) \/Y≠2/\ev=7:=by
  rcases vy with⟨rfl,rfl,hf⟩|h7
  ·refine .inl ⟨rfl,rfl,(ja s.st 6).2.2,?_⟩;rw[<-D,vz _ hf];simp only[jb];rw[ae hf]
  ·exact .inr h7
 have HE:Hid _:=fQ D (fQ ZG ZH);clear vy D ZG ZH
 go_in
 go_wp2_with(fail);rw[HW.out,HZ.out]
 go_region_with(go_at_call 228;refine y.mono ?_;rintro e M ⟨u,rfl,hM⟩)
 all_goals
  obtain⟨a',n',jn,rfl,hP⟩:=Hg (X:=X) (v:=v) Y id hM hlj Oq (λk Zz=>Nat.lt_of_lt_of_le (SL k Zz) G.size);have A:eh U M:=fY (jt (au _ _)) hM.below;have R2:=T.below A;have ZB:M.cell? ⟨Z,1,ν⟩=μ (ι κ id):=(A.cell (p:=⟨Z,1,ν⟩) IA).trans d1;have Hh:Z<M.heap.size:=af M _ ZB;have O4:=gN M (γ #[ι κ Y,ι κ id,σ a' n' jn] 37);have Vj:=fY G (fY A O4);have R3:=R2.below O4;have P3:=hP.kept uJ (Kept.iJ B v.ownBlock O4) (λ_ e=>.inl e);have J:=tG B X s v ps ⟨Y,id,a',n',jn,V⟩ ev _ (hT.below Vj) R3 hb P3 hn;have EF:PV.abs ⟨Y,id,a',n',jn,V⟩=(Y,id,V):=rfl;rw[EF,HE.out.1,HE.out.2.1,HE.out.2.2]at J;clear EF HE;clear hM hP R2 A c2 c3 d1 d2 T y R3 P3;rcases aht with⟨rfl,rfl,f,rfl⟩|⟨hc,rfl⟩
  ·go_wp2_with(fail);refine J.mono ?_;rintro e w4 ⟨rfl,hW⟩;clear J
   go_wp2
   go_ret;exact⟨rfl,hW.from (Kept.iJ B v.ownBlock Vj)⟩
  ·have uj:(Y !=2)=true:=by simpa using hc
   clear hc;go_wp2_with(fail);refine J.mono ?_;rintro e w4 ⟨rfl,hW⟩;clear J
   go_wp2
   go_ret;exact⟨rfl,hW.from (Kept.iJ B v.ownBlock Vj)⟩
theorem Jx(B:Nat)(X:Nat->Prop)(s:LS)(v:dT)(ps:List PV)(id:Int)(a:Option dQ)(n cap:Nat)(os:List jG)(w:dR)(U:iV w)(h:qF w B X s v ps)(hb:Bd s 100)(V:ps.length<=50)
 (Y:iU w a n os) (H:∀k,tZ a n=μ k->¬X k/\v.ownBlock≠μ k/\k<w.heap.size) (T:kt a cap) (M:n<=1000) (m1:0<=s.nm) (m2:s.nm<=255):
 eT eU 211 #[π (μ ⟨B,0,ν⟩),.agg #[ι κ 1,ι κ id,σ a n cap]] w λe w'=>e=ρ (jb (tH s id os).2.2)/\mW w w' B X (tH s id os).1 v ps (tH s id os).2.1:=by
 by_cases Z:(lM s.nm os).1=2
 ·have J:=LN Z;by_cases hf:(ja s.st 6).2.2=0
  ·have e:tH s id os=((nD s 6).sized os,pg s 6 (2,id,os),0):=by
    unfold tH;rw[ag Z,sP _ hf,ag rfl]
   rw[e];exact Ju B X s v ps id a n cap os w U h hb V Y H T M m1 m2 J hf
  ·have e:tH s id os=r7 s 6 (2,id,os):=by
    unfold tH;rw[ag Z,vz _ hf,ae hf]
   rw[e];exact De B X s v ps id a n cap os w U h hb V Y T M m1 m2 2 os J 6 (.inl ⟨rfl,rfl,hf⟩)
 ·have e:tH s id os=r7 s 7 ((lM s.nm os).1,id,(lM s.nm os).2):=by
   unfold tH;rw[ae Z]
  rw[e];exact De B X s v ps id a n cap os w U h hb V Y T M m1 m2 _ _ rfl 7 (.inr ⟨Z,rfl⟩)
structure ac0(w:dR)(B:Nat)(v ak:dT)(os:List jG):Prop where
 ex:∃(a:Option dQ) (n cap:Nat),ak=σ a n cap/\iU w a n os/\kt a cap/\n<=cap/\n<=1000
 far:∀k,ak.ownBlock=μ k->k≠B/\v.ownBlock≠μ k/\k<w.heap.size
section
variable {P:Program}
end
section
variable {P:Program} {md:Region.Mode} {ops:Array Oper} {Q:Exit->Act->World->Prop} {S:World->Prop}
theorem jf(i:Nat)(d:Option Tmp) {oi:Oper} {fuel:Nat} {listed:Array Bool} {a:Act} (hi:ops[i]? =μ oi)(hd:oi.dst=d)
 (hs:Region.noSelect ops=true) (hf:Region.free md ops listed i=true) (V:(Region.ready md ops listed).contains i=true)
 (U:∀c a w,Q (.panic c) (a.put d v) w->Q (.panic c) a w) (Y:Region.wanted oi (yielded ops a.tmps)=true) (hy:∀w,S w->(execOp a.eval oi).run P w=.ok (.value v) w) (Z:S w)
 (h:wpAnyH P md ops Q S fuel (listed.setIfInBounds i true) (a.put d v) w):wpAnyH P md ops Q S (fuel+1) listed a w:=by
 subst hd;exact wpAnyH_take hi hs hf V U (Or.inl ⟨Y,hy⟩) Z h
end
theorem tI {t:TypeId} (h:jc w B C t)(Z:(w.alloc o).drew.grownBy x v.ownBlock)(hv:v.ownBlock≠μ B):jc x B C t:=by
 refine h.keep ?_;rw[Z.block B (by show B<(w.alloc o).heap.size;have:=h.lt;simp;omega) (λe=>hv e.symm)];exact aT w o B h.lt
theorem NB:∀(ps:List PV) (j:Nat) (p:PV),ps[j]? =μ p->(O1 ps)[j*3]? =μ (ι κ p.code)/\(O1 ps)[j*3+1]? =μ (ι κ p.id)/\(O1 ps)[j*3+2]? =μ p.val
 |[],j,p,h=>by simp at h
 |q::r,0,p,h=>by
  have:q=p:=by simpa using h
  subst this;exact⟨rfl,rfl,rfl⟩
 |q::r,j+1,p,h=>by
  have Z:r[j]? =μ p:=by simpa using h
  obtain⟨a,b,c⟩:=NB r j p Z;have e:O1 (q::r)=ι κ q.code::ι κ q.id::q.val::O1 r:=rfl;rw[e,show(j+1)*3=j*3+1+1+1 by omega,show j*3+1+1+1+1=(j*3+1)+1+1+1 by omega,show j*3+1+1+1+2=(j*3+2)+1+1+1 by omega];simp only[List.getElem?_cons_succ];exact⟨a,b,c⟩
structure ZI(w:dR)(v:dT)(ps:List PV):Prop where
 row:Row w 3 v ps.length (O1 ps)
 opt:∀p∈ps,iU w p.a p.n p.os/\p.n<=1000
theorem ZI.shape {ps:List PV} (h:ZI w v ps):∃(a:Option dQ) (c:Nat),v=σ a ps.length c/\∀j p,ps[j]? =μ p->∃g,a=μ ⟨g,0,ν⟩/\w.cell? ⟨g,0+j*3,ν⟩=μ (ι κ p.code)/\w.cell? ⟨g,0+j*3+1,ν⟩=μ (ι κ p.id)/\w.cell? ⟨g,0+j*3+2,ν⟩=μ (σ p.a p.n p.cap):=by
 rcases h.row.2 with⟨Z,V⟩|⟨g,c,Z,hg,rA,Lb,hcell,_⟩
 ·refine⟨ν,0,by rw[V,Z],λj p Y=> ?_⟩;have:=(aI.1 Y).1;omega
 ·refine⟨_,c,Z,λj p Y=>⟨g,rfl,?_⟩⟩;obtain⟨a,b,d⟩:=NB ps j p Y;rw[Nat.zero_add];exact⟨hcell _ _ a,hcell _ _ b,hcell _ _ d⟩
theorem O5(B:Nat)(l code id:Int)(a:Option dQ)(n cap:Nat)(w:dR)(h1:(l==105)=false)(h2:(l==122)=false)(h3:(l==114)=false)(h4:(l==116)=false)(h5:(l==97)=false)(h6:(l==110)=false)(h7:(l==107)=false):
 eT eU 208 #[π (μ ⟨B,0,ν⟩),.int .u8 l,.agg #[ι κ code,ι κ id,σ a n cap]] w λe w'=>e=ρ (τ #[])/\eh w w':=by
 have hb:=gN w (γ #[ι κ code,ι κ id,σ a n cap] 37)
 go_in
 go_wp2
 first|go_end0|refine iC rfl rfl ?_
 exact⟨rfl,hb⟩
theorem LP(B:Nat)(fs fm ns nm qs qm sz lf wt ow code id:Int)(v:dT)(a:Option dQ)(n cap:Nat)(w:dR)(hT:iV w)(h:Lk w B (Ru fs fm ns nm qs qm 0 sz lf wt ow v)):
 eT eU 171 #[π (μ ⟨B,0,ν⟩),ι κ 2,.agg #[ι κ code,ι κ id,σ a n cap]] w λe w'=>e=ρ η/\Lk w' B (Ru fs fm fs fm qs qm 1 255 lf wt ow v)/\w.grownBy w' (μ B):=by
 have G:=gN w (γ #[ι κ code,ι κ id,σ a n cap] 37);have hA:=λj=>aj w #[ι κ code,ι κ id,σ a n cap] 37 (0,0) j;have u:=h.below G;have XQ:=hT.below G;have A:=GM 0 2 [115] 1 0 (by decide+kernel) _ XQ;have e0:jb 0=η:=rfl;rw[e0]at A;have hl:=h.lt;have D:w.cell? ⟨B,6,ν⟩=μ (ι κ 0):=h.cell 6
 go_in
 go_wp2_with(fail);refine A.mono ?_;rintro e w1 ⟨rfl,m1,rfl⟩;obtain⟨Y,M⟩:=fW ((w.alloc (γ #[ι κ code,ι κ id,σ a n cap] 37)).drewN m1);obtain⟨Z,H⟩:=fW (w.heap.size);have d0:Y.cell? ⟨Z,0,ν⟩=μ (ι κ code):=by rw[<-M,<-H];exact hA 0
 have d1:Y.cell? ⟨Z,1,ν⟩=μ (ι κ id):=by rw[<-M,<-H];exact hA 1
 have d2:Y.cell? ⟨Z,2,ν⟩=μ (σ a n cap):=by rw[<-M,<-H];exact hA 2
 have U:Lk Y B (Ru fs fm ns nm qs qm 0 sz lf wt ow v):=by rw[<-M];exact u
 have ke:w.grownBy Y (μ B):=by rw[<-M];exact rH B (below_drewN G m1)
 rw[M,H];have V:B≠Z:=dU;clear A M H hA u XQ G h D hl e0 hT;have VY:=U.lt;have c0:Y.cell? ⟨B,0,ν⟩=μ (ι κ fs):=U.cell 0;have c1:Y.cell? ⟨B,1,ν⟩=μ (ι κ fm):=U.cell 1;have c2:Y.cell? ⟨B,2,ν⟩=μ (ι κ ns):=U.cell 2;have c3:Y.cell? ⟨B,3,ν⟩=μ (ι κ nm):=U.cell 3;have D:Y.cell? ⟨B,6,ν⟩=μ (ι κ 0):=U.cell 6;have c7:Y.cell? ⟨B,7,ν⟩=μ (ι κ sz):=U.cell 7;have fz:∀j,Y.frozen? ⟨B,j,ν⟩=false:=U.frozen;have H2:Hid (Lk ((((Y.setCell ⟨B,6,ν⟩ (ι κ 1)).setCell ⟨B,2,ν⟩ (ι κ fs)).setCell ⟨B,3,ν⟩ (ι κ fm)).setCell ⟨B,7,ν⟩ (ι κ 255)) B (Ru fs fm fs fm qs qm 1 255 lf wt ow v)):=((((U.set 6 _).set 2 _).set 3 _).set 7 _)
 have G2:Hid (w.grownBy ((((Y.setCell ⟨B,6,ν⟩ (ι κ 1)).setCell ⟨B,2,ν⟩ (ι κ fs)).setCell ⟨B,3,ν⟩ (ι κ fm)).setCell ⟨B,7,ν⟩ (ι κ 255)) (μ B)):=(oN (oN (oN (oN ke 6 _) 2 _) 3 _) 7 _)
 have D0:Hid (((((Y.setCell ⟨B,6,ν⟩ (ι κ 1)).setCell ⟨B,2,ν⟩ (ι κ fs)).setCell ⟨B,3,ν⟩ (ι κ fm)).setCell ⟨B,7,ν⟩ (ι κ 255)).cell? ⟨Z,0,ν⟩=μ (ι κ code)):=by show _=_;rw[aL _ _ _ _ V,aL _ _ _ _ V,aL _ _ _ _ V,aL _ _ _ _ V];exact d0
 have y:Hid (((((Y.setCell ⟨B,6,ν⟩ (ι κ 1)).setCell ⟨B,2,ν⟩ (ι κ fs)).setCell ⟨B,3,ν⟩ (ι κ fm)).setCell ⟨B,7,ν⟩ (ι κ 255)).cell? ⟨Z,1,ν⟩=μ (ι κ id)):=by show _=_;rw[aL _ _ _ _ V,aL _ _ _ _ V,aL _ _ _ _ V,aL _ _ _ _ V];exact d1
 have D2:Hid (((((Y.setCell ⟨B,6,ν⟩ (ι κ 1)).setCell ⟨B,2,ν⟩ (ι κ fs)).setCell ⟨B,3,ν⟩ (ι κ fm)).setCell ⟨B,7,ν⟩ (ι κ 255)).cell? ⟨Z,2,ν⟩=μ (σ a n cap)):=by show _=_;rw[aL _ _ _ _ V,aL _ _ _ _ V,aL _ _ _ _ V,aL _ _ _ _ V];exact d2
 go_wp2_with(fail);obtain⟨T,J⟩:=fW ((((Y.setCell ⟨B,6,ν⟩ (ι κ 1)).setCell ⟨B,2,ν⟩ (ι κ fs)).setCell ⟨B,3,ν⟩ (ι κ fm)).setCell ⟨B,7,ν⟩ (ι κ 255));have h2:Lk T B (Ru fs fm fs fm qs qm 1 255 lf wt ow v):=by rw[<-J];exact H2.out
 have AH:w.grownBy T (μ B):=by rw[<-J];exact G2.out
 have d0:T.cell? ⟨Z,0,ν⟩=μ (ι κ code):=by rw[<-J];exact D0.out
 have d1:T.cell? ⟨Z,1,ν⟩=μ (ι κ id):=by rw[<-J];exact y.out
 have d2:T.cell? ⟨Z,2,ν⟩=μ (σ a n cap):=by rw[<-J];exact D2.out
 rw[J];clear H2 G2 D0 y D2 J fz VY D U ke c0 c1 c2 c3 c7;have IA:Z<T.heap.size:=af T _ d0;refine bV 2 ?_;rw[bK]
 go_wp2
 go_region_with(go_at_call 208;refine(O5 B 115 code id a n cap _ dX dX dX dX dX dX dX).mono ?_;rintro e V0 ⟨rfl,k0⟩)
 all_goals
  have L0:=(h2.drew).below k0;have g0:=AK AH (AK (rH B (jt (au _ _))) (rH B k0));go_wp2_with(fail);rw[bK]
  go_wp2
  go_ret;exact⟨rfl,L0,g0⟩
theorem SP(B:Nat)(fs fm ns nm qs qm sz lf wt ow:Int)(v:dT)(w:dR)(Z:iV w)(h:Lk w B (Ru fs fm ns nm qs qm 0 sz lf wt ow v)):
 eT eU 120 #[π (μ ⟨B,0,ν⟩),ι κ 2] w λe w'=>e=ρ η/\Lk w' B (Ru fs fm fs fm qs qm 1 255 lf wt ow v)/\w.grownBy w' (μ B):=by
 have hz:=rM;have hc:=LP B fs fm ns nm qs qm sz lf wt ow 0 0 v ν 0 0 w Z h;clear h Z
 go_in
 go_wp2_with(fail);refine hc.mono ?_;rintro e w1 ⟨rfl,V,Y⟩
 go_wp2
 go_ret;exact⟨rfl,V,Y⟩
