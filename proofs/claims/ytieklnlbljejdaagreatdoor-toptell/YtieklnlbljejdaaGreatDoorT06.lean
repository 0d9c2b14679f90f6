import Derived.Test.YtieklnlbljejdaaGreatDoorT05
open Go.Value renaming int → ι, slice → σ, pointer → π, tuple → τ, nilIface → η
open Go.IntKind renaming i64 → κ
open Go.Ending renaming returned → ρ
open Go.Obj renaming cells → γ
open Option renaming none → ν, some → μ
open Go renaming World → dN, Value → dO, Calls → eM
open Go.Proofs.Tryz renaming prog → eN
open Go.Value renaming ownBlock → dQ
open Go.RowKit renaming intOf → eP
open And renaming intro → fD
set_option maxRecDepth 100000
set_option maxHeartbeats 8000000
namespace Go.Proofs.YtieklnlbljejdaaGreatDoor
open Go.RowKit
variable {B:Nat} {X:Nat->Prop} {v:Value} {w w':World}
abbrev kr:=Int×Int×List jv
def PV.abs(p:PV):kr:=(p.code,p.id,p.os)
def LS.asked(s:LS):LS:={s with lf:=s.lf-1,wt:=3,ow:=(s.ow+1) %256}
def oG(c:UInt8)(s:LS):LS:=
 if c=105 then {s with lf:=4}else if c=122 then {s with lf:=0,wt:=3}else if c=114 then({s with qs:=s.ns,qm:=s.nm}:LS).asked else if c=116 then s.asked else s
def CV(c:UInt8)(s:LS)(vX:kr):List kr:=
 if c=114 then [(1,(s.ow+1) %256,nk s.ns s.nm)]else if c=116 then [(5,(s.ow+1) %256,[])]else if c=97 \/c=110 then [vX]else if c=107 then [(6,vX.2.1,[])]else []
def pw:List UInt8->LS->LS
 |[],s=>s
 |c::r,s=>pw r (oG c s)
def vY:List UInt8->LS->kr->List kr
 |[],_,_=>[]
 |c::r,s,vX=>CV c s vX++vY r (oG c s) vX
structure Bd(s:LS)(n:Int):Prop where
 o1:0<=s.ow
 o2:s.ow<=255
 l1: -n<=s.lf
 l2:s.lf<=n
theorem Bd.act {s:LS} {n:Int} (h:Bd s n)(hn:4<=n)(c:UInt8):Bd (oG c s) (n+1):=by
 obtain⟨a,b,d,e⟩:=h;unfold oG;split
 ·exact⟨a,b,by simp;omega,by simp;omega⟩
 ·split
  ·exact⟨a,b,by simp;omega,by simp;omega⟩
  ·split
   ·exact⟨by simp[LS.asked];omega,by simp[LS.asked];omega,by simp[LS.asked];omega,by simp[LS.asked];omega⟩
   ·split
    ·exact⟨by simp[LS.asked];omega,by simp[LS.asked];omega,by simp[LS.asked];omega,by simp[LS.asked];omega⟩
    ·exact⟨a,b,dP,dP⟩
structure mF(w w':dN)(B:Nat)(X:Nat->Prop)(s':LS)(v:dO)(ps:List PV)(out:List kr):Prop where
 more:∃v' qs,pK w' B X s' v' (ps++qs)/\qs.map PV.abs=out/\(∀g,v'.ownBlock=μ g->v.ownBlock=μ g \/w.heap.size<=g)
 kept:Kept w w' B v.ownBlock
theorem pK.kG {s:LS} {ps:List PV} (h:pK w B X s v ps)(j:Nat)(x:dO)(s':LS)(hs:(s.c v).setIfInBounds j x=s'.c v):pK (w.setCell ⟨B,j,ν⟩ x) B X s' v ps:=by
 have Z:Kept w (w.setCell ⟨B,j,ν⟩ x) B v.ownBlock:=j8 (Kept.refl w B _) j x;refine⟨?_,h.row.keep Z.size (λk U=> ?_),h.own,h.self,λk Y=>Nat.lt_of_lt_of_le (h.old k Y) Z.size,λp V=>(h.pk p V).kept h.self Z (λ_ e=>.inl e)⟩
 ·have:=h.lk.set j x;rw[hs]at this;exact this
 ·exact ak _ _ _ k (λe=>h.ne (by rw[U];exact congrArg μ e))
theorem Lp(B:Nat)(X:Nat->Prop)(s:LS)(v:dO)(ps:List PV)(code:Int)(a:Option Addr)(n cap:Nat)(os:List jv)(w:dN)(h:pK w B X s v ps)(hb:Bd s 1000)(Y:tD w X v ⟨code,(s.ow+1) %256,a,n,cap,os⟩)(J:ps.length<=100):
 eM eN 223 #[π (μ ⟨B,0,ν⟩),ι κ code,σ a n cap] w λe w'=>e=ρ (τ #[])/\mF w w' B X s.asked v ps [(code,(s.ow+1) %256,os)] :=by
 obtain⟨fs,fm,ns,nm,qs,qm,st,sz,lf,wt,ow⟩:=s;obtain⟨o1,o2,l1,l2⟩:=hb;simp only at o1 o2 l1 l2 Y;have c8:w.cell? ⟨B,8,ν⟩=μ (ι κ lf):=h.lk.cell 8;have c9:w.cell? ⟨B,9,ν⟩=μ (ι κ wt):=h.lk.cell 9;have OY:w.cell? ⟨B,10,ν⟩=μ (ι κ ow):=h.lk.cell 10;have fz:∀j,w.frozen? ⟨B,j,ν⟩=false:=h.lk.frozen;have hl:=h.lk.lt;have T:pK (((w.setCell ⟨B,10,ν⟩ (ι κ ((ow+1) %256))).setCell ⟨B,8,ν⟩ (ι κ (lf-1))).setCell ⟨B,9,ν⟩ (ι κ 3)) B X ⟨fs,fm,ns,nm,qs,qm,st,sz,lf-1,3,(ow+1) %256⟩ v ps:=
  ((h.kG 10 _ ⟨fs,fm,ns,nm,qs,qm,st,sz,lf,wt,(ow+1) %256⟩ rfl).kG 8 _ ⟨fs,fm,ns,nm,qs,qm,st,sz,lf-1,wt,(ow+1) %256⟩ rfl).kG 9 _ _ rfl
 have Z:Kept w (((w.setCell ⟨B,10,ν⟩ (ι κ ((ow+1) %256))).setCell ⟨B,8,ν⟩ (ι κ (lf-1))).setCell ⟨B,9,ν⟩ (ι κ 3)) B v.ownBlock:=j8 (j8 (j8 (Kept.refl w B _) 10 _) 8 _) 9 _;have V:=Y.kept h.self Z (λ_ e=>.inl e);have U:=EE B X _ v ps ⟨code,(ow+1) %256,a,n,cap,os⟩ _ T V J;clear h T Y V
 go_in
 go_wp2_with(fail);refine U.mono ?_;rintro e w1 ⟨rfl,v',Q,S,hv⟩;clear U
 go_wp2
 first|go_end0|refine iq rfl rfl ?_
 refine⟨rfl,⟨v',[_],Q,rfl,λg M=> ?_⟩,Z.trans S (λi e=>.inl e)⟩;rcases hv g M with e|e
 ·exact .inl e
 ·exact .inr (Nat.le_trans Z.size e)
theorem mF.from {x:dN} {s':LS} {ps:List PV} {out:List kr} (h:mF x w' B X s' v ps out)(Z:Kept w x B v.ownBlock):mF w w' B X s' v ps out:=by
 obtain⟨⟨v',qs,V,T,hv⟩,Y⟩:=h;refine⟨⟨v',qs,V,T,λg U=> ?_⟩,Z.trans Y (λi e=>.inl e)⟩;rcases hv g U with e|e
 ·exact .inl e
 ·exact .inr (Nat.le_trans Z.size e)
theorem mF.still {s':LS} {ps:List PV} (h:pK w' B X s' v ps)(Z:Kept w w' B v.ownBlock):mF w w' B X s' v ps [] :=
 ⟨⟨v,[],by rw[aL];exact h,rfl,λ_ e=>.inl e⟩,Z⟩
theorem pG(w:dN)(X:Nat->Prop)(v:dO)(code id:Int):tD w X v ⟨code,id,ν,0,0,[]⟩:=
 ⟨iK.nil w ν,λ_=>rfl,Nat.le_refl _,Nat.zero_le _,λk Z=>by simp[sE]at Z⟩
theorem ER {w0:dN} {u:dO} {l:List jv} (code id:Int)(Z:Made w0 w u l)(hl:l.length<=1000)(U:∀k,X k->k<w0.heap.size)(hv:∀k,v.ownBlock=μ k->k<w0.heap.size):
 ∃a n cap,u=σ a n cap/\tD w X v ⟨code,id,a,n,cap,l⟩:=by
 obtain⟨a,cap,rfl,S,Y⟩:=Z.shape;refine⟨a,l.length,cap,rfl,Z.opts.2,S,Y,hl,λk T=> ?_⟩;have V:dQ (σ a l.length cap)=μ k:=AK T;have h1:=Z.new k V;exact⟨λe=>by have:=U k e;omega,λe=>by have:=hv k e;omega,Z.row.lt k V⟩
theorem Dz(a b:Int):(nk a b).length<=1000:=by
 unfold nk;split<;>split<;>simp
theorem Am(c:UInt8)(B:Nat)(X:Nat->Prop)(s:LS)(v:dO)(ps:List PV)(p:PV)(w:dN)(h:pK w B X s v ps)(hb:Bd s 1000)(T:tD w X v p)(hn:ps.length<=100):
 eM eN 208 #[π (μ ⟨B,0,ν⟩),.int .u8 (c.toNat:Int),.agg #[ι κ p.code,ι κ p.id,σ p.a p.n p.cap]] w λe w'=>e=ρ (τ #[])/\mF w w' B X (oG c s) v ps (CV c s p.abs):=by
 have Z:=gM w (γ #[ι κ p.code,ι κ p.id,σ p.a p.n p.cap] 37);have hl:=h.lk.lt;have fz:∀j,w.frozen? ⟨B,j,ν⟩=false:=h.lk.frozen;have nb:∀k:UInt8,c≠k->((c.toNat:Int)==(k.toNat:Int))=false:=λk D=>by
  rw[cE];intro e;exact D (UInt8.toNat_inj.mp dP)
 by_cases c1:c=105
 ·subst c1;have M:Hid (pK (w.setCell ⟨B,8,ν⟩ (ι κ 4)) B X {s with lf:=4} v ps):=h.kG 8 _ _ rfl;have k1:Kept w (w.setCell ⟨B,8,ν⟩ (ι κ 4)) B v.ownBlock:=j8 (Kept.refl w B _) 8 _;have d8:w.cell? ⟨B,8,ν⟩=μ (ι κ s.lf):=h.lk.cell 8;have V:((105:UInt8).toNat:Int)=105:=rfl;rw[V];clear h T hb nb Z
  go_in
  go_wp2
  first|go_end0|refine iq rfl rfl ?_
  exact⟨rfl,mF.still (M.out.below (gM _ _)) (k1.trans (Kept.iD B v.ownBlock (gM _ _)) (λi e=>.inl e))⟩
 ·by_cases c2:c=122
  ·subst c2;have M:Hid (pK ((w.setCell ⟨B,8,ν⟩ (ι κ 0)).setCell ⟨B,9,ν⟩ (ι κ 3)) B X {s with lf:=0,wt:=3} v ps):=(h.kG 8 _ {s with lf:=0} rfl).kG 9 _ _ rfl;have k1:Kept w ((w.setCell ⟨B,8,ν⟩ (ι κ 0)).setCell ⟨B,9,ν⟩ (ι κ 3)) B v.ownBlock:=j8 (j8 (Kept.refl w B _) 8 _) 9 _;have d8:w.cell? ⟨B,8,ν⟩=μ (ι κ s.lf):=h.lk.cell 8;have d9:w.cell? ⟨B,9,ν⟩=μ (ι κ s.wt):=h.lk.cell 9;have V:((122:UInt8).toNat:Int)=122:=rfl;rw[V];clear h T hb nb Z c1
   go_in
   go_wp2
   first|go_end0|refine iq rfl rfl ?_
   exact⟨rfl,mF.still (M.out.below (gM _ _)) (k1.trans (Kept.iD B v.ownBlock (gM _ _)) (λi e=>.inl e))⟩
  ·by_cases c3:c=114
   ·subst c3;have M:Hid (pK ((w.setCell ⟨B,4,ν⟩ (ι κ s.ns)).setCell ⟨B,5,ν⟩ (ι κ s.nm)) B X {s with qs:=s.ns,qm:=s.nm} v ps):=(h.kG 4 _ {s with qs:=s.ns} rfl).kG 5 _ _ rfl;have k1:Kept w ((w.setCell ⟨B,4,ν⟩ (ι κ s.ns)).setCell ⟨B,5,ν⟩ (ι κ s.nm)) B v.ownBlock:=j8 (j8 (Kept.refl w B _) 4 _) 5 _;have d2:w.cell? ⟨B,2,ν⟩=μ (ι κ s.ns):=h.lk.cell 2;have d3:w.cell? ⟨B,3,ν⟩=μ (ι κ s.nm):=h.lk.cell 3;have d4:w.cell? ⟨B,4,ν⟩=μ (ι κ s.qs):=h.lk.cell 4;have d5:w.cell? ⟨B,5,ν⟩=μ (ι κ s.qm):=h.lk.cell 5;have V:((114:UInt8).toNat:Int)=114:=rfl;have TE:=h.row.lt;have Mu:=h.old;rw[V];clear h T nb Z c1 c2
    go_in
    go_wp2_with(fail);refine(Gd s.ns s.nm _).mono ?_;rintro e w1 ⟨u,rfl,t⟩;have Bf:w.heap.size<=(((w.setCell ⟨B,4,ν⟩ (ι κ s.ns)).setCell ⟨B,5,ν⟩ (ι κ s.nm)).alloc (γ #[ι κ p.code,ι κ p.id,σ p.a p.n p.cap] 37)).heap.size:=gN;obtain⟨a',n',jd,rfl,hP⟩:=ER (X:=X) (v:=v) 1 ((s.ow+1) %256) t (Dz _ _) (λk D=>Nat.lt_of_lt_of_le (Mu k D) Bf) (λk D=>Nat.lt_of_lt_of_le (TE k D) Bf);have R2:=(M.out.below (gM _ _)).below t.below;have K2:=k1.trans (Kept.iD B v.ownBlock (gD (gM _ (γ #[ι κ p.code,ι κ p.id,σ p.a p.n p.cap] 37)) t.below)) (λi e=>.inl e);have Y:=Lp B X {s with qs:=s.ns,qm:=s.nm} v ps 1 a' n' jd (nk s.ns s.nm) w1 R2 ⟨hb.o1,hb.o2,hb.l1,hb.l2⟩ hP hn;clear M d2 d3 d4 d5 fz t R2 hP Bf;go_wp2_with(fail);refine Y.mono ?_;rintro e Q ⟨rfl,hW⟩;clear Y
    go_wp2
    first|go_end0|refine iq rfl rfl ?_
    exact⟨rfl,hW.from K2⟩
   ·by_cases c4:c=116
    ·subst c4;have U:=h.below Z;have Y:=Lp B X s v ps 5 ν 0 0 [] _ U hb (pG _ _ _ _ _) hn;have S:=Kept.iD B v.ownBlock Z;have V:((116:UInt8).toNat:Int)=116:=rfl;rw[V];clear h T nb Z c1 c2 c3 U
     go_in
     go_wp2_with(fail);refine Y.mono ?_;rintro e Q ⟨rfl,hW⟩;clear Y
     go_wp2
     first|go_end0|refine iq rfl rfl ?_
     exact⟨rfl,hW.from S⟩
    ·by_cases J:c=107
     ·subst J;have U:=h.below Z;have Y:=EE B X s v ps ⟨6,p.id,ν,0,0,[]⟩ _ U (pG _ _ _ _ _) hn;have S:=Kept.iD B v.ownBlock Z;have V:((107:UInt8).toNat:Int)=107:=rfl;have hz:∀w:dN,(zeroValue 37).run eN w=.ok (.agg #[ι κ 0,ι κ 0,σ ν 0 0]) w:=λw=>gJ;rw[V];clear h T nb Z c1 c2 c3 c4 U
      go_in
      go_wp2_with(fail);refine Y.mono ?_;rintro e Q ⟨rfl,v',E,G,hv⟩;clear Y
      go_wp2
      first|go_end0|refine iq rfl rfl ?_
      exact⟨rfl,(show mF _ Q B X s v ps [(6,p.id,[])]from⟨⟨v',[_],E,rfl,hv⟩,G⟩).from S⟩
     ·have U:=h.below Z;have A:=T.kept h.self (Kept.iD B v.ownBlock Z) (λ_ e=>.inl e);have Y:=EE B X s v ps p _ U A hn;have S:=Kept.iD B v.ownBlock Z;by_cases H:c=97
      ·subst H;have V:((97:UInt8).toNat:Int)=97:=rfl;rw[V];clear h T nb Z c1 c2 c3 c4 J U A
       go_in
       go_wp2_with(fail);refine Y.mono ?_;rintro e Q ⟨rfl,v',E,G,hv⟩;clear Y
       go_wp2
       first|go_end0|refine iq rfl rfl ?_
       exact⟨rfl,(show mF _ Q B X s v ps [p.abs]from⟨⟨v',[_],E,rfl,hv⟩,G⟩).from S⟩
      ·by_cases y:c=110
       ·subst y;have V:((110:UInt8).toNat:Int)=110:=rfl;rw[V];clear h T nb Z c1 c2 c3 c4 J H U A
        go_in
        go_wp2_with(fail);refine Y.mono ?_;rintro e Q ⟨rfl,v',E,G,hv⟩;clear Y
        go_wp2
        first|go_end0|refine iq rfl rfl ?_
        exact⟨rfl,(show mF _ Q B X s v ps [p.abs]from⟨⟨v',[_],E,rfl,hv⟩,G⟩).from S⟩
       ·have hS:oG c s=s:=by simp[oG,c1,c2,c3,c4]
        have hO:CV c s p.abs=[] :=by simp[CV,c3,c4,J,H,y]
        have q1:((c.toNat:Int)==105)=false:=nb 105 c1;have q2:((c.toNat:Int)==122)=false:=nb 122 c2;have q3:((c.toNat:Int)==114)=false:=nb 114 c3;have q4:((c.toNat:Int)==116)=false:=nb 116 c4;have q5:((c.toNat:Int)==107)=false:=nb 107 J;have q6:((c.toNat:Int)==97)=false:=nb 97 H;have q7:((c.toNat:Int)==110)=false:=nb 110 y;rw[hS,hO];have HR:Hid _:=U;clear h T nb Z c1 c2 c3 c4 J H y U A Y hS hO
        go_in
        go_wp2
        first|go_end0|refine iq rfl rfl ?_
        exact⟨rfl,mF.still HR.out S⟩
def LS.next(s:LS)(nx:Int):LS:=if nx<=3 then {s with st:=nx,ns:=s.fs,nm:=s.fm,sz:=255}else {s with st:=nx}
theorem Kept.tab {o:Option Nat} (k:Kept w w' B o)(h:iQ w)(hB:B≠0)(Y:o≠μ 0):iQ w':=λe s Z hs=>
 (ai (a:=⟨0,e*10+s,ν⟩) (k.block 0 h.lt dP Y)).trans (h e s Z hs)
theorem Lq(B:Nat)(X:Nat->Prop)(s:LS)(v:dO)(ps:List PV)(p:PV)(ev:Int)(D:List UInt8)(nx:Int)(f:Nat)(w:dN)(Y:iQ w)(h:pK w B X s v ps)(T:iN s.st ev=(D,nx,f))(hf:f≠0):
 eM eN 171 #[π (μ ⟨B,0,ν⟩),ι κ ev,.agg #[ι κ p.code,ι κ p.id,σ p.a p.n p.cap]] w λe w'=>e=ρ (.iface 128 (ι κ (f:Int)))/\dV w w':=by
 have V:=gM w (γ #[ι κ p.code,ι κ p.id,σ p.a p.n p.cap] 37);have U:=Ey s.st ev D nx f T _ (Y.below V);have Z:iP f=.iface 128 (ι κ (f:Int)):=by simp[iP,hf]
 rw[Z]at U;have hl:=h.lk.lt;have c6:w.cell? ⟨B,6,ν⟩=μ (ι κ s.st):=h.lk.cell 6;clear h Y Z
 go_in
 go_wp2_with(fail);refine U.mono ?_;rintro e w1 ⟨rfl,m1,rfl⟩
 go_wp2
 go_ret;exact⟨rfl,below_drewN V _⟩
structure MY(w wr:dN)(B:Nat)(X:Nat->Prop)(Z:Nat)(v:dO)(ps:List PV)(p:PV)(S:ByteArray)(k:Nat)(sF:LS)(oF:List kr)(sk:LS)(vk:dO)(qs:List PV):Prop where
 rep:pK wr B X sk vk (ps++qs)
 bd:Bd sk (100+k)
 fin:pw (S.data.toList.drop k) sk=sF
 out:qs.map PV.abs++vY (S.data.toList.drop k) sk p.abs=oF
 vX:tD wr X vk p
 kept:Kept w wr B v.ownBlock
 hv:∀g,vk.ownBlock=μ g->v.ownBlock=μ g \/w.heap.size<=g
 d0:wr.cell? ⟨Z,0,ν⟩=μ (ι κ p.code)
 d1:wr.cell? ⟨Z,1,ν⟩=μ (ι κ p.id)
 d2:wr.cell? ⟨Z,2,ν⟩=μ (σ p.a p.n p.cap)
 nz:vk.ownBlock≠μ Z
 few:qs.length<=k
theorem GG(c:UInt8)(s:LS)(a:kr):(CV c s a).length<=1:=by
 unfold CV;split
 ·simp
 ·split
  ·simp
  ·split
   ·simp
   ·split<;>simp
theorem GH {wr V:dN} {Z:Nat} {ps:List PV} {p:PV} {S:ByteArray} {k:Nat} {sF:LS} {oF:List kr} {sk:LS} {vk:dO} {qs:List PV} {c:UInt8} {r:List UInt8}
 (Y:MY w wr B X Z v ps p S k sF oF sk vk qs) (J:S.data.toList.drop k=c::r) (h:mF wr.drew V B X (oG c sk) vk (ps++qs) (CV c sk p.abs)) (y:dV wr wr.drew):
 ∃v2 q2,MY w V B X Z v ps p S (k+1) sF oF (oG c sk) v2 q2:=by
 obtain⟨⟨v2,q2,t,D,hv⟩,u⟩:=h;have A:S.data.toList.drop (k+1)=r:=by
  have:=congrArg (List.drop 1) J;simpa using this
 have Q:Kept wr V B vk.ownBlock:=(Kept.iD B vk.ownBlock y).trans u (λi e=>.inl e);have T:∀j,V.cell? ⟨Z,j,ν⟩=wr.cell? ⟨Z,j,ν⟩:=λj=>ai (a:=⟨Z,j,ν⟩) (Q.block Z (af wr _ Y.d0) (λe=>by
  subst e;have U:=Y.d0;have G:=Y.d1;have M:=Y.d2;have E:wr.cell? ⟨Z,2,ν⟩=μ (ι κ sk.ns):=Y.rep.lk.cell 2;rw[M]at E;simp at E) Y.nz)
 have pY:wr.drew.heap.size=wr.heap.size:=rfl;refine⟨v2,qs++q2,by rw[<-az];exact t,?_,?_,?_,?_,?_,?_,(T 0).trans Y.d0,(T 1).trans Y.d1,(T 2).trans Y.d2,?_,?_⟩
 ·have:=Bd.act Y.bd dP c;exact⟨this.o1,this.o2,by have:=this.l1;push_cast;omega,by have:=this.l2;push_cast;omega⟩
 ·rw[A,<-Y.fin,J];rfl
 ·rw[A,<-Y.out,J,bY,D,az];rfl
 ·exact Y.vX.kept Y.rep.self Q (λg H=>hv g H)
 ·refine Y.kept.trans Q (λi e=> ?_);rcases Y.hv i e with U|U
  ·exact .inl U
  ·exact .inr U
 ·intro g H;rcases hv g H with U|U
  ·exact Y.hv g U
  ·exact .inr (Nat.le_trans Y.kept.size U)
 ·intro e;rcases hv Z e with U|U
  ·exact Y.nz U
  ·have M:Z<wr.heap.size:=af wr _ Y.d0;have G:wr.heap.size<=Z:=U;omega
 ·rw[ay];have U:q2.length=(CV c sk p.abs).length:=by rw[<-D];simp
  have G:=GG c sk p.abs;have M:=Y.few;omega
theorem P9(B:Nat)(X:Nat->Prop)(s:LS)(v:dO)(ps:List PV)(p:PV)(ev:Int)(S:ByteArray)(nx:Int)(w:dN)(hT:iQ w)(h:pK w B X s v ps)(hb:Bd s 100)(hp:tD w X v p)(hn:ps.length<=50)(hR:iN s.st ev=(S.data.toList,nx,0))(hS:S.size<=4):
 eM eN 171 #[π (μ ⟨B,0,ν⟩),ι κ ev,.agg #[ι κ p.code,ι κ p.id,σ p.a p.n p.cap]] w λe w'=>e=ρ η/\mF w w' B X (pw S.data.toList (s.next nx)) v ps (vY S.data.toList (s.next nx) p.abs):=by
 have D:=gM w (γ #[ι κ p.code,ι κ p.id,σ p.a p.n p.cap] 37);have hA:=λj=>aj w #[ι κ p.code,ι κ p.id,σ p.a p.n p.cap] 37 (0,0) j;have jX:=Ey s.st ev S.data.toList nx 0 hR _ (hT.below D);have e0:iP 0=η:=rfl;have eS:(⟨S.data.toList.toArray⟩:ByteArray)=S:=gN;rw[e0,eS]at jX;have hl:=h.lk.lt;have TE:=h.row.lt;have c6:w.cell? ⟨B,6,ν⟩=μ (ι κ s.st):=h.lk.cell 6;have h0:=h.below D;have hp0:=hp.kept h.self (Kept.iD B v.ownBlock D) (λ_ e=>.inl e);obtain⟨Q,y⟩:=fP (pw S.data.toList (s.next nx));obtain⟨M,A⟩:=fP (vY S.data.toList (s.next nx) p.abs);rw[y,A];have HsF:Hid _:=y;have HoF:Hid _:=A;clear y A
 go_in
 go_wp2_with(fail);refine jX.mono ?_;rintro e w1 ⟨rfl,m1,rfl⟩;obtain⟨U,t⟩:=fP ((w.alloc (γ #[ι κ p.code,ι κ p.id,σ p.a p.n p.cap] 37)).drewN m1);obtain⟨Z,hZ⟩:=fP (w.heap.size);have d0:U.cell? ⟨Z,0,ν⟩=μ (ι κ p.code):=by rw[<-t,<-hZ];exact hA 0
 have d1:U.cell? ⟨Z,1,ν⟩=μ (ι κ p.id):=by rw[<-t,<-hZ];exact hA 1
 have d2:U.cell? ⟨Z,2,ν⟩=μ (σ p.a p.n p.cap):=by rw[<-t,<-hZ];exact hA 2
 have jV:dV w U:=by rw[<-t];exact below_drewN D m1
 have T:pK U B X s v ps:=h.below jV;have CL:tD U X v p:=hp.kept h.self (Kept.iD B v.ownBlock jV) (λ_ e=>.inl e);have SQ:=Kept.iD B v.ownBlock jV;rw[t,hZ];have vZ:B≠Z:=dP;have hnz:v.ownBlock≠μ Z:=λe=>by have:=TE Z e;omega
 clear jX t hZ hA h0 D h c6 hl e0 eS hT hp hp0 jV TE;have Tr:=T.lk.lt;have c0:U.cell? ⟨B,0,ν⟩=μ (ι κ s.fs):=T.lk.cell 0;have c1:U.cell? ⟨B,1,ν⟩=μ (ι κ s.fm):=T.lk.cell 1;have c2:U.cell? ⟨B,2,ν⟩=μ (ι κ s.ns):=T.lk.cell 2;have c3:U.cell? ⟨B,3,ν⟩=μ (ι κ s.nm):=T.lk.cell 3;have c6:U.cell? ⟨B,6,ν⟩=μ (ι κ s.st):=T.lk.cell 6;have c7:U.cell? ⟨B,7,ν⟩=μ (ι κ s.sz):=T.lk.cell 7;have fz:∀j,U.frozen? ⟨B,j,ν⟩=false:=T.lk.frozen;have tail:∀(G:dN) (s2:LS),pK G B X s2 v ps->Kept U G B v.ownBlock->s.next nx=s2->Bd s2 100->MY w G B X Z v ps p S 0 Q M s2 v [] :=by
  intro G s2 GF CW Zx lR;have Bg:∀j,G.cell? ⟨Z,j,ν⟩=U.cell? ⟨Z,j,ν⟩:=λj=>ai (a:=⟨Z,j,ν⟩) (CW.block Z (af U _ d0) (λe=>vZ e.symm) hnz);exact⟨by rw[aL];exact GF,⟨lR.o1,lR.o2,by have:=lR.l1;omega,by have:=lR.l2;omega⟩,by rw[<-HsF.out,Zx];rfl,by rw[<-HoF.out,Zx];rfl,CL.kept T.self CW (λ_ e=>.inl e),SQ.trans CW (λi e=>.inl e),λ_ e=>.inl e,(Bg 0).trans d0,(Bg 1).trans d1,(Bg 2).trans d2,hnz,Nat.le_refl _⟩
 have HT:Hid _:=tail;clear tail;clear HsF HoF;by_cases hx:nx<=3
 ·have M0:Hid (MY w ((((U.setCell ⟨B,6,ν⟩ (ι κ nx)).setCell ⟨B,2,ν⟩ (ι κ s.fs)).setCell ⟨B,3,ν⟩ (ι κ s.fm)).setCell ⟨B,7,ν⟩ (ι κ 255)) B X Z v ps p S 0 Q M {s with st:=nx,ns:=s.fs,nm:=s.fm,sz:=255} v []):=
   HT.out _ _ ((((T.kG 6 _ {s with st:=nx} rfl).kG 2 _ {s with st:=nx,ns:=s.fs} rfl).kG 3 _ {s with st:=nx,ns:=s.fs,nm:=s.fm} rfl).kG 7 _ _ rfl) (j8 (j8 (j8 (j8 (Kept.refl _ B _) 6 _) 2 _) 3 _) 7 _) (by simp[LS.next,hx]) ⟨hb.o1,hb.o2,hb.l1,hb.l2⟩
  clear HT T SQ CL;go_wp2_with(fail);obtain⟨G,u⟩:=fP (((((U.setCell ⟨B,6,ν⟩ (ι κ nx)).setCell ⟨B,2,ν⟩ (ι κ s.fs)).setCell ⟨B,3,ν⟩ (ι κ s.fm)).setCell ⟨B,7,ν⟩ (ι κ 255)));have M1:Hid (MY w G B X Z v ps p S 0 Q M {s with st:=nx,ns:=s.fs,nm:=s.fm,sz:=255} v []):=by show MY _ _ _ _ _ _ _ _ _ _ _ _ _ _ _;rw[<-u];exact M0.out
  rw[u];clear M0 u d0 d1 d2 c0 c1 c2 c3 c6 c7 fz
  go_loopw [42] (λi wr=>∃(k:Nat) (J:LS) (H:dO) (qs:List PV),k<=S.size/\i=ι κ k/\MY w wr B X Z v ps p S k Q M J H qs) (λi _=>S.size-(eP i).toNat)
  case atStart=>exact⟨0,_,v,[],Nat.zero_le _,rfl,M1.out⟩
  case round=>
   obtain⟨k,J,H,qs,D,rfl,Y⟩:=hrel;by_cases kc:k<S.size
   ·have nh:(k:Int)<(S.size:Int):=dP;have FO:(0:Int)<=(k:Int):=dP;have HD:Hid (S.data.toList.drop k=S[k] ::S.data.toList.drop (k+1)):=by
     show _=_;rw[aO (by simpa using kc)];rfl
    obtain⟨x0,x1,x2⟩:=fD Y.d0 (fD Y.d1 Y.d2);have xl:Z<wr.heap.size:=af wr _ x0;have E:dV wr wr.drew:=iZ (aq _ _);have HC:=Am S[k] B X J H (ps++qs) p wr.drew (Y.rep.below E) ⟨Y.bd.o1,Y.bd.o2,by have:=Y.bd.l1;omega,by have:=Y.bd.l2;omega⟩ (Y.vX.kept Y.rep.self (Kept.iD B H.ownBlock E) (λ_ e=>.inl e)) (by rw[ay];have:=Y.few;omega)
    go_wp2
    go_region_with(go_at_call 208;refine HC.mono ?_;rintro e V ⟨rfl,hW⟩)
    all_goals
     have M2:Hid (∃v2 q2,MY w V B X Z v ps p S (k+1) Q M (oG S[k] J) v2 q2):=GH Y HD.out hW E;clear HC
     go_wp2
     go_roundw
     case rel=>
      obtain⟨v2,q2,rL⟩:=M2.out;exact⟨k+1,_,v2,q2,dP,by go_num,rL⟩
     case measure=>simp[eP];omega
   ·have Lg:S.data.toList.drop k=[] :=aU (by
     have:S.data.toList.length=S.size:=gN;omega)
    have HF:Hid (mF w wr B X Q v ps M):=by
     have T:=Y.fin;have h2:=Y.out;rw[Lg]at T h2;have h3:J=Q:=T;subst h3;refine⟨⟨H,qs,Y.rep,by simpa[vY]using h2,Y.hv⟩,Y.kept⟩
    clear Y Lg
    go_wp2
    go_ret;exact⟨rfl,HF.out⟩
 ·have M0:Hid (MY w (U.setCell ⟨B,6,ν⟩ (ι κ nx)) B X Z v ps p S 0 Q M {s with st:=nx} v []):=
   HT.out _ _ (T.kG 6 _ _ rfl) (j8 (Kept.refl _ B _) 6 _) (by simp[LS.next,hx]) ⟨hb.o1,hb.o2,hb.l1,hb.l2⟩
  clear HT T SQ CL;go_wp2_with(fail);obtain⟨G,u⟩:=fP ((U.setCell ⟨B,6,ν⟩ (ι κ nx)));have M1:Hid (MY w G B X Z v ps p S 0 Q M {s with st:=nx} v []):=by show MY _ _ _ _ _ _ _ _ _ _ _ _ _ _ _;rw[<-u];exact M0.out
  rw[u];clear M0 u d0 d1 d2 c0 c1 c2 c3 c6 c7 fz
  go_loopw [42] (λi wr=>∃(k:Nat) (J:LS) (H:dO) (qs:List PV),k<=S.size/\i=ι κ k/\MY w wr B X Z v ps p S k Q M J H qs) (λi _=>S.size-(eP i).toNat)
  case atStart=>exact⟨0,_,v,[],Nat.zero_le _,rfl,M1.out⟩
  case round=>
   obtain⟨k,J,H,qs,D,rfl,Y⟩:=hrel;by_cases kc:k<S.size
   ·have nh:(k:Int)<(S.size:Int):=dP;have FO:(0:Int)<=(k:Int):=dP;have HD:Hid (S.data.toList.drop k=S[k] ::S.data.toList.drop (k+1)):=by
     show _=_;rw[aO (by simpa using kc)];rfl
    obtain⟨x0,x1,x2⟩:=fD Y.d0 (fD Y.d1 Y.d2);have xl:Z<wr.heap.size:=af wr _ x0;have E:dV wr wr.drew:=iZ (aq _ _);have HC:=Am S[k] B X J H (ps++qs) p wr.drew (Y.rep.below E) ⟨Y.bd.o1,Y.bd.o2,by have:=Y.bd.l1;omega,by have:=Y.bd.l2;omega⟩ (Y.vX.kept Y.rep.self (Kept.iD B H.ownBlock E) (λ_ e=>.inl e)) (by rw[ay];have:=Y.few;omega)
    go_wp2
    go_region_with(go_at_call 208;refine HC.mono ?_;rintro e V ⟨rfl,hW⟩)
    all_goals
     have M2:Hid (∃v2 q2,MY w V B X Z v ps p S (k+1) Q M (oG S[k] J) v2 q2):=GH Y HD.out hW E;clear HC
     go_wp2
     go_roundw
     case rel=>
      obtain⟨v2,q2,rL⟩:=M2.out;exact⟨k+1,_,v2,q2,dP,by go_num,rL⟩
     case measure=>simp[eP];omega
   ·have Lg:S.data.toList.drop k=[] :=aU (by
     have:S.data.toList.length=S.size:=gN;omega)
    have HF:Hid (mF w wr B X Q v ps M):=by
     have T:=Y.fin;have h2:=Y.out;rw[Lg]at T h2;have h3:J=Q:=T;subst h3;refine⟨⟨H,qs,Y.rep,by simpa[vY]using h2,Y.hv⟩,Y.kept⟩
    clear Y Lg
    go_wp2
    go_ret;exact⟨rfl,HF.out⟩
theorem yr(a b:Option Addr)(ca G n m:Nat)(os qs:List jv)(w:dN)(M:iK w a n os)(hb:iK w b m qs)(hn:n<=1000000)(hm:m<=1000000):
 eM eN 230 #[σ a n ca,σ b m G] w λe w'=>e=ρ (.bool (decide (os=qs)))/\∃k,w'=w.drewN k:=by
 have hl:=M.1;have ED:=hb.1;by_cases H:n=m
 ·subst H;have heq:((n:Int) !=(n:Int))=false:=gN
  go_in
  go_wp2
  go_loopw [13] (λi wr=>∃k m:Nat,k<=n/\i=ι κ k/\os.take k=qs.take k/\wr=w.drewN m) (λi _=>n-(eP i).toNat)
  case atStart=>exact⟨0,0,Nat.zero_le _,rfl,rfl,rfl⟩
  case round=>
   obtain⟨k,m,hk,rfl,Q,rfl⟩:=hrel;have S:Hid _:=Q;clear Q;by_cases kc:k<n
   ·rcases M.2 with hA|⟨b1,o1,rfl,hA⟩
    ·omega
    rcases hb.2 with V|⟨b2,o2,rfl,V⟩
    ·omega
    obtain⟨c1,c2⟩:=hA k dP;obtain⟨c3,c4⟩:=V k dP;have U:Hid (os.take (k+1)=os.take k++ [os[k]'(by omega)]):=aw dP;have T:Hid (qs.take (k+1)=qs.take k++ [qs[k]'(by omega)]):=aw dP;have Y:Hid (os=qs->os[k]'(by omega)=qs[k]'(by omega)):=λh=>by subst h;rfl
    clear hA V;generalize os[k]'(by omega)=o at c1 c2 U Y;generalize qs[k]'(by omega)=q at c3 c4 T Y;have nh:(k:Int)<(n:Int):=dP;cases q1:(o.1==q.1)
    ·have Z:Hid (decide (os=qs)=false):=by
      show _=_;rw[bz];intro h;have:=Y.out h;rw[this]at q1;simp at q1
     go_wp2
     go_quiet(fail)
     go_wp2_with(fail);rw[Z.out];go_ret;exact⟨rfl,_,drewN_drewN _ _ _⟩
    ·cases q2:(o.2==q.2)
     ·have Z:Hid (decide (os=qs)=false):=by
       show _=_;rw[bz];intro h;have:=Y.out h;rw[this]at q2;simp at q2
      go_wp2
      go_quiet(fail)
      go_wp2_with(fail);rw[Z.out];go_ret;exact⟨rfl,_,drewN_drewN _ _ _⟩
     ·have J:Hid (os.take (k+1)=qs.take (k+1)):=by
       show _=_;rw[U.out,T.out,S.out];simp at q1 q2;congr 2;exact bn q1 q2
      go_wp2
      go_quiet(fail)
      go_wp2
      go_roundw
      case rel=>exact⟨k+1,_,dP,by go_num,J.out,rfl⟩
      case measure=>simp[eP];omega
   ·have A:decide (os=qs)=true:=by
     have E:os.take k=os:=aC dP;have D:qs.take k=qs:=aC dP;have:=S.out;rw[E,D]at this;simp[this]
    go_wp2_with(fail);rw[A];go_ret;exact⟨rfl,m,rfl⟩
 ·have heq:((n:Int) !=(m:Int))=true:=by simp;omega
  have Z:decide (os=qs)=false:=by
   rw[bz];intro h;subst h;omega
  rw[Z]
  go_in
  go_wp2
  go_ret;exact⟨rfl,0,rfl⟩
def mX(s:LS)(ev:Int):LS:=pw (iN s.st ev).1 (s.next (iN s.st ev).2.1)
def oA(s:LS)(ev:Int)(vX:kr):List kr:=vY (iN s.st ev).1 (s.next (iN s.st ev).2.1) vX
theorem yt(s e:Int):(iN s e).1.length<=4:=by
 unfold iN;split
 ·simp
 ·rename_i h
  exact(show∀e,e<12->∀s,s<10->(kF s e).1.length<=4 by decide+kernel) e.toNat dP s.toNat dP
theorem xh(B:Nat)(X:Nat->Prop)(s:LS)(v:dO)(ps:List PV)(p:PV)(ev:Int)(w:dN)(Y:iQ w)(h:pK w B X s v ps)(hb:Bd s 100)(U:tD w X v p)(V:ps.length<=50)(hf:(iN s.st ev).2.2=0):
 eM eN 171 #[π (μ ⟨B,0,ν⟩),ι κ ev,.agg #[ι κ p.code,ι κ p.id,σ p.a p.n p.cap]] w λe w'=>e=ρ η/\mF w w' B X (mX s ev) v ps (oA s ev p.abs):=by
 have hl:=yt s.st ev;unfold mX oA;obtain⟨D,nx,f,Z⟩:∃D nx f,iN s.st ev=(D,nx,f):=⟨_,_,_,rfl⟩
 rw[Z]at hf hl⊢;simp only at hf hl⊢;subst hf;exact P9 B X s v ps p ev ⟨D.toArray⟩ nx w Y h hb U V Z (by show D.toArray.size<=4;simpa using hl)
def mr:List jv->Int
 |[] =>255
 |o::r=>if o.1=1 then o.2 else mr r
theorem JA(a:Option Addr)(n cap:Nat)(os:List jv)(w:dN)(hn:n<=1000000)(U:iK w a n os):
 eM eN 229 #[σ a n cap] w λe w'=>e=ρ (ι κ (mr os))/\dV w w':=by
 go_in
 go_wp2
 go_loopw [7] (λi wr=>∃k:Nat,k<=n/\i=ι κ k/\mr os=mr (os.drop k)/\dV w wr) (λi _=>n-(eP i).toNat)
 case atStart=>exact⟨0,Nat.zero_le _,rfl,rfl,aq _ _⟩
 case round=>
  obtain⟨k,hk,rfl,T,Y⟩:=hrel;have hF:Hid _:=T;clear T;by_cases H:k<n
  ·have M:=U.below Y;rcases M.2 with h0|⟨b,off,rfl,hc⟩
   ·omega
   have Q:k<os.length:=by rw[U.1];exact H
   obtain⟨c1,c2⟩:=hc k Q;have V:Hid (os.drop k=os[k] ::os.drop (k+1)):=aO Q;generalize os[k] =o at c1 c2 V;clear hc;have nh:(k:Int)<(n:Int):=dP;have S:=Y.alloc Y.size (γ #[ι κ o.1,ι κ o.2] 276);cases q1:(o.1==1)
   ·have Z:Hid (mr os=mr (os.drop (k+1))):=by
     show _=_;rw[hF.out,V.out,mr,ae (by simpa using q1)]
    go_wp2
    go_roundw
    case rel=>exact⟨k+1,dP,by go_num,Z.out,S⟩
    case measure=>simp[eP];omega
   ·have Z:Hid (mr os=o.2):=by
     show _=_;rw[hF.out,V.out,mr,ag (by simpa using q1)]
    go_wp2_with(fail);rw[Z.out];go_ret;exact⟨rfl,S⟩
  ·have Z:Hid (mr os=255):=by
    show _=_;have J:os.drop k=[] :=aU (by rw[U.1];omega);rw[hF.out,J,mr]
   go_wp2_with(fail);rw[Z.out];go_ret;exact⟨rfl,Y⟩
def LS.sized(s:LS)(os:List jv):LS:=if 6<=s.st then {s with sz:=mr os}else s
theorem GJ(B:Nat)(X:Nat->Prop)(s:LS)(v:dO)(ps:List PV)(id:Int)(a:Option Addr)(n cap:Nat)(os:List jv)(w:dN)(hT:iQ w)(h:pK w B X s v ps)(hb:Bd s 100)(hn:ps.length<=50)
 (ho:iK w a n os) (sJ:∀k,sE a n=μ k->¬X k/\v.ownBlock≠μ k/\k<w.heap.size) (jS:kd a cap) (zR:n<=1000) (m1:0<=s.nm) (m2:s.nm<=255) (hj:lb s.nm os=(2,os)) (hf:(iN s.st 6).2.2=0):
 eM eN 211 #[π (μ ⟨B,0,ν⟩),.agg #[ι κ 1,ι κ id,σ a n cap]] w λe w'=>e=ρ η/\mF w w' B X ((mX s 6).sized os) v ps (oA s 6 (2,id,os)):=by
 have A:=gM w (γ #[ι κ 1,ι κ id,σ a n cap] 37);have hA:=λj=>aj w #[ι κ 1,ι κ id,σ a n cap] 37 (0,0) j;have hl:=h.lk.lt;have TE:=h.row.lt;have U:=h.below A;have hz:∀w:dN,(zeroValue 37).run eN w=.ok (.agg #[ι κ 0,ι κ 0,σ ν 0 0]) w:=λw=>gJ;have TG:=ho.1;obtain⟨V,jO⟩:=fP (w.alloc (γ #[ι κ 1,ι κ id,σ a n cap] 37));obtain⟨Z,hZ⟩:=fP (w.heap.size);have d1:V.cell? ⟨Z,1,ν⟩=μ (ι κ id):=by rw[<-jO,<-hZ];exact hA 1
 have d2:V.cell? ⟨Z,2,ν⟩=μ (σ a n cap):=by rw[<-jO,<-hZ];exact hA 2
 rw[jO]at U A;have vZ:B≠Z:=dP;have hnz:v.ownBlock≠μ Z:=λe=>by have:=TE Z e;omega
 have HW:Hid _:=jO;have HZ:Hid _:=hZ;clear hA jO hZ hl;have c2:V.cell? ⟨B,2,ν⟩=μ (ι κ s.ns):=U.lk.cell 2;have c3:V.cell? ⟨B,3,ν⟩=μ (ι κ s.nm):=U.lk.cell 3;have Tr:=U.lk.lt;have FL:Z<V.heap.size:=af V _ d1;have Mu:=U.old;have zi:=U.self;have hJ:=Dn s.ns s.nm a n cap os V.drew m1 m2 dP jS (ho.below (iZ A));rw[hj]at hJ
 go_in
 go_wp2_with(fail);rw[HW.out,HZ.out]
 go_region_with(go_at_call 228;refine hJ.mono ?_;rintro e S ⟨u,rfl,hM⟩)
 all_goals
  obtain⟨a',n',jd,rfl,hP⟩:=ER (X:=X) (v:=v) 2 id hM (show os.length<=1000 by omega) Mu (λk WX=>Nat.lt_of_lt_of_le (TE k WX) A.size);have wR:dV V S:=gD (iZ (aq _ _)) hM.below;have R2:=U.below wR;have WY:S.cell? ⟨Z,1,ν⟩=μ (ι κ id):=(wR.cell (p:=⟨Z,1,ν⟩) FL).trans d1;have D:S.cell? ⟨Z,2,ν⟩=μ (σ a n cap):=(wR.cell (p:=⟨Z,2,ν⟩) FL).trans d2;have ES:Z<S.heap.size:=af S _ WY;have H:=gM S (γ #[ι κ 2,ι κ id,σ a' n' jd] 37);have M:=gD A (gD wR H);have R3:=R2.below H;have P3:=hP.kept zi (Kept.iD B v.ownBlock H) (λ_ e=>.inl e);have HC:=xh B X s v ps ⟨2,id,a',n',jd,os⟩ 6 _ (hT.below M) R3 hb P3 hn hf;have WZ:=(H.cell (p:=⟨Z,2,ν⟩) ES).trans D;have xj:=ho.below M;have E:Z<(S.alloc (γ #[ι κ 2,ι κ id,σ a' n' jd] 37)).heap.size:=af _ _ WZ;clear hM hP R2 wR c2 c3 d1 d2 U hJ R3 P3;go_wp2_with(fail);refine HC.mono ?_;rintro e Q ⟨rfl,hW⟩;obtain⟨⟨v',qs,J,TH,y⟩,Y⟩:=hW;have c6:Q.cell? ⟨B,6,ν⟩=μ (ι κ (mX s 6).st):=J.lk.cell 6;have z2:Q.cell? ⟨Z,2,ν⟩=μ (σ a n cap):=(ai (a:=⟨Z,2,ν⟩) (Y.block Z E (λe=>vZ e.symm) hnz)).trans WZ;have SU:iK Q a n os:=xj.K7 (λk hk4=>by obtain⟨q1,q2,q3⟩:=sJ k hk4;exact Y.block k (Nat.lt_of_lt_of_le q3 M.size) (λe=>q1 (by rw[e];exact zi)) q2);have hl4:=J.lk.lt;have ajW:Z<Q.heap.size:=af Q _ z2;have W6:Kept w Q B v.ownBlock:=(Kept.iD B v.ownBlock M).trans Y (λi e=>.inl e);have t:∀g,v'.ownBlock=μ g->v.ownBlock=μ g \/w.heap.size<=g:=λg hg=>by
   rcases y g hg with e|e
   ·exact .inl e
   ·exact .inr (Nat.le_trans M.size e)
  clear HC y Y xj WZ D WY ES E H M;obtain⟨s',T⟩:∃s',mX s 6=s':=⟨_,rfl⟩
  rw[T]at J c6;have HS:Hid _:=T;clear T;by_cases h6:6<=s'.st
  ·go_wp2_with(fail);refine(JA a n cap os Q dP SU).mono ?_;rintro e w5 ⟨rfl,k5⟩;have G:=J.below k5;have c7:w5.cell? ⟨B,7,ν⟩=μ (ι κ s'.sz):=G.lk.cell 7;have fz:∀j,w5.frozen? ⟨B,j,ν⟩=false:=G.lk.frozen;have hl5:=G.lk.lt;have HR6:Hid (pK (w5.setCell ⟨B,7,ν⟩ (ι κ (mr os))) B X {s' with sz:=mr os} v' (ps++qs)):=G.kG 7 _ _ rfl;have HK6:Hid (Kept w (w5.setCell ⟨B,7,ν⟩ (ι κ (mr os))) B v.ownBlock):=j8 (W6.trans (Kept.iD B v.ownBlock k5) (λi e=>.inl e)) 7 _;clear G J W6 k5 SU z2 c6
   go_wp2
   go_ret;rw[HS.out];have e6:s'.sized os={s' with sz:=mr os}:=by simp[LS.sized,h6]
   rw[e6];exact⟨rfl,⟨v',qs,HR6.out,TH,t⟩,HK6.out⟩
  ·go_wp2
   go_ret;rw[HS.out];have e6:s'.sized os=s':=by unfold LS.sized;rw[ae dP]
   rw[e6];exact⟨rfl,⟨v',qs,J,TH,t⟩,W6⟩
theorem TI(B:Nat)(X:Nat->Prop)(s:LS)(v:dO)(ps:List PV)(w:dN)(h:pK w B X s v ps):
 eM eN 174 #[π (μ ⟨B,0,ν⟩)] w λe w'=>e=ρ v/\pK w' B X s (σ ν 0 0) [] /\Row w' 3 v ps.length (MI ps)/\(∀p∈ps,tD w' X v p)/\Kept w w' B ν:=by
 have hl:=h.lk.lt;have Zg:w.cell? ⟨B,11,ν⟩=μ v:=h.lk.cell 11;have fz:∀j,w.frozen? ⟨B,j,ν⟩=false:=h.lk.frozen;have Z:Kept w (w.setCell ⟨B,11,ν⟩ (σ ν 0 0)) B ν:=j8 (Kept.refl w B _) 11 _;have U:Kept w (w.setCell ⟨B,11,ν⟩ (σ ν 0 0)) B v.ownBlock:=j8 (Kept.refl w B _) 11 _;have S:Hid (pK (w.setCell ⟨B,11,ν⟩ (σ ν 0 0)) B X s (σ ν 0 0) []):=⟨h.lk.set 11 _,Row.nil _ 3,λg M=>by simp[dQ]at M,h.self,λk Y=>Nat.lt_of_lt_of_le (h.old k Y) Z.size,λp V=>by simp at V⟩
 have T:Hid (Row (w.setCell ⟨B,11,ν⟩ (σ ν 0 0)) 3 v ps.length (MI ps)):=h.row.keep Z.size (λk Q=>ak _ _ _ k (λe=>h.ne (by rw[Q];exact congrArg μ e)));have HP:Hid (∀p∈ps,tD (w.setCell ⟨B,11,ν⟩ (σ ν 0 0)) X v p):=λp V=>(h.pk p V).kept h.self U (λ_ e=>.inl e);clear h U
 go_in
 go_wp2
 go_ret;exact⟨rfl,S.out,T.out,HP.out,Z⟩
theorem Lr:∀(ps:List PV) (j:Nat) (p:PV),ps[j]? =μ p->(MI ps)[j*3]? =μ (ι κ p.code)/\(MI ps)[j*3+1]? =μ (ι κ p.id)/\(MI ps)[j*3+2]? =μ p.val
 |[],j,p,h=>by simp at h
 |q::r,0,p,h=>by
  have:q=p:=by simpa using h
  subst this;exact⟨rfl,rfl,rfl⟩
 |q::r,j+1,p,h=>by
  have Z:r[j]? =μ p:=by simpa using h
  obtain⟨a,b,c⟩:=Lr r j p Z;have e:MI (q::r)=ι κ q.code::ι κ q.id::q.val::MI r:=rfl;rw[e,show(j+1)*3=j*3+1+1+1 by omega,show j*3+1+1+1+1=(j*3+1)+1+1+1 by omega,show j*3+1+1+1+2=(j*3+2)+1+1+1 by omega];simp only[List.getElem?_cons_succ];exact⟨a,b,c⟩
structure W7(w:dN)(v:dO)(ps:List PV):Prop where
 row:Row w 3 v ps.length (MI ps)
 opt:∀p∈ps,iK w p.a p.n p.os/\p.n<=1000
theorem W7.shape {ps:List PV} (h:W7 w v ps):∃(a:Option Addr) (c:Nat),v=σ a ps.length c/\∀j p,ps[j]? =μ p->∃g,a=μ ⟨g,0,ν⟩/\w.cell? ⟨g,0+j*3,ν⟩=μ (ι κ p.code)/\w.cell? ⟨g,0+j*3+1,ν⟩=μ (ι κ p.id)/\w.cell? ⟨g,0+j*3+2,ν⟩=μ (σ p.a p.n p.cap):=by
 rcases h.row.2 with⟨Z,V⟩|⟨g,c,Z,hg,rJ,Jh,hcell,_⟩
 ·refine⟨ν,0,by rw[V,Z],λj p Y=> ?_⟩;have:=(aG.1 Y).1;omega
 ·refine⟨_,c,Z,λj p Y=>⟨g,rfl,?_⟩⟩;obtain⟨a,b,d⟩:=Lr ps j p Y;rw[Nat.zero_add];exact⟨hcell _ _ a,hcell _ _ b,hcell _ _ d⟩
