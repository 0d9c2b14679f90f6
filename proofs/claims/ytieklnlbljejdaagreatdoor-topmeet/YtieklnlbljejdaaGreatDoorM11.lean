import Derived.Test.YtieklnlbljejdaaGreatDoorM10
open Go.Value renaming int → ι, slice → σ, pointer → π, tuple → τ, nilIface → η
open Go.IntKind renaming i64 → κ
open Go.Ending renaming returned → ρ
open Go.Obj renaming cells → γ
open Option renaming none → ν, some → μ
open BitVec renaming ofInt → fq, ofInt_natCast → gD, toNat_ofNat → gE
open Go.IntKind renaming i64 → ft
open Go renaming Value → dZ, World → dY, Calls → eW
open Go.Value renaming ownBlock → eu, slice → gp
open Go.Proofs.Tryz renaming prog → eX
open Prod.mk renaming injEq → e7
open Go.Act renaming put → gF
open List renaming setIfInBounds_toArray → gG, set_cons_zero → gH, set_cons_succ → gJ
open Go.Region renaming wanted → eP
open Go.World renaming frozen? → gK
set_option maxRecDepth 100000
set_option maxHeartbeats 8000000
open Go.Proofs.Tryz
namespace Go.Proofs.YtieklnlbljejdaaGreatDoor
open Go.RowKit St
variable {ao:Option Addr} {cp j k lo:Nat} {o:Obj} {ok:List jE} {u v:Value} {w w1 wr x1:World}
theorem uR {b:Nat} (Y:∀k,v.ownBlock=μ k->lo+2<=k)(Z:(wr.alloc o).drew.grownBy x1 v.ownBlock)(hb:b<lo+2)(X:b<wr.heap.size):x1.heap[b]? =wr.heap[b]? :=by
 rw[Z.block b (by show b<(wr.alloc o).heap.size;simp;omega) (λe=>by have:=Y b e.symm;omega)];exact aU wr o b X
theorem Rn(Y:∀k,v.ownBlock=μ k->lo+2<=k)(Z:(wr.alloc o).drew.grownBy x1 v.ownBlock)(hc:wr.cell? ⟨lo+1,j,ν⟩=μ u):x1.cell? ⟨lo+1,j,ν⟩=μ u:=by
 have X:lo+1<wr.heap.size:=ag wr _ hc;rw[aj (w:=wr) (a:=⟨lo+1,j,ν⟩) (uR (b:=lo+1) Y Z eh X)];exact hc
theorem Le(Y:∀k,v.ownBlock=μ k->lo+2<=k)(Z:(wr.alloc o).drew.grownBy x1 v.ownBlock)(hc:wr.cell? ⟨lo+1,j,ν⟩=μ u)(hf:wr.frozen? ⟨lo+1,j,ν⟩=false):x1.frozen? ⟨lo+1,j,ν⟩=false:=by
 have X:lo+1<wr.heap.size:=ag wr _ hc;rw[aM (w:=wr) (a:=⟨lo+1,j,ν⟩) (uR (b:=lo+1) Y Z eh X)];exact hf
theorem ED(s:ByteArray)(k:Nat)(h:k<s.size):s.data.toList.drop k=s[k] ::s.data.toList.drop (k+1):=by
 rw[aS (by simpa using h)];rfl
theorem zL(Y:wr.heap[w.heap.size]? =μ (γ #[ι κ 0,ι κ 0,σ ν 0 0] 40 (0,0)))(hb:eE wr w1):
 w1.cell? ⟨w.heap.size,0,ν⟩=μ (ι κ 0)/\w1.cell? ⟨w.heap.size,1,ν⟩=μ (ι κ 0)/\w1.cell? ⟨w.heap.size,2,ν⟩=μ (σ ν 0 0)/\∀j,w1.frozen? ⟨w.heap.size,j,ν⟩=false:=by
 have X:w.heap.size<wr.heap.size:=(ay.1 Y).1;have Z:w1.heap[w.heap.size]? =μ (γ #[ι κ 0,ι κ 0,σ ν 0 0] 40 (0,0)):=by rw[hb.block _ X];exact Y
 exact⟨ax w1 _ 0 _ 40 (0,0) Z,ax w1 _ 1 _ 40 (0,0) Z,ax w1 _ 2 _ 40 (0,0) Z,λj=>bE w1 _ j _ 40 Z⟩
theorem Vm(x y k:Nat)(hx:x<2^k)(hs:2^k*y+x<2^62):bits .or .i64 (x:Int) ((2^k*y:Nat):Int)=((2^k*y+x:Nat):Int):=by
 have Z:(fq 64 (x:Int)|||BitVec.ofInt 64 ((2^k*y:Nat):Int)).toNat=2^k*y+x:=by
  rw[BitVec.toNat_or,gD,gD,gE,gE,Nat.mod_eq_of_lt eh,Nat.mod_eq_of_lt eh,Nat.or_comm];exact(Nat.two_pow_add_eq_or_of_lt hx y).symm
 show ft.wrap ((fq 64 (x:Int)|||BitVec.ofInt 64 ((2^k*y:Nat):Int)).toNat:Int)=_;rw[Z,IntKind.wrap_i64];omega
theorem akD(x y:Nat)(hx:x<256)(hy:y<256):bits .or .i64 (x:Int) ((y:Int)*(256:Int))=(x:Int)+(256:Int)*(y:Int):=by
 have h:=Vm x y 8 eh eh;have e:((2^8*y:Nat):Int)=(y:Int)*256:=eh;rw[e]at h;rw[h];omega
theorem akE(x y:Nat)(hx:x<65536)(hy:y<256):bits .or .i64 (x:Int) ((y:Int)*(65536:Int))=(x:Int)+(65536:Int)*(y:Int):=by
 have h:=Vm x y 16 eh eh;have e:((2^16*y:Nat):Int)=(y:Int)*65536:=eh;rw[e]at h;rw[h];omega
def A8(E:Nat->dZ)(l:List UInt8)(w:dY)(e:Ending)(w':dY):Prop:=
 ∃(a:Option Addr) (n cap f:Nat) (own seq:Int) (os:List jE),e=ρ (τ #[.agg #[ι κ own,ι κ seq,σ a n cap],E f])/\jc w' a n os/\n<=cap/\il l=(own,seq,os,f)/\eE w w'/\kI a cap
theorem B6(s:ByteArray)(Q:Int)(h4:4<=s.size)(heq:s.size%2=0)(Z:(s[1].toNat:Int)+(256:Int)*(s[2].toNat:Int)+(65536:Int)*(s[3].toNat:Int)=Q):
 il s.data.toList=if oy (s[0].toNat:Int) Q (pairs (s.data.toList.drop 4))=0 then((s[0].toNat:Int),Q,pairs (s.data.toList.drop 4),0)else(0,0,[],4):=by
 have hl:s.data.toList.length=s.size:=gY;have Y:Kg s.data.toList=Q:=by
  unfold Kg;rw[nV s 1 eh,nV s 2 eh,nV s 3 eh,Z]
 unfold il;rw[Y,nV s 0 eh,hl,af eh]
theorem Ht {x y z:dZ} (X:Row w1 2 (σ ao k cp) k (iR ok))(Y:∀j,eu (σ ao k cp)=μ j->w.heap.size+2<=j)(hb:eE w w1):
 jc (((w1.setCell ⟨w.heap.size,0,ν⟩ x).setCell ⟨w.heap.size,1,ν⟩ y).setCell ⟨w.heap.size,2,ν⟩ z) ao k ok/\eE w (((w1.setCell ⟨w.heap.size,0,ν⟩ x).setCell ⟨w.heap.size,1,ν⟩ y).setCell ⟨w.heap.size,2,ν⟩ z):=by
 refine⟨Row.opts (X.keep gY (λj Z=> ?_)),((hb.setCell (Nat.le_refl _) _).setCell (Nat.le_refl _) _).setCell (Nat.le_refl _) _⟩;have:=Y j Z;rw[aq _ _ _ _ (by show j≠w.heap.size;omega),aq _ _ _ _ (by show j≠w.heap.size;omega),aq _ _ _ _ (by show j≠w.heap.size;omega)]
theorem Gp(w:dY)(a b:Obj):((w.alloc a).alloc b).drew.heap[w.heap.size+1]? =μ b:=by
 have h:=aZ (w.alloc a) b;have e:(w.alloc a).heap.size=w.heap.size+1:=gY;rw[e]at h;exact h
theorem EE(w:dY)(a b:Obj):((w.alloc a).alloc b).drew.heap[w.heap.size]? =μ a:=by
 show((w.alloc a).alloc b).heap[w.heap.size]? =μ a;rw[aU (w.alloc a) b w.heap.size gY];exact aZ w a
theorem NP {ob:Obj} {g' jr:Nat} {c d:Int} {x y:Nat}
 (S:wr.heap[w.heap.size+1]? =μ (γ #[ι κ c,ι κ d,σ ao k cp] 40 (0,0)))
 (H:wr.heap[w.heap.size]? =μ (γ #[ι κ 0,ι κ 0,σ ν 0 0] 40 (0,0)))
 (_hrow:Row wr 2 (σ ao k cp) k (iR ok)) (Y:∀j,eu (σ ao k cp)=μ j->w.heap.size+2<=j) (V:eE w wr)
 (T:Row x1 2 (σ (μ ⟨g',0,ν⟩) (k+1) jr) (k+1) (iR ok++ [ι κ (ft.wrap (x:Int)),ι κ (ft.wrap (y:Int))]))
 (X:(wr.alloc ob).drew.grownBy x1 (eu (σ ao k cp))) (J:eu (σ ao k cp)=μ g' \/(wr.alloc ob).drew.heap.size<=g') (hx:x<2^8) (hy:y<2^8):
 Row (x1.setCell ⟨w.heap.size+1,2,ν⟩ (σ (μ ⟨g',0,ν⟩) (k+1) jr)) 2 (σ (μ ⟨g',0,ν⟩) (k+1) jr) (k+1) (iR (ok++ [((x:Int),(y:Int))]))/\
 (x1.setCell ⟨w.heap.size+1,2,ν⟩ (σ (μ ⟨g',0,ν⟩) (k+1) jr)).heap[w.heap.size+1]? =μ (γ #[ι κ c,ι κ d,σ (μ ⟨g',0,ν⟩) (k+1) jr] 40 (0,0))/\
 (x1.setCell ⟨w.heap.size+1,2,ν⟩ (σ (μ ⟨g',0,ν⟩) (k+1) jr)).heap[w.heap.size]? =μ (γ #[ι κ 0,ι κ 0,σ ν 0 0] 40 (0,0))/\
 (∀j,eu (σ (μ ⟨g',0,ν⟩) (k+1) jr)=μ j->w.heap.size+2<=j)/\eE w (x1.setCell ⟨w.heap.size+1,2,ν⟩ (σ (μ ⟨g',0,ν⟩) (k+1) jr)):=by
 have M:w.heap.size+1<wr.heap.size:=(ay.1 S).1;have k1:=uR (b:=w.heap.size+1) Y X eh M;have k0:=uR (b:=w.heap.size) Y X eh eh;have ZT:(wr.alloc ob).drew.heap.size=wr.heap.size+1:=by show(wr.alloc ob).heap.size=_;simp
 have OT:w.heap.size+2<=g':=by
  rcases J with h|h
  ·exact Y g' h
  ·omega
 have U:x1.heap[w.heap.size+1]? =μ (γ #[ι κ c,ι κ d,σ ao k cp] 40 (0,0)):=by rw[k1];exact S
 refine⟨?_,?_,?_,?_,?_⟩
 ·have ex:ft.wrap (x:Int)=(x:Int):=aX _ ⟨eh,eh⟩;have Q:ft.wrap (y:Int)=(y:Int):=aX _ ⟨eh,eh⟩;rw[ex,Q,<-mb ok ((x:Int),(y:Int))]at T;refine T.keep gY (λj Z=> ?_);have:g'=j:=by simpa[eu]using Z
  exact aq _ _ _ _ (by show j≠w.heap.size+1;omega)
 ·rw[bP x1 (w.heap.size+1) 2 _ 40 (0,0) _ U];exact cE x1 _ _ _ 40 (0,0) U
 ·rw[aq _ _ _ _ (by show w.heap.size≠w.heap.size+1;omega),k0];exact H
 ·intro j Z;have:g'=j:=by simpa[eu]using Z
  omega
 ·have G:eE w (wr.alloc ob).drew:=(V.alloc V.size _).drew;refine bz ?_ (by show w.heap.size<=w.heap.size+1;omega) _;refine G.grown X eh (λj Z=> ?_);have:=Y j Z;omega
theorem NQ(s:ByteArray)(w:dY)(h4:4<=s.size)(hs:s.size<=16)(heq:s.size%2=0):
 eW eX 188 #[.string s] w λe w'=>A8 jm s.data.toList w e w':=by
 obtain⟨i0,hi,ox,nh,mO⟩:=aY zh;have hz:=pJ;have g1:¬(s.size:Int)<4:=eh;have g2:¬(16:Int)<(s.size:Int):=eh;have g3:(((s.size:Int)-4) %2 !=0)=false:=by rw[bne_eq_false_iff_eq];omega
 have HE:Hid _:=heq;clear heq;have b0:0<s.size:=eh;have b1:1<s.size:=eh;have b2:2<s.size:=eh;have b3:3<s.size:=eh;have yo:=s[0].toNat_lt;have Y:=s[1].toNat_lt;have mR:=s[2].toNat_lt;have r9:=s[3].toNat_lt;have z0:(0:Int)<(s.size:Int):=eh;have z1:(1:Int)<(s.size:Int):=eh;have z2:(2:Int)<(s.size:Int):=eh;have z3:(3:Int)<(s.size:Int):=eh;obtain⟨Q,hQ⟩:∃Q:Int,(s[1].toNat:Int)+(256:Int)*(s[2].toNat:Int)+(65536:Int)*(s[3].toNat:Int)=Q:=⟨_,rfl⟩
 have ho1:=akD s[1].toNat s[2].toNat eh eh;have Yy:bits .or .i64 ((s[1].toNat:Int)+(256:Int)*(s[2].toNat:Int)) ((s[3].toNat:Int)*(65536:Int))=Q:=by
  have:=akE (s[1].toNat+256*s[2].toNat) s[3].toNat eh eh;push_cast at this;rw[this,hQ]
 have U:Hid _:=hQ
 go_in
 go_wp2
 go_region
 go_wp2_with(fail)
 try rw[U.out]
 try clear hQ
 try clear ho1
 try clear Yy
 obtain⟨Z,S⟩:∃Z:Int,(s[0].toNat:Int)=Z:=⟨_,rfl⟩
 have A:Hid _:=S;rw[S];clear S yo Y mR r9
 go_loopw [5] (λi wr=>∃(k cp:Nat) (ao:Option Addr) (ok:List jE),4+2*k<=s.size/\i=ι κ ((4+2*k:Nat):Int)/\ok.length=k/\pairs (s.data.toList.drop 4)=ok++pairs (s.data.toList.drop (4+2*k))/\Row wr 2 (σ ao k cp) k (iR ok)/\
  wr.heap[w.heap.size+1]? =μ (γ #[ι κ Z,ι κ Q,σ ao k cp] 40 (0,0))/\wr.heap[w.heap.size]? =μ (γ #[ι κ 0,ι κ 0,σ ν 0 0] 40 (0,0))/\
  (∀j,eu (σ ao k cp)=μ j->w.heap.size+2<=j)/\eE w wr)
  (λi _=>s.size-(intOf i).toNat)
 case atStart=>
  refine⟨0,0,ν,[],eh,rfl,rfl,rfl,Row.nil _ _,?_,?_,λj hj=>by simp[eu]at hj,(((av _ _).alloc (Nat.le_refl _) _).alloc gY _).drew⟩
  ·exact Gp w _ _
  ·exact EE w _ _
 case round=>
  obtain⟨k,cp,ao,ok,hk,rfl,iN,D,X,Kt,DV,jj,iK⟩:=hrel;have hP:Hid _:=D;clear D;have cv:wr.cell? ⟨w.heap.size+1,2,ν⟩=μ (σ ao k cp):=ax wr _ 2 _ 40 (0,0) Kt;have fv:wr.frozen? ⟨w.heap.size+1,2,ν⟩=false:=bE wr _ 2 _ 40 Kt;have XJ:w.heap.size+1<wr.heap.size:=ag wr _ cv;have M:Hid _:=Kt;have T:Hid _:=DV;clear Kt DV;by_cases kB:4+2*k<s.size
  ·have Gb:4+2*k+1<s.size:=by have:=HE.out;omega
   obtain⟨q,hq⟩:∃q,q=4+2*k:=⟨_,rfl⟩
   rw[<-hq]at kB Gb;have HQ:Hid _:=hq;have y0:(0:Int)<=(q:Int):=eh;have y1:(q:Int)<(s.size:Int):=eh;have y2:(q:Int)+1<(s.size:Int):=eh;have y3:(0:Int)<=(q:Int)+1:=eh;have yw:ft.wrap ((q:Int)+1)=(q:Int)+1:=aX _ ⟨eh,eh⟩;have hbq:=s[q].toNat_lt;have ajo:=s[q+1].toNat_lt;have m1:k+1<=maxLen:=by unfold maxLen;omega
   have bb1:(k+1)*16<=140737488355328:=eh;rw[<-hq];clear hq;have HP2:Hid (pairs (s.data.toList.drop 4)=(ok++ [((s[q].toNat:Int),(s[q+1].toNat:Int))])++pairs (s.data.toList.drop (4+2*(k+1)))):=by
    show pairs (s.data.toList.drop 4)=_;rw[hP.out,<-HQ.out,ED s q kB,ED s (q+1) Gb];have J:q+1+1=4+2*(k+1):=by have:=HQ.out;omega
    rw[J];simp[pairs]
   go_wp2
   go_region_law ((refine lU (by rfl) (.tmp 47) (.tmp 58) 38 (by rfl) 123 i0 (.agg #[ι κ 0,ι κ 0]) 2 16 underlying38 hi ox nh mO (by rfl) eA (σ ao k cp) k (iR ok) (by rfl) ((X.alloc _).drew) _ 1 1 [ι κ (ft.wrap (s[q].toNat:Int)),ι κ (ft.wrap (s[q+1].toNat:Int))] (by rfl) (by rfl) eA (DR _ _ _ _) (lK _ _ _ _) m1 bb1 ?_;intro g' jr x1 k8 h jF;have c1:=Rn jj h cv;have f1:=Le jj h cv fv))
   all_goals have hS:=NP (c:=Z) (d:=Q) M.out T.out X jj iK k8 h jF s[q].toNat_lt s[q+1].toNat_lt
   all_goals clear k8 h jF c1 f1
   all_goals go_wp2_with(fail)
   all_goals go_roundw
   all_goals first
    |exact⟨k+1,jr,some ⟨g',0,none⟩,_,by have:=HQ.out;omega,by have:=HQ.out;go_num,by simp[iN],HP2.out,hS⟩
    |(simp[intOf];omega)
  ·have G:4+2*k=s.size:=eh;have TU:pairs (s.data.toList.drop 4)=ok:=by
    rw[hP.out,G,a9 (by show s.size<=s.size;omega)];simp[pairs]
   have CG:=X.opts;have Da:k<=cp/\kI ao cp:=⟨X.Tq,λe=>by
    rcases X.2 with⟨J,_⟩|⟨g,c,J,_⟩
    ·exact(bQ J).2.2
    ·rw[e]at J;cases (bQ J).1⟩
   have c0:wr.cell? ⟨w.heap.size+1,0,ν⟩=μ (ι κ Z):=ax wr _ 0 _ 40 (0,0) M.out;have c1:wr.cell? ⟨w.heap.size+1,1,ν⟩=μ (ι κ Q):=ax wr _ 1 _ 40 (0,0) M.out;have V:=yk Z Q ao k cp ok wr eh CG;have HK:Hid _:=TU;clear hP TU G;by_cases hf:oy Z Q ok=0
   ·have E:jm 0=η:=rfl;rw[hf,E]at V;clear E;have HF:Hid _:=hf;clear hf;go_wp2_with(fail);refine V.mono ?_;rintro e w1 ⟨rfl,Y⟩;have d0:=(Y.cell (p:=⟨w.heap.size+1,0,ν⟩) XJ).trans c0;have d1:=(Y.cell (p:=⟨w.heap.size+1,1,ν⟩) XJ).trans c1;have d2:=(Y.cell (p:=⟨w.heap.size+1,2,ν⟩) XJ).trans cv;obtain⟨r0,r1,r2,r3⟩:=zL T.out Y;have vH:=gk iK Y;have H:=Ht (x:=ι κ Z) (y:=ι κ Q) (z:=σ ao k cp) (X.below Y) jj vH;have HV:Hid (il s.data.toList=(Z,Q,ok,0)):=by
     show il s.data.toList=_;rw[B6 s Q h4 HE.out U.out,A.out,HK.out,ai HF.out]
    clear V Y c0 c1 cv X;go_wp2_with(fail);refine aF (v:=τ #[.agg #[ι κ Z,ι κ Q,σ ao k cp],η]) (by simp[results,results188,go_sem,r0,r1,r2]) rfl ?_;exact⟨ao,k,cp,0,_,_,ok,rfl,H.1,Da.1,HV.out,H.2,Da.2⟩
   ·have E:jm (oy Z Q ok)=.iface 128 (ι κ (oy Z Q ok:Int)):=by simp[jm,hf]
    rw[E]at V;clear E;have HF:Hid _:=hf;clear hf;have HV:Hid (il s.data.toList=(0,0,[],4)):=by
     show il s.data.toList=_;rw[B6 s Q h4 HE.out U.out,A.out,HK.out,af HF.out]
    generalize oy Z Q ok=ff at V;go_wp2_with(fail);refine V.mono ?_;rintro e w1 ⟨rfl,Y⟩;obtain⟨r0,r1,r2,r3⟩:=zL T.out Y;have vH:=gk iK Y;have H:=Ht (ok:=[]) (ao:=ν) (k:=0) (cp:=0) (x:=ι κ 0) (y:=ι κ 0) (z:=σ ν 0 0) (Row.nil w1 2) (λj hj=>by simp[eu]at hj) vH;clear V Y c0 c1 cv X CG;go_wp2_with(fail);refine aF (v:=τ #[.agg #[ι κ 0,ι κ 0,σ ν 0 0],.iface 128 (ι κ 4)]) (by simp[results,results188,go_sem,r0,r1,r2]) rfl ?_;exact⟨ν,0,0,4,0,0,[],rfl,H.1,Nat.le_refl _,HV.out,H.2,λ_=>rfl⟩
theorem Ro(s:ByteArray)(w:dY)(hs:s.size<=maxLen)(h:il s.data.toList=(0,0,[],4))(hb:s.size<4 \/16<s.size \/s.size%2=1):
 eW eX 188 #[.string s] w λe w'=>A8 jm s.data.toList w e w':=by
 have hz:=pJ;have V:Hid _:=h;clear h;unfold maxLen at hs;have Y:=gW w (γ #[ι κ 0,ι κ 0,σ ν 0 0] 40);have X:jc (w.alloc (γ #[ι κ 0,ι κ 0,σ ν 0 0] 40)) ν 0 [] :=⟨rfl,.inl rfl⟩
 have g0:(0:Int)<=(s.size:Int):=eh;rcases(show s.size<4 \/(4<=s.size/\16<s.size) \/(4<=s.size/\s.size<=16/\s.size%2=1) by omega)with Z|Z|Z
 ·have g1:(s.size:Int)<4:=eh
  go_in
  go_wp2_with(fail);refine aF (v:=τ #[.agg #[ι κ 0,ι κ 0,σ ν 0 0],.iface 128 (ι κ 4)]) (by simp[results,results188,go_sem]) rfl ?_;exact⟨ν,0,0,4,0,0,[],rfl,X,Nat.le_refl _,V.out,Y,λ_=>rfl⟩
 ·have g1:¬(s.size:Int)<4:=eh;have U:(16:Int)<(s.size:Int):=eh
  go_in
  go_wp2_with(fail);refine aF (v:=τ #[.agg #[ι κ 0,ι κ 0,σ ν 0 0],.iface 128 (ι κ 4)]) (by simp[results,results188,go_sem]) rfl ?_;exact⟨ν,0,0,4,0,0,[],rfl,X,Nat.le_refl _,V.out,Y,λ_=>rfl⟩
 ·have g1:¬(s.size:Int)<4:=eh;have U:¬(16:Int)<(s.size:Int):=eh;have g3:(((s.size:Int)-4) %2 !=0)=true:=by rw[bne_iff_ne];omega
  clear hb Z
  go_in
  go_wp2_with(fail);refine aF (v:=τ #[.agg #[ι κ 0,ι κ 0,σ ν 0 0],.iface 128 (ι κ 4)]) (by simp[results,results188,go_sem]) rfl ?_;exact⟨ν,0,0,4,0,0,[],rfl,X,Nat.le_refl _,V.out,Y,λ_=>rfl⟩
theorem EF(s:ByteArray)(w:dY)(hs:s.size<=maxLen):eW eX 188 #[.string s] w λe w'=>A8 jm s.data.toList w e w':=by
 have hl:s.data.toList.length=s.size:=gY;by_cases Z:s.size<4 \/16<s.size \/s.size%2=1
 ·refine Ro s w hs ?_ Z;by_cases h16:16<s.size
  ·exact Kh _ eh
  ·unfold il;rw[hl,ai eh]
 ·exact NQ s w eh eh eh
namespace Rt
variable {a b w w' x:World} {c d g i k m o:Nat} {l:Lab} {n n':iP} {ov:Nat->Value} {own seq:Int} {v:Value} {y:Yt}
theorem pO {l:List UInt8} {os:List jE} (h:il l=(own,seq,os,0)):oy own seq os=0:=by
 unfold il at h;split at h
 ·simp at h
 ·split at h
  ·rename_i Z
   simp only[e7,and_true]at h;obtain⟨rfl,rfl,rfl⟩:=h;exact Z
  ·simp at h
theorem NR(z:Zt)(r:iM)(i:Nat)(own seq:Int)(a:Option Addr)(n cap:Nat)(es:List jE)(w:dY)(h:mr w z r)(hi:i<r.n)(X:jc w a n es)(hf:oy own seq es=0):
 eW eX 191 #[π (μ ⟨z.Bb,0,ν⟩),ι κ (i:Int),.agg #[ι κ own,ι κ seq,σ a n cap]] w λe w'=>e=ρ η/\iD w w' z {r with O:=λx=>if x=i/\0<=newF r.K own seq es then yC (r.O i) own else r.O x} r.n:=by
 refine(NB z.Bb z.fm 6 r.K r.O i own seq a n cap es w h.bs (sg (by have:=(jt hf).1;omega)) (by rw[h.bl];exact hi) X hf (λ_=>DK _ _ _ _)).mono ?_;rintro e w1 ⟨rfl,Y,Z⟩;exact⟨rfl,h.base Y Z⟩
def kD(r:iM)(i:Nat)(l:List UInt8):iM:=
 let q:=St.il l
 if q.2.2.2=0 then {r with O:=λx=>if x=i/\0<=newF r.K q.1 q.2.1 q.2.2.1 then yC (r.O i) q.1 else r.O x}else r
theorem Gq(s:ByteArray)(z:Zt)(r:iM)(i:Nat)(w:dY)(h:mr w z r)(hi:i<r.n)(hs:s.size<=1000):
 eW eX 136 #[π (μ ⟨z.R,0,ν⟩),ι κ (i:Int),.string s] w λe w'=>e=ρ (τ #[])/\iD w w' z (kD r i s.data.toList) r.n:=by
 have A:=EF s w (by unfold maxLen;omega);have G:Hid _:=h;clear h
 go_in
 go_wp2_with(fail);refine A.mono ?_;rintro e w1 ⟨a,n,cap,f,own,seq,os,rfl,E,J,S,b1,kh⟩;clear A;by_cases hf:f=0
 ·subst hf;have e0:jm 0=η:=rfl;rw[e0];have D:=pO S;have V:kD r i s.data.toList={r with O:=λx=>if x=i/\0<=newF r.K own seq os then yC (r.O i) own else r.O x}:=by
   unfold kD;rw[S];rfl
  have ba:=gW w1 (γ #[ι κ own,ι κ seq,σ a n cap] 40);have hA:=λj=>ar w1 #[ι κ own,ι κ seq,σ a n cap] 40 (0,0) j;have b2:=gk b1 (gk ba (iZ _));have Q:=G.out.below b2;have hh:=NR z r i own seq a n cap os _ Q hi (E.below (gk ba (iZ _))) D;have Y:eW eX 191 #[π (μ ⟨z.Bb,0,ν⟩),ι κ (i:Int),.agg #[ι κ own,ι κ seq,σ a n cap]] (w1.alloc (γ #[ι κ own,ι κ seq,σ a n cap] 40)).drew λe w'=>e=ρ η/\iD w w' z (kD r i s.data.toList) r.n:=by
   refine hh.mono ?_;rintro e w3 ⟨rfl,hw⟩;exact⟨rfl,by rw[V];exact iD.first G.out rfl b2 (λ_=>hw)⟩
  have c2:=Q.c2;have cl:=Q.lt;obtain⟨M,X⟩:=gg (w1.alloc (γ #[ι κ own,ι κ seq,σ a n cap] 40));obtain⟨Z,U⟩:=gg (w1.heap.size);rw[X]at Y c2 cl;have d0:M.drew.cell? ⟨Z,0,ν⟩=μ (ι κ own):=by rw[<-X,<-U];exact hA 0
  have d1:M.drew.cell? ⟨Z,1,ν⟩=μ (ι κ seq):=by rw[<-X,<-U];exact hA 1
  have d2:M.drew.cell? ⟨Z,2,ν⟩=μ (σ a n cap):=by rw[<-X,<-U];exact hA 2
  have zl:Z<M.drew.heap.size:=ag _ _ d0;obtain⟨T,hT⟩:∃T:dY->Prop,(λx=>iD w x z (kD r i s.data.toList) r.n)=T:=⟨_,rfl⟩
  have H:∀x,iD w x z (kD r i s.data.toList) r.n=T x:=λx=>ct hT x;simp only[H]at Y;have HT:Hid _:=H;clear hh hA ba b2 Q E S D V J kh b1 hT H;go_wp2_with(fail)
  try rw[X]
  try rw[U]
  clear X U
  go_region_with(go_at_call 191;refine Y.mono ?_;rintro e w3 ⟨rfl,hW⟩)
  all_goals
   clear Y
   go_wp2
   first|go_end0|refine iJ rfl rfl ?_
   exact⟨rfl,by rw[HT.out];exact hW⟩
 ·have ee:jm f=.iface 128 (ι κ (f:Int)):=by simp only[jm];rw[af hf]
  rw[ee];have V:kD r i s.data.toList=r:=by
   unfold kD;rw[S];simp only;rw[af hf]
  have HW:Hid (iD w (w1.alloc (γ #[ι κ own,ι κ seq,σ a n cap] 40)) z (kD r i s.data.toList) r.n):=by
   show iD _ _ _ _ _;rw[V];exact iD.still G.out (gk b1 (gW _ _))
  clear S E hf ee V
  go_wp2
  first|go_end0|refine iJ rfl rfl ?_
  exact⟨rfl,HW.out⟩
theorem Rp(z:Zt)(r:iM)(i:Nat)(own seq:Int)(a:Option Addr)(n cap:Nat)(es:List jE)(w:dY)(h:mr w z r)(hi:i<r.n)(Y:jc w a n es)(V:kI a cap)(hf:oy own seq es=0):
 eW eX 190 #[π (μ ⟨z.Bb,0,ν⟩),ι κ (i:Int),.agg #[ι κ own,ι κ seq,σ a n cap]] w λe w'=>e=ρ (τ #[ι κ (newF r.K own seq es),η])/\iD w w' z {r with K:=lr r.K own seq es,O:=oR r.K r.O i own seq es} r.n/\jc w' a n es/\∀p v,w.cell? p=μ v->w'.cell? p=μ v:=by
 refine(Q6 z.Bb z.fm 6 r.K r.O i own seq a n cap es w h.bs (sg (by have:=(jt hf).1;omega)) (by rw[h.bl];exact hi) Y V eh hf (λ_=>DK _ _ _ _)).mono ?_;rintro e w1 ⟨rfl,X,Z⟩;exact⟨rfl,h.base X Z,Y.two Z h.bs,λp v hc=>jC.cell Z h.bs hc⟩
def ji(r:iM)(i:Nat)(l:List UInt8):iM:=
 let q:=St.il l
 if q.2.2.2≠0 \/(r.P i).pe.both=false then r
 else if q.1=r.id/\0<newF r.K q.1 q.2.1 q.2.2.1 then r.behind q.2.1
 else
  let r2:iM:={r with K:=lr r.K q.1 q.2.1 q.2.2.1,O:=oR r.K r.O i q.1 q.2.1 q.2.2.1}
  if 0<=newF r.K q.1 q.2.1 q.2.2.1 then r2.iU i ((r2.P i).put 65 (rb q.1 q.2.1 q.2.2.1))else r2
def S3(x:dY)(Z:Nat)(own seq:Int)(v:dZ):Prop:=x.cell? ⟨Z,0,ν⟩=μ (ι κ own)/\x.cell? ⟨Z,1,ν⟩=μ (ι κ seq)/\x.cell? ⟨Z,2,ν⟩=μ v
theorem S3.below {y:dY} {Z:Nat} (h:S3 x Z own seq v)(hb:eE x y):S3 y Z own seq v:=by
 have Y:=ag _ _ h.1;exact⟨(aj (a:=⟨Z,0,ν⟩) (hb.block Z Y)).trans h.1,(aj (a:=⟨Z,1,ν⟩) (hb.block Z Y)).trans h.2.1,(aj (a:=⟨Z,2,ν⟩) (hb.block Z Y)).trans h.2.2⟩
theorem Gr(s:ByteArray)(z:Zt)(r:iM)(i:Nat)(w:dY)(h:mr w z r)(iN:ln r)(hi:i<r.n)(hs:s.size<=1000)(vA:(r.P i).out.length<=800000000):
 eW eX 135 #[π (μ ⟨z.R,0,ν⟩),ι κ (i:Int),.string s] w λe w'=>e=ρ (τ #[])/\iD w w' z (ji r i s.data.toList) r.n:=by
 have hp:=EF s w (by unfold maxLen;omega);have kS:(i:Int)<(r.n:Int):=eh;have O1:(0:Int)<=(i:Int):=eh;have HR:Hid _:=h;have Vh:Hid _:=iN;clear h iN
 go_in
 go_wp2_with(fail);refine hp.mono ?_;rintro e w1 ⟨a,n,cap,f,own,seq,os,rfl,ho,hle,hR,b1,kh⟩;clear hp;have ba:=gW w1 (γ #[ι κ own,ι κ seq,σ a n cap] 40);have hA:=λj=>ar w1 #[ι κ own,ι κ seq,σ a n cap] 40 (0,0) j;by_cases hf:f=0
 ·subst hf;have e0:jm 0=η:=rfl;rw[e0];cases hb:(r.P i).pe.both with
  |false=>
   have hE:ji r i s.data.toList=r:=by
    unfold ji;rw[hR];simp only;rw[ai (.inr hb)]
   have S:=HR.out.below (gk b1 ba);have HW:Hid (iD w (w1.alloc (γ #[ι κ own,ι κ seq,σ a n cap] 40)) z (ji r i s.data.toList) r.n):=by
    show iD _ _ _ _ _;rw[hE];exact iD.still HR.out (gk b1 ba)
   have c1:=S.c1;have cl:=S.lt;have gl:=S.JZ;have g1:=(S.pt i hi).c68;rw[hb]at g1;clear hR ho hE S hA ba
   go_wp2
   first|go_end0|refine iJ rfl rfl ?_
   exact⟨rfl,HW.out⟩
  |true=>
   have ki:=pO hR;have b2:=gk b1 ba;obtain⟨U,nr⟩:=gg (w1.alloc (γ #[ι κ own,ι κ seq,σ a n cap] 40));obtain⟨Z,hZ⟩:=gg (w1.heap.size);have Yy:=ho.below ba;rw[nr]at b2 Yy;have S2:S3 U Z own seq (σ a n cap):=by rw[<-nr,<-hZ];exact⟨hA 0,hA 1,hA 2⟩
   have hZw:w.heap.size<=Z:=by rw[<-hZ];exact b1.size
   have S:=HR.out.below b2;have c1:=S.c1;have cl:=S.lt;have gl:=S.JZ;have g1:=(S.pt i hi).c68;rw[hb]at g1;have La:=sg (k:=r.id) (by have:=Vh.out.id;omega);have NS:∀W,eE U W->eW eX 177 #[π (μ ⟨z.Bb,0,ν⟩),ι κ r.id] W λe w'=>∃b V,e=ρ (τ #[.agg #[ι κ (xT r.K r.id),ι κ (qy r.K r.id),σ b (mS r.K r.id).length V],.bool (r.K r.id).isSome])/\jc w' b (mS r.K r.id).length (mS r.K r.id)/\eE W w'/\(w'.cell? ⟨z.R,0,ν⟩=μ (ι κ r.id)/\w'.cell? ⟨z.R,2,ν⟩=μ (π (μ ⟨z.Bb,0,ν⟩))):=by
    intro W E;refine(K6 z.Bb z.fm 6 r.K r.O r.id W (S.below E).bs La).mono ?_;rintro e w3 ⟨b,V,rfl,Vn,_,_,b3⟩;have R3:=(S.below E).below b3;exact⟨b,V,rfl,Vn,b3,R3.c0,R3.c2⟩
   have Va:Hid (∀e∈mS r.K r.id,1<=e.1):=by
    obtain⟨q,hq,ki⟩:=Vh.out.own;have:=pU r.id q.2 0 (jt ki).2.2.2;unfold mS;rw[hq];exact λe he=>(this e he).1.1
   have hn6:n<=6:=by have:=(jt ki).2.2.1;rw[ho.1]at this;exact this
   have sU:Hid (∀W b V,jc W a n os->jc W b (mS r.K r.id).length (mS r.K r.id)->eW eX 189 #[.agg #[ι κ own,ι κ seq,σ a n cap],.agg #[ι κ (xT r.K r.id),ι κ (qy r.K r.id),σ b (mS r.K r.id).length V]] W λe w'=>e=ρ (ι κ (lS seq os (qy r.K r.id) (mS r.K r.id)))/\eE W w'):=λW b V h1 h2=>GQ own seq _ _ a b n _ cap V os _ W h1 h2 eh;have H:Hid (own=r.id->newF r.K own seq os=lS seq os (qy r.K r.id) (mS r.K r.id)):=by
    intro e;obtain⟨q,hq,_⟩:=Vh.out.own;unfold newF qy mS;rw[e,hq];rfl
   have hsq:(1<=own/\own<=6)/\(1<=seq/\seq<=1000000):=⟨(jt ki).1,(jt ki).2.1⟩
   have Jj:Hid (own=r.id->0<newF r.K own seq os->∀W,eE U W->eW eX 180 #[π (μ ⟨z.R,0,ν⟩),ι κ seq] W λe w'=>e=ρ (τ #[])/\iD w w' z (ji r i s.data.toList) r.n):=by
    intro e1 e2 W E;have hE:ji r i s.data.toList=r.behind seq:=by
     unfold ji;rw[hR];simp only;rw[af (by simp[hb]),ai ⟨e1,e2⟩]
    refine(Ez z r seq W (S.below E) Vh.out eh).mono ?_;rintro e w5 ⟨rfl,Mt⟩;exact⟨rfl,by rw[hE];exact iD.first HR.out rfl (gk b2 E) (λ_=>Mt)⟩
   obtain⟨M,sA⟩:∃M:iM,({r with K:=lr r.K own seq os,O:=oR r.K r.O i own seq os}:iM)=M:=⟨_,rfl⟩
   obtain⟨A,hnf⟩:=gg (newF r.K own seq os);have zb:Hid (∀W,eE U W->jc W a n os->eW eX 190 #[π (μ ⟨z.Bb,0,ν⟩),ι κ (i:Int),.agg #[ι κ own,ι κ seq,σ a n cap]] W λe w'=>e=ρ (τ #[ι κ A,η])/\iD w w' z M r.n/\jc w' a n os/\∀p v,W.cell? p=μ v->w'.cell? p=μ v):=by
    intro W E hoW;refine(Rp z r i own seq a n cap os W (S.below E) hi hoW kh ki).mono ?_;rintro e w5 ⟨rfl,Mt,Xg,hc5⟩;rw[sA]at Mt;rw[hnf];exact⟨rfl,iD.first HR.out rfl (gk b2 E) (λ_=>Mt),Xg,hc5⟩
   have hP3:M.P=r.P:=by rw[<-sA]
   have xX:M.n=r.n:=by rw[<-sA]
   have oh:Hid (¬(own=r.id/\0<A)->0<=A->∀W,iD w W z M r.n->jc W a n os->eW eX 152 #[π (μ ⟨z.g,i*71,ν⟩),.string ⟨#[65]⟩,.agg #[ι κ own,ι κ seq,σ a n cap]] W λe w'=>e=ρ (τ #[])/\iD w w' z (ji r i s.data.toList) r.n):=by
    intro e1 e2 W E hoW;have hE:ji r i s.data.toList=M.iU i ((M.P i).put 65 (rb own seq os)):=by
     unfold ji;rw[hR];simp only;rw[af (by simp[hb]),hnf,af e1,ai e2,sA,hP3]
    rw[hE];refine E.call (r':=M.iU i ((M.P i).put 65 (rb own seq os))) λz1 R1 hl=> ?_;rw[<-hl.g];have hi3:i<M.n:=by rw[xX];exact hi
    refine(xW ⟨#[65]⟩ 65 own seq a n cap os z1.g (i*71) (z1.B i) (z1.v i) (M.P i) W (R1.pt i hi3) rfl hoW ki (by rw[hP3];exact vA)).mono ?_;rintro e X ⟨rfl,Mv⟩;have:=R1.port hi3 Mv;rw[xX]at this;exact⟨rfl,this⟩
   have tS:Hid (¬(own=r.id/\0<A)->¬0<=A->∀W,iD w W z M r.n->iD w W z (ji r i s.data.toList) r.n):=by
    intro e1 e2 W E;have hE:ji r i s.data.toList=M:=by
     unfold ji;rw[hR];simp only;rw[af (by simp[hb]),hnf,af e1,af e2,sA]
    rw[hE];exact E
   rw[hnf]at Jj H;obtain⟨T,hT⟩:∃T:dY->Prop,(λx=>iD w x z (ji r i s.data.toList) r.n)=T:=⟨_,rfl⟩
   have Lf:∀x,iD w x z (ji r i s.data.toList) r.n=T x:=λx=>ct hT x;simp only[Lf]at Jj oh tS;have HT:Hid _:=Lf;obtain⟨T3,hT3⟩:∃T:dY->Prop,(λx=>iD w x z M r.n)=T:=⟨_,rfl⟩
   have YH:∀x,iD w x z M r.n=T3 x:=λx=>ct hT3 x;have HR3:Hid (∀x,T3 x->x.cell? ⟨z.R,1,ν⟩=μ (σ (μ ⟨z.g,0,ν⟩) r.n z.cap)):=λx hx=>by
    rw[<-YH]at hx;have:=hx.c1;rw[xX]at this;exact this
   simp only[YH]at zb oh tS;have afN:Hid (∀x,T3 x->T3 x.drew):=λx hx=>by
    rw[<-YH]at hx⊢;exact hx.below xX (iZ x)
   have HR0:Hid (∀W,eE U W->W.cell? ⟨z.R,0,ν⟩=μ (ι κ r.id)/\W.cell? ⟨z.R,2,ν⟩=μ (π (μ ⟨z.Bb,0,ν⟩))):=λW E=>⟨(S.below E).c0,(S.below E).c2⟩
   clear hT Lf hT3 YH S hR La HR Vh b1 ba hA ho vA hP3 xX sA hnf ki;go_wp2_with(fail)
   try rw[nr]
   try rw[hZ]
   clear nr hZ;generalize xT r.K r.id=ow at NS sU;generalize qy r.K r.id=sq at NS sU H;generalize mS r.K r.id=es at NS sU H Va;generalize (r.K r.id).isSome=okb at NS
   go_cut [8] (λv wx=>∃(Y:Nat) (b:Option Addr) (V:Nat),v=π (μ ⟨Y,0,ν⟩)/\S3 wx Y ow sq (σ b es.length V)/\jc wx b es.length es/\eE U wx)
   case first=>
    have F0:=HR0.out _ (iZ U);have F0:U.drew.cell? ⟨z.R,0,ν⟩=μ (ι κ r.id)/\U.drew.cell? ⟨z.R,2,ν⟩=μ (π (μ ⟨z.Bb,0,ν⟩)):=F0;have ba:eE U (U.alloc (γ #[ι κ 0,ι κ 0,σ ν 0 0] 40)).drew:=jD (gW U _);have xX:iX (U.alloc (γ #[ι κ 0,ι κ 0,σ ν 0 0] 40)).drew U.heap.size #[ι κ 0,ι κ 0,σ ν 0 0] 40:=(iX.new U _ _).drew;have ju:z.R≠U.heap.size:=eh;clear sU H Jj zb oh tS HR3 c1 g1 gl S2 Yy
    go_region_held3(λx=>x.cell? ⟨z.R,0,ν⟩=μ (ι κ r.id)/\x.cell? ⟨z.R,2,ν⟩=μ (π (μ ⟨z.Bb,0,ν⟩)))
     (first|assumption|exact F0|exact F1|exact oB F1|exact oB F0|exact uQ F1 ju ju)
     (first
      |(go_at_call 177;refine(NS _ (by first|exact iZ U|exact ba)).mono ?_;rintro e w3 ⟨b,V,rfl,Vn,b3,F1⟩;first|(have mM:=xX.below b3;have y0:=mM.cell 0;have y1:=mM.cell 1;have y2:=mM.cell 2;have z0:=mM.frozen 0;have z1:=mM.frozen 1;have z2:=mM.frozen 2)|skip))
    all_goals
     go_wp2_with(fail)
     go_meet
     first
      |exact⟨_,b,V,rfl,⟨ar w3 _ _ (0,0) 0,ar w3 _ _ (0,0) 1,ar w3 _ _ (0,0) 2⟩,Vn.below (gW _ _),gk (gk (iZ U) b3) (gW _ _)⟩
      |(have h5:=Jf (a:=.int .i64 ow) (b:=.int .i64 sq) (c:=.slice b es.length V) mM rfl (Nat.le_refl _) (gk ba b3)
        have h6:=((mM.set 0 (ι κ ow)).set 1 (ι κ sq)).set 2 (σ b es.length V);exact⟨_,b,V,rfl,⟨h6.cell 0,h5.1,h5.2.1⟩,jc.not_zero Vn mM Va.out h5.2.2.2,h5.2.2.1⟩)
   case rest=>
    obtain⟨Y,b,V,rfl,SY,Vn,qG⟩:=hcut;have SZ:=S2.below qG;have hoa:=Yy.below qG;have hR0:=HR0.out _ qG;have zl:=ag _ _ SZ.1;have yl:=ag _ _ SY.1;have rl:=ag _ _ hR0.1;cases q1:(own==r.id)with
    |false=>
     have ll:¬(own=r.id/\0<A):=λe=>by simp[e.1]at q1
     obtain⟨d0,d1,d2⟩:=SZ;have d3:=hR0.1;clear sU H NS
     go_wp2
     go_quiet(fail)
     have b5:=below_drewN qG nq;obtain⟨Q,Mt⟩:=gg (wc.drewN nq);rw[Mt]at b5;rw[Mt];clear Mt d0 d1 d2 d3 hR0 hoa Vn SY qG zl yl rl;have SZ5:=S2.below b5;have Xg:=Yy.below b5;have R5:=HR0.out _ (gk b5 (iZ Q));have ht5:=zb.out _ (gk b5 (iZ Q)) (Xg.below (iZ Q));have D:Q.drew.cell? ⟨z.R,2,ν⟩=μ (π (μ ⟨z.Bb,0,ν⟩))/\Q.drew.cell? ⟨Z,0,ν⟩=μ (ι κ own)/\Q.drew.cell? ⟨Z,1,ν⟩=μ (ι κ seq)/\Q.drew.cell? ⟨Z,2,ν⟩=μ (σ a n cap):=⟨R5.2,SZ5⟩
     have G:eW eX 190 #[π (μ ⟨z.Bb,0,ν⟩),ι κ (i:Int),.agg #[ι κ own,ι κ seq,σ a n cap]] Q.drew λe w'=>e=ρ (τ #[ι κ A,η])/\T3 w'/\jc w' a n os/\(w'.cell? ⟨z.R,2,ν⟩=μ (π (μ ⟨z.Bb,0,ν⟩))/\w'.cell? ⟨Z,0,ν⟩=μ (ι κ own)/\w'.cell? ⟨Z,1,ν⟩=μ (ι κ seq)/\w'.cell? ⟨Z,2,ν⟩=μ (σ a n cap)):=by
      refine ht5.mono ?_;rintro e X ⟨rfl,h1,h2,h3⟩;exact⟨rfl,h1,h2,h3 _ _ D.1,h3 _ _ D.2.1,h3 _ _ D.2.2.1,h3 _ _ D.2.2.2⟩
     clear ht5 zb R5 SZ5 Xg
     go_wp2
     go_region_held3(λx=>x.cell? ⟨z.R,2,ν⟩=μ (π (μ ⟨z.Bb,0,ν⟩))/\x.cell? ⟨Z,0,ν⟩=μ (ι κ own)/\x.cell? ⟨Z,1,ν⟩=μ (ι κ seq)/\x.cell? ⟨Z,2,ν⟩=μ (σ a n cap))
      (first|assumption|exact D|exact F6)
      (first
       |(go_at_call 190;refine G.mono ?_;rintro e X ⟨rfl,J,ho6,F6⟩))
     all_goals
      have m1:=HR3.out _ J;by_cases UQ:0<=A
      ·have hp7:=oh.out ll UQ;have F7:X.drew.cell? ⟨z.R,1,ν⟩=μ (σ (μ ⟨z.g,0,ν⟩) r.n z.cap)/\X.drew.cell? ⟨Z,0,ν⟩=μ (ι κ own)/\X.drew.cell? ⟨Z,1,ν⟩=μ (ι κ seq)/\X.drew.cell? ⟨Z,2,ν⟩=μ (σ a n cap):=⟨m1,F6.2⟩
       have hp8:=hp7 X.drew (afN.out _ J) (ho6.below (iZ X));have m1':X.drew.cell? ⟨z.R,1,ν⟩=μ (σ (μ ⟨z.g,0,ν⟩) r.n z.cap):=F7.1;have m2:X.drew.cell? ⟨Z,0,ν⟩=μ (ι κ own):=F7.2.1;have m3:X.drew.cell? ⟨Z,1,ν⟩=μ (ι κ seq):=F7.2.2.1;have m4:X.drew.cell? ⟨Z,2,ν⟩=μ (σ a n cap):=F7.2.2.2;have m5:=ag _ _ m1';have m6:=ag _ _ m2;clear G oh tS hp7 D F6 F7 Jj
       go_wp2
       go_region_with(go_at_call 152;refine hp8.mono ?_;rintro e w8 ⟨rfl,YI⟩)
       all_goals
        clear hp8
        go_wp2
        first|go_end0|refine iJ rfl rfl ?_
        exact⟨rfl,by rw[HT.out];exact YI⟩
      ·have YI:=tS.out ll eh _ J;clear G oh tS D F6 Jj
       go_wp2
       first|go_end0|refine iJ rfl rfl ?_
       exact⟨rfl,by rw[HT.out];exact YI⟩
    |true=>
     have HID:Hid (own=r.id):=by show own=r.id;simpa using q1
     have hns:=H.out HID.out;obtain⟨d0,d1,d2⟩:=SZ;obtain⟨y0,y1,y2⟩:=SY;have F0:wc.drew.cell? ⟨z.R,0,ν⟩=μ (ι κ r.id)/\wc.drew.cell? ⟨Z,0,ν⟩=μ (ι κ own)/\wc.drew.cell? ⟨Z,1,ν⟩=μ (ι κ seq)/\wc.drew.cell? ⟨Z,2,ν⟩=μ (σ a n cap)/\wc.drew.cell? ⟨Y,0,ν⟩=μ (ι κ ow)/\wc.drew.cell? ⟨Y,1,ν⟩=μ (ι κ sq)/\wc.drew.cell? ⟨Y,2,ν⟩=μ (σ b es.length V):=⟨hR0.1,d0,d1,d2,y0,y1,y2⟩
     have qv:=sU.out wc.drew b V (hoa.below (iZ wc)) (Vn.below (iZ wc));rw[<-hns]at qv;clear hns;have mP:eW eX 189 #[.agg #[ι κ own,ι κ seq,σ a n cap],.agg #[ι κ ow,ι κ sq,σ b es.length V]] wc.drew λe w'=>e=ρ (ι κ A)/\eE U w'/\(w'.cell? ⟨z.R,0,ν⟩=μ (ι κ r.id)/\w'.cell? ⟨Z,0,ν⟩=μ (ι κ own)/\w'.cell? ⟨Z,1,ν⟩=μ (ι κ seq)/\w'.cell? ⟨Z,2,ν⟩=μ (σ a n cap)/\w'.cell? ⟨Y,0,ν⟩=μ (ι κ ow)/\w'.cell? ⟨Y,1,ν⟩=μ (ι κ sq)/\w'.cell? ⟨Y,2,ν⟩=μ (σ b es.length V)):=by
      refine qv.mono ?_;rintro e w5 ⟨rfl,b5⟩;have bb:=gk qG (gk (iZ wc) b5);have SY5:=S3.below (x:=wc.drew) ⟨y0,y1,y2⟩ b5;exact⟨rfl,bb,(HR0.out _ bb).1,(S2.below bb).1,(S2.below bb).2.1,(S2.below bb).2.2,SY5.1,SY5.2.1,SY5.2.2⟩
     clear sU H NS qv d0 d1 d2 y0 y1 y2 hR0 hoa Vn
     go_wp2
     go_region_held3(λx=>x.cell? ⟨z.R,0,ν⟩=μ (ι κ r.id)/\x.cell? ⟨Z,0,ν⟩=μ (ι κ own)/\x.cell? ⟨Z,1,ν⟩=μ (ι κ seq)/\x.cell? ⟨Z,2,ν⟩=μ (σ a n cap)/\x.cell? ⟨Y,0,ν⟩=μ (ι κ ow)/\x.cell? ⟨Y,1,ν⟩=μ (ι κ sq)/\x.cell? ⟨Y,2,ν⟩=μ (σ b es.length V))
      (first|assumption|exact F0|exact F1)
      (first
       |(go_at_call 189;refine mP.mono ?_;rintro e Q ⟨rfl,b5,F1⟩))
     all_goals
      by_cases h0:0<A
      ·have YC:=Jj.out HID.out h0 _ b5;have m3:=F1.2.2.1;have m6:=ag _ _ m3;clear mP zb oh tS F0 F1 Jj;go_wp2_with(fail);refine YC.mono ?_;rintro e w8 ⟨rfl,YI⟩;clear YC
       go_wp2
       first|go_end0|refine iJ rfl rfl ?_
       exact⟨rfl,by rw[HT.out];exact YI⟩
      ·have ll:¬(own=r.id/\0<A):=λe=>h0 e.2;clear mP F0 F1 qG zl yl rl;have SZ5:=S2.below b5;have Xg:=Yy.below b5;have R5:=HR0.out _ (gk b5 (iZ Q));have ht5:=zb.out _ (gk b5 (iZ Q)) (Xg.below (iZ Q));have D:Q.drew.cell? ⟨z.R,2,ν⟩=μ (π (μ ⟨z.Bb,0,ν⟩))/\Q.drew.cell? ⟨Z,0,ν⟩=μ (ι κ own)/\Q.drew.cell? ⟨Z,1,ν⟩=μ (ι κ seq)/\Q.drew.cell? ⟨Z,2,ν⟩=μ (σ a n cap):=⟨R5.2,SZ5⟩
       have G:eW eX 190 #[π (μ ⟨z.Bb,0,ν⟩),ι κ (i:Int),.agg #[ι κ own,ι κ seq,σ a n cap]] Q.drew λe w'=>e=ρ (τ #[ι κ A,η])/\T3 w'/\jc w' a n os/\(w'.cell? ⟨z.R,2,ν⟩=μ (π (μ ⟨z.Bb,0,ν⟩))/\w'.cell? ⟨Z,0,ν⟩=μ (ι κ own)/\w'.cell? ⟨Z,1,ν⟩=μ (ι κ seq)/\w'.cell? ⟨Z,2,ν⟩=μ (σ a n cap)):=by
        refine ht5.mono ?_;rintro e X ⟨rfl,h1,h2,h3⟩;exact⟨rfl,h1,h2,h3 _ _ D.1,h3 _ _ D.2.1,h3 _ _ D.2.2.1,h3 _ _ D.2.2.2⟩
       clear ht5 zb R5 SZ5 Xg
       go_wp2
       go_region_held3(λx=>x.cell? ⟨z.R,2,ν⟩=μ (π (μ ⟨z.Bb,0,ν⟩))/\x.cell? ⟨Z,0,ν⟩=μ (ι κ own)/\x.cell? ⟨Z,1,ν⟩=μ (ι κ seq)/\x.cell? ⟨Z,2,ν⟩=μ (σ a n cap))
        (first|assumption|exact D|exact F6)
        (first
         |(go_at_call 190;refine G.mono ?_;rintro e X ⟨rfl,J,ho6,F6⟩))
       all_goals
        have m1:=HR3.out _ J;by_cases UQ:0<=A
        ·have hp7:=oh.out ll UQ;have F7:X.drew.cell? ⟨z.R,1,ν⟩=μ (σ (μ ⟨z.g,0,ν⟩) r.n z.cap)/\X.drew.cell? ⟨Z,0,ν⟩=μ (ι κ own)/\X.drew.cell? ⟨Z,1,ν⟩=μ (ι κ seq)/\X.drew.cell? ⟨Z,2,ν⟩=μ (σ a n cap):=⟨m1,F6.2⟩
         have hp8:=hp7 X.drew (afN.out _ J) (ho6.below (iZ X));have m1':X.drew.cell? ⟨z.R,1,ν⟩=μ (σ (μ ⟨z.g,0,ν⟩) r.n z.cap):=F7.1;have m2:X.drew.cell? ⟨Z,0,ν⟩=μ (ι κ own):=F7.2.1;have m3:X.drew.cell? ⟨Z,1,ν⟩=μ (ι κ seq):=F7.2.2.1;have m4:X.drew.cell? ⟨Z,2,ν⟩=μ (σ a n cap):=F7.2.2.2;have m5:=ag _ _ m1';have m6:=ag _ _ m2;clear G oh tS hp7 D F6 F7 Jj
         go_wp2
         go_region_with(go_at_call 152;refine hp8.mono ?_;rintro e w8 ⟨rfl,YI⟩)
         all_goals
          clear hp8
          go_wp2
          first|go_end0|refine iJ rfl rfl ?_
          exact⟨rfl,by rw[HT.out];exact YI⟩
        ·have YI:=tS.out ll eh _ J;clear G oh tS D F6 Jj
         go_wp2
         first|go_end0|refine iJ rfl rfl ?_
         exact⟨rfl,by rw[HT.out];exact YI⟩
 ·have ee:jm f=.iface 128 (ι κ (f:Int)):=by simp only[jm];rw[af hf]
  rw[ee];have hE:ji r i s.data.toList=r:=by
   unfold ji;rw[hR];simp only;rw[ai (.inl hf)]
  have HW:Hid (iD w (w1.alloc (γ #[ι κ own,ι κ seq,σ a n cap] 40)) z (ji r i s.data.toList) r.n):=by
   show iD _ _ _ _ _;rw[hE];exact iD.still HR.out (gk b1 ba)
  clear hR ho hf ee hE
  go_wp2
  first|go_end0|refine iJ rfl rfl ?_
  exact⟨rfl,HW.out⟩
theorem Rq(a c me f s:Int)(b:Bool)(w:dY):eW eX 187 #[.agg #[ι κ a,.bool b,ι κ c],ι κ me,.agg #[ι κ f,ι κ s]] w λe w'=>
 e=ρ (.agg #[.int .i64 (jg me f s).who,.bool (jg me f s).both,.int .i64 (jg me f s).left])/\eE w w':=by
 have h:=TW a c me f s b w;have e:zk me f s=((jg me f s).who,(jg me f s).both,(jg me f s).left):=by
  unfold zk jg;split
  ·rfl
  ·simp only[e7,true_and,and_true];by_cases h:s=me
   ·simp[h]
   ·simp[h]
 rw[e]at h;exact h
theorem Gs(s:ByteArray)(z:Zt)(r:iM)(i:Nat)(w:dY)(h:mr w z r)(iN:ln r)(hi:i<r.n):
 eW eX 134 #[π (μ ⟨z.R,0,ν⟩),ι κ (i:Int),.string s] w λe w'=>e=ρ (τ #[])/\iD w w' z (if(kG s.data.toList).2.2=0 then r.meet i (jg r.id (kG s.data.toList).1 (kG s.data.toList).2.1)else r) r.n:=by
 have V:=MU s w;have kS:(i:Int)<(r.n:Int):=eh;have O1:(0:Int)<=(i:Int):=eh;by_cases E:(kG s.data.toList).2.2=0
 ·rw[ai E];rw[E]at V;have hf:1<=(kG s.data.toList).1/\(kG s.data.toList).1<=6:=by
   unfold kG at E⊢;split at E
   ·rename_i hc
    rw[ai hc];have:=hc.2;simp only[ug,Bool.and_eq_true,decide_eq_true_eq]at this;simp only;omega
   ·simp at E
  have e0:jm 0=η:=rfl;rw[e0]at V;generalize (kG s.data.toList).1=f at V hf⊢;generalize (kG s.data.toList).2.1=g at V⊢;have U:∀W Z,eE w W->w.heap.size<=Z->(W.cell? ⟨Z,0,ν⟩=μ (.int .i64 f)/\W.cell? ⟨Z,1,ν⟩=μ (.int .i64 g))->eW eX 74 #[π (μ ⟨z.R,0,ν⟩),.int .i64 (i:Int),.agg #[.int .i64 (jg r.id f g).who,.bool (jg r.id f g).both,.int .i64 (jg r.id f g).left]] W λe w'=>e=ρ (τ #[])/\iD w w' z (r.meet i (jg r.id f g)) r.n/\(w'.cell? ⟨Z,0,ν⟩=μ (.int .i64 f)/\w'.cell? ⟨Z,1,ν⟩=μ (.int .i64 g)/\w'.cell? ⟨z.R,0,ν⟩=μ (.int .i64 r.id)/\w'.cell? ⟨z.R,1,ν⟩=μ (σ (μ ⟨z.g,0,ν⟩) r.n z.cap)):=by
   intro W Z hW A hc;have R:=h.below hW;refine(wz z r i (jg r.id f g) W R iN hi (oj.YA iN.id.1 hf)).mono ?_;rintro e w' ⟨rfl,hw⟩;have OJ:¬z.mine r.n Z:=h.uo A;have k0:=hw.c0;have k1:=hw.c1;rw[Dm]at k0;rw[A5]at k1;exact⟨rfl,iD.first h rfl hW (λ_=>hw),hw.cell R (p:=⟨Z,0,ν⟩) OJ hc.1,hw.cell R (p:=⟨Z,1,ν⟩) OJ hc.2,k0,k1⟩
  have Q:Hid (∀W,eE w W->W.cell? ⟨z.R,0,ν⟩=μ (.int .i64 r.id)/\W.cell? ⟨z.R,1,ν⟩=μ (σ (μ ⟨z.g,0,ν⟩) r.n z.cap)/\W.cell? ⟨z.g,i*71+67,ν⟩=μ (.int .i64 (r.P i).pe.who)/\W.cell? ⟨z.g,i*71+67+1,ν⟩=μ (.bool (r.P i).pe.both)/\W.cell? ⟨z.g,i*71+67+2,ν⟩=μ (.int .i64 (r.P i).pe.left)):=by
   intro W hW;have R:=h.below hW;exact⟨R.c0,R.c1,(R.pt i hi).c67,(R.pt i hi).c68,(R.pt i hi).c69⟩
  obtain⟨T,hT⟩:∃T:dY->Prop,(λx=>iD w x z (r.meet i (jg r.id f g)) r.n)=T:=⟨_,rfl⟩
  have Lf:∀x,iD w x z (r.meet i (jg r.id f g)) r.n=T x:=λx=>ct hT x;simp only[Lf]at U⊢;have H:=Rq (r.P i).pe.who (r.P i).pe.left r.id f g (r.P i).pe.both;generalize (jg r.id f g).who=q1 at U H;generalize (jg r.id f g).both=q2 at U H;generalize (jg r.id f g).left=q3 at U H;generalize (r.P i).pe.who=p1 at Q H;generalize (r.P i).pe.both=p2 at Q H;generalize (r.P i).pe.left=p3 at Q H;generalize r.id=id at Q H U;have hRl:=h.lt;have OT:=h.JZ;generalize z.R=RR at U Q hRl⊢;generalize z.g=G at Q OT U;generalize z.cap=cp at Q U;generalize r.n=n at Q kS U;clear h iN hT Lf E hf
  go_in
  go_wp2_with(fail);refine V.mono ?_;rintro e w1 ⟨rfl,b1⟩;have ba:=gW w1 (γ #[ι κ f,ι κ g] 230);have hA:=λj=>ar w1 #[ι κ f,ι κ g] 230 (0,0) j;have b2:=gk b1 ba;obtain⟨J,nr⟩:=gg (w1.alloc (γ #[ι κ f,ι κ g] 230));obtain⟨Z,A⟩:=gg (w1.heap.size);rw[nr]at b2;have z0:J.cell? ⟨Z,0,ν⟩=μ (ι κ f):=by rw[<-nr,<-A];exact hA 0
  have z1:J.cell? ⟨Z,1,ν⟩=μ (ι κ g):=by rw[<-nr,<-A];exact hA 1
  have b3:=gk b2 (iZ J);have M:=Q.out _ b3;have F0:J.drew.cell? ⟨Z,0,ν⟩=μ (ι κ f)/\J.drew.cell? ⟨Z,1,ν⟩=μ (ι κ g)/\J.drew.cell? ⟨RR,0,ν⟩=μ (ι κ id)/\J.drew.cell? ⟨RR,1,ν⟩=μ (σ (μ ⟨G,0,ν⟩) n cp):=⟨z0,z1,M.1,M.2.1⟩
  have m1:=M.2.2.1;have m2:=M.2.2.2.1;have m3:=M.2.2.2.2;have zl:Z<J.drew.heap.size:=ag _ _ F0.1;have hZw:w.heap.size<=Z:=by rw[<-A];exact b1.size
  have gl2:G<J.drew.heap.size:=ag _ _ m1;have hh:eW eX 187 #[.agg #[ι κ p1,.bool p2,ι κ p3],ι κ id,.agg #[ι κ f,ι κ g]] J.drew λe w'=>e=ρ (.agg #[ι κ q1,.bool q2,ι κ q3])/\eE w w'/\(w'.cell? ⟨Z,0,ν⟩=μ (ι κ f)/\w'.cell? ⟨Z,1,ν⟩=μ (ι κ g)/\w'.cell? ⟨RR,0,ν⟩=μ (ι κ id)/\w'.cell? ⟨RR,1,ν⟩=μ (σ (μ ⟨G,0,ν⟩) n cp)):=by
   refine(H J.drew).mono ?_;rintro e w' ⟨rfl,b4⟩;have F4:=Q.out _ (gk b3 b4);exact⟨rfl,gk b3 b4,(aj (a:=⟨Z,0,ν⟩) (b4.block Z zl)).trans F0.1,(aj (a:=⟨Z,1,ν⟩) (b4.block Z zl)).trans F0.2.1,F4.1,F4.2.1⟩
  clear V H hA ba b1 b2;go_wp2_with(fail)
  try rw[nr]
  try rw[A]
  clear nr A;refine cz (S:=λx=>x.cell? ⟨Z,0,ν⟩=μ (ι κ f)/\x.cell? ⟨Z,1,ν⟩=μ (ι κ g)/\x.cell? ⟨RR,0,ν⟩=μ (ι κ id)/\x.cell? ⟨RR,1,ν⟩=μ (σ (μ ⟨G,0,ν⟩) n cp)) gq F0 (λlF=> ?_);refine jn 0 (μ 15) rfl rfl gq gq gq (λ_ _ _ h=>h) (by rfl) (v:= ?_) ?_ je ?_
  rotate_left
  ·intro X Y
   (try dsimp only at Y)
   go_simp
   try with_reducible rfl
  simp only[gF,gG,gH,gJ];refine jn 1 (μ 16) rfl rfl gq gq gq (λ_ _ _ h=>h) (by rfl) (v:= ?_) ?_ je ?_
  rotate_left
  ·intro X Y
   (try dsimp only at Y)
   go_simp
   try with_reducible rfl
  simp only[gF,gG,gH,gJ];refine jn 2 (μ 17) rfl rfl gq gq gq (λ_ _ _ h=>h) (by rfl) (v:= ?_) ?_ je ?_
  rotate_left
  ·intro X Y
   (try dsimp only at Y)
   go_simp
   try with_reducible rfl
  simp only[gF,gG,gH,gJ];refine jn 3 (μ 18) rfl rfl gq gq gq (λ_ _ _ h=>h) (by rfl) (v:= ?_) ?_ je ?_
  rotate_left
  ·intro X Y
   (try dsimp only at Y)
   go_simp
   try with_reducible rfl
  simp only[gF,gG,gH,gJ];refine jn 4 (μ 19) rfl rfl gq gq gq (λ_ _ _ h=>h) (by rfl) (v:= ?_) ?_ je ?_
  rotate_left
  ·intro X Y
   (try dsimp only at Y)
   go_simp
   try with_reducible rfl
  simp only[gF,gG,gH,gJ];refine jn 5 (μ 20) rfl rfl gq gq gq (λ_ _ _ h=>h) (by rfl) (v:= ?_) ?_ je ?_
  rotate_left
  ·intro X Y
   (try dsimp only at Y)
   go_simp
   try with_reducible rfl
  simp only[gF,gG,gH,gJ];refine jn 6 (μ 21) rfl rfl gq gq gq (λ_ _ _ h=>h) (by rfl) (v:= ?_) ?_ je ?_
  rotate_left
  ·intro X Y
   (try dsimp only at Y)
   go_simp
   try with_reducible rfl
  simp only[gF,gG,gH,gJ];refine jn 7 (μ 22) rfl rfl gq gq gq (λ_ _ _ h=>h) (by rfl) (v:= ?_) ?_ je ?_
  rotate_left
  ·intro X Y
   (try dsimp only at Y)
   go_simp
   try with_reducible rfl
  simp only[gF,gG,gH,gJ];refine jn 8 (μ 23) rfl rfl gq gq gq (λ_ _ _ h=>h) (by rfl) (v:= ?_) ?_ je ?_
  rotate_left
  ·intro X Y
   (try dsimp only at Y)
   go_simp
   try with_reducible rfl
  simp only[gF,gG,gH,gJ];refine jn 10 (μ 25) rfl rfl gq gq gq (λ_ _ _ h=>h) (by rfl) (v:= ?_) ?_ je ?_
  rotate_left
  ·intro X Y
   (try dsimp only at Y)
   go_simp
   try with_reducible rfl
  simp only[gF,gG,gH,gJ];refine jn 11 (μ 26) rfl rfl gq gq gq (λ_ _ _ h=>h) (by rfl) (v:= ?_) ?_ je ?_
  rotate_left
  ·intro X Y
   (try dsimp only at Y)
   go_simp
   try with_reducible rfl
  simp only[gF,gG,gH,gJ];refine jn 12 (μ 27) rfl rfl gq gq gq (λ_ _ _ h=>h) (by rfl) (v:= ?_) ?_ je ?_
  rotate_left
  ·intro X Y
   (try dsimp only at Y)
   go_simp
   try with_reducible rfl
  simp only[gF,gG,gH,gJ];refine jn 13 (μ 28) rfl rfl gq gq gq (λ_ _ _ h=>h) (by rfl) (v:= ?_) ?_ je ?_
  rotate_left
  ·intro X Y
   (try dsimp only at Y)
   go_simp
   try with_reducible rfl
  simp only[gF,gG,gH,gJ];refine jn 14 (μ 29) rfl rfl gq gq gq (λ_ _ _ h=>h) (by rfl) (v:= ?_) ?_ je ?_
  rotate_left
  ·intro X Y
   (try dsimp only at Y)
   go_simp
   try with_reducible rfl
  simp only[gF,gG,gH,gJ];refine aR (rs:=[9]) gq gY ?_;refine aH (o:=_) rfl (λK D=> ?_) aO
  go_simp
  refine D.out _ _ ?_ (λlF=> ?_)
  ·exact F0
  clear D K;refine aR (rs:=[15]) gq gY ?_;refine aH (o:=_) rfl (λK D=> ?_) aO
  go_simp
  refine hh.mono ?_;rintro e w4 ⟨rfl,b4,F1⟩
  (try go_wp2_with(fail))
  refine D.out _ _ ?_ (λlF=> ?_)
  ·exact F1
  clear D K;refine aR (rs:=[16]) gq gY ?_;refine aH (o:=_) rfl (λK D=> ?_) aO
  go_simp
  refine(U _ Z b4 hZw ⟨F1.1,F1.2.1⟩).mono ?_;rintro e w5 ⟨rfl,hW,F2⟩
  (try go_wp2_with(fail))
  refine D.out _ _ ?_ (λlF=> ?_)
  ·exact F2
  clear D K;refine cS gq ?_ _
  all_goals
   clear U hh F0 F1 F2 Q
   go_wp2
   first|go_end0|refine iJ rfl rfl ?_
   exact⟨rfl,hW⟩
 ·rw[af E];have ee:jm (kG s.data.toList).2.2=.iface 128 (ι κ ((kG s.data.toList).2.2:Int)):=by simp only[jm];rw[af E]
  rw[ee]at V;generalize (kG s.data.toList).1=f at V;generalize (kG s.data.toList).2.1=g at V;generalize (kG s.data.toList).2.2=k at V;have HR:Hid _:=h;clear h iN ee E
  go_in
  go_wp2_with(fail);refine V.mono ?_;rintro e w1 ⟨rfl,b1⟩;have HW:Hid _:=iD.still HR.out (gk b1 (gW w1 (γ #[ι κ f,ι κ g] 230)));clear V
  go_wp2
  first|go_end0|refine iJ rfl rfl ?_
  exact⟨rfl,HW.out⟩
def zM(w w':dY)(y':Yt):Nat->Prop:=λk=>w.heap.size<=k/\k<w'.heap.size/\(y'.own k \/y'.ext k)
theorem jG.owned {y':Yt} (h:jG w y n)(hs:w.heap.size<=w'.heap.size)(H:∀k,k<w.heap.size->¬y.own k->¬y.ext k->w'.heap[k]? =w.heap[k]?)
 (U:y'.bM=y.bM) (T:y'.z=λj=>(y.z j).plus (zM w w' y')) (G:∀k,y'.own k \/y'.ext k->k<w'.heap.size)
 (V:∀k,y'.own k->y.own k \/w.heap.size<=k) (A:∀k,y'.ext k->y.ext k \/w.heap.size<=k) (X:n'.n=n.n) (M:n'.ms=n.ms) (D:n'.R=n.R)
 (c9:n'.nc<=9)
 (oe:iX w' y'.N #[σ (μ ⟨y'.gR,0,ν⟩) n'.n y'.tQ,σ (μ ⟨y'.gI,0,ν⟩) n'.n y'.yI,.map (μ y'.bM),y'.cv n'.nc] 190)
 (rr:qp w' y'.gR 0 n'.n (λi=>π (μ ⟨(y.z i).R,0,ν⟩))) (ri:qp w' y'.gI 0 n'.n y'.iv) (rc:∀g,y'.gC=μ g->∀c,c<n'.nc->qp w' g (c*7) 7 (CU (n'.C c) (y'.ov c))) (gc:∀c,c<n'.nc->∃g,y'.gC=μ g)
 (ib:∀i,i<n'.n->Row w' 3 (y'.iv i) (n'.j8 i).length (rM (n'.j8 i))) (ob:∀c d,c<n'.nc->d<2->Row w' 1 (y'.ov c d) ((n'.C c).on d).length (iO ((n'.C c).on d))) (ol:∀c d,c<n'.nc->d<2->((n'.C c).on d).length<=2000)
 (en:∀c d,c<n'.nc->d<2->((n'.C c).e d).1<n'.n/\((n'.C c).e d).2<3) (inj:∀l l' k,y'.at l=μ k->y'.at l'=μ k->l=l') (nx:∀k,y'.ext k->¬y'.own k):
 jG w' y' n'/\∀k,y'.all n.n k->y.all n.n k \/w.heap.size<=k:=by
 have Q:∀j k,(y'.z j).ph k↔(y.z j).ph k:=λj k=>by rw[T];exact dW
 have ZK:=h.Hp;refine⟨⟨by rw[X];exact h.n1,by rw[X];exact h.n6,c9,oe,?_,ri,rc,gc,?_,λi hi=> ?_,λi hi=> ?_,ib,ob,ol,en,inj,λi hi k Y=> ?_,nx,⟨λe=> ?_,λe=> ?_,λi hi e=> ?_⟩,λe=> ?_⟩,λk S=> ?_⟩
 ·refine rr.congr λj _=> ?_;rw[T];rfl
 ·obtain⟨E,h1,h2⟩:=h.mp;refine⟨E,?_,by rw[X,M];exact h2⟩;rw[U];exact h1.keep (H _ ZK h.nM.1 h.nM.2.1)
 ·rw[X]at hi;rw[T,D];refine(h.rt i hi).besides hs (λk S hc=>H k S (λe=> ?_) (λe=> ?_)) _ (λk e=>⟨e.1,e.2.1⟩)
  ·have Y:=h.away i hi k (.inl e);rcases hc with hc|hc
   ·exact hc Y.1
   ·rw[(h.rn i hi).1]at hc;exact Y.2 hc
  ·have Y:=h.away i hi k (.inr (.inl e));rcases hc with hc|hc
   ·exact hc Y.1
   ·rw[(h.rn i hi).1]at hc;exact Y.2 hc
 ·rw[X]at hi;rw[D];exact h.rn i hi
 ·rw[X]at hi Y;rw[T];show((y.z i).fm.no k \/zM w w' y' k)/\¬(y.z i).mine 3 k;have YJ:w.heap.size<=k->¬(y.z i).mine 3 k:=λe Z=>by
   have:=h.yK hi (.inl Z);omega
  rcases Y with e|e|⟨j,J,ju,e⟩
  ·rcases V k e with Z|Z
   ·have Y:=h.away i hi k (.inl Z);exact⟨.inl Y.1,Y.2⟩
   ·exact⟨.inr ⟨Z,G k (.inl e),.inl e⟩,YJ Z⟩
  ·rcases A k e with Z|Z
   ·have Y:=h.away i hi k (.inr (.inl Z));exact⟨.inl Y.1,Y.2⟩
   ·exact⟨.inr ⟨Z,G k (.inr e),.inr e⟩,YJ Z⟩
  ·have Y:=h.away i hi k (.inr (.inr ⟨j,J,ju,(Q j k).1 e⟩));exact⟨.inl Y.1,Y.2⟩
 ·rw[U]at e;rcases V _ e with Z|Z
  ·exact h.nM.1 Z
  ·omega
 ·rw[U]at e;rcases A _ e with Z|Z
  ·exact h.nM.2.1 Z
  ·omega
 ·rw[X]at hi;rw[U]at e;exact h.nM.2.2 i hi ((Q i _).1 e)
 ·rcases V 0 e with Z|Z
  ·exact h.z0 Z
  ·have:=h.Hp;omega
 ·rcases S with e|⟨j,J,e⟩
  ·exact(V k e).imp_left .inl
  ·exact .inl (.inr ⟨j,J,(Q j k).1 e⟩)
theorem jG.vr(h:jG w y n)(e:y.at l=μ k):k<w.heap.size:=h.lt (.inl ⟨l,e⟩)
theorem jG.wB(h:jG w y n) {l':Lab} {k':Nat} (e:y.at l=μ k)(e':y.at l'=μ k')(Z:l≠l'):k≠k':=λx=>Z (h.inj l l' k e (by rw[e',x]))
theorem jG.Pv(h:jG w y n)(hc:c<n.nc)(D:y.gC=μ g)(X:qA)(o:Nat->dZ)(hs:w.heap.size<=w'.heap.size)(GF:w'.os=w.os)(Pn:w'.tape=w.tape)(Ms:w'.output=w.output)
 (hk:∀k,k<w.heap.size->k≠g->(∀d,d<2->(y.ov c d).ownBlock≠μ k)->w'.heap[k]? =w.heap[k]?)
 (hcell:∀j,j<c*7 \/c*7+7<=j->w'.cell? ⟨g,j,ν⟩=w.cell? ⟨g,j,ν⟩) (Td:∀j,w'.frozen? ⟨g,j,ν⟩=w.frozen? ⟨g,j,ν⟩) (uM:qp w' g (c*7) 7 (CU X o))
 (Vn:∀d,d<2->Row w' 1 (o d) (X.on d).length (iO (X.on d))) (XY:∀d,d<2->(X.on d).length<=2000) (Aq:X.e=(n.C c).e)
 (jl:∀d k,d<2->(o d).ownBlock=μ k->(y.ov c d).ownBlock=μ k \/w.heap.size<=k) (ju:∀k,(o 0).ownBlock=μ k->(o 1).ownBlock≠μ k):iF w w' y (n.lq c X) n.n:=by
 obtain⟨ov,G⟩:∃ov:Nat->Nat->dZ,ov=λx d=>if x=c/\d<2 then o d else y.ov x d:=⟨_,rfl⟩
 have V:∀d,d<2->ov c d=o d:=λd hd=>by rw[G];simp[hd]
 have Q:∀x d,¬(x=c/\d<2)->ov x d=y.ov x d:=λx d hx=>by rw[G];simp only[if_neg hx]
 obtain⟨M,Ca⟩:∃M:Yt,M={y with ov:=ov}:=⟨_,rfl⟩
 obtain⟨y',Y⟩:∃y':Yt,y'={y with ov:=ov,z:=λj=>(y.z j).plus (zM w w' M)}:=⟨_,rfl⟩
 have jF:∀k,y'.own k↔M.own k:=λk=>by
  rw[Y,Ca];constructor
  ·rintro⟨l,e⟩;exact⟨l,by cases l<;>exact e⟩
  ·rintro⟨l,e⟩;exact⟨l,by cases l<;>exact e⟩
 have hX:zM w w' M=zM w w' y':=by
  funext k
  apply propext;unfold zM;rw[<-jF k];have:M.ext=y'.ext:=by rw[Ca,Y]
  rw[this]
 have hat:∀l k,y'.at l=μ k->y.at l=μ k \/(w.heap.size<=k/\∃d,d<2/\l=.on c d/\(o d).ownBlock=μ k):=by
  intro l k e;rw[Y]at e;cases l with
  |N=>exact .inl e
  |R=>exact .inl e
  |I=>exact .inl e
  |C=>exact .inl e
  |ib i=>exact .inl e
  |on x d=>
   have e':(ov x d).ownBlock=μ k:=e;by_cases hx:x=c/\d<2
   ·obtain⟨rfl,hd⟩:=hx;rw[V d hd]at e';rcases jl d k hd e' with Z|Z
    ·exact .inl Z
    ·exact .inr ⟨Z,d,hd,rfl,e'⟩
   ·rw[Q x d hx]at e';exact .inl e'
 have kB:∀k,y'.own k->k<w'.heap.size:=by
  rintro k ⟨l,e⟩;rcases hat l k e with Z|⟨_,d,hd,rfl,Z⟩
  ·exact Nat.lt_of_lt_of_le (h.vr Z) hs
  ·exact(Vn d hd).lt k Z
 have J:∀l k,y.at l=μ k->l≠ .C->(∀d,d<2->l≠ .on c d)->w'.heap[k]? =w.heap[k]? :=by
  intro l k e S A;refine hk k (h.vr e) (λZ=> ?_) (λd hd Z=> ?_)
  ·exact h.wB e (show y.at .C=μ g from D) S Z
  ·exact A d hd (h.inj _ _ k e (show y.at (.on c d)=μ k from Z))
 have H:=h.owned (y':=y') (n':=n.lq c X) hs (λk uL S _=>hk k uL (λe=>S ⟨.C,by rw[e];exact D⟩) (λd _ e=>S ⟨.on c d,e⟩)) (by rw[Y]) (by rw[<-hX,Y])
  (λk e=>e.elim (kB k) (λe=>by
   have e':y.ext k:=by rw[Y]at e;exact e
   exact Nat.lt_of_lt_of_le (h.lt (.inr e')) hs))
  (by
   rintro k ⟨l,e⟩;rcases hat l k e with Z|⟨Z,_⟩
   ·exact .inl ⟨l,Z⟩
   ·exact .inr Z) (λk e=>.inl (by rw[Y]at e;exact e)) rfl rfl rfl h.c9 (by rw[Y];exact h.oe.keep (J .N _ rfl (λe=>nomatch e) (λ_ _ e=>nomatch e)))
  (by rw[Y];exact h.rr.keep (J .R _ rfl (λe=>nomatch e) (λ_ _ e=>nomatch e))) (by rw[Y];exact h.ri.keep (J .I _ rfl (λe=>nomatch e) (λ_ _ e=>nomatch e)))
  (by
   intro g' DF x hx;have BF:y.gC=μ g':=by rw[Y]at DF;exact DF
   obtain rfl:g=g':=by rw[D]at BF;exact Option.some.inj BF
   have vC:x<n.nc:=hx;show qp w' g (x*7) 7 (CU (jU n.C c X x) (y'.ov x));by_cases e:x=c
   ·subst e;rw[iE];refine uM.congr λj _=> ?_;have U:y'.ov x 0=o 0:=by rw[Y];exact V 0 eA
    have Z:y'.ov x 1=o 1:=by rw[Y];exact V 1 eA
    unfold CU;rw[U,Z]
   ·rw[iC _ _ e];have hb:=h.rc g D x vC;have T:∀d,y'.ov x d=y.ov x d:=λd=>by rw[Y];exact Q x d (λe'=>e e'.1)
    intro j hj;have hr:x*7+j<c*7 \/c*7+7<=x*7+j:=by
     rcases Nat.lt_or_gt_of_ne e with S|S
     ·exact .inl eh
     ·exact .inr eh
    refine⟨(hcell _ hr).trans ?_,(Td _).trans (hb.fz j hj)⟩;rw[hb.cell j hj];unfold CU;rw[T 0,T 1])
  (by
   intro x hx;obtain⟨g',e⟩:=h.gc x hx;exact⟨g',by rw[Y];exact e⟩)
  (by
   intro i hi;have:=(h.ib i hi).keep hs (λk e=>J (.ib i) k e (λe=>nomatch e) (λ_ _ e=>nomatch e));rw[Y];exact this)
  (by
   intro x d hx hd;show Row w' 1 (y'.ov x d) ((jU n.C c X x).on d).length (iO ((jU n.C c X x).on d));by_cases e:x=c
   ·subst e;have U:y'.ov x d=o d:=by rw[Y];exact V d hd
    rw[iE,U];exact Vn d hd
   ·have U:y'.ov x d=y.ov x d:=by rw[Y];exact Q x d (λe'=>e e'.1)
    rw[iC _ _ e,U];exact(h.ob x d hx hd).keep hs (λk Z=>J (.on x d) k Z (λe=>nomatch e) (λd' _ e'=>e (by injection e'))))
  (by
   intro x d hx hd;show((jU n.C c X x).on d).length<=2000;by_cases e:x=c
   ·subst e;rw[iE];exact XY d hd
   ·rw[iC _ _ e];exact h.ol x d hx hd)
  (by
   intro x d hx hd;show((jU n.C c X x).e d).1<n.n/\((jU n.C c X x).e d).2<3;by_cases e:x=c
   ·subst e;rw[iE,Aq];exact h.en x d hx hd
   ·rw[iC _ _ e];exact h.en x d hx hd)
  (by
   intro l l' k e e';rcases hat l k e with Z|⟨Z,d,hd,rfl,T⟩
   ·rcases hat l' k e' with E|⟨E,_⟩
    ·exact h.inj l l' k Z E
    ·have:=h.vr Z;omega
   ·rcases hat l' k e' with E|⟨E,d',kf,rfl,e4⟩
    ·have:=h.vr E;omega
    ·have:d=d':=by
      rcases Nat.lt_or_ge d 1 with S|S
      ·rcases Nat.lt_or_ge d' 1 with A|A
       ·omega
       ·obtain rfl:d=0:=eh;obtain rfl:d'=1:=eh;exact absurd e4 (ju k T)
      ·rcases Nat.lt_or_ge d' 1 with A|A
       ·obtain rfl:d=1:=eh;obtain rfl:d'=0:=eh;exact absurd T (ju k e4)
       ·omega
     rw[this])
  (by
   intro k e;have U:y.ext k:=by rw[Y]at e;exact e
   rintro⟨l,Z⟩;rcases hat l k Z with T|⟨T,_⟩
   ·exact h.nx k U ⟨l,T⟩
   ·have:=h.lt (.inr U);omega)
 refine⟨⟨y',H.1,by rw[Y];exact⟨rfl,rfl,rfl,rfl,rfl,rfl,rfl,rfl⟩,H.2,λk=>by rw[Y]⟩,⟨GF,Pn,Ms,hs,λk uL hn=>hk k uL (λe=>hn (.inl ⟨.C,by rw[e];exact D⟩)) (λd _ e=>hn (.inl ⟨.on c d,e⟩))⟩⟩
theorem jG.box(h:jG w y n)(hi:i<n.n)(v:dZ)(l:List za)(hs:w.heap.size<=w'.heap.size)(GF:w'.os=w.os)(Pn:w'.tape=w.tape)(Ms:w'.output=w.output)
 (J:∀k,k<w.heap.size->k≠y.gI->(y.iv i).ownBlock≠μ k->w'.heap[k]? =w.heap[k]?) (Gl:qp w' y.gI 0 n.n (jU y.iv i v)) (ND:Row w' 3 v l.length (rM l))
 (jl:∀k,v.ownBlock=μ k->(y.iv i).ownBlock=μ k \/w.heap.size<=k):iF w w' y {n with j8:=jU n.j8 i l} n.n:=by
 obtain⟨X,Ca⟩:∃X:Yt,X={y with iv:=jU y.iv i v}:=⟨_,rfl⟩
 obtain⟨y',Y⟩:∃y':Yt,y'={y with iv:=jU y.iv i v,z:=λj=>(y.z j).plus (zM w w' X)}:=⟨_,rfl⟩
 have jF:∀k,y'.own k↔X.own k:=λk=>by
  rw[Y,Ca];constructor
  ·rintro⟨l,e⟩;exact⟨l,by cases l<;>exact e⟩
  ·rintro⟨l,e⟩;exact⟨l,by cases l<;>exact e⟩
 have hX:zM w w' X=zM w w' y':=by
  funext k
  apply propext;unfold zM;rw[<-jF k];have:X.ext=y'.ext:=by rw[Ca,Y]
  rw[this]
 have hat:∀l k,y'.at l=μ k->y.at l=μ k \/(w.heap.size<=k/\l=.ib i/\v.ownBlock=μ k):=by
  intro l k e;rw[Y]at e;cases l with
  |N=>exact .inl e
  |R=>exact .inl e
  |I=>exact .inl e
  |C=>exact .inl e
  |on x d=>exact .inl e
  |ib x=>
   have e':(jU y.iv i v x).ownBlock=μ k:=e;by_cases hx:x=i
   ·subst hx;rw[iE]at e';rcases jl k e' with Z|Z
    ·exact .inl Z
    ·exact .inr ⟨Z,rfl,e'⟩
   ·rw[iC _ _ hx]at e';exact .inl e'
 have kB:∀k,y'.own k->k<w'.heap.size:=by
  rintro k ⟨l,e⟩;rcases hat l k e with Z|⟨_,rfl,Z⟩
  ·exact Nat.lt_of_lt_of_le (h.vr Z) hs
  ·exact ND.lt k Z
 have V:∀l k,y.at l=μ k->l≠ .I->l≠ .ib i->w'.heap[k]? =w.heap[k]? :=by
  intro l k e Q h2;refine J k (h.vr e) (λZ=> ?_) (λZ=> ?_)
  ·exact h.wB e (show y.at .I=μ y.gI from rfl) Q Z
  ·exact h2 (h.inj _ _ k e (show y.at (.ib i)=μ k from Z))
 have H:=h.owned (y':=y') (n':={n with j8:=jU n.j8 i l}) hs (λk M Q _=>J k M (λe=>Q ⟨.I,by rw[e];rfl⟩) (λe=>Q ⟨.ib i,e⟩)) (by rw[Y]) (by rw[<-hX,Y])
  (λk e=>e.elim (kB k) (λe=>by
   have e':y.ext k:=by rw[Y]at e;exact e
   exact Nat.lt_of_lt_of_le (h.lt (.inr e')) hs))
  (by
   rintro k ⟨l,e⟩;rcases hat l k e with Z|⟨Z,_⟩
   ·exact .inl ⟨l,Z⟩
   ·exact .inr Z) (λk e=>.inl (by rw[Y]at e;exact e)) rfl rfl rfl h.c9 (by rw[Y];exact h.oe.keep (V .N _ rfl (λe=>nomatch e) (λe=>nomatch e)))
  (by rw[Y];exact h.rr.keep (V .R _ rfl (λe=>nomatch e) (λe=>nomatch e))) (by rw[Y];exact Gl)
  (by
   intro U D x hx;have E:y.gC=μ U:=by rw[Y]at D;exact D
   have:=(h.rc U E x hx).keep (V .C U E (λe=>nomatch e) (λe=>nomatch e));rw[Y];exact this)
  (by
   intro x hx;obtain⟨U,e⟩:=h.gc x hx;exact⟨U,by rw[Y];exact e⟩)
  (by
   intro x hx;show Row w' 3 (y'.iv x) (jU n.j8 i l x).length (rM (jU n.j8 i l x));have S:y'.iv x=jU y.iv i v x:=by rw[Y]
   rw[S];by_cases e:x=i
   ·subst e;rw[iE,iE];exact ND
   ·rw[iC _ _ e,iC _ _ e];exact(h.ib x hx).keep hs (λk Z=>V (.ib x) k Z (λe=>nomatch e) (λe'=>e (by injection e'))))
  (by
   intro x d hx hd;have:=(h.ob x d hx hd).keep hs (λk Z=>V (.on x d) k Z (λe=>nomatch e) (λe=>nomatch e));rw[Y];exact this)
  h.ol h.en
  (by
   intro l l' k e e';rcases hat l k e with Z|⟨Z,rfl,G⟩
   ·rcases hat l' k e' with T|⟨T,_⟩
    ·exact h.inj l l' k Z T
    ·have:=h.vr Z;omega
   ·rcases hat l' k e' with T|⟨T,rfl,e4⟩
    ·have:=h.vr T;omega
    ·rfl)
  (by
   intro k e;have S:y.ext k:=by rw[Y]at e;exact e
   rintro⟨l,Z⟩;rcases hat l k Z with G|⟨G,_⟩
   ·exact h.nx k S ⟨l,G⟩
   ·have:=h.lt (.inr S);omega)
 refine⟨⟨y',H.1,by rw[Y];exact⟨rfl,rfl,rfl,rfl,rfl,rfl,rfl,rfl⟩,H.2,λk=>by rw[Y]⟩,⟨GF,Pn,Ms,hs,λk M A=>J k M (λe=>A (.inl ⟨.I,by rw[e];rfl⟩)) (λe=>A (.inl ⟨.ib i,e⟩))⟩⟩
theorem jG.beside(h:jG w y n)(hs:w.heap.size<=w'.heap.size)(hk:∀k,k<w.heap.size->¬y.ext k->w'.heap[k]? =w.heap[k]?)(X:Nat->Prop)(G:∀k,X k->w.heap.size<=k/\k<w'.heap.size):
 ∃y',jG w' y' n/\y.same y'/\(∀k,y'.all n.n k↔y.all n.n k)/\∀k,y'.ext k↔y.ext k \/X k:=by
 obtain⟨V,Ca⟩:∃V:Yt,V={y with ext:=λk=>y.ext k \/X k}:=⟨_,rfl⟩
 obtain⟨y',Z⟩:∃y':Yt,y'={y with ext:=λk=>y.ext k \/X k,z:=λj=>(y.z j).plus (zM w w' V)}:=⟨_,rfl⟩
 have hat:∀l,y'.at l=y.at l:=by
  intro l;rw[Z];cases l<;>rfl
 have J:∀l,V.at l=y.at l:=by
  intro l;rw[Ca];cases l<;>rfl
 have T:∀k,y'.own k↔y.own k:=λk=>by unfold Yt.own;simp only[hat]
 have jF:∀k,V.own k↔y.own k:=λk=>by unfold Yt.own;simp only[J]
 have M:zM w w' V=zM w w' y':=by
  funext k
  apply propext;unfold zM;rw[T k,jF k];have:V.ext=y'.ext:=by rw[Ca,Z]
  rw[this]
 have U:∀l k,y.at l=μ k->w'.heap[k]? =w.heap[k]? :=λl k e=>hk k (h.vr e) (λY=>h.nx k Y ⟨l,e⟩);have Q:∀k,y'.ext k↔y.ext k \/X k:=λk=>by rw[Z]
 have H:=h.owned (y':=y') (n':=n) hs (λk uL _ E=>hk k uL E) (by rw[Z]) (by rw[<-M,Z])
  (λk e=>by
   rcases e with e|e
   ·exact Nat.lt_of_lt_of_le (h.lt (.inl ((T k).1 e))) hs
   ·rcases(Q k).1 e with e|e
    ·exact Nat.lt_of_lt_of_le (h.lt (.inr e)) hs
    ·exact(G k e).2)
  (λk e=>.inl ((T k).1 e)) (λk e=>((Q k).1 e).imp_right (λe=>(G k e).1)) rfl rfl rfl h.c9 (by rw[Z];exact h.oe.keep (U .N _ rfl))
  (by rw[Z];exact h.rr.keep (U .R _ rfl)) (by rw[Z];exact h.ri.keep (U .I _ rfl))
  (by
   intro S A x hx;have D:y.gC=μ S:=by rw[Z]at A;exact A
   have:=(h.rc S D x hx).keep (U .C S D);rw[Z];exact this)
  (by
   intro x hx;obtain⟨S,e⟩:=h.gc x hx;exact⟨S,by rw[Z];exact e⟩)
  (by
   intro x hx;have:=(h.ib x hx).keep hs (λk Y=>U (.ib x) k Y);rw[Z];exact this)
  (by
   intro x d hx hd;have:=(h.ob x d hx hd).keep hs (λk Y=>U (.on x d) k Y);rw[Z];exact this)
  h.ol h.en (λl l' k e e'=>h.inj l l' k ((hat l).symm.trans e) ((hat l').symm.trans e'))
  (by
   intro k e Y;rcases(Q k).1 e with e|e
   ·exact h.nx k e ((T k).1 Y)
   ·have h1:=h.lt (.inl ((T k).1 Y));have E:=(G k e).1;omega)
 refine⟨y',H.1,by rw[Z];exact⟨rfl,rfl,rfl,rfl,rfl,rfl,rfl,rfl⟩,λk=> ?_,Q⟩;unfold Yt.all;rw[T k];have:∀j,(y'.z j).ph k↔(y.z j).ph k:=λj=>by rw[Z];exact dW
 simp only[this]
theorem jG.below {w w':dY} {y:Yt} {n:iP} (h:jG w y n)(hb:eE w w'):jG w' y n:=by
 refine⟨h.n1,h.n6,h.c9,h.oe.below hb,h.rr.below h.n1 hb,h.ri.below h.n1 hb,λg Z c hc=>(h.rc g Z c hc).below eA hb,h.gc,?_,λi hi=>(h.rt i hi).below hb,h.rn,λi hi=>(h.ib i hi).below hb,λc d hc hd=>(h.ob c d hc hd).below hb,h.ol,h.en,h.inj,h.away,h.nx,h.nM,h.z0⟩;obtain⟨E,Y,X⟩:=h.mp;exact⟨E,Y.keep (hb.block _ h.Hp),X⟩
theorem xZ.iT(y:Yt)(n:Nat)(h:eE w w'):xZ w w' y n:=⟨h.os,h.tape,h.output,h.size,λk Z _=>h.block k Z⟩
theorem iF.still(h:jG w y n)(hb:eE w w'):iF w w' y n n.n:=⟨⟨y,h.below hb,y.Ho,λ_ e=>.inl e,λ_=>dW⟩,xZ.iT y n.n hb⟩
theorem iF.below {c:dY} (h:iF a b y n m)(Z:n.n=m)(hb:eE b c):iF a c y n m:=by
 subst Z;exact h.step λy' Y _=>iF.still Y hb
section
variable {P:Program}
theorem CW {ops:Array Oper} {o:Oper} {a:Act} {K:Act->dY->Prop} {Q:Exit->Act->dY->Prop} {E:Prop}
 (X:o.guard=ν) (sl x:Operand) (t u:TypeId) (G:o.op=.call {callee:=.builtin .append,args:= #[sl,x],argTypes:= #[t,u] })
 (e:TypeId) (i:TypeInfo) (z:dZ) (Y:P.underlying t=μ (.slice e)) (A:P.underlying u=μ .string) (hi:P.info? e=μ i) (S:i.zero=μ z) (T:i.size=1) (J:i.bytes=1) (MC:z.cells.size=1)
 (v:dZ) (n:Nat) (xs:List dZ) (hs:a.eval sl=v) (H:Row w 1 v n xs) (s:ByteArray) (hx:a.eval x=.string s) (hsl:s.size<=1000000) (M:n<=1000000000)
 (h:∀v' w',Row w' 1 v' (n+s.size) (xs++iO s.data.toList)->w.grownBy w' v.ownBlock->(v'.ownBlock=v.ownBlock \/ ∃k,v'.ownBlock=μ k/\w.heap.size<=k)->K (a.put o.dst v') w'):
 if eP o (yielded ops a.tmps)=true then Oper.wp P o a w K Q else E:=by
 have U:eP o (yielded ops a.tmps)=true:=by simp[eP,X]
 rw[ai U];obtain⟨v',w',D,V,Z,h4⟩:=vU (P:=P) w t u o.type e i z Y A hi S T J MC v n xs H s hsl M;unfold Oper.wp execOp;simp only[G,resolve,invoke,builtin,Sem.run_bind,Sem.run_pure,Result.andThen_ok,List.map_toArray,List.map_cons,List.map_nil,hs,hx,D];exact h v' w' V Z h4
end
theorem Row.shape {sz:Nat} {n:Nat} {xs:List dZ} (h:Row w sz v n xs):∃a c,v=gp a n c:=by
 rcases h.2 with⟨e,Z⟩|⟨g',c',e,_⟩
 ·exact⟨ν,0,by rw[e,Z]⟩
 ·exact⟨_,_,e⟩
structure Ti(w w':dY)(g o d:Nat)(c:qA)(ov:Nat->dZ)(v':dZ):Prop where
 os:w'.os=w.os
 tape:w'.tape=w.tape
 output:w'.output=w.output
 size:w.heap.size<=w'.heap.size
 block:∀k,k<w.heap.size->k≠g->(ov d).ownBlock≠μ k->w'.heap[k]? =w.heap[k]?
 cell:∀j,j<o \/o+7<=j->w'.cell? ⟨g,j,ν⟩=w.cell? ⟨g,j,ν⟩
 fz:∀j,w'.frozen? ⟨g,j,ν⟩=w.frozen? ⟨g,j,ν⟩
 xm:qp w' g o 7 (CU c (jU ov d v'))
 row:Row w' 1 v' (c.on d).length (iO (c.on d))
 own:∀k,v'.ownBlock=μ k->(ov d).ownBlock=μ k \/w.heap.size<=k
theorem acm(c:qA)(ov:Nat->dZ)(d:Nat)(hd:d<2)(v:dZ)(f:Nat->List UInt8):∀j,j<7->sZ (CU c ov) (5+d) v j=CU {c with on:=f} (jU ov d v) j:=by
 intro j hj;have X:d=0 \/d=1:=eh;rcases X with rfl|rfl
 ·by_cases e:j=5
  ·subst e;rfl
  ·rw[jJ _ _ eh];unfold CU;simp only[e,if_false];rfl
 ·by_cases e:j=6
  ·subst e;rfl
  ·rw[jJ _ _ eh];unfold CU;have e6:¬j=6:=e;by_cases Z:j=5
   ·subst Z;rfl
   ·have:j<5:=eh;simp only[Z,if_false];by_cases T:j=4
    ·simp[T]
    ·have:j<4:=eh;by_cases Y:j=3
     ·simp[Y]
     ·by_cases U:j=2
      ·simp[U]
      ·by_cases V:j=1
       ·simp[V]
       ·have:j=0:=eh;simp[this]
theorem Vo(c:qA)(ov:Nat->dZ)(d:Nat)(hd:d<2):CU c ov (5+d)=ov d:=by
 have Z:d=0 \/d=1:=eh;rcases Z with rfl|rfl<;>rfl
theorem Ti.still {c:qA} (hC:qp w g o 7 (CU c ov))(Y:Row w 1 (ov d) (c.on d).length (iO (c.on d)))(hb:eE w w'):Ti w w' g o d c ov (ov d):=by
 have hl:=hC.lt eA;refine⟨hb.os,hb.tape,hb.output,hb.size,λk Z _ _=>hb.block k Z,λj _=>aj (a:=⟨g,j,ν⟩) (hb.block g hl),λj=>by simp only[gK,hb.block g hl],?_,Y.below hb,λk e=>.inl e⟩;rw[wu];exact hC.below eA hb
theorem Ti.turn {c:qA} (hd:d<2)(hC:qp w g o 7 (CU c ov))(V:(ov d).ownBlock≠μ g)(v:dZ)(f:Nat->List UInt8)(os:x.os=w.os)(Q:x.tape=w.tape)(ou:x.output=w.output)(hs:w.heap.size<=x.heap.size)
 (T:∀k,k<w.heap.size->(ov d).ownBlock≠μ k->x.heap[k]? =w.heap[k]?) (H:Row x 1 v (f d).length (iO (f d))) (U:∀k,v.ownBlock=μ k->(ov d).ownBlock=μ k \/w.heap.size<=k):
 Ti w (x.setCell ⟨g,o+5+d,ν⟩ v) g o d {c with on:=f} ov v:=by
 rw[Nat.add_assoc];have hl:=hC.lt eA;have Z:=T g hl V;have X:v.ownBlock≠μ g:=λe=>by
  rcases U g e with Y|Y
  ·exact V Y
  ·omega
 refine⟨os,Q,ou,by simpa using hs,λk S M J=>(aq _ _ _ k M).trans (T k S J),λj hj=> ?_,λj=> ?_,?_,?_,U⟩
 ·rw[aW _ _ _ _ (λe=>by have:=congrArg Addr.off e;simp at this;omega)];exact aj (a:=⟨g,j,ν⟩) Z
 ·rw[mE];simp only[gK,Z]
 ·exact((hC.keep Z).set (5+d) eh v).congr (acm c ov d hd v f)
 ·exact H.keep gY (λk e=>aq _ _ _ k (λY=>X (by rw[e,Y])))
theorem Vp(g o d:Nat)(c:qA)(ov:Nat->dZ)(s:ByteArray)(w:dY)(hd:d<2)(hC:qp w g o 7 (CU c ov))(U:Row w 1 (ov d) (c.on d).length (iO (c.on d)))(hg:(ov d).ownBlock≠μ g)(hl:(c.on d).length<=2000)(hs:s.size<=1000000000):
 eW eX 161 #[π (μ ⟨g,o,ν⟩),ι κ (d:Int),.string s] w λe w'=>e=ρ (τ #[])/\∃v',Ti w w' g o d (c.put d s.data.toList) ov v':=by
 obtain⟨i0,hi,ox,nh,mO⟩:=aY U4;have hsl:s.data.toList.length=s.size:=gY;have c4:w.cell? ⟨g,o+4,ν⟩=μ (.bool c.iQ):=hC.cell 4 eA;have h:w.cell? ⟨g,o+5+d,ν⟩=μ (ov d):=by rw[Nat.add_assoc,hC.cell (5+d) eh,Vo c ov d hd]
 have f5:w.frozen? ⟨g,o+5+d,ν⟩=false:=by rw[Nat.add_assoc];exact hC.fz (5+d) eh
 have gl:=hC.lt eA;have kf:(d:Int)<2:=eh;have hd0:(0:Int)<=(d:Int):=eh;have E:Hid _:=hC;have sU:ft.wrap (((c.on d).length:Int)+(s.size:Int))=((c.on d).length:Int)+(s.size:Int):=aX _ ⟨eh,eh⟩;clear hC;cases Q:c.iQ with
 |false=>
  have Y:c.put d s.data.toList=c:=by unfold qA.put;rw[af (by simp[Q])]
  rw[Y];rw[Q]at c4;have A:Hid _:=U;clear U
  go_in
  go_wp2
  first|go_end0|refine iJ rfl rfl ?_
  exact⟨rfl,_,Ti.still E.out A.out (av _ _)⟩
 |true=>
  rw[Q]at c4;obtain⟨v,hv⟩:=gg (ov d);obtain⟨n,T⟩:=gg ((c.on d).length);have G:Hid _:=hv;have HN:Hid _:=T;have M:=U;rw[hv]at h;rw[T]at sU hl;rw[hv,T]at M;have A:Hid _:=U;have Yv:∃a' c',v=gp a' n c':=by
   rcases M.2 with⟨e,e2⟩|⟨g',c',e,_⟩
   ·exact⟨ν,0,by rw[e,e2]⟩
   ·exact⟨_,_,e⟩
  obtain⟨a',c',Z⟩:=Yv;rw[Z]at h M;by_cases XB:(n:Int)+(s.size:Int)<=2000
  ·have Y:c.put d s.data.toList={c with on:=jU c.on d (c.on d++s.data.toList)}:=by
    unfold qA.put;rw[ai ⟨Q,eh⟩]
   have HE:Hid _:=Y;have D:Hid (eu (σ a' n c')≠μ g):=by rw[<-Z,<-hv];exact hg
   have V:Hid _:=Z;clear U Y hv T Z hg
   go_in
   go_wp2
   go_region_law ((refine CW (by rfl) (.tmp 30) (.tmp 31) 140 9 (by rfl) 5 i0 (.int .u8 0) underlying140 underlying9 hi ox nh mO (by rfl) (σ a' n c') n (iO (c.on d)) (by rfl) (by exact M.drew) s (by rfl) eh eh ?_;intro v1 x1 k8 X jF;obtain⟨J,c1,H⟩:=Row.shape k8;subst H;have y5:=(aj (a:=⟨g,o+5+d,ν⟩) (X.block g (by exact gl) (λe=>D.out e.symm))).trans h;have z5:=(aM (a:=⟨g,o+5+d,ν⟩) (X.block g (by exact gl) (λe=>D.out e.symm))).trans f5))
   all_goals
    go_wp2
    first|go_end0|refine iJ rfl rfl ?_
    have kU:∀k,eu (σ J (n+s.size) c1)=μ k->(ov d).ownBlock=μ k \/w.heap.size<=k:=by
     intro k S;rw[G.out,V.out];rcases jF with e|⟨k',e,uL⟩
     ·exact .inl (by rw[<-e];exact S)
     ·rw[S]at e;obtain rfl:=Option.some.inj e;exact .inr uL
    refine⟨rfl,σ J (n+s.size) c1,?_⟩;rw[HE.out];refine Ti.turn hd E.out (by rw[G.out,V.out];exact D.out) (σ J (n+s.size) c1) _ X.os X.tape X.output X.size (λk S h1=>X.block k S (λe=>h1 (by rw[G.out,V.out];exact e.symm))) ?_ kU;rw[iE,aA,lI,HN.out,hsl];exact k8
  ·have Y:c.put d s.data.toList=c:=by
    unfold qA.put;rw[af (λe=>XB (by have:=e.2;omega))]
   rw[Y];clear U Y hv T Z
   go_in
   go_wp2
   first|go_end0|refine iJ rfl rfl ?_
   exact⟨rfl,_,Ti.still E.out A.out (av _ _)⟩
theorem jG.k0(h:jG w y n):w.cell? ⟨y.N,0,ν⟩=μ (σ (μ ⟨y.gR,0,ν⟩) n.n y.tQ):=h.oe.cell 0
theorem jG.k1(h:jG w y n):w.cell? ⟨y.N,1,ν⟩=μ (σ (μ ⟨y.gI,0,ν⟩) n.n y.yI):=h.oe.cell 1
theorem jG.k2(h:jG w y n):w.cell? ⟨y.N,2,ν⟩=μ (.map (μ y.bM)):=h.oe.cell 2
theorem jG.k3(h:jG w y n):w.cell? ⟨y.N,3,ν⟩=μ (y.cv n.nc):=h.oe.cell 3
theorem jG.x5(h:jG w y n):y.N<w.heap.size:=h.oe.lt
theorem jG.Rr(h:jG w y n):y.gR<w.heap.size:=h.vr (l:=.R) rfl
theorem jG.acp(h:jG w y n):y.gI<w.heap.size:=h.vr (l:=.I) rfl
theorem jG.ptr(h:jG w y n)(hi:i<n.n):w.cell? ⟨y.gR,i,ν⟩=μ (π (μ ⟨(y.z i).R,0,ν⟩)):=by
 have:=h.rr.cell i hi
 rwa [Nat.zero_add]at this
theorem jG.YK(h:jG w y n)(hi:i<n.n):w.cell? ⟨y.gI,i,ν⟩=μ (y.iv i):=by
 have:=h.ri.cell i hi
 rwa [Nat.zero_add]at this
theorem jG.cvs(h:jG w y n):∃a cp,y.cv n.nc=σ a n.nc cp/\∀c,c<n.nc->∃g,y.gC=μ g/\a=μ ⟨g,0,ν⟩:=by
 unfold Yt.cv;cases Y:y.gC with
 |none=>
  have X:n.nc=0:=by
   rcases Nat.eq_zero_or_pos n.nc with e|e
   ·exact e
   ·obtain⟨g,Z⟩:=h.gc 0 e;rw[Y]at Z;simp at Z
  exact⟨ν,0,by rw[X],λc hc=>eh⟩
 |some g=>exact⟨_,_,rfl,λc hc=>⟨g,rfl,rfl⟩⟩
section
variable {w w':World} {y:Yt} {n:iP} {m:Nat}
theorem iF.k0(h:iF w w' y n m):w'.cell? ⟨y.N,0,ν⟩=μ (σ (μ ⟨y.gR,0,ν⟩) n.n y.tQ):=by
 obtain⟨⟨y',Z,hs,_⟩,_⟩:=h;have:=Z.k0
 rwa [hs.N,hs.gR,hs.tQ]at this
theorem iF.k3(h:iF w w' y n m):w'.cell? ⟨y.N,3,ν⟩=μ (y.cv n.nc):=by
 obtain⟨⟨y',Z,hs,_⟩,_⟩:=h;have:=Z.k3;have e:y'.cv n.nc=y.cv n.nc:=by unfold Yt.cv;rw[hs.gC,hs.wv]
 rwa [hs.N,e]at this
theorem iF.lt(h:iF w w' y n m):y.N<w'.heap.size:=ag _ _ h.k0
theorem iF.ptr(h:iF w w' y n m) {i:Nat} (hi:i<n.n):∃R,w'.cell? ⟨y.gR,i,ν⟩=μ (π (μ ⟨R,0,ν⟩)):=by
 obtain⟨⟨y',Z,hs,_⟩,_⟩:=h;have:=Z.ptr hi;rw[hs.gR]at this;exact⟨_,this⟩
theorem iF.Pw(h:iF w w' y n m)(hc:c<n.nc)(Z:y.gC=μ g):∃ov,qp w' g (c*7) 7 (CU (n.C c) ov):=by
 obtain⟨⟨y',Y,hs,_⟩,_⟩:=h;exact⟨_,Y.rc g (by rw[hs.gC];exact Z) c hc⟩
theorem iF.tab {n0:iP} (h:iF w w' y n m)(V:jG w y n0)(Q:n0.n=m)(U:jf w):jf w':=λe s M hs=>by
 subst Q;refine(aj (a:=⟨0,e*10+s,ν⟩) (h.kept.block 0 U.lt (λS=> ?_))).trans (U e s M hs);rcases S with X|⟨j,T,X⟩
 ·exact V.z0 X
 ·have R:=V.rt j T;have h3:=(V.rn j T).1;rcases X with Y|Y|Y
  ·rcases Y with Z|Z|⟨i,hi,Z|Z⟩|Z
   ·exact R.sR.2.1 Z.symm
   ·exact(R.pt 0 R.n1).nz.1 Z.symm
   ·exact(R.pt i eh).nz.2.1 Z.symm
   ·exact(R.pt i eh).nz.2.2 Z
   ·exact R.Rc.1 Z
  ·exact R.Rc.2 0 (.inl Y) rfl
  ·exact R.Rc.2 0 (.inr Y) rfl
theorem iF.first {c:dY} (hb:eE a b)(k:iF b c y n' m):iF a c y n' m:=by
 obtain⟨⟨U,g1,X,T,V⟩,Z⟩:=k;exact⟨⟨U,g1,X,λx hx=>(T x hx).imp_right (λe=>Nat.le_trans hb.size e),V⟩,⟨Z.os.trans hb.os,Z.tape.trans hb.tape,Z.output.trans hb.output,Nat.le_trans hb.size Z.size,λx hx Y=>(Z.block x (Nat.lt_of_lt_of_le hx hb.size) Y).trans (hb.block x hx)⟩⟩
end
def NU(i:Int)(n:Nat):Bool:=decide (1<=i)&&decide (i<=(n:Int))
theorem yM(i:Int)(n:Nat):(NU i n=false/\(i<1 \/(n:Int)<i)) \/ ∃k:Nat,k<n/\i=(k:Int)+1:=by
 by_cases Z:1<=i
 ·by_cases Y:i<=(n:Int)
  ·exact .inr ⟨(i-1).toNat,eh,eh⟩
  ·exact .inl ⟨by simp[NU,Y],eh⟩
 ·exact .inl ⟨by simp[NU,Z],eh⟩
theorem zN {n:Nat} (h:i<n):NU ((i:Int)+1) n=true:=by simp[NU];omega
def Jl(i d:Int)(n:Nat):Bool:=hasB i n&& (decide (0<=d)&&decide (d<2))
theorem NV(i d:Int)(n:Nat):(Jl i d n=false/\(i<0 \/(n:Int)<=i \/d<0 \/2<=d)) \/ ∃c k:Nat,c<n/\k<2/\i=(c:Int)/\d=(k:Int):=by
 by_cases Y:0<=i
 ·by_cases X:i<(n:Int)
  ·by_cases V:0<=d
   ·by_cases Z:d<2
    ·exact .inr ⟨i.toNat,d.toNat,eh,eh,eh,eh⟩
    ·exact .inl ⟨by simp[Jl,Z],eh⟩
   ·exact .inl ⟨by simp[Jl,V],eh⟩
  ·exact .inl ⟨by simp[Jl,hasB,X],eh⟩
 ·exact .inl ⟨by simp[Jl,hasB,Y],eh⟩
theorem Vq {n:Nat} (h:c<n)(hd:d<2):Jl (c:Int) (d:Int) n=true:=by simp[Jl,hasB];omega
theorem qU(y:Yt)(n:iP)(i:Int)(w:dY)(h:jG w y n):
 eW eX 107 #[π (μ ⟨y.N,0,ν⟩),ι κ i] w λe w'=>e=ρ (.bool (NU i n.n))/\w=w':=by
 have hl:=h.x5;have c1:=h.k0;unfold NU;by_cases Z:1<=i
 ·by_cases Y:i<=(n.n:Int)
  ·have hv:(decide (1<=i)&&decide (i<=(n.n:Int)))=true:=by simp[Z,Y]
   rw[hv];clear hv h
   go_in
   go_wp2
   go_ret;exact⟨by first|rfl|(simp;omega),rfl⟩
  ·have hv:(decide (1<=i)&&decide (i<=(n.n:Int)))=false:=by simp[Y]
   rw[hv];clear hv h
   go_in
   go_wp2
   go_ret;exact⟨by first|rfl|(simp;omega),rfl⟩
 ·have hv:(decide (1<=i)&&decide (i<=(n.n:Int)))=false:=by simp[Z]
  rw[hv];clear hv h
  go_in
  go_wp2
  go_ret;exact⟨by first|rfl|(simp;omega),rfl⟩
theorem zO(y:Yt)(n:iP)(i:Int)(w:dY)(h:jG w y n):
 eW eX 112 #[π (μ ⟨y.N,0,ν⟩),ι κ i] w λe w'=>e=ρ (.bool (hasB i n.nc))/\w=w':=by
 have hl:=h.x5;have c1:=h.k3;obtain⟨a,cp,Z,_⟩:=h.cvs;rw[Z]at c1;unfold hasB;by_cases Y:0<=i
 ·by_cases X:i<(n.nc:Int)
  ·have hv:(decide (0<=i)&&decide (i<(n.nc:Int)))=true:=by simp[Y,X]
   rw[hv];clear hv h Z
   go_in
   go_wp2
   go_ret;exact⟨by first|rfl|(simp;omega),rfl⟩
  ·have hv:(decide (0<=i)&&decide (i<(n.nc:Int)))=false:=by simp[X]
   rw[hv];clear hv h Z
   go_in
   go_wp2
   go_ret;exact⟨by first|rfl|(simp;omega),rfl⟩
 ·have hv:(decide (0<=i)&&decide (i<(n.nc:Int)))=false:=by simp[Y]
  rw[hv];clear hv h Z
  go_in
  go_wp2
  go_ret;exact⟨by first|rfl|(simp;omega),rfl⟩
theorem NW(y:Yt)(n:iP)(i d:Int)(w:dY)(h:jG w y n):
 eW eX 108 #[π (μ ⟨y.N,0,ν⟩),ι κ i,ι κ d] w λe w'=>e=ρ (.bool (Jl i d n.nc))/\w=w':=by
 have hh:=zO y n i w h;unfold Jl;cases hb:hasB i n.nc with
 |false=>
  rw[hb]at hh;have hv:(false&& (decide (0<=d)&&decide (d<2)))=false:=rfl;rw[hv];clear hv h hb
  go_in
  go_wp2_with(fail);refine hh.mono ?_;rintro e w0 ⟨rfl,rfl⟩;clear hh
  go_wp2
  go_ret;exact⟨rfl,rfl⟩
 |true=>
  rw[hb]at hh;clear h hb;by_cases Y:0<=d
  ·by_cases Z:d<2
   ·have hv:(true&& (decide (0<=d)&&decide (d<2)))=true:=by simp[Y,Z]
    rw[hv];clear hv
    go_in
    go_wp2_with(fail);refine hh.mono ?_;rintro e w0 ⟨rfl,rfl⟩;clear hh
    go_wp2
    go_ret;exact⟨by first|rfl|(simp;omega),rfl⟩
   ·have hv:(true&& (decide (0<=d)&&decide (d<2)))=false:=by simp[Z]
    rw[hv];clear hv
    go_in
    go_wp2_with(fail);refine hh.mono ?_;rintro e w0 ⟨rfl,rfl⟩;clear hh
    go_wp2
    go_ret;exact⟨by first|rfl|(simp;omega),rfl⟩
  ·have hv:(true&& (decide (0<=d)&&decide (d<2)))=false:=by simp[Y]
   rw[hv];clear hv
   go_in
   go_wp2_with(fail);refine hh.mono ?_;rintro e w0 ⟨rfl,rfl⟩;clear hh
   go_wp2
   go_ret;exact⟨by first|rfl|(simp;omega),rfl⟩
theorem Rs(d:Nat)(hd:d<2)(w:dY):eW eX 156 #[ι κ (d:Int)] w λe w'=>e=ρ (ι κ ((1-d:Nat):Int))/\w=w':=by
 have Z:((1-d:Nat):Int)=1-(d:Int):=eh;have hw:ft.wrap (1-(d:Int))=1-(d:Int):=aX _ ⟨eh,eh⟩;rw[Z]
 go_in
 go_wp2
 go_ret;exact⟨rfl,rfl⟩
theorem NY(y:Yt)(n:iP)(i:Nat)(p:Int)(w:dY)(h:jG w y n)(hi:i<n.n):
 eW eX 157 #[π (μ ⟨y.N,0,ν⟩),.agg #[ι κ ((i:Int)+1),ι κ p]] w λe w'=>e=ρ (π (μ ⟨(y.z i).R,0,ν⟩))/\eE w w':=by
 have bm:=gW w (γ #[ι κ ((i:Int)+1),ι κ p] 192);have Y:iX (w.alloc (γ #[ι κ ((i:Int)+1),ι κ p] 192)) w.heap.size #[ι κ ((i:Int)+1),ι κ p] 192:=iX.new w _ _;have Z:=h.below bm;obtain⟨U,V⟩:=gg (w.alloc (γ #[ι κ ((i:Int)+1),ι κ p] 192));obtain⟨N,X⟩:=gg (w.heap.size);rw[V]at Y Z bm;rw[X]at Y;have e0:U.cell? ⟨N,0,ν⟩=μ (ι κ ((i:Int)+1)):=Y.cell 0;have el:=Y.lt;have c0:=Z.k0;have cl:=Z.x5;have d0:=Z.ptr hi;have dl:=Z.Rr;have n6:=h.n6;have hw:ft.wrap ((i:Int)+1-1)=(i:Int):=by
  have:(i:Int)+1-1=i:=eh;rw[this];exact aX _ ⟨eh,eh⟩
 have kS:(i:Int)<(n.n:Int):=eh;have O1:(0:Int)<=(i:Int):=eh;have T:Hid _:=bm;have S:Hid _:=V;have Q:Hid _:=X;clear h Z Y V X bm
 go_in
 go_wp2_with(fail);rw[S.out]
 try rw[Q.out]
 go_quiet(fail)
 go_wp2
 go_ret;exact⟨rfl,below_drewN T.out _⟩
theorem EG(y:Yt)(n:iP)(i:Nat)(w:dY)(h:jG w y n)(hi:i<n.n):
 eW eX 40 #[π (μ ⟨y.N,0,ν⟩),ι κ ((i:Int)+1)] w λe w'=>e=ρ (τ #[π (μ ⟨(y.z i).R,0,ν⟩),η])/\w=w':=by
 have hh:=qU y n ((i:Int)+1) w h;rw[zN hi]at hh;have c0:=h.k0;have cl:=h.x5;have d0:=h.ptr hi;have dl:=h.Rr;have n6:=h.n6;have hw:ft.wrap ((i:Int)+1-1)=(i:Int):=by
  have:(i:Int)+1-1=i:=eh;rw[this];exact aX _ ⟨eh,eh⟩
 have kS:(i:Int)<(n.n:Int):=eh;have O1:(0:Int)<=(i:Int):=eh;clear h
 go_in
 go_wp2_with(fail);refine hh.mono ?_;rintro e w1 ⟨rfl,rfl⟩;clear hh
 go_wp2
 go_ret2
 exact⟨rfl,rfl⟩
