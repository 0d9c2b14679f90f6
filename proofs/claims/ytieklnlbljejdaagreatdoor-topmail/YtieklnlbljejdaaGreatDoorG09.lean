import Derived.Test.YtieklnlbljejdaaGreatDoorG08
open Go.Value renaming int → ι, slice → σ, pointer → π, tuple → τ, nilIface → η
open Go.IntKind renaming i64 → κ
open Go.Ending renaming returned → ρ
open Option renaming none → ν, some → μ
open Go renaming World → eB, Value → eD, Calls → fj
open Go.Proofs.Tryz renaming prog → fk
open Go.RowKit renaming wrap64 → gg
open List renaming length_cons → eZ, length_nil → fC, foldl_nil → gh
open ByteArray renaming empty → fM
open Go.Value renaming ownBlock → eF
set_option maxRecDepth 100000
set_option maxHeartbeats 2000000
namespace Go.Proofs.YtieklnlbljejdaaGreatDoor
open Go.RowKit
variable {F G:Nat->Value} {d e:Bool} {g m o:Nat} {l:List UInt8} {w w':World}
def pL(w:eB)(g o m:Nat)(F:Nat->eD):Prop:=∀j,j<m->w.cell? ⟨g,o+j,ν⟩=μ (F j)/\w.frozen? ⟨g,o+j,ν⟩=false
def qF(F:Nat->eD)(i:Nat)(v:eD):Nat->eD:=λj=>if j=i then v else F j
theorem og(F:Nat->eD)(i:Nat)(v:eD):qF F i v i=v:=by simp[qF]
theorem jP(F:Nat->eD) {i j:Nat} (v:eD)(h:j≠i):qF F i v j=F j:=by simp[qF,h]
theorem mA(w:eB)(a x:Addr)(v:eD):(w.setCell a v).frozen? x=w.frozen? x:=iC
theorem pL.cell {w:eB} {g o m:Nat} {F:Nat->eD} (h:pL w g o m F)(j:Nat)(hj:j<m):w.cell? ⟨g,o+j,ν⟩=μ (F j):=(h j hj).1
theorem pL.fz(h:pL w g o m F)(j:Nat)(hj:j<m):w.frozen? ⟨g,o+j,ν⟩=false:=(h j hj).2
theorem pL.lt(h:pL w g o m F)(hm:0<m):g<w.heap.size:=af w _ (h.cell 0 hm)
theorem pL.set(h:pL w g o m F)(i:Nat)(hi:i<m)(v:eD):pL (w.setCell ⟨g,o+i,ν⟩ v) g o m (qF F i v):=by
 intro j hj;refine⟨?_,(mA _ _ _ _).trans (h.fz j hj)⟩;by_cases e:j=i
 ·subst e;rw[og];exact World.cell?_setCell_same _ _ _ (h.cell j hj)
 ·rw[jP F v e,aU _ _ _ _ (λe=>by have:=congrArg Addr.off e;simp at this;omega)];exact h.cell j hj
theorem pL.keep(h:pL w g o m F)(hb:w'.heap[g]? =w.heap[g]?):pL w' g o m F:=λj hj=>by
 refine⟨(ai (a:=⟨g,o+j,ν⟩) hb).trans (h.cell j hj),?_⟩;have:w'.frozen? ⟨g,o+j,ν⟩=w.frozen? ⟨g,o+j,ν⟩:=by
  simp only[World.frozen?,hb]
 exact this.trans (h.fz j hj)
theorem pL.below(h:pL w g o m F)(hm:0<m)(hb:eN w w'):pL w' g o m F:=h.keep (hb.block g (h.lt hm))
theorem pL.sub(h:pL w g o m F)(a k:Nat)(hk:a+k<=m):pL w g (o+a) k (λj=>F (a+j)):=λj hj=>by
 have:=h (a+j) eE;rw[Nat.add_assoc];exact this
theorem pL.congr(h:pL w g o m F)(e:∀j,j<m->F j=G j):pL w g o m G:=λj hj=>by rw[<-e j hj];exact h j hj
structure lb(w w':eB)(g o m:Nat):Prop where
 os:w'.os=w.os
 tape:w'.tape=w.tape
 output:w'.output=w.output
 size:w.heap.size<=w'.heap.size
 block:∀i,i<w.heap.size->i≠g->w'.heap[i]? =w.heap[i]?
 cell:∀j,j<o \/o+m<=j->w'.cell? ⟨g,j,ν⟩=w.cell? ⟨g,j,ν⟩
 fz:∀j,w'.frozen? ⟨g,j,ν⟩=w.frozen? ⟨g,j,ν⟩
theorem lb.refl(w:eB)(g o m:Nat):lb w w g o m:=⟨rfl,rfl,rfl,Nat.le_refl _,λ_ _ _=>rfl,λ_ _=>rfl,λ_=>rfl⟩
theorem lb.trans {a b c:eB} {g o m:Nat} (h:lb a b g o m)(k:lb b c g o m):lb a c g o m:=
 ⟨k.os.trans h.os,k.tape.trans h.tape,k.output.trans h.output,Nat.le_trans h.size k.size,λi hi jV=>(k.block i (Nat.lt_of_lt_of_le hi h.size) jV).trans (h.block i hi jV),λj hj=>(k.cell j hj).trans (h.cell j hj),λj=>(k.fz j).trans (h.fz j)⟩
theorem lb.set {x:eB} (h:lb w x g o m)(j:Nat)(h1:o<=j)(h2:j<o+m)(v:eD):lb w (x.setCell ⟨g,j,ν⟩ v) g o m:=by
 have b1:Below 0 x (x.setCell ⟨g,j,ν⟩ v):=(au 0 x).setCell (Nat.zero_le _) _;exact⟨b1.os.trans h.os,b1.tape.trans h.tape,b1.output.trans h.output,Nat.le_trans h.size b1.size,λi hi jV=>(ak _ _ _ i jV).trans (h.block i hi jV),
  λi hi=>(aU _ _ _ _ (λe=>by have:=congrArg Addr.off e;simp at this;omega)).trans (h.cell i hi),λi=>(mA _ _ _ _).trans (h.fz i)⟩
theorem lb.drewN {w x:eB} {g o m:Nat} (h:lb w x g o m)(n:Nat):lb w (x.drewN n) g o m:=⟨h.os,h.tape,h.output,h.size,h.block,h.cell,h.fz⟩
theorem lb.drew {w x:eB} {g o m:Nat} (h:lb w x g o m):lb w x.drew g o m:=⟨h.os,h.tape,h.output,h.size,h.block,h.cell,h.fz⟩
theorem pL.join {a k:Nat} (h:pL w g o m F)(hk:lb w w' g (o+a) k)(hG:pL w' g (o+a) k G):pL w' g o m (λj=>if a<=j/\j<a+k then G (j-a)else F j):=λj hj=>by
 by_cases e:a<=j/\j<a+k
 ·have h1:=hG (j-a) eE;have e2:o+a+(j-a)=o+j:=eE;rw[e2]at h1;simp only[if_pos e];exact h1
 ·simp only[if_neg e];exact⟨(hk.cell (o+j) eE).trans (h.cell j hj),(hk.fz _).trans (h.fz j hj)⟩
open Plain
structure Bc(F:Nat->eD)(l:List UInt8)(e d:Bool):Prop where
 len:l.length<=62
 live:∀i:Nat,i<62->∃x:Int,F i=.int .u8 x
 body:∀(i:Nat) (h:i<l.length),F i=.int .u8 (l[i].toNat:Int)
 many:F 62=ι κ (l.length:Int)
 esc:F 63=.bool e
 bad:F 64=.bool d
def Rd(w:eB)(g o:Nat)(l:List UInt8)(e d:Bool):Prop:=∃F,pL w g o 65 F/\Bc F l e d
theorem Bc.FZ(h:Bc F l e d)(d':Bool):Bc (qF F 64 (.bool d')) l e d':=by
 have hlen:=h.len;refine⟨hlen,λi hi=> ?_,λi hi=> ?_,?_,?_,og _ _ _⟩
 ·obtain⟨x,hx⟩:=h.live i hi;exact⟨x,by rw[jP _ _ eE];exact hx⟩
 ·rw[jP _ _ eE];exact h.body i hi
 ·rw[jP _ _ eE];exact h.many
 ·rw[jP _ _ eE];exact h.esc
theorem Bc.Kt(h:Bc F l e d)(e':Bool):Bc (qF F 63 (.bool e')) l e' d:=by
 have hlen:=h.len;refine⟨hlen,λi hi=> ?_,λi hi=> ?_,?_,og _ _ _,?_⟩
 ·obtain⟨x,hx⟩:=h.live i hi;exact⟨x,by rw[jP _ _ eE];exact hx⟩
 ·rw[jP _ _ eE];exact h.body i hi
 ·rw[jP _ _ eE];exact h.many
 ·rw[jP _ _ eE];exact h.bad
theorem Bc.push(h:Bc F l e d)(hl:l.length<62)(c:UInt8):
 Bc (qF (qF F l.length (.int .u8 (c.toNat:Int))) 62 (ι κ ((l.length:Int)+1))) (l++ [c]) e d:=by
 refine⟨by simp;omega,λi hi=> ?_,λi hi=> ?_,?_,?_,?_⟩
 ·rw[jP _ _ eE];by_cases e1:i=l.length
  ·rw[e1,og];exact⟨_,rfl⟩
  ·rw[jP _ _ e1];exact h.live i hi
 ·have lO:i<l.length+1:=by simpa using hi
  rw[jP _ _ eE];by_cases e1:i=l.length
  ·subst e1;rw[og];simp
  ·rw[jP _ _ e1,h.body i eE,List.getElem_append_left eE]
 ·rw[og];simp
 ·rw[jP _ _ eE,jP _ _ eE];exact h.esc
 ·rw[jP _ _ eE,jP _ _ eE];exact h.bad
def qQ:List UInt8×Bool×Bool->UInt8->List UInt8×Bool×Bool
 |(l,e,d),c=>
  if c<32 \/(c=125/\e=true)then(l,e,true)
  else if c=125 then(l,true,d)
  else if l.length=62 then(l,false,true)
  else(l++ [if e then c^^^32 else c],false,d)
theorem Ra(g o:Nat)(l:List UInt8)(e d:Bool)(c:UInt8)(w:eB)(h:Rd w g o l e d):
 fj fk 182 #[π (μ ⟨g,o,ν⟩),.int .u8 (c.toNat:Int)] w λe' w'=>e'=ρ (τ #[])/\Rd w' g o (qQ (l,e,d) c).1 (qQ (l,e,d) c).2.1 (qQ (l,e,d) c).2.2/\lb w w' g o 65:=by
 obtain⟨F,hC,hR⟩:=h;have HR:Hid _:=hR;have hlen:=hR.len;have Yu:c<32↔(c.toNat:Int)<32:=by rw[UInt8.lt_iff_toNat_lt];show c.toNat<32↔_;omega
 have Ku:c=125↔((c.toNat:Int)==125)=true:=by
  rw[<-UInt8.toNat_inj,di];show c.toNat=125↔_;omega
 have abC:w.cell? ⟨g,o+62,ν⟩=μ (ι κ (l.length:Int)):=(hC.cell 62 eH).trans (congrArg μ hR.many);have afL:w.cell? ⟨g,o+63,ν⟩=μ (.bool e):=(hC.cell 63 eH).trans (congrArg μ hR.esc);have uL:w.cell? ⟨g,o+64,ν⟩=μ (.bool d):=(hC.cell 64 eH).trans (congrArg μ hR.bad);have sU:∀i,i<65->w.frozen? ⟨g,o+i,ν⟩=false:=λi hi=>hC.fz i hi;have f62:=sU 62 eH;have f63:=sU 63 eH;have f64:=sU 64 eH;have MA:=hC.lt eH;have HC:Hid (pL w g o 65 F):=hC;clear hC hR;by_cases h1:(c.toNat:Int)<32
 ·have ha:qQ (l,e,d) c=(l,e,true):=by simp[qQ,Yu.mpr h1]
  rw[ha];clear Yu Ku sU
  go_in
  go_wp2
  first|go_end0|refine aj (ar rfl _ _ _) rfl ?_
  exact⟨rfl,⟨_,HC.out.set 64 eH _,HR.out.FZ true⟩,(lb.refl _ _ _ _).set _ eE eE _⟩
 ·have n32:¬c<32:=λx=>h1 (Yu.mp x);by_cases h2:((c.toNat:Int)==125)=true
  ·have U0:c=125:=Ku.mpr h2;cases e
   ·have ha:qQ (l,false,d) c=(l,true,d):=by simp[qQ,U0]
    rw[ha];clear Yu Ku U0 n32 sU
    go_in
    go_wp2
    first|go_end0|refine aj (ar rfl _ _ _) rfl ?_
    exact⟨rfl,⟨_,HC.out.set 63 eH _,HR.out.Kt true⟩,(lb.refl _ _ _ _).set _ eE eE _⟩
   ·have ha:qQ (l,true,d) c=(l,true,true):=by simp[qQ,U0]
    rw[ha];clear Yu Ku U0 n32 sU
    go_in
    go_wp2
    first|go_end0|refine aj (ar rfl _ _ _) rfl ?_
    exact⟨rfl,⟨_,HC.out.set 64 eH _,HR.out.FZ true⟩,(lb.refl _ _ _ _).set _ eE eE _⟩
  ·have yU:((c.toNat:Int)==125)=false:=by simpa using h2
   have U1:¬c=125:=λx=>h2 (Ku.mp x);have hx:=WB c;by_cases h3:((l.length:Int)==62)=true
   ·have WO:l.length=62:=by have:=di.mp h3;omega
    have ha:qQ (l,e,d) c=(l,false,true):=by simp[qQ,U1,n32,WO]
    rw[ha];have L62:Hid _:=WO;clear Yu Ku U1 n32 WO h2 sU;cases e
    ·go_in
     go_wp2
     first|go_end0|refine aj (ar rfl _ _ _) rfl ?_
     exact⟨rfl,⟨_,HC.out.set 64 eH _,HR.out.FZ true⟩,(lb.refl _ _ _ _).set _ eE eE _⟩
    ·go_in
     go_wp2
     first|go_end0|refine aj (ar rfl _ _ _) rfl ?_
     exact⟨rfl,⟨_,(HC.out.set 63 eH _).set 64 eH _,(HR.out.Kt false).FZ true⟩,((lb.refl _ _ _ _).set _ eE eE _).set _ eE eE _⟩
   ·have su:((l.length:Int)==62)=false:=by simpa using h3
    have WO:l.length<62:=by
     have:¬(l.length:Int)=62:=λe=>h3 (by simp[e]);omega
    have aiw:(l.length:Int)<62:=eE;have ha:qQ (l,e,d) c=(l++ [if e then c^^^32 else c],false,d):=by simp[qQ,U1,n32,Nat.ne_of_lt WO]
    rw[ha];obtain⟨x,hxx⟩:=HR.out.live _ WO;have hcell:w.cell? ⟨g,o+l.length,ν⟩=μ (.int .u8 x):=(HC.out.cell _ eE).trans (congrArg μ hxx);have fl:=sU l.length eE;clear Yu Ku U1 n32 h2 h3 hxx sU;cases e
    ·go_in
     go_wp2
     go_region
     go_wp2_with(fail)
     go_end0
     exact⟨rfl,⟨_,(HC.out.set _ eE _).set 62 eH _,HR.out.push WO c⟩,(((lb.refl _ _ _ _).set _ eE eE _).set _ eE eE _).drew⟩
    ·go_in
     go_wp2
     go_region
     go_wp2_with(fail)
     go_end0
     refine⟨rfl,⟨_,((HC.out.set 63 eH _).set _ eE _).set 62 eH _,?_⟩,((((lb.refl _ _ _ _).set _ eE eE _).set _ eE eE _).set _ eE eE _).drew⟩;have hp:=(HR.out.Kt false).push WO (c^^^32);rw[UInt8.toNat_xor]at hp;exact hp
def ng(l:List UInt8)(e d:Bool):List UInt8×Bool×Nat:=
 if d=true \/e=true then([],true,4)
 else if l.length=0 then([],false,0)
 else if l.length<2 then([],true,4)
 else if(Plain.sum (l.take (l.length-2)):Int)=((l.getD (l.length-2) 0).toNat:Int)+256*((l.getD (l.length-1) 0).toNat:Int)then(l.take (l.length-2),true,0)
 else([],true,5)
theorem abD(s:ByteArray)(w:eB)(hs:s.size<=maxLen):
 fj fk 210 #[.string s] w λe w'=>e=ρ (ι κ (Plain.sum s.data.toList:Nat))/\w'=w:=(Mf s w hs).mono λ_ _ ⟨a,b⟩=>⟨a,b.symm⟩
theorem MD(a b:UInt8):gg (gg (a.toNat:Int)+gg (256*gg (b.toNat:Int)))=(a.toNat:Int)+256*(b.toNat:Int):=by
 have ha:=a.toNat_lt;have hb:=b.toNat_lt;rw[cE (a.toNat:Int) ⟨eE,eE⟩,cE (b.toNat:Int) ⟨eE,eE⟩,cE (256*(b.toNat:Int)) ⟨eE,eE⟩,cE _ ⟨eE,eE⟩]
theorem Kv(l:List UInt8)(h2:¬l.length<2)
 (hq:(((Plain.sum (l.take (l.length-2)):Nat):Int) !=gg (gg ((l[l.length-2]'(by omega)).toNat:Int)+gg (256*gg ((l[l.length-1]'(by omega)).toNat:Int))))=true):ng l false false=([],true,5):=by
 rw[MD]at hq;have U2:¬((Plain.sum (l.take (l.length-2)):Nat):Int)=((l[l.length-2]'(by omega)).toNat:Int)+256*((l[l.length-1]'(by omega)).toNat:Int):=by simpa using hq
 have e1:l.getD (l.length-2) 0=l[l.length-2]'(by omega):=by simp[show l.length-2<l.length by omega]
 have e2:l.getD (l.length-1) 0=l[l.length-1]'(by omega):=by simp[show l.length-1<l.length by omega]
 unfold ng;rw[ae iC,ae eE,ae h2,e1,e2,ae U2]
theorem Ip(l:List UInt8)(h2:¬l.length<2)
 (hq:(((Plain.sum (l.take (l.length-2)):Nat):Int) !=gg (gg ((l[l.length-2]'(by omega)).toNat:Int)+gg (256*gg ((l[l.length-1]'(by omega)).toNat:Int))))=false):ng l false false=(l.take (l.length-2),true,0):=by
 rw[MD]at hq;have U2:((Plain.sum (l.take (l.length-2)):Nat):Int)=((l[l.length-2]'(by omega)).toNat:Int)+256*((l[l.length-1]'(by omega)).toNat:Int):=by simpa using hq
 have e1:l.getD (l.length-2) 0=l[l.length-2]'(by omega):=by simp[show l.length-2<l.length by omega]
 have e2:l.getD (l.length-1) 0=l[l.length-1]'(by omega):=by simp[show l.length-1<l.length by omega]
 unfold ng;rw[ae iC,ae eE,ae h2,e1,e2,ag U2]
theorem xT:fk.arrayLen 137=62:=gT
theorem B5:fk.underlying 137=μ (.array (fk.arrayLen 137) (fk.elem 137)):=gT
theorem Kw(w:eB):(sizeOf (fk.elem 137)).run fk w=.ok 1 w:=gT
theorem N1(g o:Nat)(l:List UInt8)(e d:Bool)(w:eB)(h:Rd w g o l e d):
 fj fk 183 #[π (μ ⟨g,o,ν⟩)] w λe' w'=>e'=ρ (τ #[.string ⟨(ng l e d).1.toArray⟩,.bool (ng l e d).2.1,jy (ng l e d).2.2])/\∃n,w'=w.drewN n:=by
 obtain⟨F,hC,hR⟩:=h;have hlen:=hR.len;have abC:w.cell? ⟨g,o+62,ν⟩=μ (ι κ (l.length:Int)):=(hC.cell 62 eH).trans (congrArg μ hR.many);have afL:w.cell? ⟨g,o+63,ν⟩=μ (.bool e):=(hC.cell 63 eH).trans (congrArg μ hR.esc);have uL:w.cell? ⟨g,o+64,ν⟩=μ (.bool d):=(hC.cell 64 eH).trans (congrArg μ hR.bad);have Et:∀i (h:i<l.length),w.cell? ⟨g,o+i,ν⟩=μ (.int .u8 (l[i].toNat:Int)):=λi h=>(hC.cell i eE).trans (congrArg μ (hR.body i h));have MA:=hC.lt eH;clear hC hR;by_cases hd:d=true \/e=true
 ·have ht:ng l e d=([],true,4):=by simp[ng,hd]
  rw[ht];clear ht Et;rcases hd with rfl|rfl
  ·go_in
   go_wp2
   go_ret3
   exact⟨rfl,0,rfl⟩
  ·cases d
   ·go_in
    go_wp2
    go_ret3
    exact⟨rfl,0,rfl⟩
   ·go_in
    go_wp2
    go_ret3
    exact⟨rfl,0,rfl⟩
 ·obtain⟨rfl,rfl⟩:d=false/\e=false:=by cases d<;>cases e<;>simp_all
  by_cases h0:l.length=0
  ·have ht:ng l false false=([],false,0):=by simp[ng,h0]
   rw[ht];have h0':((l.length:Int)==0)=true:=by simp[h0]
   have H0:Hid _:=h0;clear ht Et h0 hd
   go_in
   go_wp2
   go_ret3
   exact⟨rfl,0,rfl⟩
  ·have h0':((l.length:Int)==0)=false:=by rw[cN];omega
   by_cases h2:l.length<2
   ·have ht:ng l false false=([],true,4):=by simp[ng,h0,h2]
    rw[ht];clear ht Et hd
    go_in
    go_wp2
    go_ret3
    exact⟨rfl,0,rfl⟩
   ·have hsl:∀W:eB,(Instr.sliceAt 137 (π (μ ⟨g,o,ν⟩)) ν (μ (ι κ ((l.length:Int)-2))) ν).run fk W=.ok (σ (μ ⟨g,o,ν⟩) (l.length-2) 62) W:=by
     intro W;rw[run_sliceAt_array_h W 137 ⟨g,o,ν⟩ B5 .i64 _ eE (by rw[xT];omega),Kw,xT];have e1:((l.length:Int)-2).toNat=l.length-2:=eE;simp[slicedAt,Result.andThen,e1,mR]
    have uM:(convert 140 9 (σ (μ ⟨g,o,ν⟩) (l.length-2) 62)).run fk w=.ok (.string ⟨(l.take (l.length-2)).toArray⟩) w:=by
     have FC:(l.take (l.length-2)).length=l.length-2:=iC;have:=dU (P:=fk) w 140 9 5 ⟨g,o,ν⟩ 62 (l.take (l.length-2)) aQ bK a8 (λj hj=>by
      rw[mR,Et j eE];simp)
     rw[FC]at this;exact this
    have hA:=Et (l.length-2) eE;have hB:=Et (l.length-1) eE;have tA:(((l.length:Int)-2).toNat)=l.length-2:=eE;have tB:(((l.length:Int)-2+1).toNat)=l.length-1:=eE;have hS:(ByteArray.mk (l.take (l.length-2)).toArray).size<=maxLen:=by
     show(l.take (l.length-2)).toArray.size<=maxLen;unfold maxLen;simp;omega
    go_in
    go_wp2
    go_quiet((go_at_call 210;exact Calls.quiet_of_same (abD _ _ hS)))
    go_wp2_with(fail)
    ·have hq:=Kv l h2 jj;rw[hq]
     go_ret3
     exact⟨rfl,_,rfl⟩
    ·have hq:=Ip l h2 jj;rw[hq]
     go_ret3
     exact⟨rfl,_,rfl⟩
def Eu:Array eD:= #[] ++Array.replicate 62 (.int .u8 0)++ #[ι κ 0,.bool false,.bool false]
theorem Yv:(fk.info? 139).map (λi=>(i.zero,i.size))=μ (μ (.agg Eu),65):=gT
theorem Rb:(∀w,(zeroValue 139).run fk w=.ok (.agg Eu) w)/\(fk.info? 139).map (·.size)=μ 65:=cJ Yv
theorem xU:Eu.size=65:=eH
def Kx(j:Nat):eD:=Eu.getD j (.bool false)
theorem Bc.zero:Bc Kx [] false false:=by
 refine⟨iC,λi hi=>⟨0,?_⟩,λi hi=>by simp at hi,gT,gT,gT⟩;have h:Eu[i]? =μ (.int .u8 0):=by
  unfold Eu;rw[cM (by simp;omega)];simp[hi]
 unfold Kx;rw[dA,h];rfl
theorem U3:∀v∈Eu.toList,v.oneCell'=true:=by
 have:Eu.toList.all (·.oneCell')=true:=gT;exact bk.mp this
theorem B6(h:pL w g o 65 F):
 (storeCells ⟨g,o,ν⟩ Eu.toList).run fk w=.ok () (w.setCells g o Eu.toList)/\pL (w.setCells g o Eu.toList) g o 65 Kx/\lb w (w.setCells g o Eu.toList) g o 65:=by
 have hl:Eu.toList.length=65:=by simp[xU]
 have hr:=run_storeCells_cells (P:=fk) g o Eu.toList 0 w (λj hj=>by rw[Nat.add_zero,h.cell j eE];rfl) (λj hj=>by rw[Nat.add_zero];exact h.fz j eE) U3;have nR:∀(vs:List eD) (o:Nat) (w:eB),(w.setCells g o vs).heap.size=w.heap.size/\(w.setCells g o vs).os=w.os/\(w.setCells g o vs).tape=w.tape/\(w.setCells g o vs).output=w.output/\∀k,k≠g->(w.setCells g o vs).heap[k]? =w.heap[k]? :=by
  intro vs
  induction vs with
  |nil=>intro o w;exact⟨rfl,rfl,rfl,rfl,λ_ _=>rfl⟩
  |cons u r ih=>
   intro o w;have:=ih (o+1) (w.setCell ⟨g,o,ν⟩ u);have b1:Below 0 w (w.setCell ⟨g,o,ν⟩ u):=(au 0 w).setCell (Nat.zero_le _) _;refine⟨this.1.trans iC,this.2.1.trans b1.os,this.2.2.1.trans b1.tape,this.2.2.2.1.trans b1.output,λk hk=>(this.2.2.2.2 k hk).trans (ak _ _ _ k hk)⟩
 have B:=nR Eu.toList o w;refine⟨by simpa using hr,λj hj=>⟨?_,?_⟩,⟨B.2.1,B.2.2.1,B.2.2.2.1,by rw[B.1];exact Nat.le_refl _,λi _ jV=>B.2.2.2.2 i jV,λj hj=>br g _ _ _ _ (λ_ _=>by show j<o \/o+Eu.toList.length<=j;omega),λj=>bT g _ _ _ _⟩⟩
 ·have h1:=bD g Eu.toList o w (λk hk=>by rw[h.cell k eE];rfl) j eE;rw[h1];unfold Kx;rw[dA,Array.getElem?_eq_getElem (by rw[xU];exact hj)];simp
 ·exact(bT g _ _ _ _).trans (h.fz j hj)
def pB(l:List UInt8)(e d:Bool)(c:UInt8):List UInt8×Bool×Bool:=if c=126 then([],false,false)else qQ (l,e,d) c
def pC(l:List UInt8)(e d:Bool)(c:UInt8):List UInt8×Bool×Nat:=if c=126 then ng l e d else([],false,0)
theorem N2(g o:Nat)(l:List UInt8)(e d:Bool)(c:UInt8)(w:eB)(h:Rd w g o l e d):
 fj fk 132 #[π (μ ⟨g,o,ν⟩),.int .u8 (c.toNat:Int)] w λe' w'=>e'=ρ (τ #[.string ⟨(pC l e d c).1.toArray⟩,.bool (pC l e d c).2.1,jy (pC l e d c).2.2])/\
  Rd w' g o (pB l e d c).1 (pB l e d c).2.1 (pB l e d c).2.2/\lb w w' g o 65:=by
 have U4:c=126↔((c.toNat:Int)==126)=true:=by
  rw[<-UInt8.toNat_inj,di];show c.toNat=126↔_;omega
 by_cases hc:c=126
 ·have hn:((c.toNat:Int) !=126)=false:=by rw[bne,U4.mp hc];rfl
  have e1:pC l e d c=ng l e d:=by simp[pC,hc]
  have e2:pB l e d c=([],false,false):=by simp[pB,hc]
  rw[e1,e2];clear e1 e2 U4 hc;have hT:=N1 g o l e d w h;obtain⟨F,hC,hR⟩:=h;have kD:∀n,(storeCells ⟨g,o,ν⟩ Eu.toList).run fk (w.drewN n)=.ok () ((w.drewN n).setCells g o Eu.toList):=λn=>(B6 (w:=w.drewN n) (F:=F) hC).1;have hz:=Rb.1;have hZ:=xU;have HC:Hid (pL w g o 65 F):=hC;clear hR hC
  go_in
  go_wp2_with(go_at_call 183;refine hT.mono ?_;rintro e' w' ⟨rfl,n,rfl⟩)
  go_ret3
  have h2:=B6 (w:=w.drewN n) (F:=F) HC.out;exact⟨rfl,⟨Kx,h2.2.1,Bc.zero⟩,((lb.refl w g o 65).drewN n).trans h2.2.2⟩
 ·have hn:((c.toNat:Int) !=126)=true:=by
   rw[bne];cases hq:((c.toNat:Int)==126)
   ·rfl
   ·exact absurd (U4.mpr hq) hc
  have e1:pC l e d c=([],false,0):=by simp[pC,hc]
  have e2:pB l e d c=qQ (l,e,d) c:=by simp[pB,hc]
  rw[e1,e2];clear e1 e2 U4 hc
  go_in
  go_wp2_with(go_at_call 182;refine(Ra g o l e d c _ h).mono ?_;rintro e' w' ⟨rfl,hR,hg⟩)
  go_ret3
  exact⟨rfl,hR,hg⟩
abbrev ku:=List UInt8×Bool×Bool
def mB(a:List (List UInt8)×Nat×ku)(c:UInt8):List (List UInt8)×Nat×ku:=
 let t:=pC a.2.2.1 a.2.2.2.1 a.2.2.2.2 c
 let r:=pB a.2.2.1 a.2.2.2.1 a.2.2.2.2 c
 if t.2.2≠0 then(a.1,a.2.1+1,r)else if t.2.1=true then(a.1++ [t.1],a.2.1,r)else(a.1,a.2.1,r)
def kx(st:ku)(l:List UInt8):List (List UInt8)×Nat×ku:=l.foldl mB ([],0,st)
def strs(l:List (List UInt8)):List eD:=l.map λs=>Value.string ⟨s.toArray⟩
theorem N3(st:ku)(l:List UInt8)(c:UInt8):kx st (l++ [c])=mB (kx st l) c:=by simp[kx]
theorem Rc(a:List (List UInt8)×Nat×ku)(c:UInt8):(mB a c).1.length+(mB a c).2.1<=a.1.length+a.2.1+1:=by
 unfold mB;simp only;split
 ·simp only;omega
 ·split
  ·simp only[List.length_append,eZ,fC];omega
  ·simp only;omega
theorem Iq:∀(l:List UInt8) (a:List (List UInt8)×Nat×ku),(l.foldl mB a).1.length+(l.foldl mB a).2.1<=a.1.length+a.2.1+l.length
 |[],a=>iC
 |c::l,a=>by
  have h1:=Iq l (mB a c);have h2:=Rc a c;simp only[List.foldl_cons,eZ];omega
theorem Be(st:ku)(l:List UInt8):(kx st l).1.length+(kx st l).2.1<=l.length:=by
 have:=Iq l ([],0,st);unfold kx;simp only[fC]at this;omega
theorem U5:(fk.info? 9).map (λi=>(i.zero,i.size,i.bytes))=μ (μ (.string fM),1,16):=gT
theorem Rf {w1 w2:eB} {v:eD} {ob:Obj} {g2 n cap2:Nat} (A8:g<w.heap.size)(jw:∀k,v.ownBlock=μ k->w.heap.size<=k)(hR:Rd w1 g o l e d)(hg:lb w w1 g o 65)
 (xJ:(w1.alloc ob).grownBy w2 v.ownBlock) (jC:v.ownBlock=μ g2 \/w1.heap.size+1<=g2):
 (∀k,eF (σ (μ ⟨g2,0,ν⟩) n cap2)=μ k->w.heap.size<=k)/\Rd w2 g o l e d/\lb w w2 g o 65:=by
 have hs:=hg.size;have BF:(w1.alloc ob).heap.size=w1.heap.size+1:=iC;have hk:∀k,k<w.heap.size->w2.heap[k]? =w1.heap[k]? :=λk hk=>by
  rw[xJ.block k eE (λe=>by have:=jw k e.symm;omega)];exact aT w1 ob k eE
 refine⟨λk hk=> ?_,?_,⟨xJ.os.trans hg.os,xJ.tape.trans hg.tape,xJ.output.trans hg.output,by have:=xJ.size;omega,λk h1 h2=>(hk k h1).trans (hg.block k h1 h2),λj hj=>(ai (a:=⟨g,j,ν⟩) (hk g A8)).trans (hg.cell j hj),λj=>(aN (a:=⟨g,j,ν⟩) (hk g A8)).trans (hg.fz j)⟩⟩
 ·have:g2=k:=by simpa[eF]using hk
  rcases jC with h|h
  ·have:=jw g2 h;omega
  ·omega
 ·obtain⟨F,hC,h2⟩:=hR;exact⟨F,hC.keep (hk g A8),h2⟩
theorem Rh(g o:Nat)(st:ku)(s:ByteArray)(w:eB)(h:Rd w g o st.1 st.2.1 st.2.2)(hs:s.size<=100000):
 fj fk 78 #[π (μ ⟨g,o,ν⟩),.string s] w λe w'=>∃v,e=ρ (τ #[v,ι κ ((kx st s.data.toList).2.1:Int)])/\
  Row w' 1 v (kx st s.data.toList).1.length (strs (kx st s.data.toList).1)/\(∀k,v.ownBlock=μ k->w.heap.size<=k)/\((kx st s.data.toList).1=[]->v=σ ν 0 0)/\
  Rd w' g o (kx st s.data.toList).2.2.1 (kx st s.data.toList).2.2.2.1 (kx st s.data.toList).2.2.2.2/\lb w w' g o 65:=by
 obtain⟨i0,hi,oz,mW,nT⟩:=aW U5;have A8:g<w.heap.size:=by
  obtain⟨F,hC,_⟩:=h;exact hC.lt eH
 go_in
 go_wp2
 go_loopw [4,5,12] (λv n i wr=>∃(k:Nat) (A:List (List UInt8)×Nat×ku),A=kx st (s.data.toList.take k)/\k<=s.size/\i=ι κ k/\n=ι κ (A.2.1:Int)/\
  Row wr 1 v A.1.length (strs A.1)/\(∀k,v.ownBlock=μ k->w.heap.size<=k)/\(A.1=[]->v=σ ν 0 0)/\Rd wr g o A.2.2.1 A.2.2.2.1 A.2.2.2.2/\lb w wr g o 65)
  (λ_ _ i _=>s.size-(intOf i).toNat)
 case atStart=>exact⟨0,_,rfl,Nat.zero_le _,rfl,rfl,Row.nil _ _,λk hk=>by simp[eF]at hk,λ_=>rfl,h,lb.refl _ _ _ _⟩
 case round=>
  obtain⟨k,A,hA,hk,rfl,rfl,ji,jw,WQ,hR,hg⟩:=hrel;have kj:Hid _:=WQ;clear WQ;have HL:Hid (A.1.length+A.2.1<=k):=by
   have:=Be st (s.data.toList.take k);rw[<-hA]at this;have h2:(s.data.toList.take k).length<=k:=cr _ _;exact(by omega:A.1.length+A.2.1<=k)
  have HA:Hid _:=hA;clear hA h;by_cases kH:k<s.size
  ·obtain⟨t,dn,er,hT⟩:∃t dn er,pC A.2.2.1 A.2.2.2.1 A.2.2.2.2 s[k] =(t,dn,er):=⟨_,_,_,rfl⟩
   obtain⟨R',Ir⟩:∃R',pB A.2.2.1 A.2.2.2.1 A.2.2.2.2 s[k] =R':=⟨_,rfl⟩
   have kP:fj fk 132 #[π (μ ⟨g,o,ν⟩),.int .u8 (s[k].toNat:Int)] wr λe' w'=>e'=ρ (τ #[.string ⟨t.toArray⟩,.bool dn,jy er])/\
    Row w' 1 u4 A.1.length (strs A.1)/\Rd w' g o R'.1 R'.2.1 R'.2.2/\lb w w' g o 65:=by
    have hq:=N2 g o A.2.2.1 A.2.2.2.1 A.2.2.2.2 s[k] wr hR;rw[hT,Ir]at hq;refine hq.mono λe' w' ⟨h1,h2,h3⟩=>⟨h1,ji.keep h3.size (λj hj=>h3.block j (ji.lt j hj) (λe1=>by have:=jw j hj;omega)),h2,hg.trans h3⟩
   have HN0:(kx st (s.data.toList.take (k+1))=if er≠0 then(A.1,A.2.1+1,R')else if dn=true then(A.1++ [t],A.2.1,R')else(A.1,A.2.1,R')):=by
    have:s.data.toList.take (k+1)=s.data.toList.take k++ [s[k]] :=Ec s k kH;rw[this,N3,<-HA.out];unfold mB;simp only[hT,Ir]
   have HN:Hid _:=HN0;clear HN0;have hn:A.2.1<=100000:=by have:=HL.out;omega
   clear hT Ir ji hR hg;by_cases her:er=0
   ·subst her;have e0:jy 0=η:=rfl;rw[e0]at kP;clear e0;cases dn
    ·go_wp2_with(go_at_call 132;refine kP.mono ?_;rintro e w1 ⟨rfl,zV,WR,ki⟩);go_roundw
     case rel=>exact⟨k+1,_,HN.out.symm,eE,by go_num,rfl,zV,jw,kj.out,WR,ki⟩
     case measure=>simp[intOf];omega
    ·have m1:A.1.length+1<=maxLen:=by have:=HL.out;unfold maxLen;omega
     have b1:(A.1.length+1)*16<=140737488355328:=by have:=HL.out;omega
     go_wp2_with(first
      |(go_at_call 132;refine kP.mono ?_;rintro e w1 ⟨rfl,zV,WR,ki⟩)
      |(at_builtin;go_must(refine iX _ rfl (.tmp 29) (.tmp 31) 164 rfl 9 i0 (.string fM) 1 16 Tryz.underlying164 hi oz mW nT rfl eH u4 A.1.length (strs A.1) rfl (Row.alloc jj _) _ 1 1 [.string ⟨t.toArray⟩] rfl rfl eH (pT _ _ _) (J4 _) m1 b1 ?_)))
     intro g2 cap2 w2 sE rz kV;have hS:=Rf (n:=A.1.length+1) (cap2:=cap2) A8 jw WR ki rz kV;clear rz kV zV WR ki
     go_wp2
     go_roundw
     case rel=>exact⟨k+1,(A.1++ [t],A.2.1,R'),by rw[HN.out];rfl,eE,by go_num,rfl,by simpa[strs]using sE,hS.1,λh=>by simp at h,hS.2.1,hS.2.2⟩
     case measure=>simp[intOf];omega
   ·have e0:jy er=.iface 128 (ι κ (er:Int)):=by simp[jy,her]
    rw[e0]at kP;clear e0;go_wp2_with(go_at_call 132;refine kP.mono ?_;rintro e w1 ⟨rfl,zV,WR,ki⟩);go_roundw
    case rel=>exact⟨k+1,(A.1,A.2.1+1,R'),by rw[HN.out,ag her],eE,by go_num,by go_num,zV,jw,kj.out,WR,ki⟩
    case measure=>simp[intOf];omega
  ·go_wp2
   have hA:kx st s.data.toList=A:=by
    rw[HA.out,aK];show s.size<=k;omega
   rw[hA]
   go_ret2
   exact⟨u4,rfl,ji,jw,kj.out,hR,hg⟩
theorem uN(s:ByteArray)(a b:Nat):(s.extract a b).data.toList=(s.data.toList.take b).drop a:=by
 rw[ByteArray.data_extract];simp[List.drop_take]
theorem N4:∀c:UInt8,qJ c=true->(c^^^32≠126/\¬c^^^32<32/\c^^^32≠125)/\c^^^32^^^32=c:=by
 have h:∀n:Fin 256,qJ (UInt8.ofNat n)=true->(UInt8.ofNat n^^^32≠126/\¬UInt8.ofNat n^^^32<32/\UInt8.ofNat n^^^32≠125)/\UInt8.ofNat n^^^32^^^32=UInt8.ofNat n:=by decide+kernel
 intro c;have:=h ⟨c.toNat,c.toNat_lt⟩;simpa using this
theorem Iu:∀c:UInt8,qJ c=false->c≠126/\¬c<32/\c≠125:=by
 intro c h;unfold qJ at h;simp at h;exact⟨h.1.1,by rw[UInt8.lt_iff_toNat_lt];have:=h.2;rw[UInt8.le_iff_toNat_le]at this;omega,h.1.2⟩
theorem y8:∀(l:List UInt8) (o:List (List UInt8)) (n:Nat) (st:ku),l.foldl mB (o,n,st)=(o++(l.foldl mB ([],0,st)).1,n+(l.foldl mB ([],0,st)).2.1,(l.foldl mB ([],0,st)).2.2)
 |[],o,n,st=>iC
 |c::l,o,n,st=>by
  have key:∀(o:List (List UInt8)) (n:Nat),mB (o,n,st) c=(o++(mB ([],0,st) c).1,n+(mB ([],0,st) c).2.1,(mB ([],0,st) c).2.2):=by
   intro o n;unfold mB;simp only;split
   ·simp
   ·split<;>simp
  rw[bQ,bQ,key o n,y8 l (o++_) _ _];obtain⟨x,y,z,e⟩:∃x y z,mB ([],0,st) c=(x,y,z):=⟨_,_,_,rfl⟩
  rw[e];simp only;rw[y8 l x y z];simp[Nat.add_assoc]
theorem qu(st:ku)(a b:List UInt8):kx st (a++b)=((kx st a).1++(kx (kx st a).2.2 b).1,(kx st a).2.1+(kx (kx st a).2.2 b).2.1,(kx (kx st a).2.2 b).2.2):=by
 unfold kx;rw[cY];exact y8 b _ _ _
theorem Ca(o:List (List UInt8))(n:Nat)(l:List UInt8)(e d:Bool)(c:UInt8)(h:c≠126):mB (o,n,(l,e,d)) c=(o,n,qQ (l,e,d) c):=by
 simp[mB,pC,pB,h]
theorem N5(o:List (List UInt8))(n:Nat)(l:List UInt8)(c:UInt8)(h:l.length<62):(AA c).foldl mB (o,n,(l,false,false))=(o,n,(l++ [c],false,false)):=by
 unfold AA;by_cases hc:qJ c=true
 ·obtain⟨⟨h1,h2,h3⟩,h4⟩:=N4 c hc;rw[ag hc,bQ,bQ,gh,Ca o n l false false 125 eH];have e1:qQ (l,false,false) 125=(l,true,false):=by simp[qQ]
  rw[e1,Ca _ _ _ _ _ _ h1];have e2:qQ (l,true,false) (c^^^32)=(l++ [c^^^32^^^32],false,false):=by
   simp[qQ,h2,h3,Nat.ne_of_lt h]
  rw[e2,h4]
 ·have kS:qJ c=false:=by simpa using hc
  obtain⟨h1,h2,h3⟩:=Iu c kS;rw[ae hc,bQ,gh,Ca _ _ _ _ _ _ h1];have e2:qQ (l,false,false) c=(l++ [c],false,false):=by
   simp[qQ,h2,h3,Nat.ne_of_lt h]
  rw[e2]
theorem Ev(o:List (List UInt8))(n:Nat):∀(m l:List UInt8),l.length+m.length<=62->(rk m).foldl mB (o,n,(l,false,false))=(o,n,(l++m,false,false))
 |[],l,_=>by simp[rk]
 |c::m,l,h=>by
  have h':l.length+(m.length+1)<=62:=by simpa using h
  have e:rk (c::m)=AA c++rk m:=by simp[rk]
  rw[e,cY,N5 o n l c eE,Ev o n m (l++ [c]) (by simp;omega)];simp
theorem F8(l:List UInt8):ng (lU l) false false=(l,true,0):=by
 have hl:(lU l).length=l.length+2:=py l;have ht:(lU l).take ((lU l).length-2)=l:=by rw[hl];simp[lU]
 have e1:(lU l).getD ((lU l).length-2) 0=Hh l:=by
  rw[hl];simp[lU]
 have e2:(lU l).getD ((lU l).length-1) 0=Hj l:=by
  rw[hl];simp[lU]
 unfold ng;rw[ae iC,ae eE,ae eE,e1,e2,ht,ag];rw[Ee,Ef];omega
theorem Ky(l:List UInt8)(h:l.length<=60):kx ([],false,false) (mT l)=([l],0,([],false,false)):=by
 unfold kx mT;rw[bQ,cY];have e0:mB ([],0,([],false,false)) 126=([],0,([],false,false)):=by simp[mB,pC,pB,ng]
 rw[e0,Ev [] 0 (lU l) [] (by rw[py];simp;omega)];simp[mB,pC,pB,F8]
theorem DS(l:List UInt8):(mT l).length=(rk (lU l)).length+2:=by simp[mT]
theorem N6(l:List UInt8)(h:l.length<=60):(mT l).length<=126:=by
 rw[DS];have:=FA (lU l);rw[py]at this;omega
end Go.Proofs.YtieklnlbljejdaaGreatDoor
