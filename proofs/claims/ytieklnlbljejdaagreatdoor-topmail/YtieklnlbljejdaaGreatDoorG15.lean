import Derived.Test.YtieklnlbljejdaaGreatDoorG14
open Go.Value renaming int → ι, slice → σ, pointer → π, tuple → τ
open Go.IntKind renaming i64 → κ
open Go.Ending renaming returned → ρ
open Go.Obj renaming cells → γ
open Option renaming none → ν, some → μ
open Array renaming map → gK
open Go.Value renaming int → eI, slice → gS
open Go.IntKind renaming u8 → ga
open Go renaming Value → eD, World → eB, run_underlying → gM, Calls → fj
open Go.Builtin renaming append_ → gL, lenOf → gN, firstCells → gO, nextslicecap → gQ
open Go.Proofs.Tryz renaming prog → fk
set_option maxRecDepth 100000
set_option maxHeartbeats 4000000
namespace Go.Proofs.YtieklnlbljejdaaGreatDoor
open Go.RowKit
section
variable {P:Program}
theorem DW(s:ByteArray):(gK (λb:UInt8=>eI ga (b.toNat:Int)) s.data).extract 0 s.size=gK (λb:UInt8=>eI ga (b.toNat:Int)) s.data:=by
 have hs:s.size=(gK (λb:UInt8=>eI ga (b.toNat:Int)) s.data).size:=by rw[eh];rfl
 rw[hs,Array.extract_size]
theorem uP(g:Nat):∀(vs:List eD) (o:Nat) (w:eB),(w.setCells g o vs).heap.size=w.heap.size/\(w.setCells g o vs).os=w.os/\(w.setCells g o vs).tape=w.tape/\(w.setCells g o vs).output=w.output/\∀k,k≠g->(w.setCells g o vs).heap[k]? =w.heap[k]?
 |[],o,w=>⟨rfl,rfl,rfl,rfl,λ_ _=>rfl⟩
 |u::r,o,w=>by
  have h:=uP g r (o+1) (w.setCell ⟨g,o,ν⟩ u);have b1:Below 0 w (w.setCell ⟨g,o,ν⟩ u):=(au 0 w).setCell (Nat.zero_le _) _;exact⟨h.1.trans iC,h.2.1.trans b1.os,h.2.2.1.trans b1.tape,h.2.2.2.1.trans b1.output,λk hk=>(h.2.2.2.2 k hk).trans (ak _ _ _ k hk)⟩
theorem KS(l:List UInt8):∀u∈iZ l,u.oneCell'=true:=by
 intro u hu;obtain⟨b,_,rfl⟩:=bI.1 hu;rfl
theorem KT(s:ByteArray):(gK (λb:UInt8=>eI ga (b.toNat:Int)) s.data).toList=iZ s.data.toList:=by simp[iZ]
theorem Row.Vg {w:eB} {v:eD} {n:Nat} {xs:List eD} (h:Row w 1 v n xs):v=σ ν 0 0/\n=0/\xs=[] \/ ∃g cap,v=σ (μ ⟨g,0,ν⟩) n cap/\g<w.heap.size/\n<=cap/\cap<=maxLen/\(∀(j:Nat) (u:eD),xs[j]? =μ u->w.cell? ⟨g,j,ν⟩=μ u)/\(∀j,j<cap*1->(w.cell? ⟨g,j,ν⟩).isSome=true/\w.frozen? ⟨g,j,ν⟩=false):=by
 rcases h.2 with⟨e1,e2⟩|⟨g,cap,e1,h1,h2,h3,h4,h5⟩
 ·exact .inl ⟨e1,e2,aG (by rw[h.1,e2])⟩
 ·exact .inr ⟨g,cap,e1,h1,h2,h3,h4,h5⟩
theorem uQ(w:eB)(t u ty e:TypeId)(i:TypeInfo)(z:eD)(ht:P.underlying t=μ (.slice e))(hu:P.underlying u=μ .string)(hi:P.info? e=μ i)(hz:i.zero=μ z)(qH:i.size=1)(yF:i.bytes=1)(J5:z.cells.size=1)
 (v:eD) (n:Nat) (xs:List eD) (jC:Row w 1 v n xs) (s:ByteArray) (hs:s.size<=1000000) (hn:n<=1000000000):
 ∃v' w',(gL #[t,u] ty #[v,.string s]).run P w=.ok v' w'/\Row w' 1 v' (n+s.size) (xs++iZ s.data.toList)/\w.grownBy w' v.ownBlock/\(v'.ownBlock=v.ownBlock \/ ∃k,v'.ownBlock=μ k/\w.heap.size<=k):=by
 have hsl:(iZ s.data.toList).length=s.size:=by simp[qj]
 have hex:=DW s;rcases jC.Vg with⟨rfl,rfl,rfl⟩|⟨g,cap,rfl,hg,sH,J6,hcell,J7⟩
 ·by_cases h0:s.size=0
  ·have af3:s.data.toList=[] :=aG (by simpa using h0);refine⟨σ ν 0 0,w,?_,by rw[h0,af3];exact Row.nil _ _,⟨rfl,rfl,rfl,Nat.le_refl _,λ_ _ _=>rfl⟩,.inl rfl⟩;simp[gL,gM ht,gM hu,sizeOf,typeInfo,hi,gN,gO,h0]
  ·have hr:=run_append_nil_string (P:=P) (w:=w) t u ty e i z ht hu hi hz s eE eE (by rw[yF];omega);have yG:=grownCap_ge w s.size 0 e;refine⟨_,_,hr,?_,⟨rfl,rfl,rfl,iC,λk hk _=>aT w.drew _ k hk⟩,.inr ⟨_,rfl,Nat.le_refl _⟩⟩;simp only[Nat.zero_add,List.nil_append];refine Row.made w.drew 1 e _ (0,0) s.size _ _ (by rw[hsl,Nat.mul_one]) ?_ yG (dw _ _ _ _ (by unfold maxLen;omega)) (.inl rfl) (λj x hj=> ?_)
   ·rw[dH,size_zeroCells,J5,eh];have:s.data.size=s.size:=rfl;omega
   ·have Mc:j<s.size:=by rw[<-hsl];exact(aH.1 hj).1
    rw[cM (by rw[eh];exact Mc),<-hj,<-KT s,Array.getElem?_toList]
 ·by_cases hr:n+s.size<=cap
  ·have pw:∀j,j<(iZ s.data.toList).length->(w.cell? ⟨g,0+n*1+j,ν⟩).isSome=true/\w.frozen? ⟨g,0+n*1+j,ν⟩=false:=λj hj=>J7 _ eE;have kD:=run_storeCells_cells (P:=P) g (0+n*1) (iZ s.data.toList) 0 w (λj hj=>by rw[Nat.add_zero];exact(pw j hj).1) (λj hj=>by rw[Nat.add_zero];exact(pw j hj).2) (KS _);have B:=uP g (iZ s.data.toList) (0+n*1) w;refine⟨σ (μ ⟨g,0,ν⟩) (n+s.size) cap,w.setCells g (0+n*1) (iZ s.data.toList),?_,⟨by rw[aA,jC.1,hsl];omega,.inr ⟨g,cap,rfl,by rw[B.1];exact hg,hr,J6,λj x hx=> ?_,λj hj=> ?_⟩⟩,⟨B.2.1,B.2.2.1,B.2.2.2.1,by rw[B.1];exact Nat.le_refl _,λk _ hk=>B.2.2.2.2 k (λe=>hk (by simp[Value.ownBlock,e]))⟩,.inl rfl⟩
   ·simp[gL,gM ht,gM hu,sizeOf,typeInfo,hi,qH,gN,gO,hr,hex,add_plain];have Yn:(storeCells ⟨g,n,ν⟩ (iZ s.data.toList)).run P w=.ok () (w.setCells g n (iZ s.data.toList)):=by simpa using kD
    have e8:List.map (λb:UInt8=>eI ga (b.toNat:Int)) s.data.toList=iZ s.data.toList:=rfl;rw[e8,Yn];rfl
   ·rcases Nat.lt_or_ge j xs.length with hj|hj
    ·rw[bL hj]at hx;rw[br g _ _ _ _ (λ_ _=>.inl (by show j<0+n*1;have:=jC.1;omega))];exact hcell j x hx
    ·rw[bz hj]at hx;have Mc:j-xs.length<(iZ s.data.toList).length:=(aH.1 hx).1;have:=bD g (iZ s.data.toList) (0+n*1) w (λk hk=>(pw k hk).1) (j-xs.length) Mc;have e1:0+n*1+(j-xs.length)=j:=by have:=jC.1;omega
     rw[e1]at this;rw[this,<-hx,ay Mc]
   ·rw[bT];refine⟨?_,(J7 j hj).2⟩;by_cases hq:n*1<=j/\j<n*1+(iZ s.data.toList).length
    ·have:=bD g (iZ s.data.toList) (0+n*1) w (λk hk=>(pw k hk).1) (j-n*1) eE;have e1:0+n*1+(j-n*1)=j:=eE;rw[e1]at this;rw[this];rfl
    ·rw[br g _ _ _ _ (λ_ _=>by show j<0+n*1 \/0+n*1+(iZ s.data.toList).length<=j;omega)];exact(J7 j hj).1
  ·have ML:¬n+s.size<=cap:=hr;have af4:¬(9223372036854775807<((n:Int)+(s.size:Int))):=eE;have hcc:cap<n+s.size:=eE;have hnx:gQ (n+s.size) cap<=281474976710656:=by have:=nextslicecap_le hcc;omega
   have af5:¬(281474976710656<gQ (n+s.size) cap*i.bytes):=by rw[yF];omega
   have pK:=run_loadCells_list (P:=P) (w:=w.drew) ⟨g,0,ν⟩ xs (λj x hj=>by rw[add_plain];exact hcell j x hj);have af6:(loadCells ⟨g,0,ν⟩ (n*i.size)).run P w.drew=.ok xs.toArray w.drew:=by
    rw[qH,<-jC.1];exact pK
   have yG:=grownCap_ge w (n+s.size) cap e;refine⟨σ (μ ⟨w.heap.size,0,ν⟩) (n+s.size) (grownCap w (n+s.size) cap e),w.drew.alloc (γ (xs.toArray++(iZ s.data.toList).toArray++Builtin.zeroCells z.cells (grownCap w (n+s.size) cap e-(n+s.size))) e),?_,?_,⟨rfl,rfl,rfl,iC,λk hk _=>aT w.drew _ k hk⟩,.inr ⟨_,rfl,Nat.le_refl _⟩⟩
   ·simp[gL,gM ht,gM hu,sizeOf,typeInfo,zeroValue,hi,hz,gN,ML,af4,af5,Question.forced,newRow,grownCap,gO,hex,af6];congr 2;apply Array.ext';simp[iZ]
   ·refine Row.made w.drew 1 e _ (0,0) (n+s.size) _ _ (by rw[aA,jC.1,hsl];omega) ?_ yG (dw _ _ _ _ (by unfold maxLen;omega)) (.inl rfl) (λj x hj=> ?_)
    ·rw[dH,dH,size_zeroCells,J5];have h1:xs.toArray.size=n:=by simpa using jC.1
     have h2:(iZ s.data.toList).toArray.size=s.size:=by simpa using hsl
     rw[h1,h2];omega
    ·have Mc:j<(xs++iZ s.data.toList).length:=(aH.1 hj).1;rw[cM (by simpa using Mc),List.append_toArray,List.getElem?_toArray];exact hj
theorem rW(w:eB) {ops:Array Oper} {rest:List Oper} {o:Oper} {a:Act} {Q:Exit->Act->eB->Prop} (Hc:o.guard=ν)(sl x:Operand)(t u:TypeId)
 (ho:o.op=.call {callee:=.builtin .append,args:= #[sl,x],argTypes:= #[t,u] })
 (e:TypeId) (i:TypeInfo) (z:eD) (ht:P.underlying t=μ (.slice e)) (hu:P.underlying u=μ .string) (hi:P.info? e=μ i) (hz:i.zero=μ z) (qH:i.size=1) (yF:i.bytes=1) (J5:z.cells.size=1)
 (v:eD) (n:Nat) (xs:List eD) (hs:a.eval sl=v) (jC:Row w 1 v n xs) (s:ByteArray) (hx:a.eval x=.string s) (hsl:s.size<=1000000) (hn:n<=1000000000)
 (h:∀v' w',Row w' 1 v' (n+s.size) (xs++iZ s.data.toList)->w.grownBy w' v.ownBlock->(v'.ownBlock=v.ownBlock \/ ∃k,v'.ownBlock=μ k/\w.heap.size<=k)->wpList P ops Q rest (a.put o.dst v') w'):wpList P ops Q (o::rest) a w:=by
 refine wpList_plain Hc λK hK=> ?_;obtain⟨v',w',hr,h2,h3,h4⟩:=uQ (P:=P) w t u o.type e i z ht hu hi hz qH yF J5 v n xs jC s hsl hn;unfold Oper.wp execOp;simp only[ho,resolve,invoke,builtin,Sem.run_bind,Sem.run_pure,Result.andThen_ok,List.map_toArray,List.map_cons,List.map_nil,hs,hx,hr];exact hK _ _ (h v' w' h2 h3 h4)
end
open St
namespace Rt
variable {B g o:Nat} {out:List kZ} {p:jF} {v:Value} {w w' w1:World}
def vM(p:jF)(B:Nat)(v:eD)(F:Nat->eD):Nat->eD:=λj=>
 if j=0 then .int .i64 p.m else if j=1 then π (μ ⟨B,0,ν⟩)else if j<67 then F (j-2)else if j=67 then .int .i64 p.pe.who else if j=68 then .bool p.pe.both else if j=69 then .int .i64 p.pe.left else v
structure pR(w:eB)(g o B:Nat)(v:eD)(p:jF):Prop where
 vN:∃F,pL w g o 71 (vM p B v F)/\Bc F p.rd.1 p.rd.2.1 p.rd.2.2
 lk:Lk w B (p.L.c (σ ν 0 0))
 ou:Row w 1 v p.out.length (iZ p.out)
 few:p.out.length<=1000000000
 ok:yJ p.L
 gB:g≠B
 vg:v.ownBlock≠μ g
 vB:v.ownBlock≠μ B
 nz:g≠0/\B≠0/\v.ownBlock≠μ 0
theorem pR.c0(h:pR w g o B v p):w.cell? ⟨g,o,ν⟩=μ (ι κ p.m):=by obtain⟨F,hC,_⟩:=h.vN;exact hC.cell 0 eH
theorem pR.c1(h:pR w g o B v p):w.cell? ⟨g,o+1,ν⟩=μ (π (μ ⟨B,0,ν⟩)):=by obtain⟨F,hC,_⟩:=h.vN;exact hC.cell 1 eH
theorem pR.c67(h:pR w g o B v p):w.cell? ⟨g,o+67,ν⟩=μ (ι κ p.pe.who):=by obtain⟨F,hC,_⟩:=h.vN;exact hC.cell 67 eH
theorem pR.Xa(h:pR w g o B v p):w.cell? ⟨g,o+68,ν⟩=μ (.bool p.pe.both):=by obtain⟨F,hC,_⟩:=h.vN;exact hC.cell 68 eH
theorem pR.c69(h:pR w g o B v p):w.cell? ⟨g,o+69,ν⟩=μ (.int .i64 p.pe.left):=by obtain⟨F,hC,_⟩:=h.vN;exact hC.cell 69 eH
theorem pR.YJ(h:pR w g o B v p):w.cell? ⟨g,o+70,ν⟩=μ v:=by obtain⟨F,hC,_⟩:=h.vN;exact hC.cell 70 eH
theorem pR.fz {w:eB} {g o B:Nat} {v:eD} {p:jF} (h:pR w g o B v p):∀j,j<71->w.frozen? ⟨g,o+j,ν⟩=false:=by obtain⟨F,hC,_⟩:=h.vN;exact λj hj=>hC.fz j hj
theorem pR.lt {w:eB} {g o B:Nat} {v:eD} {p:jF} (h:pR w g o B v p):g<w.heap.size:=by obtain⟨F,hC,_⟩:=h.vN;exact hC.lt eH
theorem pR.below {w w':eB} {g o B:Nat} {v:eD} {p:jF} (h:pR w g o B v p)(hb:eN w w'):pR w' g o B v p:=by
 obtain⟨F,hC,hR⟩:=h.vN;exact⟨⟨F,hC.below eH hb,hR⟩,h.lk.below hb,h.ou.below hb,h.few,h.ok,h.gB,h.vg,h.vB,h.nz⟩
structure nr(w w':eB)(g o B:Nat)(v:eD):Prop where
 os:w'.os=w.os
 tape:w'.tape=w.tape
 output:w'.output=w.output
 size:w.heap.size<=w'.heap.size
 block:∀i,i<w.heap.size->i≠g->i≠B->v.ownBlock≠μ i->w'.heap[i]? =w.heap[i]?
 cell:∀j,j<o \/o+71<=j->w'.cell? ⟨g,j,ν⟩=w.cell? ⟨g,j,ν⟩
 fz:∀j,w'.frozen? ⟨g,j,ν⟩=w.frozen? ⟨g,j,ν⟩
theorem nr.refl(w:eB)(g o B:Nat)(v:eD):nr w w g o B v:=⟨rfl,rfl,rfl,Nat.le_refl _,λ_ _ _ _ _=>rfl,λ_ _=>rfl,λ_=>rfl⟩
theorem nr.je(o B:Nat)(v:eD)(h:eN w w')(hg:g<w.heap.size):nr w w' g o B v:=
 ⟨h.os,h.tape,h.output,h.size,λi hi _ _ _=>h.block i hi,λj _=>ai (a:=⟨g,j,ν⟩) (h.block g hg),λj=>aN (a:=⟨g,j,ν⟩) (h.block g hg)⟩
theorem nr.trans {a b c:eB} {g o B:Nat} {v v':eD} (h:nr a b g o B v)(k:nr b c g o B v')(hv:∀i,v'.ownBlock=μ i->v.ownBlock=μ i \/a.heap.size<=i):nr a c g o B v:=
 ⟨k.os.trans h.os,k.tape.trans h.tape,k.output.trans h.output,Nat.le_trans h.size k.size,λi hi h1 h2 h3=>(k.block i (Nat.lt_of_lt_of_le hi h.size) h1 h2 (λe=>by
  rcases hv i e with e1|e1
  ·exact h3 e1
  ·omega)).trans (h.block i hi h1 h2 h3),λj hj=>(k.cell j hj).trans (h.cell j hj),λj=>(k.fz j).trans (h.fz j)⟩
theorem w9(g o B:Nat)(v:eD)(p:jF)(w:eB)(h:pR w g o B v p):
 fj fk 83 #[π (μ ⟨g,o,ν⟩)] w λe w'=>e=ρ (.bool (p.L.st==9))/\w=w':=by
 have c1:=h.c1;have hl:=h.lt;have hs:=Es B _ p.L _ [] w (qB.rest h.lk);clear h
 go_in
 go_wp2_with(fail);refine hs.mono ?_;rintro e w1 ⟨rfl,rfl⟩;clear hs
 go_wp2
 go_ret;exact⟨rfl,rfl⟩
theorem RS:(fk.info? 5).map (λi=>(i.zero,i.size,i.bytes))=μ (μ (.int .u8 0),1,1):=gT
theorem MN(p:jF)(B:Nat)(v v':eD)(F:Nat->eD)(l:List UInt8):∀j,j<71->qF (vM p B v F) 70 v' j=vM {p with out:=l} B v' F j:=by
 intro j hj;by_cases e:j=70
 ·subst e;rw[og];rfl
 ·rw[jP _ _ e];unfold vM;by_cases e0:j=0
  ·simp[e0]
  ·by_cases e1:j=1
   ·simp[e1]
   ·by_cases e2:j<67
    ·simp[e0,e1,e2]
    ·by_cases e3:j=67
     ·simp[e3]
     ·by_cases e4:j=68
      ·simp[e4]
      ·have e5:j=69:=eE;simp[e5]
theorem pR.grow {W x:eB} (h:pR w g o B v p)(hb:eN w W)(hg:W.grownBy x v.ownBlock)(v':eD)(l:List UInt8)(hr:Row x 1 v' (p.out++l).length (iZ (p.out++l)))(hn:(p.out++l).length<=1000000000)(jC:v'.ownBlock=v.ownBlock \/ ∃k,v'.ownBlock=μ k/\W.heap.size<=k):
 pR (x.setCell ⟨g,o+70,ν⟩ v') g o B v' {p with out:=p.out++l} /\nr w (x.setCell ⟨g,o+70,ν⟩ v') g o B v/\(∀i,v'.ownBlock=μ i->v.ownBlock=μ i \/w.heap.size<=i):=by
 have hW:=h.below hb;have hbk:∀i,i<w.heap.size->v.ownBlock≠μ i->x.heap[i]? =w.heap[i]? :=λi hi hv=>(hg.block i (Nat.lt_of_lt_of_le hi hb.size) (λe=>hv e.symm)).trans (hb.block i hi);have hv:∀i,v'.ownBlock=μ i->v.ownBlock=μ i \/w.heap.size<=i:=λi e=>by
  rcases jC with e1|⟨k,e1,e2⟩
  ·exact .inl (by rw[<-e1];exact e)
  ·rw[e]at e1;have:i=k:=by simpa using e1
   have:=hb.size;exact .inr eE
 have Vh:v'.ownBlock≠μ g:=λe=>by
  rcases hv g e with e1|e1
  ·exact h.vg e1
  ·have:=h.lt;omega
 have hvB:v'.ownBlock≠μ B:=λe=>by
  rcases hv B e with e1|e1
  ·exact h.vB e1
  ·have:=h.lk.lt;omega
 obtain⟨F,hC,hR⟩:=h.vN;have hCx:pL x g o 71 (vM p B v F):=hC.keep (hbk g h.lt h.vg);refine⟨⟨⟨F,(hCx.set 70 eH v').congr (MN p B v v' F _),hR⟩,?_,?_,hn,h.ok,h.gB,Vh,hvB,h.nz.1,h.nz.2.1,λe=>by
  rcases hv 0 e with e1|e1
  ·exact h.nz.2.2 e1
  ·have:=h.lt;omega⟩,⟨?_,?_,?_,?_,?_,?_,?_⟩,hv⟩
 ·exact h.lk.keep ((ak _ _ _ B (λe=>h.gB e.symm)).trans (hbk B h.lk.lt h.vB))
 ·exact hr.keep iC (λk hk=>ak _ _ _ k (λe=>Vh (by rw[hk];exact congrArg μ e)))
 ·exact((au 0 x).setCell (Nat.zero_le _) _).os.trans (hg.os.trans hb.os)
 ·exact((au 0 x).setCell (Nat.zero_le _) _).tape.trans (hg.tape.trans hb.tape)
 ·exact((au 0 x).setCell (Nat.zero_le _) _).output.trans (hg.output.trans hb.output)
 ·exact Nat.le_trans hb.size (Nat.le_trans hg.size iC)
 ·exact λi hi h1 _ h3=>(ak _ _ _ i h1).trans (hbk i hi h3)
 ·exact λj hj=>(aU _ _ _ _ (λe=>by have:=congrArg Addr.off e;simp at this;omega)).trans (ai (a:=⟨g,j,ν⟩) (hbk g h.lt h.vg))
 ·exact λj=>(mA _ _ _ _).trans (aN (a:=⟨g,j,ν⟩) (hbk g h.lt h.vg))
structure lz(w w':eB)(g o B:Nat)(v:eD)(p:jF):Prop where
 ex:∃v',pR w' g o B v' p/\(∀i,v'.ownBlock=μ i->v.ownBlock=μ i \/w.heap.size<=i)
 kept:nr w w' g o B v
theorem lz.still(h:pR w g o B v p)(hb:eN w w'):lz w w' g o B v p:=⟨⟨v,h.below hb,λ_ e=>.inl e⟩,nr.je o B v hb h.lt⟩
theorem lz.trans {a b c:eB} {g o B:Nat} {v v':eD} {p:jF} (h1:nr a b g o B v)(hv:∀i,v'.ownBlock=μ i->v.ownBlock=μ i \/a.heap.size<=i)(h2:lz b c g o B v' p):lz a c g o B v p:=by
 obtain⟨⟨v2,hP,hv2⟩,hK⟩:=h2;refine⟨⟨v2,hP,λi e=> ?_⟩,h1.trans hK hv⟩;rcases hv2 i e with e1|e1
 ·exact hv i e1
 ·exact .inr (Nat.le_trans h1.size e1)
theorem xb(l:List UInt8)(h:l.length<=60):(Plain.mT l).length<=126:=by
 have:=N6 l;omega
theorem Bg(g o B:Nat)(v:eD)(p:jF)(T s:ByteArray)(c:UInt8)(w:eB)(h:pR w g o B v p)(hT:T.data.toList=[c])(hs:s.size<=1000)(hn:p.out.length<=900000000):
 fj fk 150 #[π (μ ⟨g,o,ν⟩),.string T,.string s] w λe w'=>e=ρ (τ #[])/\lz w w' g o B v (p.put c s.data.toList):=by
 obtain⟨i0,hi,oz,mW,nT⟩:=aW RS;have hop:=w9 g o B v p w h;have hTs:T.size=1:=by have:=congrArg List.length hT;simpa using this
 have hTl:T.toList=[c] :=by rw[cy];exact hT
 have P2:(T++s).size=s.size+1:=by rw[ByteArray.size_append,hTs];omega
 have YK:(T++s).data.toList=c::s.data.toList:=by rw[ByteArray.data_append];simp[hT]
 have hsl:s.data.toList.length=s.size:=iC;have YJ:=h.YJ;have f70:=h.fz 70 eH;have hl:=h.lt;have HP:Hid _:=h;have mr:∀W:eB,eN w W->jF.put p c s.data.toList=p->lz w W g o B v (p.put c s.data.toList):=λW hW e=>by rw[e];exact lz.still HP.out hW
 have HNO:Hid _:=mr;clear mr;have main:(c=76 \/p.L.st=9)->Hid (s.size+1<=60->p.put c s.data.toList={p with out:=p.out++Plain.mT (c::s.data.toList)})/\Hid (¬s.size+1<=60->p.put c s.data.toList=p):=λhc=>by
  have kS:¬(c≠76/\p.L.st≠9):=λ⟨a,b⟩=>by rcases hc with e|e<;>contradiction
  refine⟨λh1=> ?_,λh1=> ?_⟩
  ·unfold jF.put;rw[ae kS,ag (by rw[hsl];exact h1)]
  ·unfold jF.put;rw[ae kS,ae (by rw[hsl];exact h1)]
 by_cases h76:c=76
 ·have q:(T.toList==[76])=true:=by rw[hTl,h76];rfl
  obtain⟨H1,H2⟩:=main (.inl h76);clear main hTl hop h;by_cases h60:s.size+1<=60
  ·have hm:=Ii (T++s) w eE;rw[YK]at hm;have DC:=xb (c::s.data.toList) (by simp;omega);have E1:Hid _:=H1.out h60;obtain⟨L,hL⟩:=gH (Plain.mT (c::s.data.toList));rw[hL]at hm DC E1;clear H1 H2 YK hL
   go_in
   go_wp2_with(fail);refine hm.mono ?_;rintro e w1 ⟨rfl,b1⟩;have R1:=HP.out.below b1;have d70:=R1.YJ;have e70:=R1.fz 70 eH;have dl:=R1.lt;have KU:=R1.ou;have HV:Hid (v.ownBlock≠μ g):=R1.vg;clear hm YJ f70;go_wp2_with(at_builtin;go_must(refine rW _ rfl (.tmp 28) (.tmp 29) 140 9 rfl 5 i0 (.int .u8 0) aQ a8 hi oz mW nT rfl v p.out.length (iZ p.out) rfl KU ⟨L.toArray⟩ rfl (by show L.toArray.size<=1000000;simp;omega) eE ?_));intro v' x hr xJ jC;have Vi:∃a' n' c',v'=gS a' n' c':=by
    rcases hr.2 with⟨e,_⟩|⟨g',c',e,_⟩
    ·exact⟨_,_,_,e⟩
    ·exact⟨_,_,_,e⟩
   obtain⟨a',n',c',rfl⟩:=Vi;have Xb:Row x 1 (σ a' n' c') (p.out++L).length (iZ (p.out++L)):=by
    rw[aA,lr];exact hr
   obtain⟨G1,G2,G3⟩:=pR.grow HP.out b1 xJ (σ a' n' c') L Xb (by rw[aA];omega) jC;have y70:x.cell? ⟨g,o+70,ν⟩=μ v:=(ai (a:=⟨g,o+70,ν⟩) (xJ.block g dl (λe=>HV.out e.symm))).trans d70;have z70:x.frozen? ⟨g,o+70,ν⟩=false:=(aN (a:=⟨g,o+70,ν⟩) (xJ.block g dl (λe=>HV.out e.symm))).trans e70;have xl:g<x.heap.size:=af x _ y70;have HG:Hid (lz w (x.setCell ⟨g,o+70,ν⟩ (σ a' n' c')) g o B v (p.put c s.data.toList)):=by
    show lz _ _ _ _ _ _ _;rw[E1.out];exact⟨⟨_,G1,G3⟩,G2⟩
   clear G1 G2 G3 hr Xb xJ jC KU R1
   go_wp2
   first|go_end0|refine aj (ar rfl _ _ _) rfl ?_
   exact⟨rfl,HG.out⟩
  ·have hm:=MC (T++s) w eE (by unfold maxLen;omega);have HG:Hid (lz w w g o B v (p.put c s.data.toList)):=HNO.out w (au _ _) (H2.out h60);clear H1 H2 YK
   go_in
   go_wp2_with(fail);refine hm.mono ?_;rintro e w1 ⟨rfl,rfl⟩;clear hm
   go_wp2
   first|go_end0|refine aj (ar rfl _ _ _) rfl ?_
   exact⟨rfl,HG.out⟩
 ·have q:(T.toList==[76])=false:=by
   rw[hTl,cN];intro e;exact h76 (by simpa using e)
  cases h9:(p.L.st==9)
  ·have kD:p.L.st≠9:=by simpa using h9
   have HG:Hid (lz w w g o B v (p.put c s.data.toList)):=HNO.out w (au _ _) (by unfold jF.put;rw[ag ⟨h76,kD⟩]);rw[h9]at hop;clear main hTl h YK
   go_in
   go_wp2_with(fail);refine hop.mono ?_;rintro e w1 ⟨rfl,rfl⟩;clear hop
   go_wp2
   first|go_end0|refine aj (ar rfl _ _ _) rfl ?_
   exact⟨rfl,HG.out⟩
  ·have kD:p.L.st=9:=by simpa using h9
   obtain⟨H1,H2⟩:=main (.inr kD);rw[h9]at hop;clear main hTl h kD;by_cases h60:s.size+1<=60
   ·have hm:=Ii (T++s) w eE;rw[YK]at hm;have DC:=xb (c::s.data.toList) (by simp;omega);have E1:Hid _:=H1.out h60;obtain⟨L,hL⟩:=gH (Plain.mT (c::s.data.toList));rw[hL]at hm DC E1;clear H1 H2 YK hL
    go_in
    go_wp2_with(fail);refine hop.mono ?_;rintro e w1 ⟨rfl,rfl⟩;clear hop;go_wp2_with(fail);refine hm.mono ?_;rintro e w1 ⟨rfl,b1⟩;have R1:=HP.out.below b1;have d70:=R1.YJ;have e70:=R1.fz 70 eH;have dl:=R1.lt;have KU:=R1.ou;have HV:Hid (v.ownBlock≠μ g):=R1.vg;clear hm YJ f70;go_wp2_with(at_builtin;go_must(refine rW _ rfl (.tmp 28) (.tmp 29) 140 9 rfl 5 i0 (.int .u8 0) aQ a8 hi oz mW nT rfl v p.out.length (iZ p.out) rfl KU ⟨L.toArray⟩ rfl (by show L.toArray.size<=1000000;simp;omega) eE ?_));intro v' x hr xJ jC;have Vi:∃a' n' c',v'=gS a' n' c':=by
     rcases hr.2 with⟨e,_⟩|⟨g',c',e,_⟩
     ·exact⟨_,_,_,e⟩
     ·exact⟨_,_,_,e⟩
    obtain⟨a',n',c',rfl⟩:=Vi;have Xb:Row x 1 (σ a' n' c') (p.out++L).length (iZ (p.out++L)):=by
     rw[aA,lr];exact hr
    obtain⟨G1,G2,G3⟩:=pR.grow HP.out b1 xJ (σ a' n' c') L Xb (by rw[aA];omega) jC;have y70:x.cell? ⟨g,o+70,ν⟩=μ v:=(ai (a:=⟨g,o+70,ν⟩) (xJ.block g dl (λe=>HV.out e.symm))).trans d70;have z70:x.frozen? ⟨g,o+70,ν⟩=false:=(aN (a:=⟨g,o+70,ν⟩) (xJ.block g dl (λe=>HV.out e.symm))).trans e70;have xl:g<x.heap.size:=af x _ y70;have HG:Hid (lz w (x.setCell ⟨g,o+70,ν⟩ (σ a' n' c')) g o B v (p.put c s.data.toList)):=by
     show lz _ _ _ _ _ _ _;rw[E1.out];exact⟨⟨_,G1,G3⟩,G2⟩
    clear G1 G2 G3 hr Xb xJ jC KU R1
    go_wp2
    first|go_end0|refine aj (ar rfl _ _ _) rfl ?_
    exact⟨rfl,HG.out⟩
   ·have hm:=MC (T++s) w eE (by unfold maxLen;omega);have HG:Hid (lz w w g o B v (p.put c s.data.toList)):=HNO.out w (au _ _) (H2.out h60);clear H1 H2 YK
    go_in
    go_wp2_with(fail);refine hop.mono ?_;rintro e w1 ⟨rfl,rfl⟩;clear hop;go_wp2_with(fail);refine hm.mono ?_;rintro e w1 ⟨rfl,rfl⟩;clear hm
    go_wp2
    first|go_end0|refine aj (ar rfl _ _ _) rfl ?_
    exact⟨rfl,HG.out⟩
def uR(p:jF)(q:kZ):jF:=if jW q.1 q.2.1 q.2.2=0 then p.put 76 (lQ q.1 q.2.1 q.2.2)else p
theorem Co:∀(l:List kZ) (p:jF) (q:kZ),p.say (l++ [q])=uR (p.say l) q
 |[],_,_=>rfl
 |x::l,p,q=>by
  show(uR p x).say (l++ [q])=uR ((uR p x).say l) q;exact Co l (uR p x) q
theorem vO(p:jF)(c:UInt8)(s:List UInt8):(p.put c s).out.length<=p.out.length+126:=by
 unfold jF.put;split
 ·omega
 ·split
  ·rename_i h
   have:=xb (c::s) (by simpa using h);simp only[List.length_append];omega
  ·omega
theorem RT(p:jF)(q:kZ):(uR p q).out.length<=p.out.length+126:=by
 unfold uR;split
 ·exact vO _ _ _
 ·omega
theorem xZ:∀(l:List kZ) (p:jF),(p.say l).out.length<=p.out.length+126*l.length
 |[],p=>by simp[jF.say]
 |x::l,p=>by
  have h1:=xZ l (uR p x);have h2:=RT p x;have e:p.say (x::l)=(uR p x).say l:=rfl;rw[e,de];omega
structure PtQ(w:eB)(g o B:Nat)(v:eD)(p:jF)(X:Nat->Prop)(vl:eD)(qs:List PV):Prop where
 vN:∃F,pL w g o 71 (vM p B v F)/\Bc F p.rd.1 p.rd.2.1 p.rd.2.2
 rep:qB w B X p.L vl qs
 ou:Row w 1 v p.out.length (iZ p.out)
 few:p.out.length<=1000000000
 ok:yJ p.L
 gB:g≠B
 vg:v.ownBlock≠μ g
 vB:v.ownBlock≠μ B
 nz:g≠0/\B≠0/\v.ownBlock≠μ 0
 xg:X g
 xv:∀k,v.ownBlock=μ k->X k
theorem Ol {code id:Int} {os:List j2} (h:jW code id os=0):(lQ code id os).length<=100:=by
 have h8:os.length<=8:=by
  unfold jW at h;split at h
  ·simp at h
  ·split at h
   ·simp at h
   ·omega
 have:=qO os;simp only[lQ,List.length_cons];omega
theorem RU(g o B:Nat)(v:eD)(p:jF)(X:Nat->Prop)(vl:eD)(qs:List PV)(w:eB)(h:PtQ w g o B v p X vl qs)(hq:qs.length<=40)(hn:p.out.length<=800000000):
 fj fk 123 #[π (μ ⟨g,o,ν⟩)] w λe w'=>e=ρ (τ #[])/\lz w w' g o B v (p.say (qs.map PV.abs)):=by
 have uq:=UW B X p.L vl qs w h.rep;have c1:w.cell? ⟨g,o+1,ν⟩=μ (π (μ ⟨B,0,ν⟩)):=by obtain⟨F,hC,_⟩:=h.vN;exact hC.cell 1 eH
 have MA:g<w.heap.size:=by obtain⟨F,hC,_⟩:=h.vN;exact hC.lt eH
 have HQ:Hid _:=h;clear h
 go_in
 go_wp2_with(fail);refine uq.mono ?_;rintro e w1 ⟨rfl,hR,ji,Om,hK⟩;have WE:pR w1 g o B v p:=by
  obtain⟨F,hC,hF⟩:=HQ.out.vN;have hkv:∀k,v.ownBlock=μ k->w1.heap[k]? =w.heap[k]? :=λk hk=>hK.block k (HQ.out.ou.lt k hk) (λe=>HQ.out.vB (by rw[hk,e])) iC;exact⟨⟨F,hC.keep (hK.block g MA HQ.out.gB iC),hF⟩,hR.lk,HQ.out.ou.keep hK.size hkv,HQ.out.few,HQ.out.ok,HQ.out.gB,HQ.out.vg,HQ.out.vB,HQ.out.nz⟩
 have T7:nr w w1 g o B v:=⟨hK.os,hK.tape,hK.output,hK.size,λi hi _ h2 _=>hK.block i hi h2 iC,λj _=>ai (a:=⟨g,j,ν⟩) (hK.block g MA HQ.out.gB iC),λj=>aN (a:=⟨g,j,ν⟩) (hK.block g MA HQ.out.gB iC)⟩
 have hPk:∀W:eB,nr w1 W g o B v->X2 W vl qs:=λW kW=>by
  refine⟨ji.keep kW.size (λk hk=>kW.block k (ji.lt k hk) (λe1=>HQ.out.rep.own k hk (by rw[e1];exact HQ.out.xg)) (λe1=>HQ.out.rep.own k hk (by rw[e1];exact HQ.out.rep.self)) (λe1=>HQ.out.rep.own k hk (HQ.out.xv k e1))),λq QW=>⟨(Om q QW).opt.Md (λk hk=> ?_),(Om q QW).few⟩⟩;obtain⟨f1,_,f3⟩:=(Om q QW).far k hk;exact kW.block k f3 (λe1=>f1 (by rw[e1];exact HQ.out.xg)) (λe1=>f1 (by rw[e1];exact HQ.out.rep.self)) (λe1=>f1 (HQ.out.xv k e1))
 have hle:∀q∈qs,q.n<=q.cap:=λq QW=>(Om q QW).le;have Qq:g<w1.heap.size:=WE.lt;obtain⟨a,ca,rfl,_⟩:=(hPk w1 (nr.refl _ _ _ _ _)).shape;obtain⟨n,xF⟩:=gH (qs.length);have H1:Hid _:=WE;have HK1:Hid _:=T7;have HPk:Hid _:=hPk;have HLe:Hid _:=hle;have HN:Hid _:=xF;rw[xF]at hq;rw[xF];clear uq hR ji Om hK WE T7 hPk hle xF c1
 go_wp2
 go_loopw [12] (λi wr=>∃(k:Nat) (vk:eD),k<=n/\i=ι κ k/\pR wr g o B vk (p.say ((qs.map PV.abs).take k))/\nr w1 wr g o B v/\(∀i,vk.ownBlock=μ i->v.ownBlock=μ i \/w1.heap.size<=i)) (λi _=>n-(intOf i).toNat)
 case atStart=>exact⟨0,v,Nat.zero_le _,rfl,H1.out,nr.refl _ _ _ _ _,λ_ e=>.inl e⟩
 case round=>
  obtain⟨k,vk,hk,rfl,hP,hKk,Xc⟩:=hrel;by_cases kH:k<n
  ·have nG:(k:Int)<(n:Int):=eE;have Ht:(0:Int)<=(k:Int):=eE;have lk:k<qs.length:=by have:=HN.out;omega
   have PK:=HPk.out wr hKk;obtain⟨a',ca',e1,f1⟩:=PK.shape;obtain⟨g1,ea,x0,x1,x2⟩:=f1 k qs[k] (ay lk);have e1':a=a':=by simpa using(bH e1).1
   rw[ea]at e1';subst e1';have ho:=PK.opt qs[k] (aE lk);have A6:=HLe.out qs[k] (aE lk);have RV:Hid ((qs.map PV.abs).take (k+1)=(qs.map PV.abs).take k++ [qs[k].abs]):=by
    show _=_;rw[ax (by simpa using lk)];simp
   generalize qs[k] =q at x0 x1 x2 ho A6 RV;obtain⟨qc,qi,qa,qn,Vj,Ui⟩:=q;simp only at x0 x1 x2 ho A6;have z0:wr.cell? ⟨g1,k*3,ν⟩=μ (ι κ qc):=by rw[Nat.zero_add]at x0;exact x0
   have z1:wr.cell? ⟨g1,k*3+1,ν⟩=μ (ι κ qi):=by rw[Nat.zero_add]at x1;exact x1
   have z2:wr.cell? ⟨g1,k*3+2,ν⟩=μ (σ qa qn Vj):=by rw[Nat.zero_add]at x2;exact x2
   have hln:(p.say ((qs.map PV.abs).take k)).out.length<=900000000:=by
    have h1:=xZ ((qs.map PV.abs).take k) p;have h2:((qs.map PV.abs).take k).length<=k:=cr _ _;omega
   have ba:=iB wr (γ #[ι κ qc,ι κ qi,σ qa qn Vj] 37);have HP:Hid _:=hP;have HKk:Hid _:=hKk;have HVk:Hid _:=Xc;clear PK f1 e1 ea x0 x1 x2 hP hKk Xc;by_cases hf:jW qc qi Ui=0
   ·have yF:=FV qc qi qa qn Vj Ui _ A6 (ho.1.below ba) hf;have Bh:=Ol hf;have E1:Hid (p.say ((qs.map PV.abs).take (k+1))=(p.say ((qs.map PV.abs).take k)).put 76 (lQ qc qi Ui)):=by
     show _=_;rw[RV.out,Co];show uR _ (qc,qi,Ui)=_;unfold uR;rw[ag hf]
    clear hf ho;obtain⟨L,hL⟩:=gH (lQ qc qi Ui);rw[hL]at yF Bh E1;clear hL;go_wp2_with(fail);refine yF.mono ?_;rintro e w3 ⟨rfl,b3⟩;have k3:=iA ba b3;have nQ:=Bg g o B vk (p.say ((qs.map PV.abs).take k)) ⟨#[76]⟩ ⟨L.toArray⟩ 76 w3 (HP.out.below k3) rfl (by show L.toArray.size<=1000;simp;omega) hln;have eL:(⟨L.toArray⟩:ByteArray).data.toList=L:=iC;rw[eL]at nQ;clear yF b3;go_wp2_with(fail);refine nQ.mono ?_;rintro e w4 ⟨rfl,hW⟩;have nH:lz w1 w4 g o B v (p.say ((qs.map PV.abs).take (k+1))):=by
     rw[E1.out];exact lz.trans (HKk.out.trans (nr.je o B vk k3 HP.out.lt) HVk.out) HVk.out hW
    have HW:Hid _:=nH;clear nQ hW nH k3 ba
    go_wp2
    go_roundw
    case rel=>
     obtain⟨⟨v5,h5,h6⟩,h7⟩:=HW.out;exact⟨k+1,v5,eE,by go_num,h5,h7,h6⟩
    case measure=>simp[intOf];omega
   ·have yF:=Ij qc qi qa qn Vj Ui _ eE A6 (ho.1.below ba) hf;have ee:jy (jW qc qi Ui)=.iface 128 (ι κ (jW qc qi Ui:Int)):=by simp only[jy];rw[ae hf]
    rw[ee]at yF;have E1:Hid (p.say ((qs.map PV.abs).take (k+1))=p.say ((qs.map PV.abs).take k)):=by
     show _=_;rw[RV.out,Co];show uR _ (qc,qi,Ui)=_;unfold uR;rw[ae hf]
    clear hf ho ee;generalize jW qc qi Ui=f at yF;go_wp2_with(fail);refine yF.mono ?_;rintro e w3 ⟨rfl,b3⟩;have JV:Hid _:=iA ba b3;clear yF b3 ba
    go_wp2
    go_roundw
    case rel=>exact⟨k+1,vk,eE,by go_num,by rw[E1.out];exact HP.out.below JV.out,HKk.out.trans (nr.je o B vk JV.out HP.out.lt) HVk.out,HVk.out⟩
    case measure=>simp[intOf];omega
  ·have yG:¬(k:Int)<(n:Int):=eE;have HE:Hid (lz w wr g o B v (p.say (qs.map PV.abs))):=by
    have e1:(qs.map PV.abs).take k=qs.map PV.abs:=aK (by have:=HN.out;simp;omega);rw[e1]at hP;exact lz.trans HK1.out (λ_ e=>.inl e) ⟨⟨vk,hP,Xc⟩,hKk⟩
   clear hP hKk Xc
   go_wp2
   first|go_end0|refine aj (ar rfl _ _ _) rfl ?_
   exact⟨rfl,HE.out⟩
structure Ab(w w1:eB)(g o B:Nat)(v:eD)(p:jF)(out:List kZ):Prop where
 ex:∃vl qs,PtQ w1 g o B v p (λk=>k<w.heap.size) vl qs/\qs.map PV.abs=out
 kept:nr w w1 g o B v
theorem pR.begin(h:pR w g o B v p):Ab w w g o B v p [] :=
 ⟨⟨σ ν 0 0,[],⟨h.vN,qB.rest h.lk,h.ou,h.few,h.ok,h.gB,h.vg,h.vB,h.nz,h.lt,λk hk=>h.ou.lt k hk⟩,rfl⟩,nr.refl _ _ _ _ _⟩
theorem Ab.tab(h:Ab w w1 g o B v p out)(hT:jo w):jo w1:=λe s he hs=>by
 obtain⟨vl,qs,hQ,_⟩:=h.ex;exact(ai (a:=⟨0,e*10+s,ν⟩) (h.kept.block 0 hT.lt (λe=>hQ.nz.1 e.symm) (λe=>hQ.nz.2.1 e.symm) hQ.nz.2.2)).trans (hT e s he hs)
theorem Ab.went {w2:eB} {abX:List kZ} {vl:eD} {qs:List PV} {s':LS} (hQ:PtQ w1 g o B v p (λk=>k<w.heap.size) vl qs)(ho:qs.map PV.abs=out)(hk:nr w w1 g o B v)
 (hW:m8 w1 w2 B (λk=>k<w.heap.size) s' vl qs abX) (jb:yJ s'):Ab w w2 g o B v {p with L:=s'} (out++abX):=by
 obtain⟨⟨v2,q2,hR,Va,hv2⟩,hK⟩:=hW;obtain⟨F,hC,hF⟩:=hQ.vN;have hlg:g<w1.heap.size:=hC.lt eH;have jw:∀i,vl.ownBlock=μ i->¬i<w.heap.size:=λi e=>hQ.rep.own i e;have hb:∀i,i<w.heap.size->i≠B->w2.heap[i]? =w1.heap[i]? :=λi hi hB=>hK.block i (Nat.lt_of_lt_of_le hi hk.size) hB (λe=>jw i e hi);have hbg:w2.heap[g]? =w1.heap[g]? :=hb g hQ.xg hQ.gB;refine⟨⟨v2,qs++q2,⟨⟨F,hC.keep hbg,hF⟩,hR,hQ.ou.keep hK.size (λk sg=>hb k (hQ.xv k sg) (λe=>hQ.vB (by rw[sg,e]))),hQ.few,jb,hQ.gB,hQ.vg,hQ.vB,hQ.nz,hQ.xg,hQ.xv⟩,by rw[dh,ho,Va]⟩,?_⟩;exact⟨hK.os.trans hk.os,hK.tape.trans hk.tape,hK.output.trans hk.output,Nat.le_trans hk.size hK.size,λi hi h1 h2 h3=>(hb i hi h2).trans (hk.block i hi h1 h2 h3),λj hj=>(ai (a:=⟨g,j,ν⟩) hbg).trans (hk.cell j hj),λj=>(aN (a:=⟨g,j,ν⟩) hbg).trans (hk.fz j)⟩
theorem Ab.say {w w1:eB} {g o B:Nat} {v:eD} {p:jF} {out:List kZ} (h:Ab w w1 g o B v p out)(hq:out.length<=40)(hn:p.out.length<=800000000):
 fj fk 123 #[π (μ ⟨g,o,ν⟩)] w1 λe w'=>e=ρ (τ #[])/\lz w w' g o B v (p.say out):=by
 obtain⟨vl,qs,hQ,rfl⟩:=h.ex;refine(RU g o B v p _ vl qs w1 hQ (by simpa using hq) hn).mono ?_;rintro e w' ⟨rfl,hW⟩;exact⟨rfl,lz.trans h.kept (λ_ e=>.inl e) hW⟩
theorem Ab.do_(h:Ab w w1 g o B v p out)(hT:jo w)(hq:out.length<=40)(ev:Int):
 fj fk 120 #[π (μ ⟨B,0,ν⟩),ι κ ev] w1 λe w'=>e=ρ (jy (k7 p.L ev).2.2)/\Ab w w' g o B v {p with L:=(k7 p.L ev).1} (out++(k7 p.L ev).2.1):=by
 have Vk:=h.tab hT;obtain⟨vl,qs,hQ,ho⟩:=h.ex;have hl:qs.length=out.length:=by rw[<-ho];simp
 refine(YH ev B _ p.L vl qs w1 Vk hQ.rep hQ.ok.bd eE).mono ?_;rintro e w' ⟨rfl,hW⟩;exact⟨rfl,Ab.went hQ ho h.kept hW (hQ.ok.k7 ev)⟩
theorem Ab.tick {w:eB} {g o B:Nat} {v:eD} {p:jF} (h:pR w g o B v p)(hT:jo w):
 fj fk 147 #[π (μ ⟨B,0,ν⟩)] w λe w'=>e=ρ (τ #[])/\Ab w w' g o B v {p with L:=kE p.L} (mI p.L):=by
 have hw:=h.ok.wt;have hb:=h.begin;obtain⟨vl,qs,hQ,ho⟩:=hb.ex;have hq:qs=[] :=by simpa using ho
 subst hq;have hvn:vl.ownBlock≠μ 0:=λe=>hQ.rep.own 0 e hT.lt;refine(QX B _ p.L vl [] w hT h.nz.2.1 hvn hQ.rep h.ok.bd iC eE eE).mono ?_;rintro e w' ⟨rfl,hW⟩;refine⟨rfl,?_⟩;have:=Ab.went hQ rfl hb.kept hW h.ok.tick;simpa using this
theorem Ab.state(h:Ab w w1 g o B v p out):
 fj fk 114 #[π (μ ⟨B,0,ν⟩)] w1 λe w'=>e=ρ (ι κ p.L.st)/\w1=w':=by
 obtain⟨vl,qs,hQ,ho⟩:=h.ex;exact Es B _ p.L vl qs w1 hQ.rep
theorem Ab.ptr(h:Ab w w1 g o B v p out):w1.cell? ⟨g,o+1,ν⟩=μ (π (μ ⟨B,0,ν⟩))/\g<w1.heap.size:=by
 obtain⟨vl,qs,hQ,ho⟩:=h.ex;obtain⟨F,hC,hF⟩:=hQ.vN;exact⟨hC.cell 1 eH,hC.lt eH⟩
end Rt
end Go.Proofs.YtieklnlbljejdaaGreatDoor
