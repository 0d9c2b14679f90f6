import Derived.Test.YtieklnlbljejdaaGreatDoorT11
open Go.Value renaming int → ι, slice → σ, pointer → π, tuple → τ
open Go.IntKind renaming i64 → κ
open Go.Ending renaming returned → ρ
open Go.Obj renaming cells → γ
open Option renaming none → ν, some → μ
open Array renaming map → fQ
open Go.Value renaming int → dT, slice → fW
open Go.IntKind renaming u8 → fF
open Go renaming Value → dO, World → dN, run_underlying → fS, Calls → eM
open Go.Builtin renaming append_ → fR, lenOf → fT, firstCells → fU, nextslicecap → fV
open Go.Proofs.Tryz renaming prog → eN
set_option maxRecDepth 100000
set_option maxHeartbeats 4000000
namespace Go.Proofs.YtieklnlbljejdaaGreatDoor
open Go.RowKit
section
variable {P:Program}
theorem C4(s:ByteArray):(fQ (λb:UInt8=>dT fF (b.toNat:Int)) s.data).extract 0 s.size=fQ (λb:UInt8=>dT fF (b.toNat:Int)) s.data:=by
 have hs:s.size=(fQ (λb:UInt8=>dT fF (b.toNat:Int)) s.data).size:=by rw[dI];rfl
 rw[hs,Array.extract_size]
theorem ub(g:Nat):∀(vs:List dO) (o:Nat) (w:dN),(w.setCells g o vs).heap.size=w.heap.size/\(w.setCells g o vs).os=w.os/\(w.setCells g o vs).tape=w.tape/\(w.setCells g o vs).output=w.output/\∀k,k≠g->(w.setCells g o vs).heap[k]? =w.heap[k]?
 |[],o,w=>⟨rfl,rfl,rfl,rfl,λ_ _=>rfl⟩
 |u::r,o,w=>by
  have h:=ub g r (o+1) (w.setCell ⟨g,o,ν⟩ u);have b1:Below 0 w (w.setCell ⟨g,o,ν⟩ u):=(aq 0 w).setCell (Nat.zero_le _) _;exact⟨h.1.trans gN,h.2.1.trans b1.os,h.2.2.1.trans b1.tape,h.2.2.2.1.trans b1.output,λk Z=>(h.2.2.2.2 k Z).trans (ak _ _ _ k Z)⟩
theorem J1(l:List UInt8):∀u∈iz l,u.oneCell'=true:=by
 intro u Z;obtain⟨b,_,rfl⟩:=bD.1 Z;rfl
theorem J2(s:ByteArray):(fQ (λb:UInt8=>dT fF (b.toNat:Int)) s.data).toList=iz s.data.toList:=by simp[iz]
theorem Row.T8 {w:dN} {v:dO} {n:Nat} {xs:List dO} (h:Row w 1 v n xs):v=σ ν 0 0/\n=0/\xs=[] \/ ∃g cap,v=σ (μ ⟨g,0,ν⟩) n cap/\g<w.heap.size/\n<=cap/\cap<=maxLen/\(∀(j:Nat) (u:dO),xs[j]? =μ u->w.cell? ⟨g,j,ν⟩=μ u)/\(∀j,j<cap*1->(w.cell? ⟨g,j,ν⟩).isSome=true/\w.frozen? ⟨g,j,ν⟩=false):=by
 rcases h.2 with⟨Z,Y⟩|⟨g,cap,Z,X,V,U,T,S⟩
 ·exact .inl ⟨Z,Y,aE (by rw[h.1,Y])⟩
 ·exact .inr ⟨g,cap,Z,X,V,U,T,S⟩
theorem ud(w:dN)(t u ty e:TypeId)(i:TypeInfo)(z:dO)(T:P.underlying t=μ (.slice e))(S:P.underlying u=μ .string)(hi:P.info? e=μ i)(hz:i.zero=μ z)(pX:i.size=1)(x6:i.bytes=1)(h:z.cells.size=1)
 (v:dO) (n:Nat) (xs:List dO) (X:Row w 1 v n xs) (s:ByteArray) (hs:s.size<=1000000) (hn:n<=1000000000):
 ∃v' w',(fR #[t,u] ty #[v,.string s]).run P w=.ok v' w'/\Row w' 1 v' (n+s.size) (xs++iz s.data.toList)/\w.grownBy w' v.ownBlock/\(v'.ownBlock=v.ownBlock \/ ∃k,v'.ownBlock=μ k/\w.heap.size<=k):=by
 have hsl:(iz s.data.toList).length=s.size:=by simp[pE]
 have hex:=C4 s;rcases X.T8 with⟨rfl,rfl,rfl⟩|⟨g,cap,rfl,hg,rJ,Jh,hcell,M⟩
 ·by_cases A:s.size=0
  ·have J:s.data.toList=[] :=aE (by simpa using A);refine⟨σ ν 0 0,w,?_,by rw[A,J];exact Row.nil _ _,⟨rfl,rfl,rfl,Nat.le_refl _,λ_ _ _=>rfl⟩,.inl rfl⟩;simp[fR,fS T,fS S,sizeOf,typeInfo,hi,fT,fU,A]
  ·have U:=run_append_nil_string (P:=P) (w:=w) t u ty e i z T S hi hz s dP dP (by rw[x6];omega);have y:=grownCap_ge w s.size 0 e;refine⟨_,_,U,?_,⟨rfl,rfl,rfl,gN,λk Y _=>aQ w.drew _ k Y⟩,.inr ⟨_,rfl,Nat.le_refl _⟩⟩;simp only[Nat.zero_add,List.nil_append];refine Row.made w.drew 1 e _ (0,0) s.size _ _ (by rw[hsl,Nat.mul_one]) ?_ y (da _ _ _ _ (by unfold maxLen;omega)) (.inl rfl) (λj x Z=> ?_)
   ·rw[dj,size_zeroCells,h,dI];have:s.data.size=s.size:=rfl;omega
   ·have V:j<s.size:=by rw[<-hsl];exact(aG.1 Z).1
    rw[cC (by rw[dI];exact V),<-Z,<-J2 s,Array.getElem?_toList]
 ·by_cases U:n+s.size<=cap
  ·have Q:∀j,j<(iz s.data.toList).length->(w.cell? ⟨g,0+n*1+j,ν⟩).isSome=true/\w.frozen? ⟨g,0+n*1+j,ν⟩=false:=λj Z=>M _ dP;have jX:=run_storeCells_cells (P:=P) g (0+n*1) (iz s.data.toList) 0 w (λj Z=>by rw[Nat.add_zero];exact(Q j Z).1) (λj Z=>by rw[Nat.add_zero];exact(Q j Z).2) (J1 _);have B:=ub g (iz s.data.toList) (0+n*1) w;refine⟨σ (μ ⟨g,0,ν⟩) (n+s.size) cap,w.setCells g (0+n*1) (iz s.data.toList),?_,⟨by rw[ay,X.1,hsl];omega,.inr ⟨g,cap,rfl,by rw[B.1];exact hg,U,Jh,λj x hx=> ?_,λj Z=> ?_⟩⟩,⟨B.2.1,B.2.2.1,B.2.2.2.1,by rw[B.1];exact Nat.le_refl _,λk _ Y=>B.2.2.2.2 k (λe=>Y (by simp[Value.ownBlock,e]))⟩,.inl rfl⟩
   ·simp[fR,fS T,fS S,sizeOf,typeInfo,hi,pX,fT,fU,U,hex,add_plain];have W8:(storeCells ⟨g,n,ν⟩ (iz s.data.toList)).run P w=.ok () (w.setCells g n (iz s.data.toList)):=by simpa using jX
    have e8:List.map (λb:UInt8=>dT fF (b.toNat:Int)) s.data.toList=iz s.data.toList:=rfl;rw[e8,W8];rfl
   ·rcases Nat.lt_or_ge j xs.length with Z|Z
    ·rw[bG Z]at hx;rw[bg g _ _ _ _ (λ_ _=>.inl (by show j<0+n*1;have:=X.1;omega))];exact hcell j x hx
    ·rw[bk Z]at hx;have V:j-xs.length<(iz s.data.toList).length:=(aG.1 hx).1;have:=bw g (iz s.data.toList) (0+n*1) w (λk Y=>(Q k Y).1) (j-xs.length) V;have D:0+n*1+(j-xs.length)=j:=by have:=X.1;omega
     rw[D]at this;rw[this,<-hx,av V]
   ·rw[bL];refine⟨?_,(M j Z).2⟩;by_cases hq:n*1<=j/\j<n*1+(iz s.data.toList).length
    ·have:=bw g (iz s.data.toList) (0+n*1) w (λk Y=>(Q k Y).1) (j-n*1) dP;have D:0+n*1+(j-n*1)=j:=dP;rw[D]at this;rw[this];rfl
    ·rw[bg g _ _ _ _ (λ_ _=>by show j<0+n*1 \/0+n*1+(iz s.data.toList).length<=j;omega)];exact(M j Z).1
  ·have LD:¬n+s.size<=cap:=U;have H:¬(9223372036854775807<((n:Int)+(s.size:Int))):=dP;have hcc:cap<n+s.size:=dP;have hnx:fV (n+s.size) cap<=281474976710656:=by have:=nextslicecap_le hcc;omega
   have G:¬(281474976710656<fV (n+s.size) cap*i.bytes):=by rw[x6];omega
   have ph:=run_loadCells_list (P:=P) (w:=w.drew) ⟨g,0,ν⟩ xs (λj x Z=>by rw[add_plain];exact hcell j x Z);have E:(loadCells ⟨g,0,ν⟩ (n*i.size)).run P w.drew=.ok xs.toArray w.drew:=by
    rw[pX,<-X.1];exact ph
   have y:=grownCap_ge w (n+s.size) cap e;refine⟨σ (μ ⟨w.heap.size,0,ν⟩) (n+s.size) (grownCap w (n+s.size) cap e),w.drew.alloc (γ (xs.toArray++(iz s.data.toList).toArray++Builtin.zeroCells z.cells (grownCap w (n+s.size) cap e-(n+s.size))) e),?_,?_,⟨rfl,rfl,rfl,gN,λk Y _=>aQ w.drew _ k Y⟩,.inr ⟨_,rfl,Nat.le_refl _⟩⟩
   ·simp[fR,fS T,fS S,sizeOf,typeInfo,zeroValue,hi,hz,fT,LD,H,G,Question.forced,newRow,grownCap,fU,hex,E];congr 2;apply Array.ext';simp[iz]
   ·refine Row.made w.drew 1 e _ (0,0) (n+s.size) _ _ (by rw[ay,X.1,hsl];omega) ?_ y (da _ _ _ _ (by unfold maxLen;omega)) (.inl rfl) (λj x Z=> ?_)
    ·rw[dj,dj,size_zeroCells,h];have h1:xs.toArray.size=n:=by simpa using X.1
     have h2:(iz s.data.toList).toArray.size=s.size:=by simpa using hsl
     rw[h1,h2];omega
    ·have V:j<(xs++iz s.data.toList).length:=(aG.1 Z).1;rw[cC (by simpa using V),List.append_toArray,List.getElem?_toArray];exact Z
theorem ru(w:dN) {ops:Array Oper} {rest:List Oper} {o:Oper} {a:Act} {Q:Exit->Act->dN->Prop} (Z:o.guard=ν)(sl x:Operand)(t u:TypeId)
 (M:o.op=.call {callee:=.builtin .append,args:= #[sl,x],argTypes:= #[t,u] })
 (e:TypeId) (i:TypeInfo) (z:dO) (H:P.underlying t=μ (.slice e)) (G:P.underlying u=μ .string) (hi:P.info? e=μ i) (E:i.zero=μ z) (A:i.size=1) (y:i.bytes=1) (Y:z.cells.size=1)
 (v:dO) (n:Nat) (xs:List dO) (hs:a.eval sl=v) (D:Row w 1 v n xs) (s:ByteArray) (hx:a.eval x=.string s) (hsl:s.size<=1000000) (S:n<=1000000000)
 (h:∀v' w',Row w' 1 v' (n+s.size) (xs++iz s.data.toList)->w.grownBy w' v.ownBlock->(v'.ownBlock=v.ownBlock \/ ∃k,v'.ownBlock=μ k/\w.heap.size<=k)->wpList P ops Q rest (a.put o.dst v') w'):wpList P ops Q (o::rest) a w:=by
 refine wpList_plain Z λK T=> ?_;obtain⟨v',w',J,X,V,U⟩:=ud (P:=P) w t u o.type e i z H G hi E A y Y v n xs D s hsl S;unfold Oper.wp execOp;simp only[M,resolve,invoke,builtin,Sem.run_bind,Sem.run_pure,Result.andThen_ok,List.map_toArray,List.map_cons,List.map_nil,hs,hx,J];exact T _ _ (h v' w' X V U)
end
open St
namespace Rt
variable {B g o:Nat} {out:List kr} {p:jb} {v:Value} {w w' w1:World}
def uU(p:jb)(B:Nat)(v:dO)(F:Nat->dO):Nat->dO:=λj=>
 if j=0 then .int .i64 p.m else if j=1 then π (μ ⟨B,0,ν⟩)else if j<67 then F (j-2)else if j=67 then .int .i64 p.pe.who else if j=68 then .bool p.pe.both else if j=69 then .int .i64 p.pe.left else v
structure oZ(w:dN)(g o B:Nat)(v:dO)(p:jb):Prop where
 uV:∃F,oV w g o 71 (uU p B v F)/\Ao F p.rd.1 p.rd.2.1 p.rd.2.2
 lk:Lk w B (p.L.c (σ ν 0 0))
 ou:Row w 1 v p.out.length (iz p.out)
 few:p.out.length<=1000000000
 ok:yb p.L
 gB:g≠B
 vg:v.ownBlock≠μ g
 vB:v.ownBlock≠μ B
 nz:g≠0/\B≠0/\v.ownBlock≠μ 0
theorem oZ.c0(h:oZ w g o B v p):w.cell? ⟨g,o,ν⟩=μ (ι κ p.m):=by obtain⟨F,hC,_⟩:=h.uV;exact hC.cell 0 dS
theorem oZ.c1(h:oZ w g o B v p):w.cell? ⟨g,o+1,ν⟩=μ (π (μ ⟨B,0,ν⟩)):=by obtain⟨F,hC,_⟩:=h.uV;exact hC.cell 1 dS
theorem oZ.ZB(h:oZ w g o B v p):w.cell? ⟨g,o+67,ν⟩=μ (ι κ p.pe.who):=by obtain⟨F,hC,_⟩:=h.uV;exact hC.cell 67 dS
theorem oZ.T9(h:oZ w g o B v p):w.cell? ⟨g,o+68,ν⟩=μ (.bool p.pe.both):=by obtain⟨F,hC,_⟩:=h.uV;exact hC.cell 68 dS
theorem oZ.ZC(h:oZ w g o B v p):w.cell? ⟨g,o+69,ν⟩=μ (.int .i64 p.pe.left):=by obtain⟨F,hC,_⟩:=h.uV;exact hC.cell 69 dS
theorem oZ.Xu(h:oZ w g o B v p):w.cell? ⟨g,o+70,ν⟩=μ v:=by obtain⟨F,hC,_⟩:=h.uV;exact hC.cell 70 dS
theorem oZ.fz {w:dN} {g o B:Nat} {v:dO} {p:jb} (h:oZ w g o B v p):∀j,j<71->w.frozen? ⟨g,o+j,ν⟩=false:=by obtain⟨F,hC,_⟩:=h.uV;exact λj Z=>hC.fz j Z
theorem oZ.lt {w:dN} {g o B:Nat} {v:dO} {p:jb} (h:oZ w g o B v p):g<w.heap.size:=by obtain⟨F,hC,_⟩:=h.uV;exact hC.lt dS
theorem oZ.below {w w':dN} {g o B:Nat} {v:dO} {p:jb} (h:oZ w g o B v p)(hb:dV w w'):oZ w' g o B v p:=by
 obtain⟨F,hC,Z⟩:=h.uV;exact⟨⟨F,hC.below dS hb,Z⟩,h.lk.below hb,h.ou.below hb,h.few,h.ok,h.gB,h.vg,h.vB,h.nz⟩
structure mM(w w':dN)(g o B:Nat)(v:dO):Prop where
 os:w'.os=w.os
 tape:w'.tape=w.tape
 output:w'.output=w.output
 size:w.heap.size<=w'.heap.size
 block:∀i,i<w.heap.size->i≠g->i≠B->v.ownBlock≠μ i->w'.heap[i]? =w.heap[i]?
 cell:∀j,j<o \/o+71<=j->w'.cell? ⟨g,j,ν⟩=w.cell? ⟨g,j,ν⟩
 fz:∀j,w'.frozen? ⟨g,j,ν⟩=w.frozen? ⟨g,j,ν⟩
theorem mM.refl(w:dN)(g o B:Nat)(v:dO):mM w w g o B v:=⟨rfl,rfl,rfl,Nat.le_refl _,λ_ _ _ _ _=>rfl,λ_ _=>rfl,λ_=>rfl⟩
theorem mM.iD(o B:Nat)(v:dO)(h:dV w w')(Z:g<w.heap.size):mM w w' g o B v:=
 ⟨h.os,h.tape,h.output,h.size,λi hi _ _ _=>h.block i hi,λj _=>ai (a:=⟨g,j,ν⟩) (h.block g Z),λj=>aH (a:=⟨g,j,ν⟩) (h.block g Z)⟩
theorem mM.trans {a b c:dN} {g o B:Nat} {v v':dO} (h:mM a b g o B v)(k:mM b c g o B v')(hv:∀i,v'.ownBlock=μ i->v.ownBlock=μ i \/a.heap.size<=i):mM a c g o B v:=
 ⟨k.os.trans h.os,k.tape.trans h.tape,k.output.trans h.output,Nat.le_trans h.size k.size,λi hi Y X V=>(k.block i (Nat.lt_of_lt_of_le hi h.size) Y X (λe=>by
  rcases hv i e with Z|Z
  ·exact V Z
  ·omega)).trans (h.block i hi Y X V),λj U=>(k.cell j U).trans (h.cell j U),λj=>(k.fz j).trans (h.fz j)⟩
theorem wk(g o B:Nat)(v:dO)(p:jb)(w:dN)(h:oZ w g o B v p):
 eM eN 83 #[π (μ ⟨g,o,ν⟩)] w λe w'=>e=ρ (.bool (p.L.st==9))/\w=w':=by
 have c1:=h.c1;have hl:=h.lt;have hs:=yu B _ p.L _ [] w (pK.rest h.lk);clear h
 go_in
 go_wp2_with(fail);refine hs.mono ?_;rintro e w1 ⟨rfl,rfl⟩;clear hs
 go_wp2
 go_ret;exact⟨rfl,rfl⟩
theorem QJ:(eN.info? 5).map (λi=>(i.zero,i.size,i.bytes))=μ (μ (.int .u8 0),1,1):=gJ
theorem LG(p:jb)(B:Nat)(v v':dO)(F:Nat->dO)(l:List UInt8):∀j,j<71->qV (uU p B v F) 70 v' j=uU {p with out:=l} B v' F j:=by
 intro j hj;by_cases e:j=70
 ·subst e;rw[ot];rfl
 ·rw[jn _ _ e];unfold uU;by_cases Z:j=0
  ·simp[Z]
  ·by_cases Y:j=1
   ·simp[Y]
   ·by_cases X:j<67
    ·simp[Z,Y,X]
    ·by_cases V:j=67
     ·simp[V]
     ·by_cases U:j=68
      ·simp[U]
      ·have T:j=69:=dP;simp[T]
theorem oZ.grow {W x:dN} (h:oZ w g o B v p)(hb:dV w W)(X:W.grownBy x v.ownBlock)(v':dO)(l:List UInt8)(G:Row x 1 v' (p.out++l).length (iz (p.out++l)))(H:(p.out++l).length<=1000000000)(E:v'.ownBlock=v.ownBlock \/ ∃k,v'.ownBlock=μ k/\W.heap.size<=k):
 oZ (x.setCell ⟨g,o+70,ν⟩ v') g o B v' {p with out:=p.out++l} /\mM w (x.setCell ⟨g,o+70,ν⟩ v') g o B v/\(∀i,v'.ownBlock=μ i->v.ownBlock=μ i \/w.heap.size<=i):=by
 have hW:=h.below hb;have Y:∀i,i<w.heap.size->v.ownBlock≠μ i->x.heap[i]? =w.heap[i]? :=λi hi hv=>(X.block i (Nat.lt_of_lt_of_le hi hb.size) (λe=>hv e.symm)).trans (hb.block i hi);have hv:∀i,v'.ownBlock=μ i->v.ownBlock=μ i \/w.heap.size<=i:=λi e=>by
  rcases E with Z|⟨k,Z,e2⟩
  ·exact .inl (by rw[<-Z];exact e)
  ·rw[e]at Z;have:i=k:=by simpa using Z
   have:=hb.size;exact .inr dP
 have T:v'.ownBlock≠μ g:=λe=>by
  rcases hv g e with Z|Z
  ·exact h.vg Z
  ·have:=h.lt;omega
 have U:v'.ownBlock≠μ B:=λe=>by
  rcases hv B e with Z|Z
  ·exact h.vB Z
  ·have:=h.lk.lt;omega
 obtain⟨F,hC,M⟩:=h.uV;have V:oV x g o 71 (uU p B v F):=hC.keep (Y g h.lt h.vg);refine⟨⟨⟨F,(V.set 70 dS v').congr (LG p B v v' F _),M⟩,?_,?_,H,h.ok,h.gB,T,U,h.nz.1,h.nz.2.1,λe=>by
  rcases hv 0 e with Z|Z
  ·exact h.nz.2.2 Z
  ·have:=h.lt;omega⟩,⟨?_,?_,?_,?_,?_,?_,?_⟩,hv⟩
 ·exact h.lk.keep ((ak _ _ _ B (λe=>h.gB e.symm)).trans (Y B h.lk.lt h.vB))
 ·exact G.keep gN (λk J=>ak _ _ _ k (λe=>T (by rw[J];exact congrArg μ e)))
 ·exact((aq 0 x).setCell (Nat.zero_le _) _).os.trans (X.os.trans hb.os)
 ·exact((aq 0 x).setCell (Nat.zero_le _) _).tape.trans (X.tape.trans hb.tape)
 ·exact((aq 0 x).setCell (Nat.zero_le _) _).output.trans (X.output.trans hb.output)
 ·exact Nat.le_trans hb.size (Nat.le_trans X.size gN)
 ·exact λi hi S _ Q=>(ak _ _ _ i S).trans (Y i hi Q)
 ·exact λj hj=>(aP _ _ _ _ (λe=>by have:=congrArg Addr.off e;simp at this;omega)).trans (ai (a:=⟨g,j,ν⟩) (Y g h.lt h.vg))
 ·exact λj=>(lz _ _ _ _).trans (aH (a:=⟨g,j,ν⟩) (Y g h.lt h.vg))
structure kM(w w':dN)(g o B:Nat)(v:dO)(p:jb):Prop where
 ex:∃v',oZ w' g o B v' p/\(∀i,v'.ownBlock=μ i->v.ownBlock=μ i \/w.heap.size<=i)
 kept:mM w w' g o B v
theorem kM.still(h:oZ w g o B v p)(hb:dV w w'):kM w w' g o B v p:=⟨⟨v,h.below hb,λ_ e=>.inl e⟩,mM.iD o B v hb h.lt⟩
theorem kM.trans {a b c:dN} {g o B:Nat} {v v':dO} {p:jb} (X:mM a b g o B v)(hv:∀i,v'.ownBlock=μ i->v.ownBlock=μ i \/a.heap.size<=i)(V:kM b c g o B v' p):kM a c g o B v p:=by
 obtain⟨⟨v2,T,Y⟩,U⟩:=V;refine⟨⟨v2,T,λi e=> ?_⟩,X.trans U hv⟩;rcases Y i e with Z|Z
 ·exact hv i Z
 ·exact .inr (Nat.le_trans X.size Z)
theorem wm(l:List UInt8)(h:l.length<=60):(Plain.mD l).length<=126:=by
 have:=Na l;omega
theorem Aq(g o B:Nat)(v:dO)(p:jb)(T s:ByteArray)(c:UInt8)(w:dN)(h:oZ w g o B v p)(hT:T.data.toList=[c])(hs:s.size<=1000)(hn:p.out.length<=900000000):
 eM eN 150 #[π (μ ⟨g,o,ν⟩),.string T,.string s] w λe w'=>e=ρ (τ #[])/\kM w w' g o B v (p.put c s.data.toList):=by
 obtain⟨i0,hi,nH,l8,mZ⟩:=aT QJ;have hop:=wk g o B v p w h;have hTs:T.size=1:=by have:=congrArg List.length hT;simpa using this
 have V:T.toList=[c] :=by rw[cX];exact hT
 have OW:(T++s).size=s.size+1:=by rw[ByteArray.size_append,hTs];omega
 have G:(T++s).data.toList=c::s.data.toList:=by rw[ByteArray.data_append];simp[hT]
 have hsl:s.data.toList.length=s.size:=gN;have Xu:=h.Xu;have f70:=h.fz 70 dS;have hl:=h.lt;have HP:Hid _:=h;have lE:∀W:dN,dV w W->jb.put p c s.data.toList=p->kM w W g o B v (p.put c s.data.toList):=λW hW e=>by rw[e];exact kM.still HP.out hW
 have H:Hid _:=lE;clear lE;have main:(c=76 \/p.L.st=9)->Hid (s.size+1<=60->p.put c s.data.toList={p with out:=p.out++Plain.mD (c::s.data.toList)})/\Hid (¬s.size+1<=60->p.put c s.data.toList=p):=λhc=>by
  have kh:¬(c≠76/\p.L.st≠9):=λ⟨a,b⟩=>by rcases hc with e|e<;>contradiction
  refine⟨λh1=> ?_,λh1=> ?_⟩
  ·unfold jb.put;rw[ae kh,ag (by rw[hsl];exact h1)]
  ·unfold jb.put;rw[ae kh,ae (by rw[hsl];exact h1)]
 by_cases S:c=76
 ·have q:(T.toList==[76])=true:=by rw[V,S];rfl
  obtain⟨M,J⟩:=main (.inl S);clear main V hop h;by_cases X:s.size+1<=60
  ·have Z:=GR (T++s) w dP;rw[G]at Z;have Dx:=wm (c::s.data.toList) (by simp;omega);have u:Hid _:=M.out X;obtain⟨L,hL⟩:=fP (Plain.mD (c::s.data.toList));rw[hL]at Z Dx u;clear M J G hL
   go_in
   go_wp2_with(fail);refine Z.mono ?_;rintro e w1 ⟨rfl,b1⟩;have Y:=HP.out.below b1;have E:=Y.Xu;have D:=Y.fz 70 dS;have dl:=Y.lt;have Nq:=Y.ou;have HV:Hid (v.ownBlock≠μ g):=Y.vg;clear Z Xu f70;go_wp2_with(at_builtin;go_must(refine ru _ rfl (.tmp 28) (.tmp 29) 140 9 rfl 5 i0 (.int .u8 0) bF bT hi nH l8 mZ rfl v p.out.length (iz p.out) rfl Nq ⟨L.toArray⟩ rfl (by show L.toArray.size<=1000000;simp;omega) dP ?_));intro v' x A Q iY;have Ub:∃a' n' c',v'=fW a' n' c':=by
    rcases A.2 with⟨e,_⟩|⟨g',c',e,_⟩
    ·exact⟨_,_,_,e⟩
    ·exact⟨_,_,_,e⟩
   obtain⟨a',n',c',rfl⟩:=Ub;have VO:Row x 1 (σ a' n' c') (p.out++L).length (iz (p.out++L)):=by
    rw[ay,kJ];exact A
   obtain⟨t,j,G3⟩:=oZ.grow HP.out b1 Q (σ a' n' c') L VO (by rw[ay];omega) iY;have y:x.cell? ⟨g,o+70,ν⟩=μ v:=(ai (a:=⟨g,o+70,ν⟩) (Q.block g dl (λe=>HV.out e.symm))).trans E;have z70:x.frozen? ⟨g,o+70,ν⟩=false:=(aH (a:=⟨g,o+70,ν⟩) (Q.block g dl (λe=>HV.out e.symm))).trans D;have xl:g<x.heap.size:=af x _ y;have U:Hid (kM w (x.setCell ⟨g,o+70,ν⟩ (σ a' n' c')) g o B v (p.put c s.data.toList)):=by
    show kM _ _ _ _ _ _ _;rw[u.out];exact⟨⟨_,t,G3⟩,j⟩
   clear t j G3 A VO Q iY Nq Y
   go_wp2
   first|go_end0|refine iq rfl rfl ?_
   exact⟨rfl,U.out⟩
  ·have Z:=Lu (T++s) w dP (by unfold maxLen;omega);have U:Hid (kM w w g o B v (p.put c s.data.toList)):=H.out w (aq _ _) (J.out X);clear M J G
   go_in
   go_wp2_with(fail);refine Z.mono ?_;rintro e w1 ⟨rfl,rfl⟩;clear Z
   go_wp2
   first|go_end0|refine iq rfl rfl ?_
   exact⟨rfl,U.out⟩
 ·have q:(T.toList==[76])=false:=by
   rw[V,cE];intro e;exact S (by simpa using e)
  cases h9:(p.L.st==9)
  ·have jX:p.L.st≠9:=by simpa using h9
   have U:Hid (kM w w g o B v (p.put c s.data.toList)):=H.out w (aq _ _) (by unfold jb.put;rw[ag ⟨S,jX⟩]);rw[h9]at hop;clear main V h G
   go_in
   go_wp2_with(fail);refine hop.mono ?_;rintro e w1 ⟨rfl,rfl⟩;clear hop
   go_wp2
   first|go_end0|refine iq rfl rfl ?_
   exact⟨rfl,U.out⟩
  ·have jX:p.L.st=9:=by simpa using h9
   obtain⟨M,J⟩:=main (.inr jX);rw[h9]at hop;clear main V h jX;by_cases X:s.size+1<=60
   ·have Z:=GR (T++s) w dP;rw[G]at Z;have Dx:=wm (c::s.data.toList) (by simp;omega);have u:Hid _:=M.out X;obtain⟨L,hL⟩:=fP (Plain.mD (c::s.data.toList));rw[hL]at Z Dx u;clear M J G hL
    go_in
    go_wp2_with(fail);refine hop.mono ?_;rintro e w1 ⟨rfl,rfl⟩;clear hop;go_wp2_with(fail);refine Z.mono ?_;rintro e w1 ⟨rfl,b1⟩;have Y:=HP.out.below b1;have E:=Y.Xu;have D:=Y.fz 70 dS;have dl:=Y.lt;have Nq:=Y.ou;have HV:Hid (v.ownBlock≠μ g):=Y.vg;clear Z Xu f70;go_wp2_with(at_builtin;go_must(refine ru _ rfl (.tmp 28) (.tmp 29) 140 9 rfl 5 i0 (.int .u8 0) bF bT hi nH l8 mZ rfl v p.out.length (iz p.out) rfl Nq ⟨L.toArray⟩ rfl (by show L.toArray.size<=1000000;simp;omega) dP ?_));intro v' x A Q iY;have Ub:∃a' n' c',v'=fW a' n' c':=by
     rcases A.2 with⟨e,_⟩|⟨g',c',e,_⟩
     ·exact⟨_,_,_,e⟩
     ·exact⟨_,_,_,e⟩
    obtain⟨a',n',c',rfl⟩:=Ub;have VO:Row x 1 (σ a' n' c') (p.out++L).length (iz (p.out++L)):=by
     rw[ay,kJ];exact A
    obtain⟨t,j,G3⟩:=oZ.grow HP.out b1 Q (σ a' n' c') L VO (by rw[ay];omega) iY;have y:x.cell? ⟨g,o+70,ν⟩=μ v:=(ai (a:=⟨g,o+70,ν⟩) (Q.block g dl (λe=>HV.out e.symm))).trans E;have z70:x.frozen? ⟨g,o+70,ν⟩=false:=(aH (a:=⟨g,o+70,ν⟩) (Q.block g dl (λe=>HV.out e.symm))).trans D;have xl:g<x.heap.size:=af x _ y;have U:Hid (kM w (x.setCell ⟨g,o+70,ν⟩ (σ a' n' c')) g o B v (p.put c s.data.toList)):=by
     show kM _ _ _ _ _ _ _;rw[u.out];exact⟨⟨_,t,G3⟩,j⟩
    clear t j G3 A VO Q iY Nq Y
    go_wp2
    first|go_end0|refine iq rfl rfl ?_
    exact⟨rfl,U.out⟩
   ·have Z:=Lu (T++s) w dP (by unfold maxLen;omega);have U:Hid (kM w w g o B v (p.put c s.data.toList)):=H.out w (aq _ _) (J.out X);clear M J G
    go_in
    go_wp2_with(fail);refine hop.mono ?_;rintro e w1 ⟨rfl,rfl⟩;clear hop;go_wp2_with(fail);refine Z.mono ?_;rintro e w1 ⟨rfl,rfl⟩;clear Z
    go_wp2
    first|go_end0|refine iq rfl rfl ?_
    exact⟨rfl,U.out⟩
def uf(p:jb)(q:kr):jb:=if ju q.1 q.2.1 q.2.2=0 then p.put 76 (lA q.1 q.2.1 q.2.2)else p
theorem Bv:∀(l:List kr) (p:jb) (q:kr),p.say (l++ [q])=uf (p.say l) q
 |[],_,_=>rfl
 |x::l,p,q=>by
  show(uf p x).say (l++ [q])=uf ((uf p x).say l) q;exact Bv l (uf p x) q
theorem uW(p:jb)(c:UInt8)(s:List UInt8):(p.put c s).out.length<=p.out.length+126:=by
 unfold jb.put;split
 ·omega
 ·split
  ·rename_i h
   have:=wm (c::s) (by simpa using h);simp only[List.length_append];omega
  ·omega
theorem QK(p:jb)(q:kr):(uf p q).out.length<=p.out.length+126:=by
 unfold uf;split
 ·exact uW _ _ _
 ·omega
theorem xA:∀(l:List kr) (p:jb),(p.say l).out.length<=p.out.length+126*l.length
 |[],p=>by simp[jb.say]
 |x::l,p=>by
  have h1:=xA l (uf p x);have h2:=QK p x;have e:p.say (x::l)=(uf p x).say l:=rfl;rw[e,cS];omega
structure PtQ(w:dN)(g o B:Nat)(v:dO)(p:jb)(X:Nat->Prop)(vl:dO)(qs:List PV):Prop where
 uV:∃F,oV w g o 71 (uU p B v F)/\Ao F p.rd.1 p.rd.2.1 p.rd.2.2
 rep:pK w B X p.L vl qs
 ou:Row w 1 v p.out.length (iz p.out)
 few:p.out.length<=1000000000
 ok:yb p.L
 gB:g≠B
 vg:v.ownBlock≠μ g
 vB:v.ownBlock≠μ B
 nz:g≠0/\B≠0/\v.ownBlock≠μ 0
 xg:X g
 xv:∀k,v.ownBlock=μ k->X k
theorem Nr {code id:Int} {os:List jv} (h:ju code id os=0):(lA code id os).length<=100:=by
 have h8:os.length<=8:=by
  unfold ju at h;split at h
  ·simp at h
  ·split at h
   ·simp at h
   ·omega
 have:=qe os;simp only[lA,List.length_cons];omega
theorem QL(g o B:Nat)(v:dO)(p:jb)(X:Nat->Prop)(vl:dO)(qs:List PV)(w:dN)(h:PtQ w g o B v p X vl qs)(hq:qs.length<=40)(hn:p.out.length<=800000000):
 eM eN 123 #[π (μ ⟨g,o,ν⟩)] w λe w'=>e=ρ (τ #[])/\kM w w' g o B v (p.say (qs.map PV.abs)):=by
 have tF:=TI B X p.L vl qs w h.rep;have c1:w.cell? ⟨g,o+1,ν⟩=μ (π (μ ⟨B,0,ν⟩)):=by obtain⟨F,hC,_⟩:=h.uV;exact hC.cell 1 dS
 have I8:g<w.heap.size:=by obtain⟨F,hC,_⟩:=h.uV;exact hC.lt dS
 have Z:Hid _:=h;clear h
 go_in
 go_wp2_with(fail);refine tF.mono ?_;rintro e w1 ⟨rfl,hR,iJ,y,T⟩;have Vs:oZ w1 g o B v p:=by
  obtain⟨F,hC,hF⟩:=Z.out.uV;have hkv:∀k,v.ownBlock=μ k->w1.heap[k]? =w.heap[k]? :=λk M=>T.block k (Z.out.ou.lt k M) (λe=>Z.out.vB (by rw[M,e])) gN;exact⟨⟨F,hC.keep (T.block g I8 Z.out.gB gN),hF⟩,hR.lk,Z.out.ou.keep T.size hkv,Z.out.few,Z.out.ok,Z.out.gB,Z.out.vg,Z.out.vB,Z.out.nz⟩
 have SP:mM w w1 g o B v:=⟨T.os,T.tape,T.output,T.size,λi hi _ h2 _=>T.block i hi h2 gN,λj _=>ai (a:=⟨g,j,ν⟩) (T.block g I8 Z.out.gB gN),λj=>aH (a:=⟨g,j,ν⟩) (T.block g I8 Z.out.gB gN)⟩
 have E:∀W:dN,mM w1 W g o B v->W7 W vl qs:=λW kW=>by
  refine⟨iJ.keep kW.size (λk M=>kW.block k (iJ.lt k M) (λY=>Z.out.rep.own k M (by rw[Y];exact Z.out.xg)) (λY=>Z.out.rep.own k M (by rw[Y];exact Z.out.rep.self)) (λY=>Z.out.rep.own k M (Z.out.xv k Y))),λq u=>⟨(y q u).opt.K7 (λk M=> ?_),(y q u).few⟩⟩;obtain⟨f1,_,f3⟩:=(y q u).far k M;exact kW.block k f3 (λY=>f1 (by rw[Y];exact Z.out.xg)) (λY=>f1 (by rw[Y];exact Z.out.rep.self)) (λY=>f1 (Z.out.xv k Y))
 have hle:∀q∈qs,q.n<=q.cap:=λq u=>(y q u).le;have Pn:g<w1.heap.size:=Vs.lt;obtain⟨a,ca,rfl,_⟩:=(E w1 (mM.refl _ _ _ _ _)).shape;obtain⟨n,wP⟩:=fP (qs.length);have H1:Hid _:=Vs;have HK1:Hid _:=SP;have HPk:Hid _:=E;have HLe:Hid _:=hle;have HN:Hid _:=wP;rw[wP]at hq;rw[wP];clear tF hR iJ y T Vs SP E hle wP c1
 go_wp2
 go_loopw [12] (λi wr=>∃(k:Nat) (H:dO),k<=n/\i=ι κ k/\oZ wr g o B H (p.say ((qs.map PV.abs).take k))/\mM w1 wr g o B v/\(∀i,H.ownBlock=μ i->v.ownBlock=μ i \/w1.heap.size<=i)) (λi _=>n-(intOf i).toNat)
 case atStart=>exact⟨0,v,Nat.zero_le _,rfl,H1.out,mM.refl _ _ _ _ _,λ_ e=>.inl e⟩
 case round=>
  obtain⟨k,H,M,rfl,hP,S,J⟩:=hrel;by_cases kc:k<n
  ·have nh:(k:Int)<(n:Int):=dP;have FO:(0:Int)<=(k:Int):=dP;have lk:k<qs.length:=by have:=HN.out;omega
   have PK:=HPk.out wr S;obtain⟨a',ca',Y,f1⟩:=PK.shape;obtain⟨g1,ea,x0,x1,x2⟩:=f1 k qs[k] (av lk);have t:a=a':=by simpa using(bC Y).1
   rw[ea]at t;subst t;have D:=PK.opt qs[k] (aD lk);have Aj:=HLe.out qs[k] (aD lk);have Uc:Hid ((qs.map PV.abs).take (k+1)=(qs.map PV.abs).take k++ [qs[k].abs]):=by
    show _=_;rw[aw (by simpa using lk)];simp
   generalize qs[k] =q at x0 x1 x2 D Aj Uc;obtain⟨V,U,qa,qn,Ud,Q⟩:=q;simp only at x0 x1 x2 D Aj;have z0:wr.cell? ⟨g1,k*3,ν⟩=μ (ι κ V):=by rw[Nat.zero_add]at x0;exact x0
   have z1:wr.cell? ⟨g1,k*3+1,ν⟩=μ (ι κ U):=by rw[Nat.zero_add]at x1;exact x1
   have z2:wr.cell? ⟨g1,k*3+2,ν⟩=μ (σ qa qn Ud):=by rw[Nat.zero_add]at x2;exact x2
   have hln:(p.say ((qs.map PV.abs).take k)).out.length<=900000000:=by
    have h1:=xA ((qs.map PV.abs).take k) p;have h2:((qs.map PV.abs).take k).length<=k:=bV _ _;omega
   have ba:=gM wr (γ #[ι κ V,ι κ U,σ qa qn Ud] 37);have HP:Hid _:=hP;have A:Hid _:=S;have Zl:Hid _:=J;clear PK f1 Y ea x0 x1 x2 hP S J;by_cases hf:ju V U Q=0
   ·have G:=ET V U qa qn Ud Q _ Aj (D.1.below ba) hf;have C5:=Nr hf;have E1:Hid (p.say ((qs.map PV.abs).take (k+1))=(p.say ((qs.map PV.abs).take k)).put 76 (lA V U Q)):=by
     show _=_;rw[Uc.out,Bv];show uf _ (V,U,Q)=_;unfold uf;rw[ag hf]
    clear hf D;obtain⟨L,hL⟩:=fP (lA V U Q);rw[hL]at G C5 E1;clear hL;go_wp2_with(fail);refine G.mono ?_;rintro e w3 ⟨rfl,b3⟩;have k3:=gD ba b3;have ni:=Aq g o B H (p.say ((qs.map PV.abs).take k)) ⟨#[76]⟩ ⟨L.toArray⟩ 76 w3 (HP.out.below k3) rfl (by show L.toArray.size<=1000;simp;omega) hln;have eL:(⟨L.toArray⟩:ByteArray).data.toList=L:=gN;rw[eL]at ni;clear G b3;go_wp2_with(fail);refine ni.mono ?_;rintro e w4 ⟨rfl,hW⟩;have mW:kM w1 w4 g o B v (p.say ((qs.map PV.abs).take (k+1))):=by
     rw[E1.out];exact kM.trans (A.out.trans (mM.iD o B H k3 HP.out.lt) Zl.out) Zl.out hW
    have HW:Hid _:=mW;clear ni hW mW k3 ba
    go_wp2
    go_roundw
    case rel=>
     obtain⟨⟨v5,h5,h6⟩,h7⟩:=HW.out;exact⟨k+1,v5,dP,by go_num,h5,h7,h6⟩
    case measure=>simp[intOf];omega
   ·have G:=GU V U qa qn Ud Q _ dP Aj (D.1.below ba) hf;have ee:iP (ju V U Q)=.iface 128 (ι κ (ju V U Q:Int)):=by simp only[iP];rw[ae hf]
    rw[ee]at G;have E1:Hid (p.say ((qs.map PV.abs).take (k+1))=p.say ((qs.map PV.abs).take k)):=by
     show _=_;rw[Uc.out,Bv];show uf _ (V,U,Q)=_;unfold uf;rw[ae hf]
    clear hf D ee;generalize ju V U Q=f at G;go_wp2_with(fail);refine G.mono ?_;rintro e w3 ⟨rfl,b3⟩;have I7:Hid _:=gD ba b3;clear G b3 ba
    go_wp2
    go_roundw
    case rel=>exact⟨k+1,H,dP,by go_num,by rw[E1.out];exact HP.out.below I7.out,A.out.trans (mM.iD o B H I7.out HP.out.lt) Zl.out,Zl.out⟩
    case measure=>simp[intOf];omega
  ·have zN:¬(k:Int)<(n:Int):=dP;have HE:Hid (kM w wr g o B v (p.say (qs.map PV.abs))):=by
    have Y:(qs.map PV.abs).take k=qs.map PV.abs:=aC (by have:=HN.out;simp;omega);rw[Y]at hP;exact kM.trans HK1.out (λ_ e=>.inl e) ⟨⟨H,hP,J⟩,S⟩
   clear hP S J
   go_wp2
   first|go_end0|refine iq rfl rfl ?_
   exact⟨rfl,HE.out⟩
structure zr(w w1:dN)(g o B:Nat)(v:dO)(p:jb)(out:List kr):Prop where
 ex:∃vl qs,PtQ w1 g o B v p (λk=>k<w.heap.size) vl qs/\qs.map PV.abs=out
 kept:mM w w1 g o B v
theorem oZ.begin(h:oZ w g o B v p):zr w w g o B v p [] :=
 ⟨⟨σ ν 0 0,[],⟨h.uV,pK.rest h.lk,h.ou,h.few,h.ok,h.gB,h.vg,h.vB,h.nz,h.lt,λk Z=>h.ou.lt k Z⟩,rfl⟩,mM.refl _ _ _ _ _⟩
theorem zr.tab(h:zr w w1 g o B v p out)(Y:iQ w):iQ w1:=λe s X hs=>by
 obtain⟨vl,qs,Z,_⟩:=h.ex;exact(ai (a:=⟨0,e*10+s,ν⟩) (h.kept.block 0 Y.lt (λe=>Z.nz.1 e.symm) (λe=>Z.nz.2.1 e.symm) Z.nz.2.2)).trans (Y e s X hs)
theorem zr.went {w2:dN} {aa8:List kr} {vl:dO} {qs:List PV} {s':LS} (Z:PtQ w1 g o B v p (λk=>k<w.heap.size) vl qs)(D:qs.map PV.abs=out)(Y:mM w w1 g o B v)
 (G:mF w1 w2 B (λk=>k<w.heap.size) s' vl qs aa8) (A:yb s'):zr w w2 g o B v {p with L:=s'} (out++aa8):=by
 obtain⟨⟨v2,q2,H,S,hv2⟩,V⟩:=G;obtain⟨F,hC,hF⟩:=Z.uV;have hlg:g<w1.heap.size:=hC.lt dS;have y:∀i,vl.ownBlock=μ i->¬i<w.heap.size:=λi e=>Z.rep.own i e;have hb:∀i,i<w.heap.size->i≠B->w2.heap[i]? =w1.heap[i]? :=λi hi J=>V.block i (Nat.lt_of_lt_of_le hi Y.size) J (λe=>y i e hi);have X:w2.heap[g]? =w1.heap[g]? :=hb g Z.xg Z.gB;refine⟨⟨v2,qs++q2,⟨⟨F,hC.keep X,hF⟩,H,Z.ou.keep V.size (λk T=>hb k (Z.xv k T) (λe=>Z.vB (by rw[T,e]))),Z.few,A,Z.gB,Z.vg,Z.vB,Z.nz,Z.xg,Z.xv⟩,by rw[bY,D,S]⟩,?_⟩;exact⟨V.os.trans Y.os,V.tape.trans Y.tape,V.output.trans Y.output,Nat.le_trans Y.size V.size,λi hi Q U M=>(hb i hi U).trans (Y.block i hi Q U M),λj E=>(ai (a:=⟨g,j,ν⟩) X).trans (Y.cell j E),λj=>(aH (a:=⟨g,j,ν⟩) X).trans (Y.fz j)⟩
theorem zr.say {w w1:dN} {g o B:Nat} {v:dO} {p:jb} {out:List kr} (h:zr w w1 g o B v p out)(V:out.length<=40)(X:p.out.length<=800000000):
 eM eN 123 #[π (μ ⟨g,o,ν⟩)] w1 λe w'=>e=ρ (τ #[])/\kM w w' g o B v (p.say out):=by
 obtain⟨U,qs,Z,rfl⟩:=h.ex;refine(QL g o B v p _ U qs w1 Z (by simpa using V) X).mono ?_;rintro e w' ⟨rfl,Y⟩;exact⟨rfl,kM.trans h.kept (λ_ e=>.inl e) Y⟩
theorem zr.do_(h:zr w w1 g o B v p out)(V:iQ w)(hq:out.length<=40)(ev:Int):
 eM eN 120 #[π (μ ⟨B,0,ν⟩),ι κ ev] w1 λe w'=>e=ρ (iP (ko p.L ev).2.2)/\zr w w' g o B v {p with L:=(ko p.L ev).1} (out++(ko p.L ev).2.1):=by
 have X:=h.tab V;obtain⟨T,qs,Z,Y⟩:=h.ex;have hl:qs.length=out.length:=by rw[<-Y];simp
 refine(Xd ev B _ p.L T qs w1 X Z.rep Z.ok.bd dP).mono ?_;rintro e w' ⟨rfl,U⟩;exact⟨rfl,zr.went Z Y h.kept U (Z.ok.ko ev)⟩
theorem zr.tick {w:dN} {g o B:Nat} {v:dO} {p:jb} (h:oZ w g o B v p)(X:iQ w):
 eM eN 147 #[π (μ ⟨B,0,ν⟩)] w λe w'=>e=ρ (τ #[])/\zr w w' g o B v {p with L:=j5 p.L} (lO p.L):=by
 have hw:=h.ok.wt;have hb:=h.begin;obtain⟨V,qs,Z,T⟩:=hb.ex;have S:qs=[] :=by simpa using T
 subst S;have Y:V.ownBlock≠μ 0:=λe=>Z.rep.own 0 e X.lt;refine(Qa B _ p.L V [] w X h.nz.2.1 Y Z.rep h.ok.bd gN dP dP).mono ?_;rintro e w' ⟨rfl,U⟩;refine⟨rfl,?_⟩;have:=zr.went Z rfl hb.kept U h.ok.tick;simpa using this
theorem zr.state(h:zr w w1 g o B v p out):
 eM eN 114 #[π (μ ⟨B,0,ν⟩)] w1 λe w'=>e=ρ (ι κ p.L.st)/\w1=w':=by
 obtain⟨Y,qs,Z,ho⟩:=h.ex;exact yu B _ p.L Y qs w1 Z.rep
theorem zr.ptr(h:zr w w1 g o B v p out):w1.cell? ⟨g,o+1,ν⟩=μ (π (μ ⟨B,0,ν⟩))/\g<w1.heap.size:=by
 obtain⟨vl,qs,Z,ho⟩:=h.ex;obtain⟨F,hC,hF⟩:=Z.uV;exact⟨hC.cell 1 dS,hC.lt dS⟩
