import Derived.Test.YtieklnlbljejdaaGreatDoorG04
open Go.Value renaming int → ι, slice → σ, pointer → π, tuple → τ, nilIface → η
open Go.IntKind renaming i64 → κ
open Go.Ending renaming returned → ρ
open Go.Obj renaming cells → γ
open Option renaming none → ν, some → μ
open Go renaming World → eB, Value → eD, TypeId → eG, Calls → fj
open Go.World renaming setRow → fN
open Go.Instr renaming loadAt → fO, sureAddr → fP, storeAt → fT
open Go.Sem renaming run_bind → fQ, run_pure → fR
open Go.Result renaming andThen → fS, andThen_ok → eR
open Array renaming range → fU, mem_map → fV
open Go.Proofs.Tryz renaming prog → fk, results199 → fW, underlying259 → fX
open Go.RowKit renaming intOf → ft
set_option maxRecDepth 100000
set_option maxHeartbeats 4000000
namespace Go.Proofs.YtieklnlbljejdaaGreatDoor
open Go.RowKit St
variable {B n:Nat} {Q:Exit->Act->World->Prop} {a:Act} {o:Oper} {ops:Array Oper} {rest:List Oper} {w:World}
theorem jr.setRow {w:eB} {B:Nat} {C D:Array eD} {t:eG} (h:jr w B C t):jr (w.setRow B D) B D t:=by
 unfold jr at*;simp only[fN];rw[cH,ag rfl,h];rfl
theorem oe {a:eB} (h:Below n w a)(hB:n<=B)(D:Array eD):Below n w (a.setRow B D):=by
 refine⟨h.os,h.tape,h.output,by simpa[fN]using h.size,λi hi=> ?_⟩;rw[<-h.block i hi];simp only[fN];rw[cH,ae eE]
theorem jr.QF {B':Nat} {C D:Array eD} {t:eG} (h:jr w B C t)(jV:B≠B'):jr (w.setRow B' D) B C t:=by
 unfold jr at*;simp only[fN];rw[cH,ae (λe=>jV e.symm)];exact h
section
variable {P:Program}
theorem jr.loadAt {w:eB} {B:Nat} {C:Array eD} {t:eG} (h:jr w B C t)(n:Nat)(e:eG)(hu:P.underlying t=μ (.array n e))(hi:(P.info? t).map (·.size)=μ C.size):(fO t (π (μ ⟨B,0,ν⟩))).run P w=.ok (.agg C) w:=by
 simp only[fO,fP,fQ,fR,fS];exact bP w B t t C (0,0) _ h hu rfl hi
theorem jr.storeAt {w:eB} {B:Nat} {C D:Array eD} {t:eG} (h:jr w B C t)(hs:C.size=D.size)(hi:(P.info? t).map (·.size)=μ D.size)(h1:D.all (·.oneCell')=true):(fT t (π (μ ⟨B,0,ν⟩)) (.agg D)).run P w=.ok () (w.setRow B D):=by
 simp only[fT,fP,fQ,fR,fS];exact run_storeVar_row w B t t C D h hi hs h1
theorem nI(w:eB)(Hc:o.guard=ν)(x:Operand)(t:eG)(ho:o.op=.load t x)
 (B:Nat) (C:Array eD) (n:Nat) (e:eG) (hx:a.eval x=π (μ ⟨B,0,ν⟩)) (hb:jr w B C t) (hu:P.underlying t=μ (.array n e)) (hi:(P.info? t).map (·.size)=μ C.size)
 (h:wpList P ops Q rest (a.put o.dst (.agg C)) w):wpList P ops Q (o::rest) a w:=by
 refine wpList_plain Hc λK hK=> ?_;have hr:=hb.loadAt n e hu hi;unfold Oper.wp execOp;simp only[ho,fQ,fR,eR,hx,hr];exact hK _ _ h
theorem l8(w:eB)(Hc:o.guard=ν)(x y:Operand)(t:eG)(ho:o.op=.store t x y)
 (B:Nat) (C D:Array eD) (hx:a.eval x=π (μ ⟨B,0,ν⟩)) (hy:a.eval y=.agg D) (hb:jr w B C t) (hs:C.size=D.size) (hi:(P.info? t).map (·.size)=μ D.size) (h1:D.all (·.oneCell')=true)
 (h:wpList P ops Q rest (a.put o.dst undef) (w.setRow B D)):wpList P ops Q (o::rest) a w:=by
 refine wpList_plain Hc λK hK=> ?_;have hr:=hb.storeAt hs hi h1;unfold Oper.wp execOp;simp only[ho,fQ,fR,eR,hx,hy,hr];exact hK _ _ h
end
abbrev nj:=Nat->Nat->Int
def gC(C:nj):Array eD:=(fU 49).map λi=>ι κ (C (i/7) (i%7))
theorem pz(C:nj):(gC C).size=49:=by simp[gC]
theorem Hz(C:nj)(i:Nat)(h:i<49):(gC C)[i]? =μ (ι κ (C (i/7) (i%7))):=by simp[gC,h]
theorem yP(C:nj)(a b:Nat)(ha:a<7)(hb:b<7):(gC C)[a*7+b]? =μ (ι κ (C a b)):=by
 rw[Hz C _ eE];rw[show(a*7+b)/7=a by omega,show(a*7+b) %7=b by omega]
def xP(C:nj)(a b:Nat)(v:Int):nj:=λx y=>if x=a/\y=b then v else C x y
theorem QG(C:nj)(a b:Nat)(v:Int)(hb:b<7):(gC C).setIfInBounds (a*7+b) (ι κ v)=gC (xP C a b v):=by
 apply bV;intro i;rw[bh];by_cases hi:i<49
 ·rw[Hz _ i hi,Hz _ i hi,pz];by_cases e:a*7+b=i
  ·rw[ag e,ag eE];have h1:i/7=a:=eE;have h2:i%7=b:=eE;simp[xP,h1,h2]
  ·rw[ae e];have:¬(i/7=a/\i%7=b):=eE;simp only[xP,if_neg this]
 ·have hs:∀D:nj,(gC D)[i]? =ν:=λD=>aZ (by rw[pz];omega);rw[hs,hs];split
  ·rw[ae (by rw[pz];omega)]
  ·rfl
theorem Kj(C:nj):(gC C).all (·.oneCell')=true:=by
 rw[cg];intro v hv;obtain⟨i,_,rfl⟩:=fV.1 hv;rfl
structure HP where
 dst:Int
 far:Int
 uf:Int
def HP.zero:HP:=⟨0,0,0⟩
def HJ(H:Nat->HP)(i:Nat):eD:=ι κ (if i%3=0 then(H (i/3)).dst else if i%3=1 then(H (i/3)).far else(H (i/3)).uf)
def hC(H:Nat->HP):Array eD:=(fU 21).map (HJ H)
theorem rT(H:Nat->HP):(hC H).size=21:=by simp[hC]
theorem BW(H:Nat->HP)(i:Nat)(h:i<21):(hC H)[i]? =μ (HJ H i):=by simp[hC,h]
theorem FK(H:Nat->HP)(n:Nat)(hn:n<7):(hC H)[n*3]? =μ (ι κ (H n).dst)/\(hC H)[n*3+1]? =μ (ι κ (H n).far)/\(hC H)[n*3+2]? =μ (ι κ (H n).uf):=by
 rw[BW _ _ eE,BW _ _ eE,BW _ _ eE];unfold HJ;rw[show n*3%3=0 by omega,show n*3/3=n by omega,show(n*3+1) %3=1 by omega,show(n*3+1)/3=n by omega,show(n*3+2) %3=2 by omega,show(n*3+2)/3=n by omega];exact⟨rfl,rfl,rfl⟩
theorem QH(H:Nat->HP):(hC H).all (·.oneCell')=true:=by
 rw[cg];intro v hv;obtain⟨i,_,rfl⟩:=fV.1 hv;rfl
def BX(H:Nat->HP)(n:Nat)(p:HP):Nat->HP:=λx=>if x=n then p else H x
theorem QI(H:Nat->HP)(n:Nat)(p:HP)(hn:n<7):(((hC H).setIfInBounds (n*3) (ι κ p.dst)).setIfInBounds (n*3+1) (ι κ p.far)).setIfInBounds (n*3+2) (ι κ p.uf)=hC (BX H n p):=by
 apply bV;intro i;rw[bh,bh,bh];simp only[Array.size_setIfInBounds,rT];by_cases hi:i<21
 ·rw[BW _ i hi,BW _ i hi];unfold HJ;by_cases e:i/3=n
  ·have hu:BX H n p (i/3)=p:=by simp[BX,e]
   rw[hu];rcases(show i%3=0 \/i%3=1 \/i%3=2 by omega)with h0|h0|h0
   ·rw[ae (show¬n*3+2=i by omega),ae (show¬n*3+1=i by omega),ag (show n*3=i by omega),ag eE,ag h0]
   ·rw[ae (show¬n*3+2=i by omega),ag (show n*3+1=i by omega),ag eE,ae eE,ag h0]
   ·rw[ag (show n*3+2=i by omega),ag eE,ae eE,ae eE]
  ·have hu:BX H n p (i/3)=H (i/3):=by simp[BX,e]
   rw[hu,ae (show¬n*3+2=i by omega),ae (show¬n*3+1=i by omega),ae (show¬n*3=i by omega)]
 ·have hs:∀D:Nat->HP,(hC D)[i]? =ν:=λD=>aZ (by rw[rT];omega);rw[hs,hs,ae (show¬n*3+2=i by omega),ae (show¬n*3+1=i by omega),ae (show¬n*3=i by omega)]
theorem Mv:(fk.info? 256).map (λi=>(i.zero,i.size))=μ (μ (.agg (gC λ_ _=>0)),49):=gT
theorem Mw:(fk.info? 259).map (λi=>(i.zero,i.size))=μ (μ (.agg (hC λ_=>HP.zero)),21):=gT
theorem yQ(w:eB):(zeroValue 256).run fk w=.ok (.agg (gC λ_ _=>0)) w:=(cJ Mv).1 w
theorem H4(w:eB):(zeroValue 259).run fk w=.ok (.agg (hC λ_=>HP.zero)) w:=(cJ Mw).1 w
theorem vJ:(fk.info? 256).map (·.size)=μ 49:=(cJ Mv).2
theorem FL:(fk.info? 259).map (·.size)=μ 21:=(cJ Mw).2
structure QJ(w:eB)(a:Option Addr)(n:Nat)(L:List HP):Prop where
 len:L.length=n
 row:n=0 \/ ∃b off,a=μ ⟨b,off,ν⟩/\∀j h,L[j]? =μ h->w.cell? ⟨b,off+j*3,ν⟩=μ (ι κ h.dst)/\w.cell? ⟨b,off+j*3+1,ν⟩=μ (ι κ h.far)/\w.cell? ⟨b,off+j*3+2,ν⟩=μ (ι κ h.uf)
theorem QJ.below {w':eB} {a:Option Addr} {L:List HP} (h:QJ w a n L)(hb:eN w w'):QJ w' a n L:=by
 refine⟨h.len,?_⟩;rcases h.row with h2|⟨b,off,rfl,h2⟩
 ·exact .inl h2
 ·refine .inr ⟨b,off,rfl,λj s e=> ?_⟩;obtain⟨c1,c2,c3⟩:=h2 j s e;have l:=af w _ c1;exact⟨(hb.cell (p:=⟨b,off+j*3,ν⟩) l).trans c1,(hb.cell (p:=⟨b,off+j*3+1,ν⟩) l).trans c2,(hb.cell (p:=⟨b,off+j*3+2,ν⟩) l).trans c3⟩
structure HsN(w w':eB)(a:Option Addr)(n:Nat)(L:List HP):Prop where
 r:QJ w' a n L
 nw:∀x,a=μ x->w.heap.size<=x.block
def wR(L:List HP)(n:Int):Nat->Option Nat
 |0=>none
 |k+1=>match wR L n k with|some i=>some i|none=>(match L[k]? with|some h=>if h.dst=n then some k else none|none=>none)
def X7:Option Nat->Int
 |none=> -1
 |some i=>(i:Int)
theorem QK(pd pf px x:Int)(X:Nat)(w:eB)(hX:w.cell? ⟨X,0,ν⟩=μ (ι κ x)):
 fj fk 219 #[.agg #[ι κ pd,ι κ pf,ι κ px],π (μ ⟨X,0,ν⟩)] w λe w'=>e=ρ (.bool (pd==x))/\eN w w':=by
 have lX:X<w.heap.size:=af w _ hX;have kb:=iB w (γ #[ι κ pd,ι κ pf,ι κ px] 98);have qE:=(kb.cell (p:=⟨X,0,ν⟩) lX).trans hX
 go_in
 go_wp2
 go_ret;exact⟨rfl,kb⟩
theorem DN(a:Option Addr)(n cap:Nat)(L:List HP)(x:Int)(X:Nat)(w:eB)(h:QJ w a n L)(hn:n<=1000)(hX:w.cell? ⟨X,0,ν⟩=μ (ι κ x)):
 fj fk 218 #[σ a n cap,.func (.func 219) #[] #[π (μ ⟨X,0,ν⟩)]] w λe w'=>e=ρ (ι κ (X7 (wR L x n)))/\eN w w':=by
 go_in
 go_wp2
 go_loopw [8] (λv wr=>∃k:Nat,k<=n/\v=ι κ k/\wR L x k=ν/\eN w wr) (λv _=>n-(ft v).toNat)
 case atStart=>exact⟨0,Nat.zero_le _,rfl,rfl,au _ _⟩
 case round=>
  obtain⟨k,hk,rfl,hI,ja⟩:=hrel;have HI:Hid _:=hI;clear hI;by_cases kH:k<n
  ·have nG:(k:Int)<(n:Int):=eE;have hw:=h.below ja;have hl:=h.len;rcases hw.row with h1|⟨b,off,rfl,hc⟩
   ·omega
   have hg:L[k]? =μ (L[k]'(by omega)):=ay eE;obtain⟨c0,c1,c2⟩:=hc k _ hg;have HS:Hid (wR L x (k+1)=if(L[k]'(by omega)).dst=x then μ k else ν):=by
    show _=_;simp only[wR,HI.out,hg]
   generalize L[k]'(by omega)=p at c0 c1 c2 HS hg;obtain⟨pd,pf,px⟩:=p;simp only at c0 c1 c2 HS;have lX:X<w.heap.size:=af w _ hX;have tN:=QK pd pf px x X wr ((ja.cell (p:=⟨X,0,ν⟩) lX).trans hX);have HB:Hid _:=ja;clear hc hw hg ja;by_cases he:pd=x
   ·have Ep:(pd==x)=true:=by simpa using he
    rw[Ep]at tN;have BO:Hid (wR L x n=μ k):=by
     have mono:∀d,wR L x (k+1+d)=μ k:=by
      intro d
      induction d with
      |zero=>rw[Nat.add_zero,HS.out,ag he]
      |succ d ih=>rw[<-Nat.add_assoc];simp only[wR,ih]
     have:=mono (n-(k+1))
     rwa [show k+1+(n-(k+1))=n by omega]at this
    clear he Ep;go_wp2_with(fail);refine tN.mono ?_;rintro e w1 ⟨rfl,k1⟩;have HK:Hid _:=iA HB.out k1;clear tN k1
    go_wp2
    go_ret;exact⟨by rw[BO.out];rfl,HK.out⟩
   ·have Ep:(pd==x)=false:=by simpa using he
    rw[Ep]at tN;have BO:Hid (wR L x (k+1)=ν):=by show _=_;rw[HS.out,ae he]
    clear he Ep;go_wp2_with(fail);refine tN.mono ?_;rintro e w1 ⟨rfl,k1⟩;have HK:Hid _:=iA HB.out k1;clear tN k1
    go_wp2
    go_roundw
    case rel=>exact⟨k+1,eE,by go_num,BO.out,HK.out⟩
    case measure=>simp[ft];omega
  ·have yG:¬(k:Int)<(n:Int):=eE;have FN:k=n:=eE;have BO:Hid (wR L x n=ν):=by rw[<-FN];exact HI.out
   clear FN
   go_wp2
   go_ret;exact⟨by rw[BO.out];rfl,ja⟩
def yR(L:List HP)(n:Int):Option HP:=L.find? λh=>h.dst==n
theorem Er(L:List HP)(n:Int):∀k,k<=L.length->(match wR L n k with|some i=>i<k/\L[i]? =yR (L.take k) n/\(yR (L.take k) n).isSome=true|none=>yR (L.take k) n=none)
 |0,_=>by simp[wR,yR]
 |k+1,hk=>by
  have ih:=Er L n k eE;have ht:yR (L.take (k+1)) n=(yR (L.take k) n).or (if(L[k]'(by omega)).dst=n then μ (L[k]'(by omega))else ν):=by
   unfold yR;rw[ax eE,List.find?_append];congr 1;by_cases e:(L[k]'(by omega)).dst=n<;>simp[e]
  simp only[wR];cases hi:wR L n k with
  |some i=>
   rw[hi]at ih;obtain⟨h1,h2,h3⟩:=ih;simp only;rw[ht];cases e:yR (L.take k) n with
   |none=>rw[e]at h3;cases h3
   |some q=>rw[e]at h2;exact⟨eE,by simpa using h2,rfl⟩
  |none=>
   rw[hi]at ih;simp only at ih⊢;have hg:L[k]? =μ (L[k]'(by omega)):=ay eE;rw[ht,ih,hg];by_cases e:(L[k]'(by omega)).dst=n
   ·simp[e]
   ·simp[e]
theorem X8(a:Option Addr)(n cap:Nat)(L:List HP)(x:Int)(w:eB)(h:QJ w a n L)(hn:n<=1000):
 fj fk 199 #[σ a n cap,ι κ x] w λe w'=>e=ρ (τ #[.agg #[ι κ ((yR L x).getD HP.zero).dst,ι κ ((yR L x).getD HP.zero).far,ι κ ((yR L x).getD HP.zero).uf],.bool (yR L x).isSome])/\eN w w':=by
 obtain⟨W1,ke⟩:=gH ((w.alloc (γ #[ι κ x] 3)).alloc (γ #[ι κ 0,ι κ 0,ι κ 0] 98));have kt:eN w W1:=by rw[<-ke];exact(iB _ _).alloc iC _
 have hX:jr W1 w.heap.size #[ι κ x] 3:=by rw[<-ke];exact(jr.new w _ _).below (iB _ _)
 have hY:jr W1 (w.heap.size+1) #[ι κ 0,ι κ 0,ι κ 0] 98:=by rw[<-ke];exact jr.Hf _ _ _ _ iC
 have hif:=DN a n cap L x w.heap.size W1 (h.below kt) hn (hX.cell 0);have Mx:=Er L x L.length (Nat.le_refl _);rw[dc,h.len]at Mx;have hW:Hid _:=ke;clear ke
 go_in
 go_wp2_with(fail);rw[hW.out];refine hif.mono ?_;rintro e w2 ⟨rfl,k2⟩;have Kk:=hY.below k2;have mf:=iA kt k2;have y0:w2.cell? ⟨w.heap.size+1,0,ν⟩=μ (ι κ 0):=Kk.cell 0;have y1:w2.cell? ⟨w.heap.size+1,1,ν⟩=μ (ι κ 0):=Kk.cell 1;have y2:w2.cell? ⟨w.heap.size+1,2,ν⟩=μ (ι κ 0):=Kk.cell 2;have f0:=Kk.frozen 0;have f1:=Kk.frozen 1;have f2:=Kk.frozen 2;have lY:=Kk.lt;have UL:=h.below mf;have HY2:Hid _:=Kk;have yS:Hid _:=mf;clear hif hX hY k2 kt hW Kk mf;cases hi:wR L x n with
 |none=>
  rw[hi]at Mx;simp only at Mx;have E1:Hid ((yR L x).getD HP.zero=HP.zero):=by show _=_;rw[Mx];rfl
  have E2:Hid ((yR L x).isSome=false):=by show _=_;rw[Mx];rfl
  have hv:X7 ν= -1:=rfl;rw[hv];clear Mx UL hv;go_wp2_with(fail);refine aj (v:=τ #[.agg #[ι κ 0,ι κ 0,ι κ 0],.bool false]) (by simp[results,fW,go_sem,y0,y1,y2]) rfl ?_;exact⟨by rw[E1.out,E2.out];rfl,bq (bq (bq yS.out (by show w.heap.size<=w.heap.size+1;omega) _) (by show w.heap.size<=w.heap.size+1;omega) _) (by show w.heap.size<=w.heap.size+1;omega) _⟩
 |some i=>
  rw[hi]at Mx;obtain⟨h1,h2,h3⟩:=Mx;have lO:(i:Int)<(n:Int):=eE;have NR:¬(i:Int)<0:=eE;obtain⟨p,hp⟩:∃p,yR L x=μ p:=Option.isSome_iff_exists.1 h3;rw[hp]at h2;have E1:Hid ((yR L x).getD HP.zero=p):=by show _=_;rw[hp];rfl
  have E2:Hid ((yR L x).isSome=true):=by show _=_;rw[hp];rfl
  have hv:X7 (μ i)=(i:Int):=rfl;rw[hv];clear hv;rcases UL.row with e|⟨b,off,rfl,hc⟩
  ·omega
  obtain⟨c0,c1,c2⟩:=hc i p h2;obtain⟨pd,pf,px⟩:=p;simp only at c0 c1 c2;have jV:b≠w.heap.size+1:=by
   rcases h.row with e|⟨b',ae4,e',kS⟩
   ·omega
   ·cases e';have:=af w _ (kS i _ h2).1;simp only at this;omega
  clear h1 h2 h3 hp hc UL;go_wp2_with(fail);refine aj (v:=τ #[.agg #[ι κ pd,ι κ pf,ι κ px],.bool true]) (by simp[results,fW,go_sem,y0,y1,y2]) rfl ?_;exact⟨by rw[E1.out,E2.out],bq (bq (bq yS.out (by show w.heap.size<=w.heap.size+1;omega) _) (by show w.heap.size<=w.heap.size+1;omega) _) (by show w.heap.size<=w.heap.size+1;omega) _⟩
def yT(C:nj)(o:Nat)(es:List j2):nj:=es.foldl (λC e=>xP C o e.1.toNat e.2) C
theorem NS(C:nj)(o:Nat)(es:List j2)(k:Nat)(h:k<es.length):yT C o (es.take (k+1))=xP (yT C o (es.take k)) o (es[k].1.toNat) (es[k].2):=by
 unfold yT;rw[ax h,cY];rfl
def lP(S:Nat->SV)(E:Nat->List j2):Nat->nj
 |0=>λ_ _=>0
 |i+1=>yT (lP S E i) (S i).own.toNat (E i)
theorem NT(a:Option Addr)(n cap:Nat)(S:Nat->SV)(E:Nat->List j2)(w:eB)(h:yO w a n S E)(hn:n<=1000)(jb:∀j,j<n->pj (S j).own (S j).seq (E j)=0):
 fj fk 162 #[σ a n cap] w λe w'=>e=ρ (.agg (gC (lP S E n)))/\eN w w':=by
 have hz:=yQ;have QL:Hid _:=jb;clear jb;obtain⟨Z,hZ⟩:=gH (gC (λ_ _=>0));rw[hZ]at hz
 go_in
 go_wp2_with(fail);obtain⟨W0,nL⟩:=gH ((w.alloc (γ Z 256)).alloc (γ Z 256));have wT:eN w W0:=by rw[<-nL];exact(iB _ _).alloc iC _
 have A7:jr W0 w.heap.size Z 256:=by rw[<-nL];exact(jr.new w Z _).below (iB _ _)
 have wi:jr W0 (w.heap.size+1) (gC (lP S E 0)) 256:=by rw[<-nL];show jr _ _ (gC λ_ _=>0) _;rw[hZ];exact jr.Hf _ _ _ _ iC
 rw[nL];clear nL;obtain⟨C0,H5⟩:=gH (w.heap.size);have wy:w.heap.size<=C0:=eE;rw[H5]at A7 wi;rw[H5];clear H5
 go_loopw [10] (λv wr=>∃i:Nat,i<=n/\v=ι κ i/\jr wr (C0+1) (gC (lP S E i)) 256/\jr wr C0 Z 256/\eN w wr) (λv _=>n-(ft v).toNat)
 case atStart=>exact⟨0,Nat.zero_le _,rfl,wi,A7,wT⟩
 case round=>
  clear A7 wi wT;obtain⟨i,hi,rfl,hG,UM,ja⟩:=hrel;by_cases kH:i<n
  ·have nG:(i:Int)<(n:Int):=eE;have hw:=h.below ja;obtain⟨ho,mW,hx⟩:=hw.opt i kH;have ji:=hw.row;rcases ji with h1|⟨sb,off,rfl,hcs⟩
   ·omega
   obtain⟨c0,c1,c2⟩:=hcs i kH;have H6:=QL.out i kH;have HOW:=(h.opt i kH).1;have HT:Hid (lP S E (i+1)=yT (lP S E i) (S i).own.toNat (E i)):=rfl;obtain⟨s,hs⟩:=gH (S i);obtain⟨es,he⟩:=gH (E i);rw[hs]at c0 c1 c2 ho mW hx H6 HT HOW;rw[he]at ho H6 HT HOW;clear hs he hcs hw;obtain⟨so,sq,sa,sn,sc⟩:=s;simp only at c0 c1 c2 ho mW hx H6 HT HOW;have X9:=(jT H6).1;obtain⟨o,rfl⟩:∃o:Nat,so=(o:Int):=⟨so.toNat,eE⟩
   rw[Int.toNat_natCast]at HT;have hes:=ru _ es 0 (jT H6).2.2.2;have HES:Hid _:=hes;have HOL:=ho.1;have hsn:sn<=6:=by have:=(jT H6).2.2.1;omega
   have Ya:=ja.alloc ja.size (γ #[ι κ (o:Int),ι κ sq,σ sa sn sc] 40);have rv:=yN (o:Int) sq sa sn sc es _ hx (HOW.below Ya);have ug:Hid (jy (pj (o:Int) sq es)=η):=by show _=_;rw[H6];rfl
   rw[ug.out]at rv;have hX:=jr.new wr #[ι κ (o:Int),ι κ sq,σ sa sn sc] 40;have hG2:=hG.below (iB wr (γ #[ι κ (o:Int),ι κ sq,σ sa sn sc] 40));have hZ2:=UM.below (iB wr (γ #[ι κ (o:Int),ι κ sq,σ sa sn sc] 40));have Hba:Hid _:=Ya;have Hwl:Hid (C0+1<wr.heap.size):=hG.lt;have Hlw:Hid _:=ja.size;have HX:Hid _:=hX;have HG2:Hid _:=hG2;have HZ2:Hid _:=hZ2;clear hes H6 ja hG UM hX hG2 hZ2 ho mW hx Ya;go_wp2_with(fail);refine rv.mono ?_;rintro e w1 ⟨rfl,k1⟩;have Ms:=jr.below HX.out k1;have HG1:Hid _:=jr.below HG2.out k1;have HZ1:Hid _:=jr.below HZ2.out k1;have Hb1:Hid _:=iA Hba.out k1;obtain⟨X,JU⟩:=gH (wr.heap.size);rw[JU]at Ms;have afn:Hid (C0+1<X):=by show _<_;rw[<-JU];exact Hwl.out
   have akn:Hid (w.heap.size<=X):=by show _<=_;rw[<-JU];exact Hlw.out
   rw[JU];have x0:w1.cell? ⟨X,0,ν⟩=μ (ι κ (o:Int)):=Ms.cell 0;have x1:w1.cell? ⟨X,1,ν⟩=μ (ι κ sq):=Ms.cell 1;have x2:w1.cell? ⟨X,2,ν⟩=μ (σ sa sn sc):=Ms.cell 2;have HX1:Hid _:=Ms;clear rv k1 JU Ms HX HG2 HZ2 Hba Hwl Hlw c0 c1 c2;go_wp2_with(fail);obtain⟨W1,rfl⟩:∃W1,W1=w1:=⟨_,rfl⟩
   clear x0 x1 x2
   go_loopw [20] (λv wr=>∃k:Nat,k<=sn/\v=ι κ k/\jr wr (C0+1) (gC (yT (lP S E i) o (es.take k))) 256/\jr wr C0 Z 256/\jr wr X #[ι κ (o:Int),ι κ sq,σ sa sn sc] 40/\eN w wr) (λv _=>sn-(ft v).toNat)
   case atStart=>exact⟨0,Nat.zero_le _,rfl,HG1.out,HZ1.out,HX1.out,Hb1.out⟩
   case round=>
    clear HG1 HZ1 HX1 Hb1;obtain⟨k,hk,rfl,hG,UM,hX,ja⟩:=hrel;by_cases FN:k<sn
    ·have ako:(k:Int)<(sn:Int):=eE;have hoe:=HOW.below ja;rcases hoe.2 with h1|⟨eb,akp,rfl,hec⟩
     ·omega
     obtain⟨d0,d1⟩:=hec k eE;have H7:=HES.out _ (aE (show k<es.length by omega));have HP:Hid (yT (lP S E i) o (es.take (k+1))=xP (yT (lP S E i) o (es.take k)) o ((es[k]'(by omega)).1.toNat) ((es[k]'(by omega)).2)):=NS _ o es k eE;obtain⟨p,hp⟩:=gH (es[k]'(by omega));rw[hp]at d0 d1 H7 HP;obtain⟨pt,pm⟩:=p;simp only at d0 d1 H7 HP;obtain⟨t,rfl⟩:∃t:Nat,pt=(t:Int):=⟨pt.toNat,eE⟩
     rw[Int.toNat_natCast]at HP;obtain⟨W2,nH⟩:=gH (wr.alloc (γ #[ι κ (t:Int),ι κ pm] 123));have kb:eN wr W2:=by rw[<-nH];exact iB _ _
     have hY:jr W2 wr.heap.size #[ι κ (t:Int),ι κ pm] 123:=by rw[<-nH];exact jr.new _ _ _
     have Yb:=hG.below kb;have xG:=hX.below kb;have Hb3:Hid _:=iA ja kb;have HZ3:Hid _:=UM.below kb;have UL:Hid _:=nH;clear hec hp hoe nH;obtain⟨Y,NU⟩:=gH (wr.heap.size);have HYl:Hid (X<Y):=by show _<_;rw[<-NU];exact hX.lt
     rw[NU]at hY;have HYe:Hid _:=NU;clear NU kb hG hX UM ja;have y0:W2.drew.cell? ⟨Y,0,ν⟩=μ (ι κ (t:Int)):=hY.cell 0;have y1:W2.drew.cell? ⟨Y,1,ν⟩=μ (ι κ pm):=hY.cell 1;have z0:W2.drew.cell? ⟨X,0,ν⟩=μ (ι κ (o:Int)):=xG.cell 0;have g0:W2.drew.cell? ⟨C0+1,o*7+t,ν⟩=μ (ι κ (yT (lP S E i) o (es.take k) o t)):=(Yb.cell _).trans (yP _ o t eE eE);have g1:W2.drew.frozen? ⟨C0+1,o*7+t,ν⟩=false:=Yb.frozen _;have o7:(o:Int)<7:=eE;have t7:(t:Int)<7:=eE;have HG3:Hid _:=Yb;have HX3:Hid _:=xG;have HY3:Hid _:=hY;clear Yb xG hY H7 X9
     go_upto_region 9 with fail
     rw[UL.out,HYe.out]
     go_region
     all_goals
      go_wp2
      go_roundw
      case rel=>
       have jV:X≠C0+1:=by have:=afn.out;omega
       refine⟨k+1,eE,by go_num,?_,?_,?_,?_⟩
       ·rw[HP.out,<-QG _ o t pm eE];exact jr.set HG3.out _ _
       ·exact jr.other HZ3.out eE _
       ·exact jr.other HX3.out jV _
       ·exact below_drewN (bq Hb3.out (by show w.heap.size<=C0+1;omega) _) 1
      case measure=>simp[ft];omega
    ·have yG:¬(k:Int)<(sn:Int):=eE;have HG:Hid _:=hG;have HZ:Hid _:=UM;have HB:Hid _:=ja;clear hG UM hX ja
     go_wp2
     go_roundw
     case rel=>
      refine⟨i+1,eE,by go_num,?_,HZ.out,HB.out⟩;have e1:es.take k=es:=aK eE;rw[HT.out,<-e1];exact HG.out
     case measure=>simp[ft];omega
  ·have pw:i=n:=eE;subst pw;have yG:¬(i:Int)<(i:Int):=eE;clear kH;obtain⟨g,hg⟩:=gH (gC (lP S E i));have gs:g.size=49:=by rw[<-hg];exact pz _
   have g1:g.all (·.oneCell')=true:=by rw[<-hg];exact Kj _
   have zs:Z.size=49:=by rw[<-hZ];exact pz _
   rw[hg]at hG;have HGE:Hid (g=gC (lP S E i)):=hg.symm;have hR:jr (wr.setRow C0 g) C0 g 256:=UM.setRow;have l6:=bP (P:=fk) (wr.setRow C0 g) C0 256 256 g (0,0) _ hR bW rfl (by rw[gs];exact vJ);have HBE:Hid (eN w (wr.setRow C0 g)):=oe ja wy g;have uD:(fk.info? 256).map (·.size)=μ g.size:=by rw[gs];exact vJ
   have qI:Z.size=g.size:=by rw[gs,zs]
   clear hR hg hZ ja;go_wp2_with(first
    |refine nI _ rfl (.tmp 3) 256 rfl (C0+1) g _ _ rfl hG bW uD ?_
    |refine l8 _ rfl (.tmp 2) (.tmp 34) 256 rfl C0 Z g rfl rfl UM qI uD g1 ?_)
   refine aj (v:=.agg g) (by simp[results,Tryz.results162,asAddr,l6]) rfl ?_;exact⟨by rw[HGE.out],HBE.out⟩
theorem uE {C D:nj} (h:∀x y,x<7->y<7->C x y=D x y):gC C=gC D:=by
 apply bV;intro i;by_cases hi:i<49
 ·rw[Hz _ i hi,Hz _ i hi,h (i/7) (i%7) eE eE]
 ·rw[aZ (by rw[pz];omega),aZ (by rw[pz];omega)]
def oH(C:nj):nj:=λx y=>if 0<C y x then C x y else 0
def G4(C:nj)(a b:Nat):nj:=λx y=>if x<a \/(x=a/\y<b)then oH C x y else 0
theorem QM(C:nj)(a b:Nat):gC (G4 C a (b+1))=gC (xP (G4 C a b) a b (oH C a b)):=by
 refine uE λx y hx hy=> ?_;simp only[G4,xP];by_cases h1:x=a/\y=b
 ·rw[ag h1,ag eE,h1.1,h1.2]
 ·rw[ae h1];by_cases h2:x<a \/(x=a/\y<b)
  ·rw[ag h2,ag eE]
  ·rw[ae h2,ae eE]
theorem QN(C:nj)(a b:Nat)(h:oH C a b=0):gC (G4 C a (b+1))=gC (G4 C a b):=by
 refine uE λx y hx hy=> ?_;simp only[G4];by_cases h1:x=a/\y=b
 ·rw[ag eE,ae eE,h1.1,h1.2,h]
 ·by_cases h2:x<a \/(x=a/\y<b)
  ·rw[ag h2,ag eE]
  ·rw[ae h2,ae eE]
theorem UN(C:nj)(a:Nat):gC (G4 C a 7)=gC (G4 C (a+1) 0):=by
 refine uE λx y hx hy=> ?_;simp only[G4];by_cases h2:x<a \/(x=a/\y<7)
 ·rw[ag h2,ag eE]
 ·rw[ae h2,ae eE]
theorem QO(C:nj)(w:eB):
 fj fk 163 #[.agg (gC C)] w λe w'=>e=ρ (.agg (gC (oH C)))/\eN w w':=by
 have hz:=yQ;obtain⟨Z,hZ⟩:=gH (gC (λ_ _=>0));rw[hZ]at hz;obtain⟨c,hc⟩:=gH (gC C);rw[hc]
 go_in
 go_wp2_with(fail);obtain⟨W0,nL⟩:=gH (((w.alloc (γ c 256)).alloc (γ Z 256)).alloc (γ Z 256));have wT:eN w W0:=by rw[<-nL];exact((iB _ _).alloc iC _).alloc (by simp;omega) _
 have A7:jr W0 w.heap.size c 256:=by rw[<-nL];exact((jr.new w c _).below (iB _ _)).below (iB _ _)
 have wi:jr W0 (w.heap.size+1) Z 256:=by rw[<-nL];exact(jr.Hf _ Z _ _ iC).below (iB _ _)
 have DB:jr W0 (w.heap.size+2) (gC (G4 C 0 0)) 256:=by
  rw[<-nL];have:gC (G4 C 0 0)=Z:=by rw[<-hZ];exact uE λx y _ _=>by simp[G4]
  rw[this];exact jr.Hf _ _ _ _ iC
 rw[nL];clear nL;obtain⟨C0,H5⟩:=gH (w.heap.size);have wy:w.heap.size<=C0:=eE;rw[H5]at A7 wi DB;rw[H5];clear H5
 go_loopw [6] (λv wr=>∃a:Nat,a<=7/\v=ι κ a/\jr wr (C0+2) (gC (G4 C a 0)) 256/\jr wr C0 c 256/\jr wr (C0+1) Z 256/\eN w wr) (λv _=>7-(ft v).toNat)
 case atStart=>exact⟨0,eE,rfl,DB,A7,wi,wT⟩
 case round=>
  clear A7 wi DB wT;obtain⟨a,ha,rfl,hG,qD,My,ja⟩:=hrel;by_cases ha7:a<7
  ·have afp:(a:Int)<7:=eE;have HG:Hid _:=hG;have DP:Hid _:=qD;have Ua:Hid _:=My;have HB:Hid _:=ja;clear hG qD My ja
   go_wp2
   go_loopw [9] (λv wr=>∃b:Nat,b<=7/\v=ι κ b/\jr wr (C0+2) (gC (G4 C a b)) 256/\jr wr C0 c 256/\jr wr (C0+1) Z 256/\eN w wr) (λv _=>7-(ft v).toNat)
   case atStart=>exact⟨0,eE,rfl,HG.out,DP.out,Ua.out,HB.out⟩
   case round=>
    clear HG DP Ua HB;obtain⟨b,hb,rfl,hG,qD,My,ja⟩:=hrel;by_cases Yc:b<7
    ·have Yd:(b:Int)<7:=eE;have r1:wr.cell? ⟨C0,b*7+a,ν⟩=μ (ι κ (C b a)):=(qD.cell _).trans (by rw[<-hc];exact yP C b a Yc ha7);have r2:wr.cell? ⟨C0,a*7+b,ν⟩=μ (ι κ (C a b)):=(qD.cell _).trans (by rw[<-hc];exact yP C a b ha7 Yc);have r3:wr.cell? ⟨C0+2,a*7+b,ν⟩=μ (ι κ (G4 C a b a b)):=(hG.cell _).trans (yP _ a b ha7 Yc);have r4:=hG.frozen (a*7+b);have HG:Hid _:=hG;have DP:Hid _:=qD;have Ua:Hid _:=My;have HB:Hid _:=ja;clear hG qD My ja;by_cases sJ:0<C b a
     ·have HS:Hid (oH C a b=C a b):=by show _=_;simp[oH,sJ]
      go_wp2
      go_region
      all_goals
       go_wp2
       go_roundw
       case rel=>
        refine⟨b+1,eE,by go_num,?_,jr.other DP.out eE _,jr.other Ua.out eE _,below_drewN (bq HB.out (by show w.heap.size<=C0+2;omega) _) 1⟩;rw[QM,HS.out,<-QG _ a b _ Yc];exact jr.set HG.out _ _
       case measure=>simp[ft];omega
     ·have HS:Hid (oH C a b=0):=by show _=_;simp[oH,sJ]
      go_wp2
      go_roundw
      case rel=>exact⟨b+1,eE,by go_num,by rw[QN _ _ _ HS.out];exact HG.out,DP.out,Ua.out,HB.out⟩
      case measure=>simp[ft];omega
    ·have Yd:¬(b:Int)<7:=eE;have hbe:b=7:=eE;have HG:Hid _:=hG;have DP:Hid _:=qD;have Ua:Hid _:=My;have HB:Hid _:=ja;clear hG qD My ja
     go_wp2
     go_roundw
     case rel=>exact⟨a+1,eE,by go_num,by rw[<-UN,<-hbe];exact HG.out,DP.out,Ua.out,HB.out⟩
     case measure=>simp[ft];omega
  ·have afp:¬(a:Int)<7:=eE;have HGE:Hid (gC (G4 C a 0)=gC (oH C)):=uE λx y hx hy=>by simp only[G4];rw[ag eE]
   obtain⟨g,hg⟩:=gH (gC (G4 C a 0));have gs:g.size=49:=by rw[<-hg];exact pz _
   have g1:g.all (·.oneCell')=true:=by rw[<-hg];exact Kj _
   have zs:Z.size=49:=by rw[<-hZ];exact pz _
   rw[hg]at hG HGE;have hR:jr (wr.setRow (C0+1) g) (C0+1) g 256:=My.setRow;have l6:=bP (P:=fk) (wr.setRow (C0+1) g) (C0+1) 256 256 g (0,0) _ hR bW rfl (by rw[gs];exact vJ);have HBE:Hid (eN w (wr.setRow (C0+1) g)):=oe ja eE g;have uD:(fk.info? 256).map (·.size)=μ g.size:=by rw[gs];exact vJ
   have qI:Z.size=g.size:=by rw[gs,zs]
   clear hR hg hZ ja qD;go_wp2_with(first
    |refine nI _ rfl (.tmp 3) 256 rfl (C0+2) g _ _ rfl hG bW uD ?_
    |refine l8 _ rfl (.tmp 2) (.tmp 29) 256 rfl (C0+1) Z g rfl rfl My qI uD g1 ?_)
   refine aj (v:=.agg g) (by simp[results,Tryz.results163,asAddr,l6]) rfl ?_;exact⟨by rw[HGE.out],HBE.out⟩
theorem zQ(S:Nat->SV)(E:Nat->List j2):∀n,(∀j,j<n->pj (S j).own (S j).seq (E j)=0)->∀x y,0<=lP S E n x y/\lP S E n x y<=20
 |0,_,x,y=>by simp[lP]
 |n+1,h,x,y=>by
  have ih:=zQ S E n (λj hj=>h j eE);have hes:=ru _ (E n) 0 (jT (h n eE)).2.2.2;simp only[lP,yT];generalize E n=es at hes;generalize lP S E n=C at ih
  induction es generalizing C with
  |nil=>exact ih x y
  |cons e es ihs=>
   rw[bQ];refine ihs (λq hq=>hes q (by simp[hq])) _ (λu v=> ?_);simp only[xP];have:=hes e iC;split
   ·omega
   ·exact ih u v
def nO(C:nj)(r n:Nat):Nat->HP:=λx=>if x<n/\0<C r x then⟨x,C r x,x⟩else HP.zero
theorem BZ {H K:Nat->HP} (h:∀x,x<7->H x=K x):hC H=hC K:=by
 apply bV;intro i;by_cases hi:i<21
 ·rw[BW _ i hi,BW _ i hi];unfold HJ;rw[h (i/3) eE]
 ·rw[aZ (by rw[rT];omega),aZ (by rw[rT];omega)]
theorem Kl(C:nj)(r n:Nat)(h:0<C r n):hC (nO C r (n+1))=hC (BX (nO C r n) n ⟨n,C r n,n⟩):=by
 refine BZ λx hx=> ?_;simp only[nO,BX];by_cases e:x=n
 ·subst e;rw[ag ⟨eE,h⟩,ag rfl]
 ·rw[ae e];by_cases h2:x<n/\0<C r x
  ·rw[ag h2,ag ⟨eE,h2.2⟩]
  ·rw[ae h2,ae (λe2=>h2 ⟨eE,e2.2⟩)]
theorem NV(C:nj)(r n:Nat)(h:¬0<C r n):hC (nO C r (n+1))=hC (nO C r n):=by
 refine BZ λx hx=> ?_;simp only[nO];by_cases e:x=n
 ·subst e;rw[ae (λe2=>h e2.2),ae (λe2=>h e2.2)]
 ·by_cases h2:x<n/\0<C r x
  ·rw[ag h2,ag ⟨eE,h2.2⟩]
  ·rw[ae h2,ae (λe2=>h2 ⟨eE,e2.2⟩)]
theorem NW(C:nj)(r:Nat)(hr:r<7)(w:eB):
 fj fk 164 #[.agg (gC C),ι κ (r:Int)] w λe w'=>e=ρ (.agg (hC (nO C r 7)))/\eN w w':=by
 have hz:=H4;obtain⟨Z,hZ⟩:=gH (hC (λ_=>HP.zero));rw[hZ]at hz;obtain⟨c,hc⟩:=gH (gC C);rw[hc];have hr7:(r:Int)<7:=eE
 go_in
 go_wp2_with(fail);obtain⟨W0,nL⟩:=gH (((w.alloc (γ c 256)).alloc (γ Z 259)).alloc (γ Z 259));have wT:eN w W0:=by rw[<-nL];exact((iB _ _).alloc iC _).alloc (by simp;omega) _
 have A7:jr W0 w.heap.size c 256:=by rw[<-nL];exact((jr.new w c _).below (iB _ _)).below (iB _ _)
 have wi:jr W0 (w.heap.size+1) Z 259:=by rw[<-nL];exact(jr.Hf _ Z _ _ iC).below (iB _ _)
 have DB:jr W0 (w.heap.size+2) (hC (nO C r 0)) 259:=by
  rw[<-nL];have:hC (nO C r 0)=Z:=by rw[<-hZ];exact BZ λx _=>by simp[nO]
  rw[this];exact jr.Hf _ _ _ _ iC
 rw[nL];clear nL;obtain⟨C0,H5⟩:=gH (w.heap.size);have wy:w.heap.size<=C0:=eE;rw[H5]at A7 wi DB;rw[H5];clear H5
 go_loopw [8] (λv wr=>∃n:Nat,n<=7/\v=ι κ n/\jr wr (C0+2) (hC (nO C r n)) 259/\jr wr C0 c 256/\jr wr (C0+1) Z 259/\eN w wr) (λv _=>7-(ft v).toNat)
 case atStart=>exact⟨0,eE,rfl,DB,A7,wi,wT⟩
 case round=>
  clear A7 wi DB wT;obtain⟨n,hn,rfl,hG,qD,My,ja⟩:=hrel;by_cases UO:n<7
  ·have QP:(n:Int)<7:=eE;have r1:wr.cell? ⟨C0,r*7+n,ν⟩=μ (ι κ (C r n)):=(qD.cell _).trans (by rw[<-hc];exact yP C r n hr UO);obtain⟨q0,q1,q2⟩:=FK (nO C r n) n UO;have s0:=(hG.cell (n*3)).trans q0;have s1:=(hG.cell (n*3+1)).trans q1;have s2:=(hG.cell (n*3+2)).trans q2;have f0:=hG.frozen (n*3);have f1:=hG.frozen (n*3+1);have f2:=hG.frozen (n*3+2);have lG:=hG.lt;have HG:Hid _:=hG;have DP:Hid _:=qD;have Ua:Hid _:=My;have HB:Hid _:=ja;clear hG qD My ja q0 q1 q2;have HY:=Kl C r n;have HN:=NV C r n;have HYy:Hid _:=HY;have HNn:Hid _:=HN;clear HY HN;by_cases sJ:0<C r n
   ·go_wp2
    go_roundw
    case rel=>
     refine⟨n+1,eE,by go_num,?_,jr.other (jr.other (jr.other DP.out eE _) eE _) eE _,jr.other (jr.other (jr.other Ua.out eE _) eE _) eE _,bq (bq (bq HB.out (by show w.heap.size<=C0+2;omega) _) (by show w.heap.size<=C0+2;omega) _) (by show w.heap.size<=C0+2;omega) _⟩;rw[HYy.out sJ,<-QI _ n _ UO];exact jr.set (jr.set (jr.set HG.out _ _) _ _) _ _
    case measure=>simp[ft];omega
   ·go_wp2
    go_roundw
    case rel=>exact⟨n+1,eE,by go_num,by rw[HNn.out sJ];exact HG.out,DP.out,Ua.out,HB.out⟩
    case measure=>simp[ft];omega
  ·have QP:¬(n:Int)<7:=eE;have jV:n=7:=eE;obtain⟨g,hg⟩:=gH (hC (nO C r n));have gs:g.size=21:=by rw[<-hg];exact rT _
   have g1:g.all (·.oneCell')=true:=by rw[<-hg];exact QH _
   have zs:Z.size=21:=by rw[<-hZ];exact rT _
   have HGE:Hid (g=hC (nO C r 7)):=by show _=_;rw[<-hg,jV]
   rw[hg]at hG;have hR:jr (wr.setRow (C0+1) g) (C0+1) g 259:=My.setRow;have l6:=bP (P:=fk) (wr.setRow (C0+1) g) (C0+1) 259 259 g (0,0) _ hR fX rfl (by rw[gs];exact FL);have HBE:Hid (eN w (wr.setRow (C0+1) g)):=oe ja eE g;have uD:(fk.info? 259).map (·.size)=μ g.size:=by rw[gs];exact FL
   have qI:Z.size=g.size:=by rw[gs,zs]
   clear hR hg hZ ja qD jV;go_wp2_with(first
    |refine nI _ rfl (.tmp 5) 259 rfl (C0+2) g _ _ rfl hG fX uD ?_
    |refine l8 _ rfl (.tmp 4) (.tmp 25) 259 rfl (C0+1) Z g rfl rfl My qI uD g1 ?_)
   refine aj (v:=.agg g) (by simp[results,Tryz.results164,asAddr,l6]) rfl ?_;exact⟨by rw[HGE.out],HBE.out⟩
def FO(a b:HP):Bool:=b.far==0||decide (a.far<b.far)||(a.far==b.far&&decide (a.uf<b.uf))
theorem H8(a b:HP)(w:eB):
 fj fk 205 #[.agg #[ι κ a.dst,ι κ a.far,ι κ a.uf],.agg #[ι κ b.dst,ι κ b.far,ι κ b.uf]] w λe w'=>e=ρ (.bool (FO a b))/\eN w w':=by
 obtain⟨a0,a1,a2⟩:=a;obtain⟨b0,b1,b2⟩:=b;simp only;have wT:eN w ((w.alloc (γ #[ι κ a0,ι κ a1,ι κ a2] 98)).alloc (γ #[ι κ b0,ι κ b1,ι κ b2] 98)):=(iB _ _).alloc iC _;have HV:Hid (FO ⟨a0,a1,a2⟩ ⟨b0,b1,b2⟩=(b1==0||decide (a1<b1)||(a1==b1&&decide (a2<b2)))):=rfl;by_cases h0:(b1==0)=true
 ·have QQ:Hid (FO ⟨a0,a1,a2⟩ ⟨b0,b1,b2⟩=true):=by show _=_;rw[HV.out,h0];rfl
  go_in
  go_wp2_with(fail);rw[QQ.out];go_ret;exact⟨rfl,wT⟩
 have h0':(b1==0)=false:=by simpa using h0
 by_cases h1:a1<b1
 ·have QQ:Hid (FO ⟨a0,a1,a2⟩ ⟨b0,b1,b2⟩=true):=by show _=_;rw[HV.out,du h1];simp
  go_in
  go_wp2_with(fail);rw[QQ.out];go_ret;exact⟨rfl,wT⟩
 by_cases h2:(a1==b1)=true
 ·have QQ:Hid (FO ⟨a0,a1,a2⟩ ⟨b0,b1,b2⟩=decide (a2<b2)):=by show _=_;rw[HV.out,h0',bG h1,h2];simp
  rw[QQ.out]
  go_in
  go_wp2
  go_ret;exact⟨rfl,wT⟩
 have yU:(a1==b1)=false:=by simpa using h2
 have QQ:Hid (FO ⟨a0,a1,a2⟩ ⟨b0,b1,b2⟩=false):=by show _=_;rw[HV.out,h0',bG h1,yU];simp
 go_in
 go_wp2_with(fail);rw[QQ.out];go_ret;exact⟨rfl,wT⟩
end Go.Proofs.YtieklnlbljejdaaGreatDoor
