import Derived.Test.YtieklnlbljejdaaGreatDoorV02
open Go.Value renaming int → ι, slice → σ, pointer → π, tuple → τ, nilIface → η, ownBlock → fD
open Go.IntKind renaming i64 → κ
open Go.Ending renaming returned → ρ
open Go.Obj renaming cells → γ
open Option renaming none → ν, some → μ
open Go renaming World → fA, Value → fB, TypeId → fE, Operand → iN, execOp → iO, Addr → fq, Calls → gb
open Go.World renaming setRow → iG
open Go.Instr renaming loadAt → iH, sureAddr → iI, storeAt → iM
open Go.Sem renaming run_bind → iJ, run_pure → iK
open Go.Result renaming andThen → iL, andThen_ok → fL
open Go.Oper renaming wp → fK
open Array renaming range → iP, mem_map → iQ
open Go.Proofs.Tryz renaming prog → gg
open Go.RowKit renaming intOf → gj
open List renaming range → gw, length_append → fT, length_cons → fU
open Go.Region renaming noSelect → iR, free → iT, ready → iU, wanted → fR
open Bool renaming false_eq_true → iW
set_option maxRecDepth 100000
set_option maxHeartbeats 8000000
set_option linter.defProp false
open Go.Proofs.Tryz
namespace Go.Proofs.YtieklnlbljejdaaGreatDoor
open Go.RowKit St
variable {B b n:Nat} {Q:Exit->Act->World->Prop} {a w:World} {f:Int->Option SV} {m:FM} {o:Oper} {ops:Array Oper}
def j2.setRow {w:fA} {B:Nat} {C D:Array fB} {t:fE} (h:j2 w B C t):j2 (w.setRow B D) B D t:=by
 unfold j2 at*;simp only[iG];rw[de,ag rfl,h];rfl
def qD(h:Below n w a)(hB:n<=B)(D:Array fB):Below n w (a.setRow B D):=by
 refine⟨h.os,h.tape,h.output,by simpa[iG]using h.size,λi hi=> ?_⟩;rw[<-h.block i hi];simp only[iG];rw[de,af fC]
def j2.WU {B':Nat} {C D:Array fB} {t:fE} (h:j2 w B C t)(Z:B≠B'):j2 (w.setRow B' D) B C t:=by
 unfold j2 at*;simp only[iG];rw[de,af (λe=>Z e.symm)];exact h
section
variable {P:Program}
def j2.loadAt {w:fA} {B:Nat} {C:Array fB} {t:fE} (h:j2 w B C t)(n:Nat)(e:fE)(hu:P.underlying t=μ (.array n e))(hi:(P.info? t).map (·.size)=μ C.size):(iH t (π (μ ⟨B,0,ν⟩))).run P w=.ok (.agg C) w:=by
 simp only[iH,iI,iJ,iK,iL];exact cA w B t t C (0,0) _ h hu rfl hi
def j2.storeAt {w:fA} {B:Nat} {C D:Array fB} {t:fE} (h:j2 w B C t)(hs:C.size=D.size)(hi:(P.info? t).map (·.size)=μ D.size)(Z:D.all (·.oneCell')=true):(iM t (π (μ ⟨B,0,ν⟩)) (.agg D)).run P w=.ok () (w.setRow B D):=by
 simp only[iM,iI,iJ,iK,iL];exact run_storeVar_row w B t t C D h hi hs Z
def ng(w:fA) {rest:List Oper} {a:Act} (Z:o.guard=ν)(x:iN)(t:fE)(V:o.op=.load t x)
 (B:Nat) (C:Array fB) (n:Nat) (e:fE) (hx:a.eval x=π (μ ⟨B,0,ν⟩)) (X:j2 w B C t) (hu:P.underlying t=μ (.array n e)) (hi:(P.info? t).map (·.size)=μ C.size)
 (h:wpList P ops Q rest (a.put o.dst (.agg C)) w):wpList P ops Q (o::rest) a w:=by
  refine wpList_plain Z λK Y=> ?_;have U:=X.loadAt n e hu hi;unfold fK iO;simp only[V,iJ,iK,fL,hx,U];exact Y _ _ h
def oc(w:fA) {rest:List Oper} {a:Act} (Z:o.guard=ν)(x y:iN)(t:fE)(U:o.op=.store t x y)
 (B:Nat) (C D:Array fB) (hx:a.eval x=π (μ ⟨B,0,ν⟩)) (hy:a.eval y=.agg D) (V:j2 w B C t) (hs:C.size=D.size) (hi:(P.info? t).map (·.size)=μ D.size) (Y:D.all (·.oneCell')=true)
 (h:wpList P ops Q rest (a.put o.dst undef) (w.setRow B D)):wpList P ops Q (o::rest) a w:=by
  refine wpList_plain Z λK X=> ?_;have T:=V.storeAt hs hi Y;unfold fK iO;simp only[U,iJ,iK,fL,hx,hy,T];exact X _ _ h
end
abbrev l8:=Nat->Nat->Int
def gC(C:l8):Array fB:=(iP 49).map λi=>ι κ (C (i/7) (i%7))
def rW(C:l8):(gC C).size=49:=by simp[gC]
def MD(C:l8)(i:Nat)(h:i<49):(gC C)[i]? =μ (ι κ (C (i/7) (i%7))):=by simp[gC,h]
def Cq(C:l8)(a b:Nat)(ha:a<7)(hb:b<7):(gC C)[a*7+b]? =μ (ι κ (C a b)):=by
 rw[MD C _ fC];rw[show(a*7+b)/7=a by omega,show(a*7+b) %7=b by omega]
def vP(C:l8)(a b:Nat)(v:Int):l8:=λx y=>if x=a/\y=b then v else C x y
def WV(C:l8)(a b:Nat)(v:Int)(hb:b<7):(gC C).setIfInBounds (a*7+b) (ι κ v)=gC (vP C a b v):=by
 apply cu;intro i;rw[bH];by_cases hi:i<49;{rw[MD _ i hi,MD _ i hi,rW];by_cases e:a*7+b=i;{rw[ag e,ag fC];have Z:i/7=a:=fC;have Y:i%7=b:=fC;simp[vP,Z,Y]};rw[af e];have:¬(i/7=a/\i%7=b):=fC;simp only[vP,if_neg this]};have hs:∀D:l8,(gC D)[i]? =ν:=λD=>bD (by rw[rW];omega);rw[hs,hs];split;{rw[af (by rw[rW];omega)]};rfl
def Pc(C:l8):(gC C).all (·.oneCell')=true:=by
 rw[cL];intro v hv;obtain⟨i,_,rfl⟩:=iQ.1 hv;rfl
structure HP where
 dst:Int
 far:Int
 qT:Int
def HP.zero:HP:=⟨0,0,0⟩
def ME(H:Nat->HP)(i:Nat):fB:=ι κ (if i%3=0 then(H (i/3)).dst else if i%3=1 then(H (i/3)).far else(H (i/3)).qT)
def hC(H:Nat->HP):Array fB:=(iP 21).map (ME H)
def vD(H:Nat->HP):(hC H).size=21:=by simp[hC]
def FU(H:Nat->HP)(i:Nat)(h:i<21):(hC H)[i]? =μ (ME H i):=by simp[hC,h]
def Cr(H:Nat->HP)(n:Nat)(hn:n<7):(hC H)[n*3]? =μ (ι κ (H n).dst)/\(hC H)[n*3+1]? =μ (ι κ (H n).far)/\(hC H)[n*3+2]? =μ (ι κ (H n).qT):=by
 rw[FU _ _ fC,FU _ _ fC,FU _ _ fC];unfold ME;rw[show n*3%3=0 by omega,show n*3/3=n by omega,show(n*3+1) %3=1 by omega,show(n*3+1)/3=n by omega,show(n*3+2) %3=2 by omega,show(n*3+2)/3=n by omega];exact⟨rfl,rfl,rfl⟩
def WW(H:Nat->HP):(hC H).all (·.oneCell')=true:=by
 rw[cL];intro v hv;obtain⟨i,_,rfl⟩:=iQ.1 hv;rfl
def tL(H:Nat->HP)(n:Nat)(p:HP):Nat->HP:=λx=>if x=n then p else H x
def Kz(H:Nat->HP)(n:Nat)(p:HP)(hn:n<7):(((hC H).setIfInBounds (n*3) (ι κ p.dst)).setIfInBounds (n*3+1) (ι κ p.far)).setIfInBounds (n*3+2) (ι κ p.qT)=hC (tL H n p):=by
 apply cu;intro i;rw[bH,bH,bH];simp only[Array.size_setIfInBounds,vD];by_cases hi:i<21
 ·rw[FU _ i hi,FU _ i hi];unfold ME;by_cases e:i/3=n
  ·have hu:tL H n p (i/3)=p:=by simp[tL,e]
   rw[hu];obtain Z|Z|Z:i%3=0 \/i%3=1 \/i%3=2:=fC;{rw[af (show¬n*3+2=i by omega),af (show¬n*3+1=i by omega),ag (show n*3=i by omega),ag fC,ag Z]};{rw[af (show¬n*3+2=i by omega),ag (show n*3+1=i by omega),ag fC,af fC,ag Z]};rw[ag (show n*3+2=i by omega),ag fC,af fC,af fC]
  have hu:tL H n p (i/3)=H (i/3):=by simp[tL,e]
  rw[hu,af (show¬n*3+2=i by omega),af (show¬n*3+1=i by omega),af (show¬n*3=i by omega)]
 have hs:∀D:Nat->HP,(hC D)[i]? =ν:=λD=>bD (by rw[vD];omega);rw[hs,hs,af (show¬n*3+2=i by omega),af (show¬n*3+1=i by omega),af (show¬n*3=i by omega)]
def Rf:(gg.info? 256).map (λi=>(i.zero,i.size))=μ (μ (.agg (gC λ_ _=>0)),49):=iV
def Rh:(gg.info? 259).map (λi=>(i.zero,i.size))=μ (μ (.agg (hC λ_=>HP.zero)),21):=iV
def Ct(w:fA):(zeroValue 256).run gg w=.ok (.agg (gC λ_ _=>0)) w:=(cz Rf).1 w
def MF(w:fA):(zeroValue 259).run gg w=.ok (.agg (hC λ_=>HP.zero)) w:=(cz Rh).1 w
def yU:(gg.info? 256).map (·.size)=μ 49:=(cz Rf).2
def KA:(gg.info? 259).map (·.size)=μ 21:=(cz Rh).2
open Go.ChangeMaps Go.MapKept
def zOf:fB->Int
 | .int _ z=>z
 |_=>0
def SMap.ahq(h:SMap w b n f)(hf:∀k,vm k->(f k).isSome=true->1<=k/\k<=6):SMap w b 6 f:=by
 obtain⟨D,⟨es,clock,E,F,hs,H⟩,hat⟩:=h.own;refine⟨⟨D,⟨es,clock,E,F,?_,H⟩,hat⟩⟩
 have M:∀x∈es.toList,∃z:Int,x.key=.int .i64 z/\1<=z/\z<=6:=by
  intro x hx;obtain⟨y,hy⟩:=F.reads x hx;have A:=WideElems.rd_key hy;obtain⟨z,T,hl,U⟩:=cT underlying3 A;have G:=Ci U;refine⟨z,T,hf z G ?_⟩;cases e:f z with|some _=>rfl|none=>have J:=hat z G;rw[e]at J;have X:=eO J;rw[H,Maps.has_eq]at X;have tW:y∈(es.toList.map (WideElems.rg gg 3 vy)).foldr DataW.insert [] :=(Go.WideShapes.sorted_perm _).mem_iff.2 (bX.2 ⟨x,hx,WideElems.rg_of hy⟩);have:=List.any_eq_false.1 X y tW;rw[hl]at this;simp[tJ]at this
 have V:=((stamped_iff es clock).1 F.stamped).2.2;have Z:=wT (es.toList.map (λx=>zOf x.key)) [1,2,3,4,5,6] (by
  rw[dZ];refine V.imp_of_mem ?_;intro x y hx hy u e;obtain⟨a,Y,_⟩:=M x hx;obtain⟨c,hc,_⟩:=M y hy;rw[Y,hc]at e;simp only[zOf]at e;exact u (by rw[Y,hc,e])) (λz T=>by
  obtain⟨x,hx,rfl⟩:=bX.1 T;obtain⟨a,Y,X,h2⟩:=M x hx;rw[Y];simp only[zOf];simp;omega)
 simpa using Z
def Tie.range {F:Int->Option PS} (h:Tie w m f F):∀k,vm k->(f k).isSome=true->1<=k/\k<=6:=by
 intro k Z hs;cases e:F k with|none=>rw[h.A8 Z e]at hs;cases hs|some q=>obtain⟨s,_,Y⟩:=h.wU Z e;exact(kD Y.ok).1
def BR.six {K:Int->Option PS} {O:Nat->Int->Option PS} (h:BR w B m n K O):BR w B m 6 K O:=by
 obtain⟨kn,ow,hF,Y,Z⟩:=h.ex;exact⟨⟨kn,ow,⟨hF.pT,hF.row,hF.km.ahq Y.range,λi b e=>(hF.om i b e).ahq (Z i (aT.1 e).1).range,hF.few,hF.nB,hF.nd⟩,Y,Z⟩,h.S0⟩
def BR.avoid(h:BR w B m n (λ_=>ν) (λ_ _=>ν))(no:Nat->Prop)(V:∀j,no j->j<w.heap.size):BR w B {m with no:=no} n (λ_=>ν) (λ_ _=>ν):=by
 obtain⟨kn,ow,hF,X,Y⟩:=h.ex;exact⟨⟨kn,ow,⟨hF.pT,hF.row,hF.km,hF.om,hF.few,hF.nB,hF.nd⟩,λk Z=>X k Z,λi hi k Z=>Y i hi k Z⟩,V⟩
def Still(a b:fA):Prop:=∀(j:Nat) (C:Array fB) (t:fE) (fr:Nat×Nat),a.heap[j]? =μ (Obj.cells C t fr)->b.heap[j]? =a.heap[j]?
structure Ti(w:fA)(a:Option fq)(n:Nat)(L:List HP):Prop where
 len:L.length=n
 row:n=0 \/ ∃b off,a=μ ⟨b,off,ν⟩/\∀j h,L[j]? =μ h->w.cell? ⟨b,off+j*3,ν⟩=μ (ι κ h.dst)/\w.cell? ⟨b,off+j*3+1,ν⟩=μ (ι κ h.far)/\w.cell? ⟨b,off+j*3+2,ν⟩=μ (ι κ h.qT)
def Ti.below {w':fA} {a:Option fq} {L:List HP} (h:Ti w a n L)(Y:fP w w'):Ti w' a n L:=by
 refine⟨h.len,?_⟩;obtain Z|⟨b,off,rfl,Z⟩:=h.row;{exact .inl Z};refine .inr ⟨b,off,rfl,λj s e=> ?_⟩;obtain⟨c1,c2,c3⟩:=Z j s e;have l:=ai w _ c1;exact⟨(Y.cell (p:=⟨b,off+j*3,ν⟩) l).trans c1,(Y.cell (p:=⟨b,off+j*3+1,ν⟩) l).trans c2,(Y.cell (p:=⟨b,off+j*3+2,ν⟩) l).trans c3⟩
structure HsN(w w':fA)(a:Option fq)(n:Nat)(L:List HP):Prop where
 r:Ti w' a n L
 nw:∀x,a=μ x->w.heap.size<=x.block
def Af(L:List HP)(n:Int):Nat->Option Nat
 |0=>none
 |k+1=>match Af L n k with|some i=>some i|none=>(match L[k]? with|some h=>if h.dst=n then some k else none|none=>none)
def aee:Option Nat->Int
 |none=> -1
 |some i=>(i:Int)
def WX(pd pf V x:Int)(X:Nat)(w:fA)(Z:w.cell? ⟨X,0,ν⟩=μ (ι κ x)):
 gb gg 219 #[.agg #[ι κ pd,ι κ pf,ι κ V],π (μ ⟨X,0,ν⟩)] w λe w'=>e=ρ (.bool (pd==x))/\fP w w':=by
  have U:X<w.heap.size:=ai w _ Z;have Y:=gu w (γ #[ι κ pd,ι κ pf,ι κ V] 98);have tV:=(Y.cell (p:=⟨X,0,ν⟩) U).trans Z;go_in;go_wp2;go_ret;exact⟨rfl,Y⟩
def Ip(a:Option fq)(n cap:Nat)(L:List HP)(x:Int)(X:Nat)(w:fA)(h:Ti w a n L)(hn:n<=1000)(y:w.cell? ⟨X,0,ν⟩=μ (ι κ x)):
 gb gg 218 #[σ a n cap,.func (.func 219) #[] #[π (μ ⟨X,0,ν⟩)]] w λe w'=>e=ρ (ι κ (aee (Af L x n)))/\fP w w':=by
  go_in;go_wp2;go_loopw [8] (λv wr=>∃k:Nat,k<=n/\v=ι κ k/\Af L x k=ν/\fP w wr) (λv _=>n-(gj v).toNat);(case atStart=>exact⟨0,aw _,rfl,rfl,aC _ _⟩)
  case round=>
   obtain⟨k,hk,rfl,A,T⟩:=hrel;have D:Hid _:=A;clear A;by_cases lZ:k<n
   ·have pE:(k:Int)<(n:Int):=fC;have hw:=h.below T;have hl:=h.len;obtain h1|⟨b,off,rfl,hc⟩:=hw.row;{omega};have J:L[k]? =μ (L[k]'(by omega)):=aB fC;obtain⟨c0,c1,c2⟩:=hc k _ J
    have M:Hid (Af L x (k+1)=if(L[k]'(by omega)).dst=x then μ k else ν):=by
     show _=_;simp only[Af,D.out,J]
    generalize L[k]'(by omega)=p at c0 c1 c2 M J;obtain⟨pd,pf,px⟩:=p;simp only at c0 c1 c2 M;have u:X<w.heap.size:=ai w _ y;have Y:=WX pd pf px x X wr ((T.cell (p:=⟨X,0,ν⟩) u).trans y);have E:Hid _:=T;clear hc hw J T;by_cases Z:pd=x
    ·have U:(pd==x)=true:=by simpa using Z
     rw[U]at Y
     have V:Hid (Af L x n=μ k):=by
      have mono:∀d,Af L x (k+1+d)=μ k:=by
       intro d;induction d with|zero=>rw[dK,M.out,ag Z]|succ d ih=>rw[<-bP];simp only[Af,ih]
      have:=mono (n-(k+1))
      rwa [show k+1+(n-(k+1))=n by omega]at this
     clear Z U;go_wp2_with fail;refine Y.mono ?_;rintro e w1 ⟨rfl,k1⟩;have H:Hid _:=fQ E.out k1;clear Y k1;go_wp2;go_ret;exact⟨by rw[V.out];rfl,H.out⟩
    have U:(pd==x)=false:=by simpa using Z
    rw[U]at Y;have V:Hid (Af L x (k+1)=ν):=by show _=_;rw[M.out,af Z]
    clear Z U;go_wp2_with fail;refine Y.mono ?_;rintro e w1 ⟨rfl,k1⟩;have H:Hid _:=fQ E.out k1;clear Y k1;go_wp2;go_roundw;(case rel=>exact⟨k+1,fC,by go_num,V.out,H.out⟩);case measure=>simp[gj];omega
   have zD:¬(k:Int)<(n:Int):=fC;have G:k=n:=fC;have V:Hid (Af L x n=ν):=by rw[<-G];exact D.out
   clear G;go_wp2;go_ret;exact⟨by rw[V.out];rfl,T⟩
def ye(L:List HP)(n:Int):Option HP:=L.find? λh=>h.dst==n
def Jh(L:List HP)(n:Int):∀k≤L.length,(match Af L n k with|some i=>i<k/\L[i]? =ye (L.take k) n/\(ye (L.take k) n).isSome=true|none=>ye (L.take k) n=none)
 |0,_=>by simp[Af,ye]
 |k+1,hk=>by
  have ih:=Jh L n k fC;have X:ye (L.take (k+1)) n=(ye (L.take k) n).or (if(L[k]'(by omega)).dst=n then μ (L[k]'(by omega))else ν):=by
   unfold ye;rw[aJ fC,List.find?_append];congr 1;by_cases e:(L[k]'(by omega)).dst=n<;>simp[e]
  simp only[Af];cases hi:Af L n k with
  |some i=>
   rw[hi]at ih;obtain⟨h1,Z,Y⟩:=ih;simp only;rw[X];cases e:ye (L.take k) n with
   |none=>rw[e]at Y;cases Y
   |some q=>rw[e]at Z;exact⟨fC,by simpa using Z,rfl⟩
  |none=>
   rw[hi]at ih;simp only at ih⊢;have V:L[k]? =μ (L[k]'(by omega)):=aB fC;rw[X,ih,V];by_cases e:(L[k]'(by omega)).dst=n;{simp[e]};{simp[e]}
def aef(a:Option fq)(n cap:Nat)(L:List HP)(x:Int)(w:fA)(h:Ti w a n L)(hn:n<=1000):
 gb gg 199 #[σ a n cap,ι κ x] w λe w'=>e=ρ (τ #[.agg #[ι κ ((ye L x).getD HP.zero).dst,ι κ ((ye L x).getD HP.zero).far,ι κ ((ye L x).getD HP.zero).qT],.bool (ye L x).isSome])/\fP w w':=by
  obtain⟨U,V⟩:=fH ((w.alloc (γ #[ι κ x] 3)).alloc (γ #[ι κ 0,ι κ 0,ι κ 0] 98));have E:fP w U:=by rw[<-V];exact(gu _ _).alloc gZ _
  have hX:j2 U w.heap.size #[ι κ x] 3:=by rw[<-V];exact(j2.new w _ _).below (gu _ _)
  have hY:j2 U (w.heap.size+1) #[ι κ 0,ι κ 0,ι κ 0] 98:=by rw[<-V];exact j2.Ib _ _ _ _ gZ
  have X:=Ip a n cap L x w.heap.size U (h.below E) hn (hX.cell 0);have Y:=Jh L x L.length (aj _);rw[cM,h.len]at Y;have u:Hid _:=V;clear V;go_in;go_wp2_with fail;rw[u.out];refine X.mono ?_;rintro e A ⟨rfl,k2⟩;have Z:=hY.below k2;have D:=fQ E k2;have y0:A.cell? ⟨w.heap.size+1,0,ν⟩=μ (ι κ 0):=Z.cell 0;have y1:A.cell? ⟨w.heap.size+1,1,ν⟩=μ (ι κ 0):=Z.cell 1;have y2:A.cell? ⟨w.heap.size+1,2,ν⟩=μ (ι κ 0):=Z.cell 2;have f0:=Z.frozen 0;have f1:=Z.frozen 1;have f2:=Z.frozen 2;have lY:=Z.lt;have G:=h.below D;have HY2:Hid _:=Z;have yV:Hid _:=D;clear X hX hY k2 E u Z D;cases hi:Af L x n with
  |none=>
   rw[hi]at Y;simp only at Y;have J:Hid ((ye L x).getD HP.zero=HP.zero):=by show _=_;rw[Y];rfl
   have H:Hid ((ye L x).isSome=false):=by show _=_;rw[Y];rfl
   have hv:aee ν= -1:=rfl;rw[hv];clear Y G hv;go_wp2_with fail;refine aN (v:=τ #[.agg #[ι κ 0,ι κ 0,ι κ 0],.bool false]) (by simp[results,results199,go_sem,y0,y1,y2]) rfl ?_;exact⟨by rw[J.out,H.out];rfl,bO (bO (bO yV.out (by show w.heap.size<=w.heap.size+1;omega) _) (by show w.heap.size<=w.heap.size+1;omega) _) (by show w.heap.size<=w.heap.size+1;omega) _⟩
  |some i=>
   rw[hi]at Y;obtain⟨h1,T,y⟩:=Y;have mR:(i:Int)<(n:Int):=fC;have KB:¬(i:Int)<0:=fC;obtain⟨p,M⟩:∃p,ye L x=μ p:=cK.1 y;rw[M]at T;have J:Hid ((ye L x).getD HP.zero=p):=by show _=_;rw[M];rfl
   have H:Hid ((ye L x).isSome=true):=by show _=_;rw[M];rfl
   have hv:aee (μ i)=(i:Int):=rfl;rw[hv];clear hv;obtain e|⟨b,off,rfl,hc⟩:=G.row;{omega}
   obtain⟨c0,c1,c2⟩:=hc i p T;obtain⟨pd,pf,px⟩:=p;simp only at c0 c1 c2;have kf:b≠w.heap.size+1:=by
    obtain e|⟨b',alx,e',kY⟩:=h.row;{omega};{cases e';have:=ai w _ (kY i _ T).1;simp only at this;omega}
   clear h1 T y M hc G;go_wp2_with fail;refine aN (v:=τ #[.agg #[ι κ pd,ι κ pf,ι κ px],.bool true]) (by simp[results,results199,go_sem,y0,y1,y2]) rfl ?_;exact⟨by rw[J.out,H.out],bO (bO (bO yV.out (by show w.heap.size<=w.heap.size+1;omega) _) (by show w.heap.size<=w.heap.size+1;omega) _) (by show w.heap.size<=w.heap.size+1;omega) _⟩
def oS(C:l8)(o:Nat)(es:List kS):l8:=es.foldl (λC e=>vP C o e.1.toNat e.2) C
def Ji(C:l8)(o:Nat)(es:List kS)(k:Nat)(h:k<es.length):oS C o (es.take (k+1))=vP (oS C o (es.take k)) o (es[k].1.toNat) (es[k].2):=by
 unfold oS;rw[aJ h,dE];rfl
def ln(S:Nat->SV)(E:Nat->List kS):Nat->l8
 |0=>λ_ _=>0
 |i+1=>oS (ln S E i) (S i).own.toNat (E i)
def Tj(a:Option fq)(n cap:Nat)(S:Nat->SV)(E:Nat->List kS)(w:fA)(h:xE w a n S E)(hn:n<=1000)(jR:∀j<n,qq (S j).own (S j).seq (E j)=0):
 gb gg 162 #[σ a n cap] w λe w'=>e=ρ (.agg (gC (ln S E n)))/\fP w w':=by
  have hz:=Ct;have Tk:Hid _:=jR;clear jR;obtain⟨Z,hZ⟩:=fH (gC (λ_ _=>0));rw[hZ]at hz;go_in;go_wp2_with fail;obtain⟨W0,pF⟩:=fH ((w.alloc (γ Z 256)).alloc (γ Z 256));have Ad:fP w W0:=by rw[<-pF];exact(gu _ _).alloc gZ _
  have yR:j2 W0 w.heap.size Z 256:=by rw[<-pF];exact(j2.new w Z _).below (gu _ _)
  have tT:j2 W0 (w.heap.size+1) (gC (ln S E 0)) 256:=by rw[<-pF];show j2 _ _ (gC λ_ _=>0) _;rw[hZ];exact j2.Ib _ _ _ _ gZ
  rw[pF];clear pF;obtain⟨U,H4⟩:=fH (w.heap.size);have xR:w.heap.size<=U:=fC;rw[H4]at yR tT;rw[H4];clear H4;go_loopw [10] (λv wr=>∃i:Nat,i<=n/\v=ι κ i/\j2 wr (U+1) (gC (ln S E i)) 256/\j2 wr U Z 256/\fP w wr) (λv _=>n-(gj v).toNat);(case atStart=>exact⟨0,aw _,rfl,tT,yR,Ad⟩)
  case round=>
   clear yR tT Ad;obtain⟨i,hi,rfl,M,V,T⟩:=hrel;by_cases lZ:i<n
   ·have pE:(i:Int)<(n:Int):=fC;have hw:=h.below T;obtain⟨ho,oR,hx⟩:=hw.opt i lZ;have j0:=hw.row;obtain h1|⟨sb,off,rfl,hcs⟩:=j0;{omega};obtain⟨c0,c1,c2⟩:=hcs i lZ;have H:=Tk.out i lZ;have WZ:=(h.opt i lZ).1;have HT:Hid (ln S E (i+1)=oS (ln S E i) (S i).own.toNat (E i)):=rfl;obtain⟨s,hs⟩:=fH (S i);obtain⟨es,he⟩:=fH (E i);rw[hs]at c0 c1 c2 ho oR hx H HT WZ;rw[he]at ho H HT WZ;clear hs he hcs hw;obtain⟨so,sq,sa,sn,A⟩:=s;simp only at c0 c1 c2 ho oR hx H HT WZ;have hso:=(kD H).1;obtain⟨o,rfl⟩:∃o:Nat,so=(o:Int):=⟨so.toNat,fC⟩
    rw[bI]at HT;have hes:=rR _ es 0 (kD H).2.2.2;have HES:Hid _:=hes;have HOL:=ho.1;have hsn:sn<=6:=by have:=(kD H).2.2.1;omega
    have Iq:=T.alloc T.size (γ #[ι κ (o:Int),ι κ sq,σ sa sn A] 40);have uI:=Ch (o:Int) sq sa sn A es _ hx (WZ.below Iq);have wq:Hid (kr (qq (o:Int) sq es)=η):=by show _=_;rw[H];rfl
    rw[wq.out]at uI;have D:=j2.new wr #[ι κ (o:Int),ι κ sq,σ sa sn A] 40;have hG2:=M.below (gu wr (γ #[ι κ (o:Int),ι κ sq,σ sa sn A] 40));have ZC:=V.below (gu wr (γ #[ι κ (o:Int),ι κ sq,σ sa sn A] 40));have Hba:Hid _:=Iq;have Hwl:Hid (U+1<wr.heap.size):=M.lt;have Hlw:Hid _:=T.size;have HX:Hid _:=D;have HG2:Hid _:=hG2;have HZ2:Hid _:=ZC;clear hes H T M V D hG2 ZC ho oR hx Iq;go_wp2_with fail;refine uI.mono ?_;rintro e w1 ⟨rfl,k1⟩;have y:=j2.below HX.out k1;have u:Hid _:=j2.below HG2.out k1;have HZ1:Hid _:=j2.below HZ2.out k1;have Hb1:Hid _:=fQ Hba.out k1;obtain⟨X,N5⟩:=fH (wr.heap.size);rw[N5]at y;have amm:Hid (U+1<X):=by show _<_;rw[<-N5];exact Hwl.out
    have arU:Hid (w.heap.size<=X):=by show _<=_;rw[<-N5];exact Hlw.out
    rw[N5];have x0:w1.cell? ⟨X,0,ν⟩=μ (ι κ (o:Int)):=y.cell 0;have x1:w1.cell? ⟨X,1,ν⟩=μ (ι κ sq):=y.cell 1;have x2:w1.cell? ⟨X,2,ν⟩=μ (σ sa sn A):=y.cell 2;have HX1:Hid _:=y;clear uI k1 N5 y HX HG2 HZ2 Hba Hwl Hlw c0 c1 c2;go_wp2_with fail;obtain⟨W1,rfl⟩:∃W1,W1=w1:=⟨_,rfl⟩
    clear x0 x1 x2;go_loopw [20] (λv wr=>∃k:Nat,k<=sn/\v=ι κ k/\j2 wr (U+1) (gC (oS (ln S E i) o (es.take k))) 256/\j2 wr U Z 256/\j2 wr X #[ι κ (o:Int),ι κ sq,σ sa sn A] 40/\fP w wr) (λv _=>sn-(gj v).toNat);(case atStart=>exact⟨0,aw _,rfl,u.out,HZ1.out,HX1.out,Hb1.out⟩)
    case round=>
     clear u HZ1 HX1 Hb1;obtain⟨k,hk,rfl,M,V,D,T⟩:=hrel;by_cases Cj:k<sn
     ·have ahu:(k:Int)<(sn:Int):=fC;have hoe:=WZ.below T;obtain h1|⟨eb,amn,rfl,hec⟩:=hoe.2;{omega};obtain⟨d0,d1⟩:=hec k fC;have I7:=HES.out _ (aO (show k<es.length by omega));have HP:Hid (oS (ln S E i) o (es.take (k+1))=vP (oS (ln S E i) o (es.take k)) o ((es[k]'(by omega)).1.toNat) ((es[k]'(by omega)).2)):=Ji _ o es k fC;obtain⟨p,hp⟩:=fH (es[k]'(by omega));rw[hp]at d0 d1 I7 HP;obtain⟨pt,pm⟩:=p;simp only at d0 d1 I7 HP;obtain⟨t,rfl⟩:∃t:Nat,pt=(t:Int):=⟨pt.toNat,fC⟩
      rw[bI]at HP;obtain⟨G,oW⟩:=fH (wr.alloc (γ #[ι κ (t:Int),ι κ pm] 123));have kb:fP wr G:=by rw[<-oW];exact gu _ _
      have hY:j2 G wr.heap.size #[ι κ (t:Int),ι κ pm] 123:=by rw[<-oW];exact j2.new _ _ _
      have J:=M.below kb;have Aa:=D.below kb;have Hb3:Hid _:=fQ T kb;have HZ3:Hid _:=V.below kb;have WY:Hid _:=oW;clear hec hp hoe oW;obtain⟨Y,Tl⟩:=fH (wr.heap.size);have HYl:Hid (X<Y):=by show _<_;rw[<-Tl];exact D.lt
      rw[Tl]at hY;have HYe:Hid _:=Tl;clear Tl kb M D V T;have y0:G.drew.cell? ⟨Y,0,ν⟩=μ (ι κ (t:Int)):=hY.cell 0;have y1:G.drew.cell? ⟨Y,1,ν⟩=μ (ι κ pm):=hY.cell 1;have z0:G.drew.cell? ⟨X,0,ν⟩=μ (ι κ (o:Int)):=Aa.cell 0;have g0:G.drew.cell? ⟨U+1,o*7+t,ν⟩=μ (ι κ (oS (ln S E i) o (es.take k) o t)):=(J.cell _).trans (Cq _ o t fC fC);have g1:G.drew.frozen? ⟨U+1,o*7+t,ν⟩=false:=J.frozen _;have o7:(o:Int)<7:=fC;have t7:(t:Int)<7:=fC;have W8:Hid _:=J;have HX3:Hid _:=Aa;have HY3:Hid _:=hY;clear J Aa hY I7 hso
      go_upto_region 9 with fail
      rw[WY.out,HYe.out];go_region
      all_goals
       go_wp2;go_roundw
       case rel=>
        have kf:X≠U+1:=by have:=amm.out;omega
        refine⟨k+1,fC,by go_num,?_,?_,?_,?_⟩;{rw[HP.out,<-WV _ o t pm fC];exact j2.set W8.out _ _};{exact j2.other HZ3.out fC _};{exact j2.other HX3.out kf _};exact below_drewN (bO Hb3.out (by show w.heap.size<=U+1;omega) _) 1
       (case measure=>simp[gj];omega)
     have zD:¬(k:Int)<(sn:Int):=fC;have HG:Hid _:=M;have HZ:Hid _:=V;have HB:Hid _:=T;clear M V D T;go_wp2;go_roundw;(case rel=>refine⟨i+1,fC,by go_num,?_,HZ.out,HB.out⟩;have e1:es.take k=es:=aR fC;rw[HT.out,<-e1];exact HG.out);case measure=>simp[gj];omega
   have mF:i=n:=fC;subst mF;have zD:¬(i:Int)<(i:Int):=fC;clear lZ;obtain⟨g,hg⟩:=fH (gC (ln S E i));have gs:g.size=49:=by rw[<-hg];exact rW _
   have g1:g.all (·.oneCell')=true:=by rw[<-hg];exact Pc _
   have zs:Z.size=49:=by rw[<-hZ];exact rW _
   rw[hg]at M;have HGE:Hid (g=gC (ln S E i)):=hg.symm;have hR:j2 (wr.setRow U g) U g 256:=V.setRow;have l6:=cA (P:=gg) (wr.setRow U g) U 256 256 g (0,0) _ hR underlying256 rfl (by rw[gs];exact yU);have HBE:Hid (fP w (wr.setRow U g)):=qD T xR g;have xu:(gg.info? 256).map (·.size)=μ g.size:=by rw[gs];exact yU
   have ud:Z.size=g.size:=by rw[gs,zs]
   clear hR hg hZ T;go_wp2_with(first
    |refine ng _ rfl (.tmp 3) 256 rfl (U+1) g _ _ rfl M underlying256 xu ?_
    |refine oc _ rfl (.tmp 2) (.tmp 34) 256 rfl U Z g rfl rfl V ud xu g1 ?_)
   refine aN (v:=.agg g) (by simp[results,results162,asAddr,l6]) rfl ?_;exact⟨by rw[HGE.out],HBE.out⟩
def yf {C D:l8} (h:∀x y,x<7->y<7->C x y=D x y):gC C=gC D:=by
 apply cu;intro i;by_cases hi:i<49;{rw[MD _ i hi,MD _ i hi,h (i/7) (i%7) fC fC]};rw[bD (by rw[rW];omega),bD (by rw[rW];omega)]
def lp(C:l8):l8:=λx y=>if 0<C y x then C x y else 0
def Lx(C:l8)(a b:Nat):l8:=λx y=>if x<a \/(x=a/\y<b)then lp C x y else 0
def W9(C:l8)(a b:Nat):gC (Lx C a (b+1))=gC (vP (Lx C a b) a b (lp C a b)):=by
 refine yf λx y hx hy=> ?_;simp only[Lx,vP];by_cases Z:x=a/\y=b;{rw[ag Z,ag fC,Z.1,Z.2]};rw[af Z];by_cases Y:x<a \/(x=a/\y<b);{rw[ag Y,ag fC]};rw[af Y,af fC]
def Xa(C:l8)(a b:Nat)(h:lp C a b=0):gC (Lx C a (b+1))=gC (Lx C a b):=by
 refine yf λx y hx hy=> ?_;simp only[Lx];by_cases Z:x=a/\y=b;{rw[ag fC,af fC,Z.1,Z.2,h]};by_cases Y:x<a \/(x=a/\y<b);{rw[ag Y,ag fC]};rw[af Y,af fC]
def aaF(C:l8)(a:Nat):gC (Lx C a 7)=gC (Lx C (a+1) 0):=by
 refine yf λx y hx hy=> ?_;simp only[Lx];by_cases Z:x<a \/(x=a/\y<7);{rw[ag Z,ag fC]};rw[af Z,af fC]
def Xb(C:l8)(w:fA):
 gb gg 163 #[.agg (gC C)] w λe w'=>e=ρ (.agg (gC (lp C)))/\fP w w':=by
  have hz:=Ct;obtain⟨Z,hZ⟩:=fH (gC (λ_ _=>0));rw[hZ]at hz;obtain⟨c,hc⟩:=fH (gC C);rw[hc];go_in;go_wp2_with fail;obtain⟨h,D⟩:=fH (((w.alloc (γ c 256)).alloc (γ Z 256)).alloc (γ Z 256));have Ad:fP w h:=by rw[<-D];exact((gu _ _).alloc gZ _).alloc (by simp;omega) _
  have yR:j2 h w.heap.size c 256:=by rw[<-D];exact((j2.new w c _).below (gu _ _)).below (gu _ _)
  have tT:j2 h (w.heap.size+1) Z 256:=by rw[<-D];exact(j2.Ib _ Z _ _ gZ).below (gu _ _)
  have Ef:j2 h (w.heap.size+2) (gC (Lx C 0 0)) 256:=by
   rw[<-D];have:gC (Lx C 0 0)=Z:=by rw[<-hZ];exact yf λx y _ _=>by simp[Lx]
   rw[this];exact j2.Ib _ _ _ _ gZ
  rw[D];clear D;obtain⟨Y,H4⟩:=fH (w.heap.size);have xR:w.heap.size<=Y:=fC;rw[H4]at yR tT Ef;rw[H4];clear H4;go_loopw [6] (λv wr=>∃a:Nat,a<=7/\v=ι κ a/\j2 wr (Y+2) (gC (Lx C a 0)) 256/\j2 wr Y c 256/\j2 wr (Y+1) Z 256/\fP w wr) (λv _=>7-(gj v).toNat);(case atStart=>exact⟨0,fC,rfl,Ef,yR,tT,Ad⟩)
  case round=>
   clear yR tT Ef Ad;obtain⟨a,ha,rfl,X,V,U,T⟩:=hrel;by_cases E:a<7
   ·have amo:(a:Int)<7:=fC;have J:Hid _:=X;have H:Hid _:=V;have G:Hid _:=U;have M:Hid _:=T;clear X V U T;go_wp2;go_loopw [9] (λv wr=>∃b:Nat,b<=7/\v=ι κ b/\j2 wr (Y+2) (gC (Lx C a b)) 256/\j2 wr Y c 256/\j2 wr (Y+1) Z 256/\fP w wr) (λv _=>7-(gj v).toNat);(case atStart=>exact⟨0,fC,rfl,J.out,H.out,G.out,M.out⟩)
    case round=>
     clear J H G M;obtain⟨b,hb,rfl,X,V,U,T⟩:=hrel;by_cases u:b<7
     ·have aeh:(b:Int)<7:=fC;have r1:wr.cell? ⟨Y,b*7+a,ν⟩=μ (ι κ (C b a)):=(V.cell _).trans (by rw[<-hc];exact Cq C b a u E);have r2:wr.cell? ⟨Y,a*7+b,ν⟩=μ (ι κ (C a b)):=(V.cell _).trans (by rw[<-hc];exact Cq C a b E u);have r3:wr.cell? ⟨Y+2,a*7+b,ν⟩=μ (ι κ (Lx C a b a b)):=(X.cell _).trans (Cq _ a b E u);have r4:=X.frozen (a*7+b);have J:Hid _:=X;have H:Hid _:=V;have G:Hid _:=U;have M:Hid _:=T;clear X V U T;by_cases rm:0<C b a
      ·have HS:Hid (lp C a b=C a b):=by show _=_;simp[lp,rm]
       go_wp2;go_region;all_goals(go_wp2;go_roundw;(case rel=>refine⟨b+1,fC,by go_num,?_,j2.other H.out fC _,j2.other G.out fC _,below_drewN (bO M.out (by show w.heap.size<=Y+2;omega) _) 1⟩;rw[W9,HS.out,<-WV _ a b _ u];exact j2.set J.out _ _);(case measure=>simp[gj];omega))
      have HS:Hid (lp C a b=0):=by show _=_;simp[lp,rm]
      go_wp2;go_roundw;(case rel=>exact⟨b+1,fC,by go_num,by rw[Xa _ _ _ HS.out];exact J.out,H.out,G.out,M.out⟩);case measure=>simp[gj];omega
     have aeh:¬(b:Int)<7:=fC;have hbe:b=7:=fC;have J:Hid _:=X;have H:Hid _:=V;have G:Hid _:=U;have M:Hid _:=T;clear X V U T;go_wp2;go_roundw;(case rel=>exact⟨a+1,fC,by go_num,by rw[<-aaF,<-hbe];exact J.out,H.out,G.out,M.out⟩);case measure=>simp[gj];omega
   have amo:¬(a:Int)<7:=fC;have A:Hid (gC (Lx C a 0)=gC (lp C)):=yf λx y hx hy=>by simp only[Lx];rw[ag fC]
   obtain⟨g,hg⟩:=fH (gC (Lx C a 0));have gs:g.size=49:=by rw[<-hg];exact rW _
   have g1:g.all (·.oneCell')=true:=by rw[<-hg];exact Pc _
   have zs:Z.size=49:=by rw[<-hZ];exact rW _
   rw[hg]at X A;have hR:j2 (wr.setRow (Y+1) g) (Y+1) g 256:=U.setRow;have l6:=cA (P:=gg) (wr.setRow (Y+1) g) (Y+1) 256 256 g (0,0) _ hR underlying256 rfl (by rw[gs];exact yU);have HBE:Hid (fP w (wr.setRow (Y+1) g)):=qD T fC g;have xu:(gg.info? 256).map (·.size)=μ g.size:=by rw[gs];exact yU
   have ud:Z.size=g.size:=by rw[gs,zs]
   clear hR hg hZ T V;go_wp2_with(first
    |refine ng _ rfl (.tmp 3) 256 rfl (Y+2) g _ _ rfl X underlying256 xu ?_
    |refine oc _ rfl (.tmp 2) (.tmp 29) 256 rfl (Y+1) Z g rfl rfl U ud xu g1 ?_)
   refine aN (v:=.agg g) (by simp[results,results163,asAddr,l6]) rfl ?_;exact⟨by rw[A.out],HBE.out⟩
def yg(S:Nat->SV)(E:Nat->List kS):∀n,(∀j<n,qq (S j).own (S j).seq (E j)=0)->∀x y,0<=ln S E n x y/\ln S E n x y<=20
 |0,_,x,y=>by simp[ln]
 |n+1,h,x,y=>by
  have ih:=yg S E n (λj hj=>h j fC);have Z:=rR _ (E n) 0 (kD (h n fC)).2.2.2;simp only[ln,oS];generalize E n=es at Z;generalize ln S E n=C at ih
  induction es generalizing C with
  |nil=>exact ih x y
  |cons e es ihs=>
   rw[bV];refine ihs (λq Y=>Z q (by simp[Y])) _ (λu v=> ?_);simp only[vP];have:=Z e gZ;split;{omega};{exact ih u v}
def Xc(a:Option fq)(n cap:Nat)(S:Nat->SV)(E:Nat->List kS)(p q:Nat)(w:fA)(h:xE w a n S E)(hn:n<=1000)(jR:∀j<n,qq (S j).own (S j).seq (E j)=0):
 gb gg 159 #[σ a n cap,ι κ (p:Int),ι κ (q:Int)] w λe w'=>e=ρ (ι κ (lp (ln S E n) p q))/\fP w w':=by
  have Tk:Hid _:=jR;clear jR;go_in;go_wp2;go_loopw [7,8,9] (λt k v wr=>∃i:Nat,i<=n/\v=ι κ i/\t=ι κ (ln S E i p q)/\k=.bool (decide (0<ln S E i q p))/\fP w wr) (λ_ _ v _=>n-(gj v).toNat);(case atStart=>exact⟨0,aw _,rfl,rfl,by simp[ln],aC _ _⟩)
  case round=>
   obtain⟨i,hi,rfl,rfl,rfl,J⟩:=hrel;by_cases lZ:i<n
   ·have pE:(i:Int)<(n:Int):=fC
    obtain⟨sb,off,rfl,hcs⟩:∃sb off,a=μ ⟨sb,off,ν⟩/\∀j<n,w.cell? ⟨sb,off+j*3,ν⟩=μ (ι κ (S j).own)/\w.cell? ⟨sb,off+j*3+1,ν⟩=μ (ι κ (S j).seq)/\w.cell? ⟨sb,off+j*3+2,ν⟩=μ (σ (S j).a (S j).n (S j).cap):=by
     obtain h1|h1:=h.row;{omega};exact h1
    have WZ:=(h.opt i lZ).1;have Cu:=Tk.out i lZ;have hso:=(kD Cu).1;have hes:=rR _ (E i) 0 (kD Cu).2.2.2;have h6:=(kD Cu).2.2.1;obtain⟨o,M⟩:∃o:Nat,(S i).own=(o:Int):=⟨(S i).own.toNat,fC⟩
    have HT:Hid (ln S E (i+1)=oS (ln S E i) o (E i)):=by show oS _ _ _=_;rw[M,bI]
    have HC:Hid (∀W,fP w W->W.cell? ⟨sb,off+i*3,ν⟩=μ (ι κ (o:Int))/\W.cell? ⟨sb,off+i*3+2,ν⟩=μ (σ (S i).a (S i).n (S i).cap)):=by
     intro W hW;obtain⟨c0,c1,c2⟩:=hcs i lZ;have l:=ai w _ c0;rw[M]at c0;exact⟨(hW.cell (p:=⟨sb,off+i*3,ν⟩) l).trans c0,(hW.cell (p:=⟨sb,off+i*3+2,ν⟩) l).trans c2⟩
    have HES:Hid _:=hes;obtain⟨es,he⟩:=fH (E i);rw[he]at WZ HT HES h6;have Mp:=WZ.1;generalize (S i).a=sa at HC WZ;generalize (S i).cap=sc at HC;generalize (S i).n=sn at HC WZ Mp;have hsn:sn<=6:=fC;clear hcs he hes Cu M hso;obtain⟨Z,Vj⟩:=fH (ln S E i);rw[Vj]at HT;rw[Vj];clear Vj;have HB:Hid _:=J;clear J;go_wp2;go_loopw [7,8,10] (λt z v wr=>∃k:Nat,k<=sn/\v=ι κ k/\t=ι κ (oS Z o (es.take k) p q)/\z=.bool (decide (0<oS Z o (es.take k) q p))/\fP w wr) (λ_ _ v _=>sn-(gj v).toNat);(case atStart=>exact⟨0,aw _,rfl,rfl,rfl,HB.out⟩)
    case round=>
     clear HB;obtain⟨k,hk,rfl,rfl,rfl,J⟩:=hrel;obtain⟨c0,c2⟩:=HC.out wr J;by_cases Cj:k<sn
     ·have ahu:(k:Int)<(sn:Int):=fC;have M:=WZ.below J;obtain h1|⟨eb,amn,rfl,hec⟩:=M.2;{omega};obtain⟨d0,d1⟩:=hec k fC;have I7:=HES.out _ (aO (show k<es.length by omega));have HP:Hid (oS Z o (es.take (k+1))=vP (oS Z o (es.take k)) o ((es[k]'(by omega)).1.toNat) ((es[k]'(by omega)).2)):=Ji _ o es k fC;obtain⟨g,hg⟩:=fH (es[k]'(by omega));rw[hg]at d0 d1 I7 HP;obtain⟨gt,gm⟩:=g;simp only at d0 d1 I7 HP;obtain⟨t,rfl⟩:∃t:Nat,gt=(t:Int):=⟨gt.toNat,fC⟩
      rw[bI]at HP;have ka:=J.alloc J.size (γ #[ι κ (t:Int),ι κ gm] 123);obtain⟨e0,T⟩:=HC.out _ ka;have G:Hid _:=ka
      have V:Hid (oS Z o (es.take (k+1)) p q=(if p=o/\q=t then gm else oS Z o (es.take k) p q)/\decide (0<oS Z o (es.take (k+1)) q p)=(if q=o/\p=t then true else decide (0<oS Z o (es.take k) q p))):=by
       rw[HP.out];refine⟨rfl,?_⟩;by_cases e:q=o/\p=t
       ·have T:vP (oS Z o (es.take k)) o t gm q p=gm:=by simp only[vP,if_pos e]
        rw[ag e];exact dS (by rw[T];omega)
       have T:vP (oS Z o (es.take k)) o t gm q p=oS Z o (es.take k) q p:=by simp only[vP,if_neg e]
       rw[af e,decide_eq_decide,T]
      clear hec hg M ka J HP;generalize oS Z o (es.take k) p q=t1 at V⊢;generalize decide (0<oS Z o (es.take k) q p)=u at V⊢
      have main:∀Q:Prop,(((o:Int)==(p:Int))=true->((t:Int)==(q:Int))=true->p=o->q=t->Q)->(((o:Int)==(p:Int))=true->((t:Int)==(q:Int))=false->¬(p=o/\q=t)->Q)->(((o:Int)==(p:Int))=false->¬(p=o/\q=t)->Q)->Q:=by
       intro Q q1 q2 q3;by_cases X:p=o
       ·have f1:((o:Int)==(p:Int))=true:=by simp[X]
        by_cases T:q=t;{exact q1 f1 (by simp[T]) X T};exact q2 f1 (by
         have:¬(t:Int)=(q:Int):=fC;simpa using this) (λe=>T e.2)
       exact q3 (by
        have:¬(o:Int)=(p:Int):=fC;simpa using this) (λe=>X e.1)
      have acK:∀Q:Prop,(((o:Int)==(q:Int))=true->((t:Int)==(p:Int))=true->q=o/\p=t->Q)->(((o:Int)==(q:Int))=true->((t:Int)==(p:Int))=false->¬(q=o/\p=t)->Q)->(((o:Int)==(q:Int))=false->¬(q=o/\p=t)->Q)->Q:=by
       intro Q q1 q2 q3;by_cases X:q=o
       ·have f1:((o:Int)==(q:Int))=true:=by simp[X]
        by_cases T:p=t;{exact q1 f1 (by simp[T]) ⟨X,T⟩};exact q2 f1 (by
         have:¬(t:Int)=(p:Int):=fC;simpa using this) (λe=>T e.2)
       exact q3 (by
        have:¬(o:Int)=(q:Int):=fC;simpa using this) (λe=>X e.1)
      have A:Hid _:=acK;clear acK;refine main _ ?_ ?_ ?_<;>clear main
      ·intro f1 f2 X T;have H:Hid (oS Z o (es.take (k+1)) p q=gm):=by show _=_;rw[V.out.1,ag ⟨X,T⟩]
       clear X T;refine A.out _ ?_ ?_ ?_<;>clear A
       ·intro D f4 Y;have U:Hid (decide (0<oS Z o (es.take (k+1)) q p)=true):=by show _=_;rw[V.out.2,ag Y]
        clear Y;go_wp2;go_roundw;(case rel=>exact⟨k+1,fC,by go_num,by rw[H.out],by rw[U.out],G.out⟩);case measure=>simp[gj];omega
       ·intro D f4 Y;have U:Hid (decide (0<oS Z o (es.take (k+1)) q p)=u):=by show _=_;rw[V.out.2,af Y]
        clear Y;go_wp2;go_roundw;(case rel=>exact⟨k+1,fC,by go_num,by rw[H.out],by rw[U.out],G.out⟩);case measure=>simp[gj];omega
       intro D Y;have U:Hid (decide (0<oS Z o (es.take (k+1)) q p)=u):=by show _=_;rw[V.out.2,af Y]
       clear Y;go_wp2;go_roundw;(case rel=>exact⟨k+1,fC,by go_num,by rw[H.out],by rw[U.out],G.out⟩);case measure=>simp[gj];omega
      ·intro f1 f2 X;have H:Hid (oS Z o (es.take (k+1)) p q=t1):=by show _=_;rw[V.out.1,af X]
       clear X;refine A.out _ ?_ ?_ ?_<;>clear A
       ·intro D f4 Y;have U:Hid (decide (0<oS Z o (es.take (k+1)) q p)=true):=by show _=_;rw[V.out.2,ag Y]
        clear Y;go_wp2;go_roundw;(case rel=>exact⟨k+1,fC,by go_num,by rw[H.out],by rw[U.out],G.out⟩);case measure=>simp[gj];omega
       ·intro D f4 Y;have U:Hid (decide (0<oS Z o (es.take (k+1)) q p)=u):=by show _=_;rw[V.out.2,af Y]
        clear Y;go_wp2;go_roundw;(case rel=>exact⟨k+1,fC,by go_num,by rw[H.out],by rw[U.out],G.out⟩);case measure=>simp[gj];omega
       intro D Y;have U:Hid (decide (0<oS Z o (es.take (k+1)) q p)=u):=by show _=_;rw[V.out.2,af Y]
       clear Y;go_wp2;go_roundw;(case rel=>exact⟨k+1,fC,by go_num,by rw[H.out],by rw[U.out],G.out⟩);case measure=>simp[gj];omega
      intro f1 X;have H:Hid (oS Z o (es.take (k+1)) p q=t1):=by show _=_;rw[V.out.1,af X]
      clear X;refine A.out _ ?_ ?_ ?_<;>clear A
      ·intro D f4 Y;have U:Hid (decide (0<oS Z o (es.take (k+1)) q p)=true):=by show _=_;rw[V.out.2,ag Y]
       clear Y;go_wp2;go_roundw;(case rel=>exact⟨k+1,fC,by go_num,by rw[H.out],by rw[U.out],G.out⟩);case measure=>simp[gj];omega
      ·intro D f4 Y;have U:Hid (decide (0<oS Z o (es.take (k+1)) q p)=u):=by show _=_;rw[V.out.2,af Y]
       clear Y;go_wp2;go_roundw;(case rel=>exact⟨k+1,fC,by go_num,by rw[H.out],by rw[U.out],G.out⟩);case measure=>simp[gj];omega
      intro D Y;have U:Hid (decide (0<oS Z o (es.take (k+1)) q p)=u):=by show _=_;rw[V.out.2,af Y]
      clear Y;go_wp2;go_roundw;(case rel=>exact⟨k+1,fC,by go_num,by rw[H.out],by rw[U.out],G.out⟩);case measure=>simp[gj];omega
     have zD:¬(k:Int)<(sn:Int):=fC
     have HTT:Hid (oS Z o (es.take k)=ln S E (i+1)):=by
      show _=_;rw[HT.out,aR fC]
     rw[HTT.out];have HB:Hid _:=J;clear J;go_wp2;go_roundw;(case rel=>exact⟨i+1,fC,by go_num,rfl,rfl,HB.out⟩);case measure=>simp[gj];omega
   have zD:¬(i:Int)<(n:Int):=fC;have mF:i=n:=fC;subst mF;by_cases y:0<ln S E i q p
   ·have V:Hid (lp (ln S E i) p q=ln S E i p q):=by show _=_;simp only[lp,if_pos y]
    have X:decide (0<ln S E i q p)=true:=dS y;rw[X];clear X y;go_wp2;go_ret;exact⟨by rw[V.out];rfl,J⟩
   have V:Hid (lp (ln S E i) p q=0):=by show _=_;simp only[lp,if_neg y]
   have X:decide (0<ln S E i q p)=false:=dJ y;rw[X];clear X y;go_wp2;go_ret;exact⟨by rw[V.out];rfl,J⟩
def nr(C:l8)(r n:Nat):Nat->HP:=λx=>if x<n/\0<C r x then⟨x,C r x,x⟩else HP.zero
def FV {H K:Nat->HP} (h:∀x<7,H x=K x):hC H=hC K:=by
 apply cu;intro i;by_cases hi:i<21;{rw[FU _ i hi,FU _ i hi];unfold ME;rw[h (i/3) fC]};rw[bD (by rw[vD];omega),bD (by rw[vD];omega)]
def Pf(C:l8)(r n:Nat)(h:0<C r n):hC (nr C r (n+1))=hC (tL (nr C r n) n ⟨n,C r n,n⟩):=by
 refine FV λx hx=> ?_;simp only[nr,tL];by_cases e:x=n;{subst e;rw[ag ⟨fC,h⟩,ag rfl]};rw[af e];by_cases Z:x<n/\0<C r x;{rw[ag Z,ag ⟨fC,Z.2⟩]};rw[af Z,af (λY=>Z ⟨fC,Y.2⟩)]
def Tm(C:l8)(r n:Nat)(h:¬0<C r n):hC (nr C r (n+1))=hC (nr C r n):=by
 refine FV λx hx=> ?_;simp only[nr];by_cases e:x=n;{subst e;rw[af (λZ=>h Z.2),af (λZ=>h Z.2)]};by_cases Y:x<n/\0<C r x;{rw[ag Y,ag ⟨fC,Y.2⟩]};rw[af Y,af (λZ=>Y ⟨fC,Z.2⟩)]
def Tn(C:l8)(r:Nat)(hr:r<7)(w:fA):
 gb gg 164 #[.agg (gC C),ι κ (r:Int)] w λe w'=>e=ρ (.agg (hC (nr C r 7)))/\fP w w':=by
  have hz:=MF;obtain⟨Z,H⟩:=fH (hC (λ_=>HP.zero));rw[H]at hz;obtain⟨c,hc⟩:=fH (gC C);rw[hc];have hr7:(r:Int)<7:=fC;go_in;go_wp2_with fail;obtain⟨J,U⟩:=fH (((w.alloc (γ c 256)).alloc (γ Z 259)).alloc (γ Z 259));have Ad:fP w J:=by rw[<-U];exact((gu _ _).alloc gZ _).alloc (by simp;omega) _
  have yR:j2 J w.heap.size c 256:=by rw[<-U];exact((j2.new w c _).below (gu _ _)).below (gu _ _)
  have tT:j2 J (w.heap.size+1) Z 259:=by rw[<-U];exact(j2.Ib _ Z _ _ gZ).below (gu _ _)
  have D:j2 J (w.heap.size+2) (hC (nr C r 0)) 259:=by
   rw[<-U];have:hC (nr C r 0)=Z:=by rw[<-H];exact FV λx _=>by simp[nr]
   rw[this];exact j2.Ib _ _ _ _ gZ
  rw[U];clear U;obtain⟨Y,A⟩:=fH (w.heap.size);have xR:w.heap.size<=Y:=fC;rw[A]at yR tT D;rw[A];clear A;go_loopw [8] (λv wr=>∃n:Nat,n<=7/\v=ι κ n/\j2 wr (Y+2) (hC (nr C r n)) 259/\j2 wr Y c 256/\j2 wr (Y+1) Z 259/\fP w wr) (λv _=>7-(gj v).toNat);(case atStart=>exact⟨0,fC,rfl,D,yR,tT,Ad⟩)
  case round=>
   clear yR tT D Ad;obtain⟨n,hn,rfl,X,E,M,G⟩:=hrel;by_cases V:n<7;{have Xe:(n:Int)<7:=fC;have r1:wr.cell? ⟨Y,r*7+n,ν⟩=μ (ι κ (C r n)):=(E.cell _).trans (by rw[<-hc];exact Cq C r n hr V);obtain⟨q0,q1,q2⟩:=Cr (nr C r n) n V;have s0:=(X.cell (n*3)).trans q0;have s1:=(X.cell (n*3+1)).trans q1;have s2:=(X.cell (n*3+2)).trans q2;have f0:=X.frozen (n*3);have f1:=X.frozen (n*3+1);have f2:=X.frozen (n*3+2);have lG:=X.lt;have HG:Hid _:=X;have Ir:Hid _:=E;have ZD:Hid _:=M;have HB:Hid _:=G;clear X E M G q0 q1 q2;have HY:=Pf C r n;have HN:=Tm C r n;have HYy:Hid _:=HY;have h:Hid _:=HN;clear HY HN;by_cases rm:0<C r n;{go_wp2;go_roundw;(case rel=>refine⟨n+1,fC,by go_num,?_,j2.other (j2.other (j2.other Ir.out fC _) fC _) fC _,j2.other (j2.other (j2.other ZD.out fC _) fC _) fC _,bO (bO (bO HB.out (by show w.heap.size<=Y+2;omega) _) (by show w.heap.size<=Y+2;omega) _) (by show w.heap.size<=Y+2;omega) _⟩;rw[HYy.out rm,<-Kz _ n _ V];exact j2.set (j2.set (j2.set HG.out _ _) _ _) _ _);case measure=>simp[gj];omega};go_wp2;go_roundw;(case rel=>exact⟨n+1,fC,by go_num,by rw[h.out rm];exact HG.out,Ir.out,ZD.out,HB.out⟩);case measure=>simp[gj];omega};have Xe:¬(n:Int)<7:=fC;have kf:n=7:=fC;obtain⟨g,T⟩:=fH (hC (nr C r n));have gs:g.size=21:=by rw[<-T];exact vD _
   have g1:g.all (·.oneCell')=true:=by rw[<-T];exact WW _
   have zs:Z.size=21:=by rw[<-H];exact vD _
   have u:Hid (g=hC (nr C r 7)):=by show _=_;rw[<-T,kf]
   rw[T]at X;have hR:j2 (wr.setRow (Y+1) g) (Y+1) g 259:=M.setRow;have l6:=cA (P:=gg) (wr.setRow (Y+1) g) (Y+1) 259 259 g (0,0) _ hR underlying259 rfl (by rw[gs];exact KA);have y:Hid (fP w (wr.setRow (Y+1) g)):=qD G fC g;have xu:(gg.info? 259).map (·.size)=μ g.size:=by rw[gs];exact KA
   have ud:Z.size=g.size:=by rw[gs,zs]
   clear hR T H G E kf;go_wp2_with(first
    |refine ng _ rfl (.tmp 5) 259 rfl (Y+2) g _ _ rfl X underlying259 xu ?_
    |refine oc _ rfl (.tmp 4) (.tmp 25) 259 rfl (Y+1) Z g rfl rfl M ud xu g1 ?_)
   refine aN (v:=.agg g) (by simp[results,results164,asAddr,l6]) rfl ?_;exact⟨by rw[u.out],y.out⟩
def wv(a b:HP):Bool:=b.far==0||decide (a.far<b.far)||(a.far==b.far&&decide (a.qT<b.qT))
def MG(a b:HP)(w:fA):
 gb gg 205 #[.agg #[ι κ a.dst,ι κ a.far,ι κ a.qT],.agg #[ι κ b.dst,ι κ b.far,ι κ b.qT]] w λe w'=>e=ρ (.bool (wv a b))/\fP w w':=by
  obtain⟨V,Z,Y⟩:=a;obtain⟨U,b1,b2⟩:=b;simp only;have M:fP w ((w.alloc (γ #[ι κ V,ι κ Z,ι κ Y] 98)).alloc (γ #[ι κ U,ι κ b1,ι κ b2] 98)):=(gu _ _).alloc gZ _;have J:Hid (wv ⟨V,Z,Y⟩ ⟨U,b1,b2⟩=(b1==0||decide (Z<b1)||(Z==b1&&decide (Y<b2)))):=rfl;by_cases G:(b1==0)=true
  ·have X:Hid (wv ⟨V,Z,Y⟩ ⟨U,b1,b2⟩=true):=by show _=_;rw[J.out,G];rfl
   go_in;go_wp2_with fail;rw[X.out];go_ret;exact⟨rfl,M⟩
  have T:(b1==0)=false:=by simpa using G
  by_cases H:Z<b1
  ·have X:Hid (wv ⟨V,Z,Y⟩ ⟨U,b1,b2⟩=true):=by show _=_;rw[J.out,dS H];simp
   go_in;go_wp2_with fail;rw[X.out];go_ret;exact⟨rfl,M⟩
  by_cases E:(Z==b1)=true
  ·have X:Hid (wv ⟨V,Z,Y⟩ ⟨U,b1,b2⟩=decide (Y<b2)):=by show _=_;rw[J.out,T,dJ H,E];simp
   rw[X.out];go_in;go_wp2;go_ret;exact⟨rfl,M⟩
  have D:(Z==b1)=false:=by simpa using E
  have X:Hid (wv ⟨V,Z,Y⟩ ⟨U,b1,b2⟩=false):=by show _=_;rw[J.out,T,dJ H,D];simp
  go_in;go_wp2_with fail;rw[X.out];go_ret;exact⟨rfl,M⟩
def qW(C:l8)(r b n:Nat)(H:Nat->HP):Nat->HP:=
 if(H b).far=0 \/C b n=0 \/n=r then H
 else if wv ⟨n,(H b).far+C b n,(H b).qT⟩ (H n)=true then tL H n ⟨n,(H b).far+C b n,(H b).qT⟩else H
def ry(C:l8)(r b:Nat)(H:Nat->HP):Nat->Nat->HP
 |0=>H
 |n+1=>qW C r b n (ry C r b H n)
def Eg(C:l8)(r:Nat)(H:Nat->HP):Nat->Nat->HP
 |0=>H
 |b+1=>ry C r b (Eg C r H b) 7
def ug(H:Nat->HP)(m:Int):Prop:=∀n,0<=(H n).far/\(H n).far<=m
def ug.step {C:l8} {r:Nat} {H:Nat->HP} {m:Int} (h:ug H m)(hC:∀x y,0<=C x y/\C x y<=20):ug (qW C r b n H) (m+20):=by
 intro x;have hx:=h x;have hb:=h b;have hc:=hC b n;unfold qW;split;{omega};split;{simp only[tL];split;{simp only;omega};omega};omega
def ug.row {C:l8} {r b:Nat} {H:Nat->HP} {m:Int} (h:ug H m)(hC:∀x y,0<=C x y/\C x y<=20):∀n,ug (ry C r b H n) (m+20*n)
 |0=>λx=>by have:=h x;simp only[ry];omega
 |n+1=>λx=>by
  have:=(ug.step (C:=C) (r:=r) (b:=b) (n:=n) (ug.row (r:=r) (b:=b) h hC n) hC) x;simp only[ry];push_cast;omega
def ug.go {C:l8} {r:Nat} {H:Nat->HP} {m:Int} (h:ug H m)(hC:∀x y,0<=C x y/\C x y<=20):∀b,ug (Eg C r H b) (m+140*b)
 |0=>λx=>by have:=h x;simp only[Eg];omega
 |b+1=>λx=>by
  have:=(ug.row (C:=C) (r:=r) (b:=b) (ug.go (r:=r) h hC b) hC 7) x;simp only[Eg];push_cast at this⊢;omega
def Pg {o:Option Nat} (h:a.grownBy w o):a.grownBy w.drew o:=⟨h.os,h.tape,h.output,h.size,h.block⟩
def Xf(C:l8)(r:Nat)(hr:r<7)(H:Nat->HP)(B:Nat)(m:Int)(w:fA)(hB:j2 w B (hC H) 259)(Eh:∀x y,0<=C x y/\C x y<=20)(hm:ug H m)(AP:m<=1000000):
 gb gg 165 #[π (μ ⟨B,0,ν⟩),.agg (gC C),ι κ (r:Int)] w λe w'=>e=ρ (τ #[])/\j2 w' B (hC (Eg C r H 7)) 259/\w.grownBy w' (μ B):=by
  obtain⟨c,hc⟩:=fH (gC C);rw[hc];have hr7:(r:Int)<7:=fC;go_in;go_wp2_with fail;obtain⟨W0,pF⟩:=fH (w.alloc (γ c 256));have IV:fP w W0:=by rw[<-pF];exact gu _ _
  have Ad:w.grownBy W0 (μ B):=⟨IV.os,IV.tape,IV.output,IV.size,λi hi _=>IV.block i hi⟩
  have yR:j2 W0 w.heap.size c 256:=by rw[<-pF];exact j2.new w c _
  have tT:j2 W0 B (hC (Eg C r H 0)) 259:=hB.below IV;have hBC:B<w.heap.size:=hB.lt;rw[pF];clear pF IV hB;obtain⟨D,H4⟩:=fH (w.heap.size);have xR:w.heap.size<=D:=fC;rw[H4]at yR hBC;rw[H4];clear H4;have HFL:=λb=>hm.go (r:=r) Eh b;have HM:Hid _:=HFL;clear HFL hm;go_loopw [9] (λv wr=>∃b:Nat,b<=7/\v=ι κ b/\j2 wr B (hC (Eg C r H b)) 259/\j2 wr D c 256/\w.grownBy wr (μ B)) (λv _=>7-(gj v).toNat);(case atStart=>exact⟨0,fC,rfl,tT,yR,Ad⟩)
  case round=>
   clear yR tT Ad;obtain⟨b,hb,rfl,U,sy,h⟩:=hrel;by_cases Vp:b<7
   ·have aeh:(b:Int)<7:=fC;have V:Hid _:=U;have E:Hid _:=sy;have X:Hid _:=h;have FX:Hid (Eg C r H (b+1)=ry C r b (Eg C r H b) 7):=rfl;have hmb:=HM.out b;clear U sy h;obtain⟨J,hHb⟩:=fH (Eg C r H b);rw[hHb]at V FX hmb;have HMB:Hid (∀n,ug (ry C r b J n) (m+140*b+20*n)):=λn=>hmb.row Eh n;clear hmb hHb;go_wp2;go_loopw [12] (λv wr=>∃n:Nat,n<=7/\v=ι κ n/\j2 wr B (hC (ry C r b J n)) 259/\j2 wr D c 256/\w.grownBy wr (μ B)) (λv _=>7-(gj v).toNat);(case atStart=>exact⟨0,fC,rfl,V.out,E.out,X.out⟩)
    case round=>
     clear V E X;obtain⟨n,hn,rfl,U,sy,h⟩:=hrel;by_cases hn7:n<7
     ·have Xe:(n:Int)<7:=fC;have wX:Hid (ry C r b J (n+1)=qW C r b n (ry C r b J n)):=rfl;have yW:=HMB.out n b;obtain⟨G,hGe⟩:=fH (ry C r b J n);rw[hGe]at U wX yW;clear hGe;have r1:wr.cell? ⟨D,b*7+n,ν⟩=μ (ι κ (C b n)):=(sy.cell _).trans (by rw[<-hc];exact Cq C b n Vp hn7);obtain⟨p0,p1,p2⟩:=Cr G b Vp;have b0:=(U.cell (b*3)).trans p0;have b1:=(U.cell (b*3+1)).trans p1;have b2:=(U.cell (b*3+2)).trans p2;clear p0 p1 p2;have V:Hid _:=U;have E:Hid _:=sy;have X:Hid _:=h;clear U sy h;by_cases h1:(G b).far=0
      ·have Ae:((G b).far==0)=true:=by simpa using h1
       have M:Hid (ry C r b J (n+1)=G):=by show _=_;rw[wX.out,qW,ag (.inl h1)]
       generalize (G b).far=bf at b1 Ae;clear h1;go_wp2;go_roundw;(case rel=>exact⟨n+1,fC,by go_num,by rw[M.out];exact V.out,E.out,X.out⟩);case measure=>simp[gj];omega
      have Ae:((G b).far==0)=false:=by simpa using h1
      by_cases h2:C b n=0
      ·have Ck:(C b n==0)=true:=by simpa using h2
       have M:Hid (ry C r b J (n+1)=G):=by show _=_;rw[wX.out,qW,ag (.inr (.inl h2))]
       generalize (G b).far=bf at b1 Ae;generalize C b n=u at r1 Ck;clear h1 h2;go_wp2;go_roundw;(case rel=>exact⟨n+1,fC,by go_num,by rw[M.out];exact V.out,E.out,X.out⟩);case measure=>simp[gj];omega
      have Ck:(C b n==0)=false:=by simpa using h2
      by_cases h3:n=r
      ·have vO:((n:Int)==(r:Int))=true:=by simp[h3]
       have M:Hid (ry C r b J (n+1)=G):=by show _=_;rw[wX.out,qW,ag (.inr (.inr h3))]
       generalize (G b).far=bf at b1 Ae;generalize C b n=u at r1 Ck;clear h1 h2 h3;go_wp2;go_roundw;(case rel=>exact⟨n+1,fC,by go_num,by rw[M.out];exact V.out,E.out,X.out⟩);case measure=>simp[gj];omega
      have vO:((n:Int)==(r:Int))=false:=by
       have:¬(n:Int)=(r:Int):=fC;simpa using this
      have M:Hid (ry C r b J (n+1)=if wv ⟨n,(G b).far+C b n,(G b).qT⟩ (G n)=true then tL G n ⟨n,(G b).far+C b n,(G b).qT⟩else G):=by
       show _=_;rw[wX.out,qW,af (by simp[h1,h2,h3])]
      have wP:=Eh b n;have ZE:κ.wrap ((G b).far+C b n)=(G b).far+C b n:=bg _ ⟨fC,fC⟩;have A:=MG ⟨n,(G b).far+C b n,(G b).qT⟩ (G n);obtain⟨p0,p1,p2⟩:=Cr G n hn7;have HN:Hid (∀W,j2 W B (hC G) 259->W.cell? ⟨B,n*3,ν⟩=μ (ι κ (G n).dst)/\W.cell? ⟨B,n*3+1,ν⟩=μ (ι κ (G n).far)/\W.cell? ⟨B,n*3+2,ν⟩=μ (ι κ (G n).qT)):=
       λW hW=>⟨(hW.cell _).trans p0,(hW.cell _).trans p1,(hW.cell _).trans p2⟩
      clear p0 p1 p2 wX h1 h2 h3 yW wP;generalize wv ⟨n,(G b).far+C b n,(G b).qT⟩ (G n)=bt at M A;simp only at A;generalize FF:(G b).far+C b n=ff at M A ZE;generalize (G b).far=bf at b1 Ae FF ZE;generalize C b n=u at r1 Ck FF ZE;generalize (G b).qT=bx at b2 M A;generalize (G n).dst=nd at HN A;generalize (G n).far=nf at HN A;generalize (G n).qT=nx at HN A;have amr:κ.wrap (bf+u)=ff:=by rw[FF];exact ZE
      have d0:wr.drew.cell? ⟨B,b*3+1,ν⟩=μ (ι κ bf):=b1;have d1:wr.drew.cell? ⟨B,b*3+2,ν⟩=μ (ι κ bx):=b2;have d2:wr.drew.cell? ⟨D,b*7+n,ν⟩=μ (ι κ u):=r1;have lB:B<wr.heap.size:=j2.lt V.out;have lC:D<wr.heap.size:=j2.lt E.out;have kz:=gu wr (γ #[ι κ 0,ι κ 0,ι κ 0] 98);have e0:=(kz.cell (p:=⟨B,b*3+1,ν⟩) lB).trans b1;have e1:=(kz.cell (p:=⟨B,b*3+2,ν⟩) lB).trans b2;have e2:=(kz.cell (p:=⟨D,b*7+n,ν⟩) lC).trans r1;clear FF ZE kz
      go_upto_region 8 with fail
      clear Ae Ck vO;go_region
      all_goals
       obtain⟨W3,zx⟩:=fH ((wr.alloc (γ #[ι κ (n:Int),ι κ ff,ι κ bx] 98)).drew);have k3:fP wr W3:=by rw[<-zx];exact below_drewN (gu _ _) 1
       have hY:j2 W3 wr.heap.size #[ι κ (n:Int),ι κ ff,ι κ bx] 98:=by rw[<-zx];exact j2.drewN (j2.new wr _ _) 1
       obtain⟨Y,Tl⟩:=fH (wr.heap.size);have hG3:=j2.below V.out k3;have Hc3:Hid _:=j2.below E.out k3;have Ly:Hid (w.grownBy W3 (μ B)):=⟨k3.os.trans X.out.os,k3.tape.trans X.out.tape,k3.output.trans X.out.output,au X.out.size k3.size,λi hi kf=>(k3.block i (aq hi X.out.size)).trans (X.out.block i hi kf)⟩
       have HYB:Hid (B<Y/\D<Y):=by show _/\_;rw[<-Tl];exact⟨lB,lC⟩
       rw[Tl]at hY;have HY:Hid _:=hY;have W8:Hid _:=hG3
       have HF:Hid (∀W,fP W3 W->(W.cell? ⟨Y,0,ν⟩=μ (ι κ (n:Int))/\W.cell? ⟨Y,1,ν⟩=μ (ι κ ff)/\W.cell? ⟨Y,2,ν⟩=μ (ι κ bx))/\W.cell? ⟨B,n*3,ν⟩=μ (ι κ nd)/\W.cell? ⟨B,n*3+1,ν⟩=μ (ι κ nf)/\W.cell? ⟨B,n*3+2,ν⟩=μ (ι κ nx)):=by
        intro W hW;have q:=j2.below HY.out hW;exact⟨⟨j2.cell q 0,j2.cell q 1,j2.cell q 2⟩,HN.out W (j2.below W8.out hW)⟩
       have KD:fP W3 W3.drew:=below_drewN (aC _ _) 1;have F0:=HF.out _ KD;rw[zx,Tl];clear zx k3 Tl hG3 hY d0 d1 d2 e0 e1 e2 b0 b1 b2 r1 lB lC amr;go_wp2
       go_region_held3(λx=>(x.cell? ⟨Y,0,ν⟩=μ (ι κ (n:Int))/\x.cell? ⟨Y,1,ν⟩=μ (ι κ ff)/\x.cell? ⟨Y,2,ν⟩=μ (ι κ bx))/\x.cell? ⟨B,n*3,ν⟩=μ (ι κ nd)/\x.cell? ⟨B,n*3+1,ν⟩=μ (ι κ nf)/\x.cell? ⟨B,n*3+2,ν⟩=μ (ι κ nx))
        (first|assumption|exact F0|exact F1)
        ((go_at_call 205;refine(A _).mono ?_;rintro e w5 ⟨rfl,k5⟩;have F1:=HF.out _ (fQ KD k5)))
       all_goals
        have Z:=fQ KD k5;have T:=j2.below W8.out Z;have Iu:Hid _:=T;have Hc5:Hid _:=j2.below Hc3.out Z;have Jj:Hid (w.grownBy w5 (μ B)):=⟨Z.os.trans Ly.out.os,Z.tape.trans Ly.out.tape,Z.output.trans Ly.out.output,au Ly.out.size Z.size,λi hi kf=>(Z.block i (aq hi Ly.out.size)).trans (Ly.out.block i hi kf)⟩
        obtain⟨⟨y0,y1,y2⟩,g0,g1,g2⟩:=F1;have f0:=T.frozen (n*3);have f1:=T.frozen (n*3+1);have f2:=T.frozen (n*3+2);have lB:=T.lt;clear HF HN A F0 k5 KD Z T;cases bt
        ·have HS3:Hid (ry C r b J (n+1)=G):=by show _=_;rw[M.out];simp
         go_wp2;go_roundw;(case rel=>exact⟨n+1,fC,by go_num,by rw[HS3.out];exact Iu.out,Hc5.out,Jj.out⟩);case measure=>simp[gj];omega
        ·have HS3:Hid (ry C r b J (n+1)=tL G n ⟨n,ff,bx⟩):=by show _=_;rw[M.out];simp
         go_wp2;go_region
         all_goals
          go_wp2;go_roundw
          case rel=>
           have kf:D≠B:=by have:=Jj.out.size;omega
           refine⟨n+1,fC,by go_num,?_,j2.other (j2.other (j2.other Hc5.out kf _) kf _) kf _,Pg (mL (mL (mL Jj.out _ _) _ _) _ _)⟩;rw[HS3.out,<-Kz _ n _ hn7];exact j2.set (j2.set (j2.set Iu.out _ _) _ _) _ _
          (case measure=>simp[gj];omega)
     have Xe:¬(n:Int)<7:=fC;have kf:n=7:=fC;have V:Hid _:=U;have E:Hid _:=sy;have X:Hid _:=h;clear U sy h;go_wp2;go_roundw;(case rel=>exact⟨b+1,fC,by go_num,by rw[FX.out,<-kf];exact V.out,E.out,X.out⟩);case measure=>simp[gj];omega
   have aeh:¬(b:Int)<7:=fC;have hbe:b=7:=fC;have V:Hid (j2 wr B (hC (Eg C r H 7)) 259):=by rw[<-hbe];exact U
   have X:Hid _:=h;clear U sy h hbe;go_wp2_with fail;go_end0;exact⟨rfl,V.out,X.out⟩
def qR(H:Nat->HP):Nat->List HP
 |0=>[]
 |n+1=>if 0<(H n).far then qR H n++ [H n]else qR H n
def tM(H:Nat->HP):∀n,(qR H n).length<=n
 |0=>aj _
 |n+1=>by
  have:=tM H n;simp only[qR];split;{simp;omega};{omega}
def Ph(L:List HP):List fB:=L.flatMap λh=>[ι κ h.dst,ι κ h.far,ι κ h.qT]
def MH(L:List HP)(h:HP):Ph (L++ [h])=Ph L++ [ι κ h.dst,ι κ h.far,ι κ h.qT] :=by simp[Ph]
def Rl:∀(L:List HP) (j:Nat) (h:HP),L[j]? =μ h->(Ph L)[j*3]? =μ (ι κ h.dst)/\(Ph L)[j*3+1]? =μ (ι κ h.far)/\(Ph L)[j*3+2]? =μ (ι κ h.qT)
 |[],j,s,h=>by simp at h
 |x::l,0,s,h=>by
  have:x=s:=by simpa using h
  subst this;exact⟨rfl,rfl,rfl⟩
 |x::l,j+1,s,h=>by
  have V:l[j]? =μ s:=by simpa using h
  obtain⟨a,b,c⟩:=Rl l j s V;have e:Ph (x::l)=ι κ x.dst::ι κ x.far::ι κ x.qT::Ph l:=rfl;have Z:(j+1)*3=j*3+3:=fC;have Y:(j+1)*3+1=j*3+1+3:=fC;have X:(j+1)*3+2=j*3+2+3:=fC;rw[e,Y,X,Z];simp only[List.getElem?_cons_succ];exact⟨a,b,c⟩
def Row.hs {v:fB} {L:List HP} (h:Row w 3 v L.length (Ph L)):∃a cap,v=σ a L.length cap/\Ti w a L.length L:=by
 obtain⟨rfl,e⟩|⟨g,cap,rfl,_⟩:=h.2;{rw[e];exact⟨ν,0,rfl,⟨e,.inl rfl⟩⟩};refine⟨_,cap,rfl,⟨rfl,.inr ⟨g,0,rfl,λj s e=> ?_⟩⟩⟩;obtain⟨a,b,c⟩:=Rl L j s e;rw[show 0+j*3=j*3 by omega];exact⟨Row.cell h _ _ a,Row.cell h _ _ b,Row.cell h _ _ c⟩
def Bj(w:fA)(x y z:fB)(t:fE)(g:Nat)(Z:w.heap.size=g):∀(j:Nat) (u:fB),[x,y,z][j]? =μ u->(w.alloc (γ #[x,y,z] t)).cell? ((⟨g,0,ν⟩:fq).add j)=μ u:=by
 subst Z;intro j u hu;rw[add_plain,ay];simpa using hu
def Xg(x y z:Int):∀u∈ [ι .i64 x,ι .i64 y,ι .i64 z],u.oneCell'=true:=by simp[Value.oneCell']
def Rm:(gg.info? 98).map (λi=>(i.zero,i.size,i.bytes))=μ (μ (.agg #[ι κ 0,ι κ 0,ι κ 0]),3,24):=iV
def Xh(H:Nat->HP)(B:Nat)(w:fA)(hB:j2 w B (hC H) 259):
 gb gg 166 #[π (μ ⟨B,0,ν⟩)] w λe w'=>∃a cap,e=ρ (σ a (qR H 7).length cap)/\HsN w w' a (qR H 7).length (qR H 7)/\fP w w':=by
  obtain⟨i0,hi,pB,oR,oe⟩:=bu Rm;go_in;go_wp2;go_loopw [3,8] (λs v wr=>∃n:Nat,n<=7/\v=ι κ n/\Row wr 3 s (qR H n).length (Ph (qR H n))/\(∀g,s.ownBlock=μ g->w.heap.size<=g)/\fP w wr) (λ_ v _=>7-(gj v).toNat);(case atStart=>exact⟨0,fC,rfl,Row.nil _ _,λg hg=>by simp[fD]at hg,aC _ _⟩)
  case round=>
   obtain⟨n,hn,rfl,J,G,Y⟩:=hrel;have HL:Hid _:=tM H n;have X:Hid (qR H (n+1)=if 0<(H n).far then qR H n++ [H n]else qR H n):=rfl;by_cases hn7:n<7
   ·have Xe:(n:Int)<7:=fC;obtain⟨p0,p1,p2⟩:=Cr H n hn7;have Z:=hB.below Y;have c0:=(Z.cell (n*3)).trans p0;have c1:=(Z.cell (n*3+1)).trans p1;have c2:=(Z.cell (n*3+2)).trans p2;clear p0 p1 p2 Z;obtain⟨p,hp⟩:=fH (H n);rw[hp]at c0 c1 c2 X;clear hp;obtain⟨pd,pf,U⟩:=p;simp only at c0 c1 c2 X;have u:=Y.alloc Y.size (γ #[ι κ pd,ι κ pf,ι κ U] 98);have h:Hid _:=u;have hws:Hid (w.heap.size<=wr.heap.size):=Y.size;have E:=J.alloc (γ #[ι κ pd,ι κ pf,ι κ U] 98);have D:Hid _:=G;by_cases hf:0<pf
    ·rw[ag hf]at X;obtain⟨L,M⟩:=fH (qR H n);rw[M]at X HL E;have hLl:L.length<=n:=HL.out;clear M J G Y u;go_wp2_with(at_builtin;go_must(refine jN _ rfl (.tmp 16) (.tmp 18) 94 rfl 98 i0 (.agg #[ι κ 0,ι κ 0,ι κ 0]) 3 24 underlying94 hi pB oR oe rfl fF u3 L.length (Ph L) rfl (E.alloc _) _ 1 1 [ι κ pd,ι κ pf,ι κ U] rfl rfl fF (Bj _ _ _ _ _ _ gZ) (Xg _ _ _) (by unfold maxLen;omega) fC ?_));intro g' kE w3 uN T uO
     have y:Hid (Row w3 3 (σ (μ ⟨g',0,ν⟩) (L.length+1) kE) (L++ [(⟨pd,pf,U⟩:HP)]).length (Ph (L++ [(⟨pd,pf,U⟩:HP)]))):=by
      show Row _ _ _ _ _;rw[MH,aG];exact uN
     have V:fP w ((wr.alloc (γ #[ι κ pd,ι κ pf,ι κ U] 98)).alloc (γ #[ι κ pd,ι κ pf,ι κ U] 98)):=Below.alloc h.out h.out.size _;have Ly:Hid (fP w w3):=⟨T.os.trans V.os,T.tape.trans V.tape,T.output.trans V.output,au V.size T.size,λi hi=>(T.block i (aq hi V.size) (λe=>by have:=D.out i e.symm;omega)).trans (V.block i hi)⟩
     have W8:Hid (∀g,fD (σ (μ ⟨g',0,ν⟩) (L.length+1) kE)=μ g->w.heap.size<=g):=by
      intro g hg;have SD:g'=g:=by simpa[fD]using hg
      subst SD;obtain e|e:=uO;{exact D.out _ e};have:=hws.out;omega
     clear uN T uO V E c0 c1 c2;go_wp2;go_roundw;(case rel=>exact⟨n+1,fC,by go_num,by rw[X.out];exact y.out,W8.out,Ly.out⟩);case measure=>simp[gj];omega
    rw[af hf]at X;have A:Hid _:=E;clear J G Y u E;go_wp2;go_roundw;(case rel=>exact⟨n+1,fC,by go_num,by rw[X.out];exact A.out,D.out,h.out⟩);case measure=>simp[gj];omega
   have Xe:¬(n:Int)<7:=fC;have kf:n=7:=fC;subst kf;obtain⟨a,cap,rfl,hR⟩:=Row.hs J;have HR:Hid (HsN w wr a (qR H 7).length (qR H 7)):=⟨hR,λx e=>by subst e;exact G _ rfl⟩
   clear hR J G;go_wp2;go_ret;first|exact⟨a,cap,rfl,HR.out,Y⟩|exact⟨a,⟨cap,rfl⟩,HR.out,Y⟩
def j1(C:l8)(r:Nat):Nat->Nat->HP
 |0=>nr C r 7
 |k+1=>Eg C r (j1 C r k) 7
def mE(C:l8)(r:Nat):List HP:=qR (j1 C r 6) 7
def Dt {C:l8} (r:Nat)(hC:∀x y,0<=C x y/\C x y<=20):∀k,ug (j1 C r k) (20+980*k)
 |0=>λn=>by
  simp only[j1,nr];have:=hC r n;split;{simp only;omega}
  ·simp[HP.zero]
 |k+1=>λn=>by
  have:=(Dt r hC k).go (r:=r) hC 7 n;simp only[j1];push_cast at this⊢;omega
def Du {C:l8} (hC:∀x y,0<=C x y/\C x y<=20):∀x y,0<=lp C x y/\lp C x y<=20:=by
 intro x y;have:=hC x y;simp only[lp];split<;>omega
def Xi(a:Option fq)(n cap:Nat)(S:Nat->SV)(E:Nat->List kS)(r:Nat)(w:fA)(h:xE w a n S E)(hn:n<=1000)(jR:∀j<n,qq (S j).own (S j).seq (E j)=0)(mQ:1<=r)(hr6:r<=6):
 gb gg 116 #[σ a n cap,ι κ (r:Int)] w λe w'=>∃b c,e=ρ (σ b (mE (lp (ln S E n)) r).length c)/\HsN w w' b (mE (lp (ln S E n)) r).length (mE (lp (ln S E n)) r)/\fP w w':=by
  have Zz:=Tj a n cap S E w h hn jR;have hz:=Ct;have oe:=MF;have I7:=Du (yg S E n jR);have A:Hid _:=I7;have r1:¬(r:Int)<1:=fC;have r2:¬6<(r:Int):=fC;obtain⟨Z,hZ⟩:=fH (gC (λ_ _=>0));obtain⟨T,ZC⟩:=fH (hC (λ_=>HP.zero));have zs:Z.size=49:=by rw[<-hZ];exact rW _
  have zs2:T.size=21:=by rw[<-ZC];exact vD _
  rw[hZ]at hz;rw[ZC]at oe;clear hZ ZC I7 jR;go_in;go_wp2_with fail;refine Zz.mono ?_;rintro e w1 ⟨rfl,k1⟩;have Ce:=Xb (ln S E n) w1;obtain⟨C,u⟩:=fH (lp (ln S E n));rw[u]at Ce A;have HCe:Hid _:=u;clear Zz u;go_wp2_with fail;refine Ce.mono ?_;rintro e U ⟨rfl,k2⟩;have oB:=fQ k1 k2;clear Ce k1 k2;have gs:(gC C).size=49:=rW _;have g1:(gC C).all (·.oneCell')=true:=Pc _;have xu:(gg.info? 256).map (·.size)=μ (gC C).size:=by rw[gs];exact yU
  have ud:Z.size=(gC C).size:=by rw[gs,zs]
  have y:j2 (U.alloc (γ Z 256)) U.heap.size Z 256:=j2.new _ _ _;have Ef:j2 ((U.alloc (γ Z 256)).setRow U.heap.size (gC C)) U.heap.size (gC C) 256:=y.setRow;have Hb3:Hid (fP w ((U.alloc (γ Z 256)).setRow U.heap.size (gC C))):=qD (oB.alloc oB.size _) oB.size _;have Ri:=Tn C r fC ((U.alloc (γ Z 256)).setRow U.heap.size (gC C));have yV:Hid _:=Ef;have Hs2:Hid _:=oB.size;clear oB;go_wp2_with(first
   |refine ng _ rfl (.tmp 5) 256 rfl U.heap.size (gC C) _ _ rfl Ef underlying256 xu ?_
   |refine oc _ rfl (.tmp 5) (.tmp 15) 256 rfl U.heap.size Z (gC C) rfl rfl y ud xu g1 ?_)
  refine Ri.mono ?_;rintro e w3 ⟨rfl,k3⟩;have Aa:=j2.below yV.out k3;have uA:=fQ Hb3.out k3;obtain⟨X,N5⟩:=fH (U.heap.size);have HsX:Hid (w.heap.size<=X):=by show _<=_;rw[<-N5];exact Hs2.out
  rw[N5]at Aa;rw[N5];have D:Hid (X<w3.heap.size):=Aa.lt;clear Ri y Ef yV Hb3 k3 Hs2 N5 xu ud;obtain⟨F,hF⟩:=fH (hC (nr C r 7));have fs:F.size=21:=by rw[<-hF];exact vD _
  have f1:F.all (·.oneCell')=true:=by rw[<-hF];exact WW _
  have Pk:(gg.info? 259).map (·.size)=μ F.size:=by rw[fs];exact KA
  have ahy:T.size=F.size:=by rw[fs,zs2]
  rw[hF];have y:j2 (w3.alloc (γ T 259)) w3.heap.size T 259:=j2.new _ _ _;have hY4:j2 ((w3.alloc (γ T 259)).setRow w3.heap.size F) w3.heap.size F 259:=y.setRow;have hX4:j2 ((w3.alloc (γ T 259)).setRow w3.heap.size F) X (gC C) 256:=(Aa.below (gu _ _)).WU (by have:=D.out;omega);have G:Hid (fP w ((w3.alloc (γ T 259)).setRow w3.heap.size F)):=qD (uA.alloc uA.size _) uA.size _;have H:Hid (j2 ((w3.alloc (γ T 259)).setRow w3.heap.size F) w3.heap.size (hC (j1 C r 0)) 259):=by show j2 _ _ (hC (nr C r 7)) _;rw[hF];exact hY4
  have J:Hid _:=hX4;have HS3:Hid _:=uA.size;clear uA hF Aa;go_wp2_with(first
   |refine oc _ rfl (.tmp 6) (.tmp 18) 259 rfl w3.heap.size T F rfl rfl y ahy Pk f1 ?_)
  obtain⟨Y,Tl⟩:=fH (w3.heap.size);rw[Tl]at H J G D HS3;rw[Tl];clear Tl y hY4 hX4 Pk ahy fs f1;obtain⟨W4,wY⟩:=fH ((w3.alloc (γ T 259)).setRow Y F);rw[wY]at H J G;rw[wY];clear wY;have HRF:=Dt r A.out;have amw:Hid _:=HRF;clear HRF;go_loopw [19] (λv wr=>∃k:Nat,k<=6/\v=ι κ k/\j2 wr X (gC C) 256/\j2 wr Y (hC (j1 C r k)) 259/\fP w wr) (λv _=>6-(gj v).toNat);(case atStart=>exact⟨0,fC,rfl,J.out,H.out,G.out⟩)
  case round=>
   clear J H G;obtain⟨k,hk,rfl,hX,hY,jS⟩:=hrel;by_cases hk6:k<6
   ·have amx:(k:Int)<6:=fC;have xu:(gg.info? 256).map (·.size)=μ (gC C).size:=by rw[gs];exact yU
    have hgo:=Xf C r fC (j1 C r k) Y (20+980*k) wr hY A.out (amw.out k) fC;have HX:Hid _:=hX;have M:Hid _:=jS;clear hY jS;go_wp2_with(first
     |refine ng _ rfl (.tmp 5) 256 rfl X (gC C) _ _ rfl hX underlying256 xu ?_)
    refine hgo.mono ?_;rintro e w5 ⟨rfl,hY5,V⟩;have hXl:=j2.lt HX.out;have HX5:Hid (j2 w5 X (gC C) 256):=j2.keep HX.out (V.block X hXl (λe=>by have:=D.out;simp at e;omega));have HY5:Hid _:=hY5;have Jj:Hid (fP w w5):=⟨V.os.trans M.out.os,V.tape.trans M.out.tape,V.output.trans M.out.output,au M.out.size V.size,λi hi=>(V.block i (aq hi M.out.size) (λe=>by have:=HS3.out;simp at e;omega)).trans (M.out.block i hi)⟩
    clear hgo hY5 V hX xu;go_wp2;go_roundw;(case rel=>exact⟨k+1,fC,by go_num,HX5.out,HY5.out,Jj.out⟩);case measure=>simp[gj];omega
   have amx:¬(k:Int)<6:=fC;have hke:k=6:=fC;have hli:=Xh (j1 C r k) Y wr hY;have HL:Hid (qR (j1 C r k) 7=mE (lp (ln S E n)) r):=by show _=_;rw[HCe.out,hke];rfl
   rw[HL.out]at hli;clear hX hY hke HL;go_wp2_with fail;refine hli.mono ?_;rintro e w5 ⟨ra,rc,rfl,hR,k5⟩;have HR:Hid (HsN w w5 ra (mE (lp (ln S E n)) r).length (mE (lp (ln S E n)) r)):=⟨hR.r,λx e=>au jS.size (hR.nw x e)⟩
   have M:Hid _:=fQ jS k5;clear hli hR k5 jS;go_wp2;go_ret;first|exact⟨_,_,rfl,HR.out,M.out⟩|exact⟨_,⟨_,rfl⟩,HR.out,M.out⟩
namespace Rt
structure mX where
 who:Int
 both:Bool
 left:Int
def nobody:mX:=⟨0,false,0⟩
structure kB where
 m:Int
 L:LS
 rd:l7
 pe:mX
 out:List UInt8
abbrev wK:=Int×Int×List UInt8
structure jO where
 id:Int
 n:Nat
 P:Nat->kB
 K:Int->Option PS
 O:Nat->Int->Option PS
 kA:List wK
 drop:Int
def m8(P:Nat->kB)(i:Nat)(p:kB):Nat->kB:=λx=>if x=i then p else P x
def jO.jW(r:jO)(i:Nat)(p:kB):jO:={r with P:=m8 r.P i p}
def kB.put(p:kB)(c:UInt8)(s:List UInt8):kB:=
 if c≠76/\p.L.st≠9 then p else if s.length+1<=60 then {p with out:=p.out++Plain.mW (c::s)}else p
def kB.say(p:kB):List mH->kB
 |[] =>p
 |q::r=>(if lg q.1 q.2.1 q.2.2=0 then p.put 76 (oj q.1 q.2.1 q.2.2)else p).say r
def kB.jT(p:kB)(up:Bool):kB×Nat:=
 let e:=mV p.L (if up then 0 else 1)
 if e.2.2≠0 then(p,e.2.2)else(({p with L:=e.1,rd:=([],false,false)}:kB).say e.2.1,0)
def j8(L:LS):LS×List mH:=
 if(lS L).st=3 then((mV (mV (lS L) 1).1 0).1,nD L++(mV (lS L) 1).2.1++(mV (mV (lS L) 1).1 0).2.1)else(lS L,nD L)
def kB.tick(p:kB):kB:=({p with L:=(j8 p.L).1}:kB).say (j8 p.L).2
def kB.packet(p:kB)(s:List UInt8):kB:=
 let q:=j3 s
 if q.2.2.2=0 then({p with L:=(kV p.L (q.1,q.2.1,q.2.2.1)).1}:kB).say (kV p.L (q.1,q.2.1,q.2.2.1)).2.1 else p
def kQ(P:Nat->kB)(n:Int):Nat->Option Nat
 |0=>none
 |k+1=>if(P k).pe.both=true/\(P k).pe.who=n/\(match kQ P n k with|none=>true|some b=>decide ((P k).m<(P b).m))=true then some k else kQ P n k
def kH(r:jO):List kS:=(gw 6).filterMap λ(j:Nat)=>(kQ r.P ((j:Int)+1) r.n).map λb=>((j:Int)+1,(r.P b).m)
def Cx(K:Int->Option PS)(i:Int):Int:=match K i with|none=>0|some q=>q.1
def Ei(K:Int->Option PS)(i:Int):List kS:=match K i with|none=>[] |some q=>q.2
def jO.Ag(r:jO)(seq:Int)(es:List kS):jO:={r with K:=xY r.K r.id (seq,es),O:=λi=>xY (r.O i) r.id (seq,es)}
def jO.behind(r:jO)(seq:Int):jO:=if seq<1000000 then r.Ag (seq+1) (kH r)else r
def jO.change(r:jO):jO:=if Ei r.K r.id=kH r then r else r.behind (Cx r.K r.id)
def jO.meet(r:jO)(i:Nat)(q:mX):jO:=
 let r1:=r.jW i {r.P i with pe:=q}
 if q.who=(r.P i).pe.who/\q.both=(r.P i).pe.both then r1 else
  let r2:=({r1 with O:=λx=>if x=i then λ_=>ν else r1.O x}:jO).change
  if q.both=true then {r2 with O:=λx=>if x=i then sA (r2.O i) r2.K else r2.O x}else r2
def jO.jT(r:jO)(i:Nat)(up:Bool):jO×Nat:=
 let e:=(r.P i).jT up
 if e.2≠0 then(r,e.2)else((r.jW i e.1).meet i nobody,0)
def oD(K:Int->Option PS):l8:=λx y=>match K x with|none=>0|some q=>((q.2.find? λe=>e.1==(y:Int)).map (·.2)).getD 0
def n8(r:jO):List HP:=mE (lp (oD r.K)) r.id.toNat
def jO.send(r:jO)(t:wK):jO:=
 if t.1=r.id then {r with kA:=r.kA++ [t] }else
  match (if 1<=t.2.1 then(ye (n8 r) t.1).bind λh=>kQ r.P h.qT r.n else ν)with
  |none=>{r with drop:=r.drop+1}
  |some i=>r.jW i ((r.P i).put 77 (kI t.1::kI (t.2.1-1)::t.2.2))
def kg(me:Int)(f s:Int):mX:=if f=me then nobody else⟨f,decide (s=me),4⟩
def jP(p:mX):mX:=if p.left<=1 then nobody else {p with left:=p.left-1}
def jO.take(r:jO)(i:Nat)(c:UInt8)(s:List UInt8):jO:=
 let r1:=if c=76 then r.jW i ((r.P i).packet s)else r
 if(r1.P i).L.st≠9 then r1.meet i nobody
 else if c=72 then(if(mr s).2.2=0 then r1.meet i (kg r1.id (mr s).1 (mr s).2.1)else r1)
 else if c=83 then
  (let q:=St.ig s
   if q.2.2.2≠0 \/(r1.P i).pe.both=false then r1
   else if q.1=r1.id/\0<newF r1.K q.1 q.2.1 q.2.2.1 then r1.behind q.2.1
   else
    let r2:jO:={r1 with K:=np r1.K q.1 q.2.1 q.2.2.1,O:=qL r1.K r1.O i q.1 q.2.1 q.2.2.1}
    if 0<=newF r1.K q.1 q.2.1 q.2.2.1 then r2.jW i ((r2.P i).put 65 (tI q.1 q.2.1 q.2.2.1))else r2)
 else if c=65 then
  (let q:=St.ig s
   if q.2.2.2=0 then {r1 with O:=λx=>if x=i/\0<=newF r1.K q.1 q.2.1 q.2.2.1 then Ac (r1.O i) q.1 else r1.O x}else r1)
 else if c=77 then(if 2<=s.length/\s.length<=22 then r1.send (((s.getD 0 0).toNat:Int),((s.getD 1 0).toNat:Int),s.drop 2)else r1)
 else r1
def jO.takes(r:jO)(i:Nat):List (List UInt8)->jO
 |[] =>r
 |t::l=>(match t with|[] =>r|c::s=>r.take i c s).takes i l
def jO.recv(r:jO)(i:Nat)(l:List UInt8):jO:=
 let a:=l5 (r.P i).rd l
 (r.jW i {r.P i with rd:=a.2.2}).takes i a.1
def nu(F:Int->Option PS):List (Int×PS):=(gw 6).filterMap λ(j:Nat)=>(F ((j:Int)+1)).map λq=>((j:Int)+1,q)
def kB.mA(p:kB):List (Int×PS)->kB
 |[] =>p
 |q::l=>(p.put 83 (tI q.1 q.2.1 q.2.2)).mA l
def jO.jZ(r:jO)(i:Nat):jO:=
 let r1:=r.jW i (r.P i).tick
 if(r1.P i).L.st≠9 then r1.meet i nobody else
  let r2:=r1.meet i (jP (r1.P i).pe)
  let p:=(r2.P i).put 72 [kI r2.id,kI (r2.P i).pe.who]
  r2.jW i (if(r2.P i).pe.both=true then p.mA (nu (r2.O i))else p)
def jO.j5(r:jO):Nat->jO
 |0=>r
 |k+1=>(r.j5 k).jZ k
def jO.tick(r:jO):jO:=r.j5 r.n
def jO.out(r:jO)(i:Nat):jO:=r.jW i {r.P i with out:=[] }
def Jk(id:Int)(m:Nat->Int)(i:Nat):kB:=⟨m i,{aaI (8*id+i+1)with st:=1},([],false,false),nobody,[]⟩
where aaI (g:Int):LS:=⟨255,g,255,g,0,0,0,255,0,0,0⟩
def kZ(id:Int)(n:Nat)(m:Nat->Int):jO:=
 ⟨id,n,Jk id m,λx=>if x=id then μ (1,[])else ν,λ_ x=>if x=id then μ (1,[])else ν,[],0⟩
def lF(r:jO)(t:Int)(tx:List UInt8):jO×Nat:=if t<1 \/6<t \/20<tx.length then(r,1)else(r.send (t,8,tx),0)
end Rt
variable {B fuel:Nat} {a:Act} {listed:Array Bool} {oi:Oper} {v:Value} {w:World}
section
variable {P:Program}
end
section
variable {P:Program} {md:Region.Mode} {ops:Array Oper} {Q:Exit->Act->World->Prop} {S:World->Prop}
def Pm(i:Nat)(d:Option Tmp)(hi:ops[i]? =μ oi)(hd:oi.dst=d)
 (hs:iR ops=true) (hf:iT md ops listed i=true) (Y:(iU md ops listed).contains i=true)
 (Z:∀c a w,Q (.panic c) (a.put d v) w->Q (.panic c) a w) (hw:fR oi (yielded ops a.tmps)=true) (hy:∀w,S w->(iO a.eval oi).run P w=.ok (.value v) w) (hS:S w)
 (h:wpAnyH P md ops Q S fuel (listed.setIfInBounds i true) (a.put d v) w):wpAnyH P md ops Q S (fuel+1) listed a w:=by
  subst hd;exact wpAnyH_take hi hs hf Y Z (Or.inl ⟨hw,hy⟩) hS h
def mU(i:Nat)(d:Option Tmp)(hy:∀w,S w->(iO a.eval oi).run P w=.ok (.value v) w)(hS:S w)(h:wpAnyH P md ops Q S fuel (listed.setIfInBounds i true) (a.put d v) w)(hi:ops[i]? =μ oi:=by rfl)(hd:oi.dst=d:=by rfl)(hs:iR ops=true:=by kernel_rfl)(hf:iT md ops listed i=true:=by kernel_rfl)(Y:(iU md ops listed).contains i=true:=by kernel_rfl)(Z:∀c a w,Q (.panic c) (a.put d v) w->Q (.panic c) a w:=by exact λ_ _ _ h=>h)(hw:fR oi (yielded ops a.tmps)=true:=by rfl):wpAnyH P md ops Q S (fuel+1) listed a w:=Pm i d hi hd hs hf Y Z hw hy hS h
end
def wy {x:fA} {o:Obj} {C:Array fB} {t:fE} (h:j2 w B C t)(Z:(w.alloc o).drew.grownBy x v.ownBlock)(hv:v.ownBlock≠μ B):j2 x B C t:=by
 refine h.keep ?_;rw[Z.block B (by show B<(w.alloc o).heap.size;have:=h.lt;simp;omega) (λe=>hv e.symm)];exact bk w o B h.lt
def Xj(w:fA):(zeroValue 254).run gg w=.ok (.agg #[ι κ 0,ι κ 0,ι κ 0,ι κ 0,ι κ 0,ι κ 0,ι κ 0,ι κ 0,ι κ 0,ι κ 0,ι κ 0,σ ν 0 0]) w:=iV
def Ej(w:fA)(o:Obj):(w.alloc o).heap[w.heap.size]? =μ o:=bw w o
def aaJ(S M:Int)(w:fA)(X:¬S<40)(V:¬255<S)(U:¬M<1)(T:¬255<M):
 gb gg 119 #[ι κ S,ι κ M] w λe w'=>∃B,e=ρ (τ #[π (μ ⟨B,0,ν⟩),η])/\Lk w' B (VI S M S M 0 0 0 255 0 0 0 (σ ν 0 0))/\w.heap.size<=B/\fP w w':=by
  have hz:=AW;have hzl:=Xj;have J:=adF S M w X V U T;clear X V U T;go_in;go_wp2_with fail;refine J.mono ?_;rintro e w1 ⟨rfl,Z⟩;have hs:=Z.size;have A:=(Z.alloc Z.size (γ #[ι κ S,ι κ M] 252))
  have H:=fQ A (gu _ (γ (VI S M S M 0 0 0 255 0 0 0 (σ ν 0 0)) 254));have Y:=Ej (w1.alloc (γ #[ι κ S,ι κ M] 252)) (γ (VI S M S M 0 0 0 255 0 0 0 (σ ν 0 0)) 254);have D:(w1.alloc (γ #[ι κ S,ι κ M] 252)).heap.size=w1.heap.size+1:=gZ;rw[D]at Y;have E:Hid _:=Y;have G:Hid _:=H;clear Y H J;go_wp2;go_ret2;exact⟨w1.heap.size+1,rfl,E.out,fC,G.out⟩
def tS.rest {s:LS} (h:Lk w B (s.c (σ ν 0 0))):tS w B (λk=>k<w.heap.size) s (σ ν 0 0) [] :=
 ⟨h,Row.nil _ 3,λg Z=>by simp[fD]at Z,h.lt,λ_ Y=>Y,λp X=>by simp at X⟩
def Pn(S M:Int):LS:=⟨S,M,S,M,0,0,0,255,0,0,0⟩
def FY(S M:Int):(mV {Pn S M with st:=1} 0).2.2=0/\(mV {Pn S M with st:=1} 0).1.st=6/\(mV {Pn S M with st:=1} 0).2.1.length=1:=⟨iV,iV,iV⟩
namespace Rt
variable {B g o:Nat} {v:Value} {w w' w1:World}
def yX(p:kB)(B:Nat)(v:fB)(F:Nat->fB):Nat->fB:=λj=>
 if j=0 then .int .i64 p.m else if j=1 then π (μ ⟨B,0,ν⟩)else if j<67 then F (j-2)else if j=67 then .int .i64 p.pe.who else if j=68 then .bool p.pe.both else if j=69 then .int .i64 p.pe.left else v
structure sD(w:fA)(g o B:Nat)(v:fB)(p:kB):Prop where
 yY:∃F,sg w g o 71 (yX p B v F)/\EE F p.rd.1 p.rd.2.1 p.rd.2.2
 lk:Lk w B (p.L.c (σ ν 0 0))
 ou:Row w 1 v p.out.length (jV p.out)
 few:p.out.length<=1000000000
 ok:B5 p.L
 gB:g≠B
 vg:v.ownBlock≠μ g
 vB:v.ownBlock≠μ B
 nz:g≠0/\B≠0/\v.ownBlock≠μ 0
def sD.c0 {p:kB} (h:sD w g o B v p):w.cell? ⟨g,o,ν⟩=μ (ι κ p.m):=by obtain⟨F,hC,_⟩:=h.yY;exact hC.cell 0 fF
def sD.c1 {p:kB} (h:sD w g o B v p):w.cell? ⟨g,o+1,ν⟩=μ (π (μ ⟨B,0,ν⟩)):=by obtain⟨F,hC,_⟩:=h.yY;exact hC.cell 1 fF
def sD.c67 {p:kB} (h:sD w g o B v p):w.cell? ⟨g,o+67,ν⟩=μ (ι κ p.pe.who):=by obtain⟨F,hC,_⟩:=h.yY;exact hC.cell 67 fF
def sD.c68 {p:kB} (h:sD w g o B v p):w.cell? ⟨g,o+68,ν⟩=μ (.bool p.pe.both):=by obtain⟨F,hC,_⟩:=h.yY;exact hC.cell 68 fF
def sD.c69 {p:kB} (h:sD w g o B v p):w.cell? ⟨g,o+69,ν⟩=μ (.int .i64 p.pe.left):=by obtain⟨F,hC,_⟩:=h.yY;exact hC.cell 69 fF
def sD.c70 {p:kB} (h:sD w g o B v p):w.cell? ⟨g,o+70,ν⟩=μ v:=by obtain⟨F,hC,_⟩:=h.yY;exact hC.cell 70 fF
def sD.fz {w:fA} {g o B:Nat} {v:fB} {p:kB} (h:sD w g o B v p):∀j<71,w.frozen? ⟨g,o+j,ν⟩=false:=by obtain⟨F,hC,_⟩:=h.yY;exact λj Z=>hC.fz j Z
def sD.lt {w:fA} {g o B:Nat} {v:fB} {p:kB} (h:sD w g o B v p):g<w.heap.size:=by obtain⟨F,hC,_⟩:=h.yY;exact hC.lt fF
def sD.below {w w':fA} {g o B:Nat} {v:fB} {p:kB} (h:sD w g o B v p)(Z:fP w w'):sD w' g o B v p:=by
 obtain⟨F,hC,Y⟩:=h.yY;exact⟨⟨F,hC.below fF Z,Y⟩,h.lk.below Z,h.ou.below Z,h.few,h.ok,h.gB,h.vg,h.vB,h.nz⟩
structure pD(w w':fA)(g o B:Nat)(v:fB):Prop where
 os:w'.os=w.os
 tape:w'.tape=w.tape
 output:w'.output=w.output
 size:w.heap.size<=w'.heap.size
 block:∀i<w.heap.size,i≠g->i≠B->v.ownBlock≠μ i->w'.heap[i]? =w.heap[i]?
 cell:∀j,j<o \/o+71<=j->w'.cell? ⟨g,j,ν⟩=w.cell? ⟨g,j,ν⟩
 fz:∀j,w'.frozen? ⟨g,j,ν⟩=w.frozen? ⟨g,j,ν⟩
def pD.refl(w:fA)(g o B:Nat)(v:fB):pD w w g o B v:=⟨rfl,rfl,rfl,aj _,λ_ _ _ _ _=>rfl,λ_ _=>rfl,λ_=>rfl⟩
def pD.jY(o B:Nat)(v:fB)(h:fP w w')(Z:g<w.heap.size):pD w w' g o B v:=
 ⟨h.os,h.tape,h.output,h.size,λi hi _ _ _=>h.block i hi,λj _=>ak (a:=⟨g,j,ν⟩) (h.block g Z),λj=>aV (a:=⟨g,j,ν⟩) (h.block g Z)⟩
def pD.trans {a b c:fA} {g o B:Nat} {v v':fB} (h:pD a b g o B v)(k:pD b c g o B v')(hv:∀i,v'.ownBlock=μ i->v.ownBlock=μ i \/a.heap.size<=i):pD a c g o B v:=
 ⟨k.os.trans h.os,k.tape.trans h.tape,k.output.trans h.output,au h.size k.size,λi hi Y X V=>(k.block i (aq hi h.size) Y X (λe=>by
  obtain Z|Z:=hv i e;{exact V Z}
  ·omega)).trans (h.block i hi Y X V),λj U=>(k.cell j U).trans (h.cell j U),λj=>(k.fz j).trans (h.fz j)⟩
def Ah(g o B:Nat)(v:fB)(p:kB)(w:fA)(h:sD w g o B v p):
 gb gg 83 #[π (μ ⟨g,o,ν⟩)] w λe w'=>e=ρ (.bool (p.L.st==9))/\w=w':=by
  have c1:=h.c1;have hl:=h.lt;have hs:=IX B _ p.L _ [] w (tS.rest h.lk);clear h;go_in;go_wp2_with fail;refine hs.mono ?_;rintro e w1 ⟨rfl,rfl⟩;clear hs;go_wp2;go_ret;exact⟨rfl,rfl⟩
def Xk:(gg.info? 5).map (λi=>(i.zero,i.size,i.bytes))=μ (μ (.int .u8 0),1,1):=iV
def Rn(p:kB)(B:Nat)(v v':fB)(F:Nat->fB)(l:List UInt8):∀j<71,ui (yX p B v F) 70 v' j=yX {p with out:=l} B v' F j:=by
 intro j hj;by_cases e:j=70;{subst e;rw[rG];rfl};rw[kU _ _ e];unfold yX;by_cases Z:j=0;{simp[Z]};by_cases Y:j=1;{simp[Y]};by_cases X:j<67;{simp[Z,Y,X]};by_cases V:j=67;{simp[V]};by_cases U:j=68;{simp[U]};have T:j=69:=fC;simp[T]
def sD.grow {W x:fA} {p:kB} (h:sD w g o B v p)(X:fP w W)(V:W.grownBy x v.ownBlock)(v':fB)(l:List UInt8)(A:Row x 1 v' (p.out++l).length (jV (p.out++l)))(D:(p.out++l).length<=1000000000)(y:v'.ownBlock=v.ownBlock \/ ∃k,v'.ownBlock=μ k/\W.heap.size<=k):
 sD (x.setCell ⟨g,o+70,ν⟩ v') g o B v' {p with out:=p.out++l} /\pD w (x.setCell ⟨g,o+70,ν⟩ v') g o B v/\(∀i,v'.ownBlock=μ i->v.ownBlock=μ i \/w.heap.size<=i):=by
  have hW:=h.below X;have Y:∀i<w.heap.size,v.ownBlock≠μ i->x.heap[i]? =w.heap[i]? :=λi hi hv=>(V.block i (aq hi X.size) (λe=>hv e.symm)).trans (X.block i hi)
  have hv:∀i,v'.ownBlock=μ i->v.ownBlock=μ i \/w.heap.size<=i:=λi e=>by
   obtain Z|⟨k,Z,e2⟩:=y;{exact .inl (by rw[<-Z];exact e)};rw[e]at Z;have:i=k:=by simpa using Z
   have:=X.size;exact .inr fC
  have U:v'.ownBlock≠μ g:=λe=>by
   obtain Z|Z:=hv g e;{exact h.vg Z};have:=h.lt;omega
  have M:v'.ownBlock≠μ B:=λe=>by
   obtain Z|Z:=hv B e;{exact h.vB Z};have:=h.lk.lt;omega
  obtain⟨F,hC,G⟩:=h.yY;have T:sg x g o 71 (yX p B v F):=hC.keep (Y g h.lt h.vg);refine⟨⟨⟨F,(T.set 70 fF v').congr (Rn p B v v' F _),G⟩,?_,?_,D,h.ok,h.gB,U,M,h.nz.1,h.nz.2.1,λe=>by
   obtain Z|Z:=hv 0 e;{exact h.nz.2.2 Z}
   ·have:=h.lt;omega⟩,⟨?_,?_,?_,?_,?_,?_,?_⟩,hv⟩
  {exact h.lk.keep ((ax _ _ _ B (λe=>h.gB e.symm)).trans (Y B h.lk.lt h.vB))};{exact A.keep gZ (λk E=>ax _ _ _ k (λe=>U (by rw[E];exact congrArg μ e)))};{exact((aC 0 x).setCell (aw _) _).os.trans (V.os.trans X.os)};{exact((aC 0 x).setCell (aw _) _).tape.trans (V.tape.trans X.tape)};{exact((aC 0 x).setCell (aw _) _).output.trans (V.output.trans X.output)};{exact au X.size (au V.size gZ)};{exact λi hi J _ H=>(ax _ _ _ i J).trans (Y i hi H)};{exact λj hj=>(br _ _ _ _ (λe=>by have:=congrArg Addr.off e;simp at this;omega)).trans (ak (a:=⟨g,j,ν⟩) (Y g h.lt h.vg))};exact λj=>(og _ _ _ _).trans (aV (a:=⟨g,j,ν⟩) (Y g h.lt h.vg))
structure nE(w w':fA)(g o B:Nat)(v:fB)(p:kB):Prop where
 ex:∃v',sD w' g o B v' p/\(∀i,v'.ownBlock=μ i->v.ownBlock=μ i \/w.heap.size<=i)
 kept:pD w w' g o B v
def nE.still {p:kB} (h:sD w g o B v p)(Z:fP w w'):nE w w' g o B v p:=⟨⟨v,h.below Z,λ_ e=>.inl e⟩,pD.jY o B v Z h.lt⟩
def nE.trans {a b c:fA} {g o B:Nat} {v v':fB} {p:kB} (X:pD a b g o B v)(hv:∀i,v'.ownBlock=μ i->v.ownBlock=μ i \/a.heap.size<=i)(V:nE b c g o B v' p):nE a c g o B v p:=by
 obtain⟨⟨v2,T,Y⟩,U⟩:=V;refine⟨⟨v2,T,λi e=> ?_⟩,X.trans U hv⟩;obtain Z|Z:=Y i e;{exact hv i Z};exact .inr (au X.size Z)
def Ai(l:List UInt8)(h:l.length<=60):(Plain.mW l).length<=126:=by
 have:=Je l;omega
def EH(g o B:Nat)(v:fB)(p:kB)(T s:ByteArray)(c:UInt8)(w:fA)(h:sD w g o B v p)(hT:T.data.toList=[c])(hs:s.size<=1000)(hn:p.out.length<=900000000):
 gb gg 150 #[π (μ ⟨g,o,ν⟩),.string T,.string s] w λe w'=>e=ρ (τ #[])/\nE w w' g o B v (p.put c s.data.toList):=by
  obtain⟨i0,hi,pB,oR,oe⟩:=bu Xk;have hop:=Ah g o B v p w h;have hTs:T.size=1:=by have:=congrArg List.length hT;simpa using this
  have U:T.toList=[c] :=by rw[dP];exact hT
  have Ox:(T++s).size=s.size+1:=by rw[ByteArray.size_append,hTs];omega
  have Y:(T++s).data.toList=c::s.data.toList:=by rw[ByteArray.data_append];simp[hT]
  have hsl:s.data.toList.length=s.size:=gZ;have c70:=h.c70;have f70:=h.fz 70 fF;have hl:=h.lt;have HP:Hid _:=h;have mT:∀W:fA,fP w W->kB.put p c s.data.toList=p->nE w W g o B v (p.put c s.data.toList):=λW hW e=>by rw[e];exact nE.still HP.out hW
  have D:Hid _:=mT;clear mT
  have main:(c=76 \/p.L.st=9)->Hid (s.size+1<=60->p.put c s.data.toList={p with out:=p.out++Plain.mW (c::s.data.toList)})/\Hid (¬s.size+1<=60->p.put c s.data.toList=p):=λhc=>by
   have kY:¬(c≠76/\p.L.st≠9):=λ⟨a,b⟩=>by obtain e|e:=hc<;>contradiction
   refine⟨λh1=> ?_,λh1=> ?_⟩;{unfold kB.put;rw[af kY,ag (by rw[hsl];exact h1)]};unfold kB.put;rw[af kY,af (by rw[hsl];exact h1)]
  by_cases J:c=76
  ·have q:(T.toList==[76])=true:=by rw[U,J];rfl
   obtain⟨G,E⟩:=main (.inl J);clear main U hop h;by_cases V:s.size+1<=60
   ·have Z:=Ms (T++s) w fC;rw[Y]at Z;have yW:=Ai (c::s.data.toList) (by simp;omega);have E1:Hid _:=G.out V;obtain⟨L,hL⟩:=fH (Plain.mW (c::s.data.toList));rw[hL]at Z yW E1;clear G E Y hL;go_in;go_wp2_with fail;refine Z.mono ?_;rintro e w1 ⟨rfl,b1⟩;have X:=HP.out.below b1;have A:=X.c70;have y:=X.fz 70 fF;have dl:=X.lt;have Iv:=X.ou;have HV:Hid (v.ownBlock≠μ g):=X.vg;clear Z c70 f70;go_wp2_with(at_builtin;go_must(refine vC _ rfl (.tmp 28) (.tmp 29) 140 9 rfl 5 i0 (.int .u8 0) underlying140 underlying9 hi pB oR oe rfl v p.out.length (jV p.out) rfl Iv ⟨L.toArray⟩ rfl (by show L.toArray.size<=1000000;simp;omega) fC ?_));intro v' x u H ku
    have hsh:∃a' n' c',v'=σ a' n' c':=by
     obtain⟨e,_⟩|⟨g',c',e,_⟩:=u.2;{exact⟨_,_,_,e⟩};exact⟨_,_,_,e⟩
    obtain⟨a',n',c',rfl⟩:=hsh
    have ZF:Row x 1 (σ a' n' c') (p.out++L).length (jV (p.out++L)):=by
     rw[aG,nA];exact u
    obtain⟨G1,G2,G3⟩:=sD.grow HP.out b1 H (σ a' n' c') L ZF (by rw[aG];omega) ku;have y70:x.cell? ⟨g,o+70,ν⟩=μ v:=(ak (a:=⟨g,o+70,ν⟩) (H.block g dl (λe=>HV.out e.symm))).trans A;have z70:x.frozen? ⟨g,o+70,ν⟩=false:=(aV (a:=⟨g,o+70,ν⟩) (H.block g dl (λe=>HV.out e.symm))).trans y;have xl:g<x.heap.size:=ai x _ y70
    have M:Hid (nE w (x.setCell ⟨g,o+70,ν⟩ (σ a' n' c')) g o B v (p.put c s.data.toList)):=by
     show nE _ _ _ _ _ _ _;rw[E1.out];exact⟨⟨_,G1,G3⟩,G2⟩
    clear G1 G2 G3 u ZF H ku Iv X;go_wp2_with fail;go_end0;exact⟨rfl,M.out⟩
   have Z:=Ra (T++s) w fC (by unfold maxLen;omega);have M:Hid (nE w w g o B v (p.put c s.data.toList)):=D.out w (aC _ _) (E.out V);clear G E Y;go_in;go_wp2_with fail;refine Z.mono ?_;rintro e w1 ⟨rfl,rfl⟩;clear Z;go_wp2_with fail;go_end0;exact⟨rfl,M.out⟩
  have q:(T.toList==[76])=false:=by
   rw[U,dm];intro e;exact J (by simpa using e)
  cases h9:(p.L.st==9)
  ·have lz:p.L.st≠9:=by simpa using h9
   have M:Hid (nE w w g o B v (p.put c s.data.toList)):=D.out w (aC _ _) (by unfold kB.put;rw[ag ⟨J,lz⟩]);rw[h9]at hop;clear main U h Y;go_in;go_wp2_with fail;refine hop.mono ?_;rintro e w1 ⟨rfl,rfl⟩;clear hop;go_wp2_with fail;refine nX rfl rfl ?_;exact⟨rfl,M.out⟩
  have lz:p.L.st=9:=by simpa using h9
  obtain⟨G,E⟩:=main (.inr lz);rw[h9]at hop;clear main U h lz;by_cases V:s.size+1<=60
  ·have Z:=Ms (T++s) w fC;rw[Y]at Z;have yW:=Ai (c::s.data.toList) (by simp;omega);have E1:Hid _:=G.out V;obtain⟨L,hL⟩:=fH (Plain.mW (c::s.data.toList));rw[hL]at Z yW E1;clear G E Y hL;go_in;go_wp2_with fail;refine hop.mono ?_;rintro e w1 ⟨rfl,rfl⟩;clear hop;go_wp2_with fail;refine Z.mono ?_;rintro e w1 ⟨rfl,b1⟩;have X:=HP.out.below b1;have A:=X.c70;have y:=X.fz 70 fF;have dl:=X.lt;have Iv:=X.ou;have HV:Hid (v.ownBlock≠μ g):=X.vg;clear Z c70 f70;go_wp2_with(at_builtin;go_must(refine vC _ rfl (.tmp 28) (.tmp 29) 140 9 rfl 5 i0 (.int .u8 0) underlying140 underlying9 hi pB oR oe rfl v p.out.length (jV p.out) rfl Iv ⟨L.toArray⟩ rfl (by show L.toArray.size<=1000000;simp;omega) fC ?_));intro v' x u H ku
   have hsh:∃a' n' c',v'=σ a' n' c':=by
    obtain⟨e,_⟩|⟨g',c',e,_⟩:=u.2;{exact⟨_,_,_,e⟩};exact⟨_,_,_,e⟩
   obtain⟨a',n',c',rfl⟩:=hsh
   have ZF:Row x 1 (σ a' n' c') (p.out++L).length (jV (p.out++L)):=by
    rw[aG,nA];exact u
   obtain⟨G1,G2,G3⟩:=sD.grow HP.out b1 H (σ a' n' c') L ZF (by rw[aG];omega) ku;have y70:x.cell? ⟨g,o+70,ν⟩=μ v:=(ak (a:=⟨g,o+70,ν⟩) (H.block g dl (λe=>HV.out e.symm))).trans A;have z70:x.frozen? ⟨g,o+70,ν⟩=false:=(aV (a:=⟨g,o+70,ν⟩) (H.block g dl (λe=>HV.out e.symm))).trans y;have xl:g<x.heap.size:=ai x _ y70
   have M:Hid (nE w (x.setCell ⟨g,o+70,ν⟩ (σ a' n' c')) g o B v (p.put c s.data.toList)):=by
    show nE _ _ _ _ _ _ _;rw[E1.out];exact⟨⟨_,G1,G3⟩,G2⟩
   clear G1 G2 G3 u ZF H ku Iv X;go_wp2_with fail;go_end0;exact⟨rfl,M.out⟩
  have Z:=Ra (T++s) w fC (by unfold maxLen;omega);have M:Hid (nE w w g o B v (p.put c s.data.toList)):=D.out w (aC _ _) (E.out V);clear G E Y;go_in;go_wp2_with fail;refine hop.mono ?_;rintro e w1 ⟨rfl,rfl⟩;clear hop;go_wp2_with fail;refine Z.mono ?_;rintro e w1 ⟨rfl,rfl⟩;clear Z;go_wp2_with fail;go_end0;exact⟨rfl,M.out⟩
def yh(p:kB)(q:mH):kB:=if lg q.1 q.2.1 q.2.2=0 then p.put 76 (oj q.1 q.2.1 q.2.2)else p
def FZ:∀(l:List mH) (p:kB) (q:mH),p.say (l++ [q])=yh (p.say l) q
 |[],_,_=>rfl
 |x::l,p,q=>by
  show(yh p x).say (l++ [q])=yh ((yh p x).say l) q;exact FZ l (yh p x) q
def yZ(p:kB)(c:UInt8)(s:List UInt8):(p.put c s).out.length<=p.out.length+126:=by
 unfold kB.put;split;{omega};split;{rename_i h;have:=Ai (c::s) (by simpa using h);simp only[fT];omega};omega
def Xl(p:kB)(q:mH):(yh p q).out.length<=p.out.length+126:=by
 unfold yh;split;{exact yZ _ _ _};omega
def Bk:∀(l:List mH) (p:kB),(p.say l).out.length<=p.out.length+126*l.length
 |[],p=>by simp[kB.say]
 |x::l,p=>by
  have h1:=Bk l (yh p x);have h2:=Xl p x;have e:p.say (x::l)=(yh p x).say l:=rfl;rw[e,dh];omega
structure PtQ(w:fA)(g o B:Nat)(v:fB)(p:kB)(X:Nat->Prop)(vl:fB)(qs:List PV):Prop where
 yY:∃F,sg w g o 71 (yX p B v F)/\EE F p.rd.1 p.rd.2.1 p.rd.2.2
 rep:tS w B X p.L vl qs
 ou:Row w 1 v p.out.length (jV p.out)
 few:p.out.length<=1000000000
 ok:B5 p.L
 gB:g≠B
 vg:v.ownBlock≠μ g
 vB:v.ownBlock≠μ B
 nz:g≠0/\B≠0/\v.ownBlock≠μ 0
 xg:X g
 xv:∀k,v.ownBlock=μ k->X k
def Tp {code id:Int} {os:List kS} (h:lg code id os=0):(oj code id os).length<=100:=by
 have h8:os.length<=8:=by
  unfold lg at h;split at h;{simp at h};split at h;{simp at h};omega
 have:=uk os;simp only[oj,fU];omega
def Xm(g o B:Nat)(v:fB)(p:kB)(X:Nat->Prop)(vl:fB)(qs:List PV)(w:fA)(h:PtQ w g o B v p X vl qs)(hq:qs.length<=40)(hn:p.out.length<=800000000):
 gb gg 123 #[π (μ ⟨g,o,ν⟩)] w λe w'=>e=ρ (τ #[])/\nE w w' g o B v (p.say (qs.map PV.abs)):=by
  have uL:=aae B X p.L vl qs w h.rep;have c1:w.cell? ⟨g,o+1,ν⟩=μ (π (μ ⟨B,0,ν⟩)):=by obtain⟨F,hC,_⟩:=h.yY;exact hC.cell 1 fF
  have Q8:g<w.heap.size:=by obtain⟨F,hC,_⟩:=h.yY;exact hC.lt fF
  have Z:Hid _:=h;clear h;go_in;go_wp2_with fail;refine uL.mono ?_;rintro e w1 ⟨rfl,hR,j0,KC,T⟩
  have hP1:sD w1 g o B v p:=by
   obtain⟨F,hC,hF⟩:=Z.out.yY;have hkv:∀k,v.ownBlock=μ k->w1.heap[k]? =w.heap[k]? :=λk H=>T.block k (Z.out.ou.lt k H) (λe=>Z.out.vB (by rw[H,e])) gZ;exact⟨⟨F,hC.keep (T.block g Q8 Z.out.gB gZ),hF⟩,hR.lk,Z.out.ou.keep T.size hkv,Z.out.few,Z.out.ok,Z.out.gB,Z.out.vg,Z.out.vB,Z.out.nz⟩
  have Zu:pD w w1 g o B v:=⟨T.os,T.tape,T.output,T.size,λi hi _ h2 _=>T.block i hi h2 gZ,λj _=>ak (a:=⟨g,j,ν⟩) (T.block g Q8 Z.out.gB gZ),λj=>aV (a:=⟨g,j,ν⟩) (T.block g Q8 Z.out.gB gZ)⟩
  have hPk:∀W:fA,pD w1 W g o B v->aed W vl qs:=λW kW=>by
   refine⟨j0.keep kW.size (λk H=>kW.block k (j0.lt k H) (λY=>Z.out.rep.own k H (by rw[Y];exact Z.out.xg)) (λY=>Z.out.rep.own k H (by rw[Y];exact Z.out.rep.self)) (λY=>Z.out.rep.own k H (Z.out.xv k Y))),λq QO=>⟨(KC q QO).opt.QI (λk H=> ?_),(KC q QO).few⟩⟩;obtain⟨f1,_,f3⟩:=(KC q QO).far k H;exact kW.block k f3 (λY=>f1 (by rw[Y];exact Z.out.xg)) (λY=>f1 (by rw[Y];exact Z.out.rep.self)) (λY=>f1 (Z.out.xv k Y))
  have hle:∀q∈qs,q.n<=q.cap:=λq QO=>(KC q QO).le;have Kg:g<w1.heap.size:=hP1.lt;obtain⟨a,ca,rfl,_⟩:=(hPk w1 (pD.refl _ _ _ _ _)).shape;obtain⟨n,xC⟩:=fH (qs.length);have H1:Hid _:=hP1;have HK1:Hid _:=Zu;have HPk:Hid _:=hPk;have HLe:Hid _:=hle;have HN:Hid _:=xC;rw[xC]at hq;rw[xC];clear uL hR j0 KC T hP1 Zu hPk hle xC c1;go_wp2;go_loopw [12] (λi wr=>∃(k:Nat) (A:fB),k<=n/\i=ι κ k/\sD wr g o B A (p.say ((qs.map PV.abs).take k))/\pD w1 wr g o B v/\(∀i,A.ownBlock=μ i->v.ownBlock=μ i \/w1.heap.size<=i)) (λi _=>n-(gj i).toNat);(case atStart=>exact⟨0,v,aw _,rfl,H1.out,pD.refl _ _ _ _ _,λ_ e=>.inl e⟩)
  case round=>
   obtain⟨k,A,H,rfl,hP,M,D⟩:=hrel;by_cases lZ:k<n
   ·have pE:(k:Int)<(n:Int):=fC;have IV:(0:Int)<=(k:Int):=fC;have lk:k<qs.length:=by have:=HN.out;omega
    have PK:=HPk.out wr M;obtain⟨a',ca',Y,f1⟩:=PK.shape;obtain⟨g1,ea,x0,x1,x2⟩:=f1 k qs[k] (aB lk);have e1':a=a':=by simpa using(ch Y).1
    rw[ea]at e1';subst e1';have ho:=PK.opt qs[k] (aO lk);have ED:=HLe.out qs[k] (aO lk)
    have u:Hid ((qs.map PV.abs).take (k+1)=(qs.map PV.abs).take k++ [qs[k].abs]):=by
     show _=_;rw[aJ (by simpa using lk)];simp
    generalize qs[k] =q at x0 x1 x2 ho ED u;obtain⟨V,U,qa,qn,E,J⟩:=q;simp only at x0 x1 x2 ho ED;have z0:wr.cell? ⟨g1,k*3,ν⟩=μ (ι κ V):=by rw[aY]at x0;exact x0
    have z1:wr.cell? ⟨g1,k*3+1,ν⟩=μ (ι κ U):=by rw[aY]at x1;exact x1
    have z2:wr.cell? ⟨g1,k*3+2,ν⟩=μ (σ qa qn E):=by rw[aY]at x2;exact x2
    have hln:(p.say ((qs.map PV.abs).take k)).out.length<=900000000:=by
     have h1:=Bk ((qs.map PV.abs).take k) p;have h2:((qs.map PV.abs).take k).length<=k:=cQ _ _;omega
    have ba:=gu wr (γ #[ι κ V,ι κ U,σ qa qn E] 37);have HP:Hid _:=hP;have HKk:Hid _:=M;have G:Hid _:=D;clear PK f1 Y ea x0 x1 x2 hP M D;by_cases hf:lg V U J=0
    ·have y:=Kw V U qa qn E J _ ED (ho.1.below ba) hf;have EI:=Tp hf
     have E1:Hid (p.say ((qs.map PV.abs).take (k+1))=(p.say ((qs.map PV.abs).take k)).put 76 (oj V U J)):=by
      show _=_;rw[u.out,FZ];show yh _ (V,U,J)=_;unfold yh;rw[ag hf]
     clear hf ho;obtain⟨L,hL⟩:=fH (oj V U J);rw[hL]at y EI E1;clear hL;go_wp2_with fail;refine y.mono ?_;rintro e w3 ⟨rfl,b3⟩;have k3:=fQ ba b3;have qb:=EH g o B A (p.say ((qs.map PV.abs).take k)) ⟨#[76]⟩ ⟨L.toArray⟩ 76 w3 (HP.out.below k3) rfl (by show L.toArray.size<=1000;simp;omega) hln;have eL:(⟨L.toArray⟩:ByteArray).data.toList=L:=gZ;rw[eL]at qb;clear y b3;go_wp2_with fail;refine qb.mono ?_;rintro e w4 ⟨rfl,hW⟩
     have oW:nE w1 w4 g o B v (p.say ((qs.map PV.abs).take (k+1))):=by
      rw[E1.out];exact nE.trans (HKk.out.trans (pD.jY o B A k3 HP.out.lt) G.out) G.out hW
     have HW:Hid _:=oW;clear qb hW oW k3 ba;go_wp2;go_roundw;(case rel=>obtain⟨⟨v5,h5,h6⟩,h7⟩:=HW.out;exact⟨k+1,v5,fC,by go_num,h5,h7,h6⟩);case measure=>simp[gj];omega
    have y:=Mx V U qa qn E J _ fC ED (ho.1.below ba) hf;have ee:kr (lg V U J)=.iface 128 (ι κ (lg V U J:Int)):=by simp only[kr];rw[af hf]
    rw[ee]at y
    have E1:Hid (p.say ((qs.map PV.abs).take (k+1))=p.say ((qs.map PV.abs).take k)):=by
     show _=_;rw[u.out,FZ];show yh _ (V,U,J)=_;unfold yh;rw[af hf]
    clear hf ho ee;generalize lg V U J=f at y;go_wp2_with fail;refine y.mono ?_;rintro e w3 ⟨rfl,b3⟩;have Ly:Hid _:=fQ ba b3;clear y b3 ba;go_wp2;go_roundw;(case rel=>exact⟨k+1,A,fC,by go_num,by rw[E1.out];exact HP.out.below Ly.out,HKk.out.trans (pD.jY o B A Ly.out HP.out.lt) G.out,G.out⟩);case measure=>simp[gj];omega
   have zD:¬(k:Int)<(n:Int):=fC
   have HE:Hid (nE w wr g o B v (p.say (qs.map PV.abs))):=by
    have Y:(qs.map PV.abs).take k=qs.map PV.abs:=aR (by have:=HN.out;simp;omega);rw[Y]at hP;exact nE.trans HK1.out (λ_ e=>.inl e) ⟨⟨A,hP,D⟩,M⟩
   clear hP M D;go_wp2_with fail;go_end0;exact⟨rfl,HE.out⟩
structure Dv(w w1:fA)(g o B:Nat)(v:fB)(p:kB)(out:List mH):Prop where
 ex:∃vl qs,PtQ w1 g o B v p (λk=>k<w.heap.size) vl qs/\qs.map PV.abs=out
 kept:pD w w1 g o B v
def sD.begin {p:kB} (h:sD w g o B v p):Dv w w g o B v p [] :=
 ⟨⟨σ ν 0 0,[],⟨h.yY,tS.rest h.lk,h.ou,h.few,h.ok,h.gB,h.vg,h.vB,h.nz,h.lt,λk Z=>h.ou.lt k Z⟩,rfl⟩,pD.refl _ _ _ _ _⟩
def Dv.tab {p:kB} {out:List mH} (h:Dv w w1 g o B v p out)(Y:kd w):kd w1:=λe s X hs=>by
 obtain⟨vl,qs,Z,_⟩:=h.ex;exact(ak (a:=⟨0,e*10+s,ν⟩) (h.kept.block 0 Y.lt (λe=>Z.nz.1 e.symm) (λe=>Z.nz.2.1 e.symm) Z.nz.2.2)).trans (Y e s X hs)
def Dv.wz {w2:fA} {p:kB} {out ahE:List mH} {vl:fB} {qs:List PV} {s':LS} (Z:PtQ w1 g o B v p (λk=>k<w.heap.size) vl qs)(u:qs.map PV.abs=out)(Y:pD w w1 g o B v)
 (A:o9 w1 w2 B (λk=>k<w.heap.size) s' vl qs ahE) (h:B5 s'):Dv w w2 g o B v {p with L:=s'} (out++ahE):=by
  obtain⟨⟨v2,q2,D,T,hv2⟩,V⟩:=A;obtain⟨F,hC,hF⟩:=Z.yY;have hlg:g<w1.heap.size:=hC.lt fF;have kt:∀i,vl.ownBlock=μ i->¬i<w.heap.size:=λi e=>Z.rep.own i e;have U:∀i<w.heap.size,i≠B->w2.heap[i]? =w1.heap[i]? :=λi hi E=>V.block i (aq hi Y.size) E (λe=>kt i e hi);have X:w2.heap[g]? =w1.heap[g]? :=U g Z.xg Z.gB;refine⟨⟨v2,qs++q2,⟨⟨F,hC.keep X,hF⟩,D,Z.ou.keep V.size (λk J=>U k (Z.xv k J) (λe=>Z.vB (by rw[J,e]))),Z.few,h,Z.gB,Z.vg,Z.vB,Z.nz,Z.xg,Z.xv⟩,by rw[dr,u,T]⟩,?_⟩;exact⟨V.os.trans Y.os,V.tape.trans Y.tape,V.output.trans Y.output,au Y.size V.size,λi hi H M G=>(U i hi M).trans (Y.block i hi H M G),λj y=>(ak (a:=⟨g,j,ν⟩) X).trans (Y.cell j y),λj=>(aV (a:=⟨g,j,ν⟩) X).trans (Y.fz j)⟩
def Dv.say {w w1:fA} {g o B:Nat} {v:fB} {p:kB} {out:List mH} (h:Dv w w1 g o B v p out)(V:out.length<=40)(X:p.out.length<=800000000):
 gb gg 123 #[π (μ ⟨g,o,ν⟩)] w1 λe w'=>e=ρ (τ #[])/\nE w w' g o B v (p.say out):=by
  obtain⟨U,qs,Z,rfl⟩:=h.ex;refine(Xm g o B v p _ U qs w1 Z (by simpa using V) X).mono ?_;rintro e w' ⟨rfl,Y⟩;exact⟨rfl,nE.trans h.kept (λ_ e=>.inl e) Y⟩
def Dv.do_ {p:kB} {out:List mH} (h:Dv w w1 g o B v p out)(V:kd w)(hq:out.length<=40)(ev:Int):
 gb gg 120 #[π (μ ⟨B,0,ν⟩),ι κ ev] w1 λe w'=>e=ρ (kr (mV p.L ev).2.2)/\Dv w w' g o B v {p with L:=(mV p.L ev).1} (out++(mV p.L ev).2.1):=by
  have X:=h.tab V;obtain⟨T,qs,Z,Y⟩:=h.ex;have hl:qs.length=out.length:=by rw[<-Y];simp
  refine(adU ev B _ p.L T qs w1 X Z.rep Z.ok.bd fC).mono ?_;rintro e w' ⟨rfl,U⟩;exact⟨rfl,Dv.wz Z Y h.kept U (Z.ok.mV ev)⟩
def Dv.tick {w:fA} {g o B:Nat} {v:fB} {p:kB} (h:sD w g o B v p)(X:kd w):
 gb gg 147 #[π (μ ⟨B,0,ν⟩)] w λe w'=>e=ρ (τ #[])/\Dv w w' g o B v {p with L:=lS p.L} (nD p.L):=by
  have hw:=h.ok.wt;have V:=h.begin;obtain⟨U,qs,Z,M⟩:=V.ex;have J:qs=[] :=by simpa using M
  subst J;have Y:U.ownBlock≠μ 0:=λe=>Z.rep.own 0 e X.lt;refine(VP B _ p.L U [] w X h.nz.2.1 Y Z.rep h.ok.bd gZ fC fC).mono ?_;rintro e w' ⟨rfl,T⟩;refine⟨rfl,?_⟩;have:=Dv.wz Z rfl V.kept T h.ok.tick;simpa using this
def Dv.state {p:kB} {out:List mH} (h:Dv w w1 g o B v p out):
 gb gg 114 #[π (μ ⟨B,0,ν⟩)] w1 λe w'=>e=ρ (ι κ p.L.st)/\w1=w':=by
  obtain⟨Y,qs,Z,ho⟩:=h.ex;exact IX B _ p.L Y qs w1 Z.rep
def Dv.ptr {p:kB} {out:List mH} (h:Dv w w1 g o B v p out):w1.cell? ⟨g,o+1,ν⟩=μ (π (μ ⟨B,0,ν⟩))/\g<w1.heap.size:=by
 obtain⟨vl,qs,Z,ho⟩:=h.ex;obtain⟨F,hC,hF⟩:=Z.yY;exact⟨hC.cell 1 fF,hC.lt fF⟩
end Rt
def tS.far {w w':fA} {B M:Nat} {X:Nat->Prop} {s:LS} {v:fB} {ps:List PV} (h:tS w B X s v ps)(k:Kept w w' M ν)(T:X M)(E:B≠M):tS w' B X s v ps:=by
 have U:∀j<w.heap.size,j≠M->w'.heap[j]? =w.heap[j]? :=λj Z H=>k.block j Z H gZ;refine⟨h.lk.keep (U B h.lk.lt E),h.row.keep k.size (λj Z=>U j (h.row.lt j Z) (λe=>h.own j Z (by rw[e];exact T))),h.own,h.self,λj Z=>aq (h.old j Z) k.size,λp G=> ?_⟩;obtain⟨o,z,l,f,fr⟩:=h.pk p G;exact⟨o.QI (λj Z=>by obtain⟨Y,_,V⟩:=fr j Z;exact U j V (λe=>Y (by rw[e];exact T))),z,l,f,λj Z=>by obtain⟨Y,J,V⟩:=fr j Z;exact⟨Y,J,aq V k.size⟩⟩
def F8:∀(L:List UInt8) (s:LS) (a:mH),(zU L s a).length<=L.length
 |[],_,_=>aj _
 |c::r,s,a=>by
  have e:zU (c::r) s a=Ic c s a++zU r (rP c s) a:=rfl;have h1:=F8 r (rP c s) a;have h2:=LQ c s a;rw[e,aG,dh];omega
def vE(s:LS)(ev:Int)(a:mH):(vf s ev a).2.1.length<=4:=by
 by_cases hf:(ki s.st ev).2.2=0;{rw[vL _ hf];have h1:=F8 (ki s.st ev).1 (s.next (ki s.st ev).2.1) a;have h2:=Cd s.st ev;show(rF s ev a).length<=4;unfold rF;omega};rw[xS _ hf];simp
def Bl(s:LS)(ev:Int):(mV s ev).2.1.length<=4:=by
 unfold mV;split;{exact vE _ _ _};simp
def Jl(s:LS):(nD s).length<=4:=by
 have hc:∀(s:LS) (ev:Int),(rF s ev (0,0,[])).length<=4:=λs ev=>by
  have h1:=F8 (ki s.st ev).1 (s.next (ki s.st ev).2.1) (0,0,[]);have h2:=Cd s.st ev;unfold rF;omega
 unfold nD;split;{simp};split;{simp};split;{exact hc _ _};exact hc _ _
def Jm(s:LS)(p:mH):(kV s p).2.1.length<=4:=by
 unfold kV;split;{simp};split;{unfold wj;split;{split;{exact vE _ _ _};exact vE _ _ _};exact vE _ _ _};split;{exact vE _ _ _};split;{exact vE _ _ _};unfold vM;split;{simp};split;{split;{simp};exact vE _ _ _};exact vE _ _ _
namespace Rt
variable {B g o:Nat} {v:Value} {w w1:World}
def Jo(L:LS):(j8 L).2.length<=12:=by
 unfold j8;have h1:=Jl L;have h2:=Bl (lS L) 1;have h3:=Bl (mV (lS L) 1).1 0;split;{simp only[fT];omega};simp only;omega
def Tq(g o B:Nat)(v:fB)(p:kB)(w:fA)(h:sD w g o B v p)(H:kd w)(u:p.out.length<=800000000):
 gb gg 82 #[π (μ ⟨g,o,ν⟩)] w λe w'=>e=ρ (τ #[])/\nE w w' g o B v p.tick:=by
  have y:=Dv.tick h H;have c1:=h.c1;have hl:=h.lt;have Z:=Jo p.L;clear h;go_in;go_wp2_with fail;refine y.mono ?_;rintro e w1 ⟨rfl,U⟩;have lz:=U.state;obtain⟨d1,dl⟩:=U.ptr;clear y c1 hl;go_wp2_with fail;refine lz.mono ?_;rintro e w2 ⟨rfl,rfl⟩;clear lz;cases A:((lS p.L).st==3)
  ·have T:(lS p.L).st≠3:=by simpa using A
   have Y:j8 p.L=(lS p.L,nD p.L):=by unfold j8;rw[af T]
   have V:p.tick=({p with L:=lS p.L}:kB).say (nD p.L):=by unfold kB.tick;rw[Y]
   rw[Y]at Z;have hs:=U.say (by simp only at Z;omega) u;rw[<-V]at hs;have E:Hid _:=V;clear Y V T U;go_wp2_with fail;refine hs.mono ?_;rintro e w3 ⟨rfl,G⟩;clear hs;go_wp2_with fail;go_end0;exact⟨rfl,G⟩
  have T:(lS p.L).st=3:=by simpa using A
  have l1:=Jl p.L;have l2:=Bl (lS p.L) 1;have J:=U.do_ H fC 1;have Y:j8 p.L=((mV (mV (lS p.L) 1).1 0).1,nD p.L++(mV (lS p.L) 1).2.1++(mV (mV (lS p.L) 1).1 0).2.1):=by unfold j8;rw[ag T]
  have V:p.tick=({p with L:=(mV (mV (lS p.L) 1).1 0).1}:kB).say (nD p.L++(mV (lS p.L) 1).2.1++(mV (mV (lS p.L) 1).1 0).2.1):=by unfold kB.tick;rw[Y]
  rw[Y]at Z;have E:Hid _:=V;clear Y V T U;go_wp2_with fail;refine J.mono ?_;rintro e w3 ⟨rfl,X⟩;have D:=X.do_ H (by simp only[fT];omega) 0;obtain⟨f1,fl⟩:=X.ptr;clear J X;go_wp2_with fail;refine D.mono ?_;rintro e w4 ⟨rfl,M⟩;have hs:=M.say (au (show _<=12 from Z) fF) u;clear D M;go_wp2_with fail;refine hs.mono ?_;rintro e w5 ⟨rfl,G⟩;clear hs;go_wp2_with fail;go_end0;refine⟨rfl,?_⟩;rw[E.out];exact G
def aem(ev:Int)(T:ev=0 \/ev=1)(B:Nat)(X:Nat->Prop)(s:LS)(v:fB)(ps:List PV)(w:fA)(V:kd w)(h:tS w B X s v ps)(hf:(mV s ev).2.2≠0):
 gb gg 120 #[π (μ ⟨B,0,ν⟩),ι κ ev] w λe w'=>e=ρ (.iface 128 (ι κ ((mV s ev).2.2:Int)))/\fP w w':=by
  have hz:=uH;have ed:mV s ev=vf s ev (0,0,[]):=by unfold mV;rw[ag fC]
  rw[ed]at hf⊢;have Z:(ki s.st ev).2.2≠0:=λe=>hf (by rw[vL _ e]);rw[xS _ Z];obtain⟨D,nx,f,Y⟩:∃D nx f,ki s.st ev=(D,nx,f):=⟨_,_,_,rfl⟩
  rw[Y]at Z⊢;have hc:=QM B X s v ps ⟨0,0,ν,0,0,[]⟩ ev D nx f w V h Y Z;clear h V Y Z hf ed;obtain rfl|rfl:=T;all_goals(go_in;go_wp2_with fail;refine hc.mono ?_;rintro e w1 ⟨rfl,U⟩;clear hc;go_wp2;go_ret;exact⟨rfl,U⟩)
def Xn(p:kB)(B:Nat)(v:fB)(F G:Nat->fB)(r:l7):∀j<71,(if 2<=j/\j<2+65 then G (j-2)else yX p B v F j)=yX {p with rd:=r} B v G j:=by
 intro j hj;by_cases e:2<=j/\j<2+65;{rw[ag e];unfold yX;rw[af fC,af fC,ag fC]};rw[af e];unfold yX;by_cases Z:j=0;{simp[Z]};by_cases Y:j=1;{simp[Y]};have X:¬j<67:=fC;simp[Z,Y,X]
def Dv.read {w2:fA} {p:kB} {out:List mH} (h:Dv w w1 g o B v p out)(r:l7)(H:Rd w2 g (o+2) r.1 r.2.1 r.2.2)(Y:na w1 w2 g (o+2) 65):Dv w w2 g o B v {p with rd:=r} out:=by
 obtain⟨D,qs,Z,J⟩:=h.ex;obtain⟨F,hC,hF⟩:=Z.yY;obtain⟨G,M,X⟩:=H;have V:Kept w1 w2 g ν:=⟨Y.os,Y.tape,Y.output,Y.size,λi hi E _=>Y.block i hi E⟩
 have hl:=hC.lt fF;refine⟨⟨D,qs,⟨⟨G,(hC.join Y M).congr (Xn p B v F G r),X⟩,Z.rep.far V Z.xg (λe=>Z.gB e.symm),Z.ou.keep Y.size (λk U=>Y.block k (Z.ou.lt k U) (λe=>Z.vg (by rw[U,e]))),Z.few,Z.ok,Z.gB,Z.vg,Z.vB,Z.nz,Z.xg,Z.xv⟩,J⟩,?_⟩;refine h.kept.trans (v':=v) ⟨Y.os,Y.tape,Y.output,Y.size,λi hi T _ _=>Y.block i hi T,λj hj=>Y.cell j fC,Y.fz⟩ (λ_ e=>.inl e)
def Dv.rdC {p:kB} {out:List mH} (h:Dv w w1 g o B v p out):∃F,sg w1 g (o+2) 65 F/\EE F p.rd.1 p.rd.2.1 p.rd.2.2:=by
 obtain⟨vl,qs,Z,ho⟩:=h.ex;obtain⟨F,hC,hF⟩:=Z.yY;refine⟨F,(hC.sub 2 65 fF).congr (λj hj=> ?_),hF⟩;unfold yX;rw[af fC,af fC,ag fC,show 2+j-2=j by omega]
def Tr(up:Bool)(g o B:Nat)(v:fB)(p:kB)(w:fA)(h:sD w g o B v p)(U:kd w)(H:p.out.length<=800000000):
 gb gg 73 #[π (μ ⟨g,o,ν⟩),.bool up] w λe w'=>e=ρ (kr (p.jT up).2)/\nE w w' g o B v (p.jT up).1:=by
  obtain⟨ev,Z⟩:∃ev:Int,(if up=true then(0:Int)else 1)=ev:=⟨_,rfl⟩
  have V:ev=0 \/ev=1:=by rw[<-Z];cases up<;>simp
  have c1:=h.c1;have hl:=h.lt;by_cases hf:(mV p.L ev).2.2=0
  ·have Y:p.jT up=(({p with L:=(mV p.L ev).1,rd:=([],false,false)}:kB).say (mV p.L ev).2.1,0):=by
    unfold kB.jT;rw[Z];simp only;rw[af (by simpa using hf)]
   rw[Y];have hd:=h.begin.do_ U gZ ev;rw[hf]at hd;have T:kr 0=η:=rfl;rw[T]at hd⊢;have hlen:=Bl p.L ev;have hz:=WC.1;have hZ:=Bf;have HE:Hid _:=Y;clear Y hf h;cases up;all_goals(simp only[if_true,if_false,iW]at Z;subst Z;go_in;go_wp2_with fail;refine hd.mono ?_;rintro e w1 ⟨rfl,X⟩;obtain⟨F,hC,hF⟩:=X.rdC;obtain⟨k1,k2,k3⟩:=FH hC;have hs:=(X.read ([],false,false) ⟨OY,k2,EE.zero⟩ k3).say (by simp only[List.nil_append];omega) H;obtain⟨d1,dl⟩:=X.ptr;have dl2:g<(w1.setCells g (o+2) Jc.toList).heap.size:=aq dl k3.size;clear hd X hC hF k2 k3;go_wp2_with fail;refine hs.mono ?_;rintro e w3 ⟨rfl,M⟩;clear hs;go_wp2;go_ret;exact⟨rfl,M⟩)
  have Y:p.jT up=(p,(mV p.L ev).2.2):=by
   unfold kB.jT;rw[Z];simp only;rw[ag hf]
  rw[Y];have hd:=aem ev V B _ p.L _ [] w U (tS.rest h.lk) hf;have ee:kr (mV p.L ev).2.2=.iface 128 (ι κ ((mV p.L ev).2.2:Int)):=by simp only[kr];rw[af hf]
  simp only;rw[ee];have HP:Hid _:=h;clear Y hf h ee;generalize (mV p.L ev).2.2=f at hd⊢;cases up;all_goals(simp only[if_true,if_false,iW]at Z;subst Z;go_in;go_wp2_with fail;refine hd.mono ?_;rintro e w1 ⟨rfl,J⟩;clear hd;go_wp2;go_ret;exact⟨rfl,nE.still HP.out J⟩)
def sD.rest {w w1:fA} {g o B:Nat} {v:fB} {p:kB} (h:sD w g o B v p)(Y:fP w w1):PtQ w1 g o B v p (λk=>k<w.heap.size) (σ ν 0 0) [] :=by
 have Z:=h.below Y;exact⟨Z.yY,(tS.rest h.lk).below Y,Z.ou,h.few,h.ok,h.gB,h.vg,h.vB,h.nz,h.lt,λk X=>h.ou.lt k X⟩
def sD.take {p:kB} (h:sD w g o B v p)(Y:fP w w1)(M:kd w)(code id:Int)(a:Option fq)(n cap:Nat)(os:List kS)(E:kc w1 a n os)(D:mG a cap)(X:n<=cap)(G:n<=1000)
 (A:∀j,fD (σ a n cap)=μ j->w.heap.size<=j/\j<w1.heap.size):
 gb gg 185 #[π (μ ⟨B,0,ν⟩),.agg #[ι κ code,ι κ id,σ a n cap]] w1 λe w'=>e=ρ (kr (kV p.L (code,id,os)).2.2)/\Dv w w' g o B v {p with L:=(kV p.L (code,id,os)).1} (kV p.L (code,id,os)).2.1:=by
  have Z:=h.rest Y;have V:xD w1 (λk=>k<w.heap.size) (σ ν 0 0) ⟨code,id,a,n,cap,os⟩:=⟨E,D,X,G,λk H=>by
   have y:fD (σ a n cap)=μ k:=E7 H;obtain⟨h1,T⟩:=A k y;exact⟨fC,by simp[fD],T⟩⟩
  refine(VR B _ p.L _ [] ⟨code,id,a,n,cap,os⟩ w1 (M.below Y) Z.nz.2.1 (by simp[fD]) Z.rep Z.ok.bd gZ V Z.ok.m1 Z.ok.m2).mono ?_;rintro e w' ⟨rfl,J⟩;refine⟨rfl,?_⟩;have U:=Dv.wz Z rfl (pD.jY o B v Y h.lt) J (Z.ok.kV _);rw[List.map_nil,bU]at U;exact U
def MI(s:ByteArray)(g o B:Nat)(v:fB)(p:kB)(w:fA)(h:sD w g o B v p)(hT:kd w)(hs:s.size<=1000)(hn:p.out.length<=800000000):
 gb gg 133 #[π (μ ⟨g,o,ν⟩),.string s] w λe w'=>e=ρ (τ #[])/\nE w w' g o B v (p.packet s.data.toList):=by
  have hp:=MA s w hs;have HP:Hid _:=h;clear h;go_in;go_wp2_with fail;refine hp.mono ?_;rintro e w1 ⟨a,n,cap,f,code,id,os,rfl,G,y,M,A,E,hz⟩;clear hp;by_cases hf:f=0
  ·subst hf;have e0:kr 0=η:=rfl;rw[e0]
   have sM:os.length<=1000:=by
    have Y:j3 s.data.toList=(code,id,os,0):=M;unfold j3 at Y;split at Y;{simp at Y};split at Y;{rename_i X;have h3:oz (s.data.toList.drop 3)=os:=(eV (eV (eV Y).2).2).1;rw[h3]at X;unfold lg at X;split at X;{simp at X};split at X;{simp at X};omega};simp at Y
   have oA:n<=1000:=by have:=G.1;omega
   have T:p.packet s.data.toList=({p with L:=(kV p.L (code,id,os)).1}:kB).say (kV p.L (code,id,os)).2.1:=by
    unfold kB.packet;rw[M];rfl
   have ba:=gu w1 (γ #[ι κ code,ι κ id,σ a n cap] 37);have D:=fQ A ba;have hA:=λj=>ay w1 #[ι κ code,ι κ id,σ a n cap] 37 (0,0) j;have u:=HP.out.take (kN D) hT code id a n cap os (G.below (kN ba)) hz y oA (λj hj=>⟨(E j hj).1,aq (E j hj).2 ba.size⟩);have hlen:=Jm p.L (code,id,os);obtain⟨U,V⟩:=fH (w1.alloc (γ #[ι κ code,ι κ id,σ a n cap] 37));obtain⟨Z,J⟩:=fH (w1.heap.size);rw[V]at D u;have d0:U.cell? ⟨Z,0,ν⟩=μ (ι κ code):=by rw[<-V,<-J];exact hA 0
   have d1':U.cell? ⟨Z,1,ν⟩=μ (ι κ id):=by rw[<-V,<-J];exact hA 1
   have d2:U.cell? ⟨Z,2,ν⟩=μ (σ a n cap):=by rw[<-V,<-J];exact hA 2
   have zl:Z<U.heap.size:=ai U _ d0;have d1:=(HP.out.below D).c1;have dl:=(HP.out.below D).lt;have HE:Hid _:=T;have WY:Hid _:=V;have HZ:Hid _:=J;clear T M G E hA V J ba A;go_wp2_with fail;rw[WY.out,HZ.out];go_region_with(go_at_call 185;refine u.mono ?_;rintro e w3 ⟨rfl,hG⟩);all_goals(have H:=hG.say fC hn;clear u hG;go_wp2_with fail;refine H.mono ?_;rintro e w4 ⟨rfl,hW⟩;clear H;go_wp2_with fail;go_end0;refine⟨rfl,?_⟩;rw[HE.out];exact hW)
  have ee:kr f=.iface 128 (ι κ (f:Int)):=by simp only[kr];rw[af hf]
  rw[ee]
  have T:p.packet s.data.toList=p:=by
   unfold kB.packet;rw[M];simp only;rw[af hf]
  have HW:Hid (nE w (w1.alloc (γ #[ι κ code,ι κ id,σ a n cap] 37)) g o B v (p.packet s.data.toList)):=by
   show nE _ _ _ _ _ _ _;rw[T];exact nE.still HP.out (fQ A (gu _ _))
  clear T M G E hf ee;go_wp2_with fail;go_end0;exact⟨rfl,HW.out⟩
def zJ(T:ByteArray)(c:UInt8)(own seq:Int)(a:Option fq)(n cap:Nat)(es:List kS)(g o B:Nat)(v:fB)(p:kB)(w:fA)(h:sD w g o B v p)(G:T.data.toList=[c])(U:kc w a n es)(hf:qq own seq es=0)(hn:p.out.length<=800000000):
 gb gg 152 #[π (μ ⟨g,o,ν⟩),.string T,.agg #[ι κ own,ι κ seq,σ a n cap]] w λe w'=>e=ρ (τ #[])/\nE w w' g o B v (p.put c (tI own seq es)):=by
  have V:=gu w (γ #[ι κ own,ι κ seq,σ a n cap] 40);have hA:=λj=>ay w #[ι κ own,ι κ seq,σ a n cap] 40 (0,0) j;have X:=O8 own seq a n cap es _ (U.below V) hf;have H:=(kD hf).2.2.1
  have D:(tI own seq es).length<=100:=by
   have J:∀l:List kS,(N2 l).length=2*l.length:=by
    intro l;induction l with|nil=>rfl|cons x l ih=>have e:N2 (x::l)=u8 x.1::u8 x.2::N2 l:=rfl;rw[e];simp only[fU,ih];omega
   simp only[tI,fU,J];omega
  obtain⟨L,Z⟩:=fH (tI own seq es);rw[Z]at X D;rw[Z];have HP:Hid _:=h;clear h Z U hf H;go_in;go_wp2_with fail;refine X.mono ?_;rintro e w1 ⟨rfl,b1⟩;have k1:=fQ V b1;have Y:=EH g o B v p T ⟨L.toArray⟩ c w1 (HP.out.below k1) G (by show L.toArray.size<=1000;simp;omega) fC;have M:(⟨L.toArray⟩:ByteArray).data.toList=L:=gZ;rw[M]at Y;clear X b1;go_wp2_with fail;refine Y.mono ?_;rintro e w2 ⟨rfl,E⟩;clear Y;go_wp2_with fail;go_end0;exact⟨rfl,nE.trans (pD.jY o B v k1 HP.out.lt) (λ_ e=>.inl e) E⟩
end Rt
def BR.still {w w':fA} {B:Nat} {m:FM} {n:Nat} {K:Int->Option PS} {O:Nat->Int->Option PS} (h:BR w B m n K O)(hs:w.heap.size<=w'.heap.size)(V:∀j<w.heap.size,¬m.no j->w'.heap[j]? =w.heap[j]?)
 (D:¬m.no B) (u:¬m.no m.g) (hm:∀b,(b=m.bm \/b∈m.bs)->¬m.no b) (X:Nat->Prop) (H:∀j,X j->m.no j \/w.heap.size<=j) (G:∀j,X j->j<w'.heap.size):BR w' B {m with no:=X} n K O:=by
  have M:=h.mlt;obtain⟨kn,ow,hF,y,A⟩:=h.ex;have mp:∀b,(b=m.bm \/b∈m.bs)->w'.heap[b]? =w.heap[b]? :=λb T=>V b (M b T) (hm b T)
  have tie:∀ {f:Int->Option SV} {F:Int->Option PS},Tie w m f F->Tie w' {m with no:=X} f F:=by
   intro f F ht x hr;have:=ht x hr;cases e:F x with|none=>rw[e]at this;exact this|some q=>rw[e]at this;obtain⟨s,E,Z⟩:=this;refine⟨s,E,⟨Z.own,Z.seq,Z.n,Z.opt.kept (cap:=s.cap) (λj Y=>V j (Z.lt j Y) (Z.far j Y).2.2),Z.nil,Z.ok,λj Y=>aq (Z.lt j Y) hs,λj Y=>⟨(Z.far j Y).1,(Z.far j Y).2.1,λe=> ?_⟩⟩⟩;obtain U|U:=H j e;{exact(Z.far j Y).2.2 U};{have:=Z.lt j Y;omega}
  refine⟨⟨kn,ow,⟨(V B hF.lt D).trans hF.pT,hF.row.keep hs (λx hx=> ?_),hF.km.keep (mp _ (.inl rfl)),λi b e=>(hF.om i b e).keep (mp b (.inr (bY e))),hF.few,hF.nB,hF.nd⟩,tie y,λi hi=>tie (A i hi)⟩,G⟩;have J:m.g=x:=by simpa[FM.sl,fD]using hx
  subst J;exact V m.g (hF.row.lt _ hx) u
namespace Rt
variable {B i j k n:Nat} {F:Nat->Value} {K:Int->Option PS} {Q:Exit->Act->World->Prop} {a b c w w':World} {id:Int} {o:Oper} {ops:Array Oper} {v:Value}
def rz(l:List wK):List fB:=l.flatMap λt=>[ι κ t.1,ι κ t.2.1,.string ⟨t.2.2.toArray⟩]
structure Zt where
 R:Nat
 g:Nat
 cap:Nat
 B:Nat->Nat
 v:Nat->fB
 Bb:Nat
 fm:FM
 iv:fB
def Zt.mine(z:Zt)(n k:Nat):Prop:=k=z.R \/k=z.g \/(∃i,i<n/\(k=z.B i \/(z.v i).ownBlock=μ k)) \/z.iv.ownBlock=μ k
structure n9(w:fA)(z:Zt)(r:jO):Prop where
 n1:1<=r.n
 n3:r.n<=3
 Po:r.n<=z.cap
 id:1<=r.id/\r.id<=6
 pT:j2 w z.R #[ι κ r.id,σ (μ ⟨z.g,0,ν⟩) r.n z.cap,π (μ ⟨z.Bb,0,ν⟩),z.iv,ι κ r.drop] 135
 pt:∀i<r.n,sD w z.g (i*71) (z.B i) (z.v i) (r.P i)
 ib:Row w 3 z.iv r.kA.length (rz r.kA)
 bs:BR w z.Bb z.fm 6 r.K r.O
 bl:z.fm.bs.length=r.n
 no:∀k,z.mine r.n k->z.fm.no k
 nb:¬z.fm.no z.Bb/\¬z.fm.no z.fm.g/\∀b,(b=z.fm.bm \/b∈z.fm.bs)->¬z.fm.no b
 sR:z.R≠z.g/\z.R≠0/\∀i<r.n,z.B i≠z.R/\(z.v i).ownBlock≠μ z.R
 sB:∀i j,i<r.n->j<r.n->i≠j->z.B i≠z.B j/\∀k,(z.v i).ownBlock=μ k->(z.v j).ownBlock≠μ k
 sV:∀i j,i<r.n->j<r.n->(z.v i).ownBlock≠μ (z.B j)
 sI:∀k,z.iv.ownBlock=μ k->k≠z.R/\k≠z.g/\∀i<r.n,k≠z.B i/\(z.v i).ownBlock≠μ k
 Ts:z.iv.ownBlock≠μ 0/\∀b,(b=z.fm.bm \/b∈z.fm.bs)->b≠0
structure Bm(w w':fA)(z:Zt)(n:Nat):Prop where
 os:w'.os=w.os
 tape:w'.tape=w.tape
 output:w'.output=w.output
 size:w.heap.size<=w'.heap.size
 block:∀k<w.heap.size,¬z.mine n k->k≠z.fm.bm->k∉z.fm.bs->w'.heap[k]? =w.heap[k]?
structure Zt.like(z z':Zt):Prop where
 R:z'.R=z.R
 g:z'.g=z.g
 cap:z'.cap=z.cap
 B:z'.B=z.B
 Bb:z'.Bb=z.Bb
 bm:z'.fm.bm=z.fm.bm
 fg:z'.fm.g=z.fm.g
 bs:z'.fm.bs=z.fm.bs
structure jy(w w':fA)(z:Zt)(r:jO)(n:Nat):Prop where
 ex:∃z',n9 w' z' r/\z.like z'/\(∀k,z'.mine n k->z.mine n k \/w.heap.size<=k)/\(∀k,z.fm.no k->z'.fm.no k)
 kept:Bm w w' z n
def Cy(v:Nat->fB)(i:Nat)(x:fB):Nat->fB:=λj=>if j=i then x else v j
def rJ(v:Nat->fB)(i:Nat)(x:fB):Cy v i x i=x:=by simp[Cy]
def pH(v:Nat->fB)(x:fB)(h:j≠i):Cy v i x j=v j:=by simp[Cy,h]
def kJ(P:Nat->kB)(i:Nat)(p:kB):m8 P i p i=p:=by simp[m8]
def kC(P:Nat->kB)(p:kB)(h:j≠i):m8 P i p j=P j:=by simp[m8,h]
def n9.port {z:Zt} {r:jO} {p:kB} (h:n9 w z r)(hi:i<r.n)(hW:nE w w' z.g (i*71) (z.B i) (z.v i) p):jy w w' z (r.jW i p) r.n:=by
 obtain⟨⟨v',hP,hv⟩,X⟩:=hW;have lZ:∀k,z.mine r.n k->k<w.heap.size:=λk Z=>h.bs.S0 k (h.no k Z);have Q8:=(h.pt i hi).lt
 have A:∀k<w.heap.size,v'.ownBlock=μ k->(z.v i).ownBlock=μ k:=λk Z e=>by
  obtain M|M:=hv k e;{exact M};omega
 have y:z.mine r.n z.g/\z.mine r.n (z.B i)/\∀k,(z.v i).ownBlock=μ k->z.mine r.n k:=⟨.inr (.inl rfl),.inr (.inr (.inl ⟨i,hi,.inl rfl⟩)),λk Z=>.inr (.inr (.inl ⟨i,hi,.inr Z⟩))⟩
 have Bn:∀k<w.heap.size,¬z.mine r.n k->w'.heap[k]? =w.heap[k]? :=λk Z D=>X.block k Z (λe=>D (by rw[e];exact y.1)) (λe=>D (by rw[e];exact y.2.1)) (λe=>D (y.2.2 k e));have HJ:=h.bs.still X.size (λj Y hn=>Bn j Y (λe=>hn (h.no j e))) h.nb.1 h.nb.2.1 h.nb.2.2 (λk=>z.fm.no k \/(w.heap.size<=k/\k<w'.heap.size/\v'.ownBlock=μ k)) (λj Y=>by
  obtain e|e:=Y;{exact .inl e}
  ·exact .inr e.1) (λj Y=>by
  obtain e|e:=Y;{exact aq (h.bs.S0 j e) X.size}
  ·exact e.2.1)
 have aen:∀b,(b=z.fm.bm \/b∈z.fm.bs)->b<w.heap.size:=h.bs.mlt;have aeo:z.Bb<w.heap.size:=by obtain⟨_,_,hF,_⟩:=h.bs.ex;exact hF.lt
 have aep:z.fm.g<w.heap.size:=by obtain⟨_,_,hF,_⟩:=h.bs.ex;exact hF.row.lt _ rfl
 refine⟨⟨{z with v:=Cy z.v i v',fm:={z.fm with no:=λk=>z.fm.no k \/(w.heap.size<=k/\k<w'.heap.size/\v'.ownBlock=μ k)}},⟨h.n1,h.n3,h.Po,h.id,?_,?_,?_,HJ,h.bl,?_,?_,⟨h.sR.1,h.sR.2.1,?_⟩,?_,?_,?_,h.Ts⟩,⟨rfl,rfl,rfl,rfl,rfl,rfl,rfl,rfl⟩,?_,λk Z=>.inl Z⟩,⟨X.os,X.tape,X.output,X.size,λk Z D _ _=>Bn k Z D⟩⟩;{exact h.pT.keep (X.block z.R h.pT.lt h.sR.1 (λe=>(h.sR.2.2 i hi).1 e.symm) (h.sR.2.2 i hi).2)};{intro j Y;by_cases e:j=i;{subst e;show sD w' z.g (j*71) (z.B j) (Cy z.v j v' j) (m8 r.P j p j);rw[rJ,kJ];exact hP};show sD w' z.g (j*71) (z.B j) (Cy z.v i v' j) (m8 r.P i p j);rw[pH _ _ e,kC _ _ e];have V:=h.pt j Y;obtain⟨F,hC,hF⟩:=V.yY;have hs:=h.sB j i Y hi e;refine⟨⟨F,λx hx=>⟨(X.cell (j*71+x) ?_).trans (hC.cell x hx),(X.fz _).trans (hC.fz x hx)⟩,hF⟩,V.lk.keep (X.block (z.B j) V.lk.lt (λe=>V.gB e.symm) hs.1 (h.sV i j hi Y)),V.ou.keep X.size (λk Z=>X.block k (V.ou.lt k Z) (λe=>V.vg (by rw[Z,e])) (λe=>h.sV j i Y hi (by rw[Z,e])) (hs.2 k Z)),V.few,V.ok,V.gB,V.vg,V.vB,V.nz⟩;obtain h1|h1:=dA e;{exact .inl fC};exact .inr fC};{exact h.ib.keep X.size (λk Z=>X.block k (h.ib.lt k Z) (h.sI k Z).2.1 ((h.sI k Z).2.2 i hi).1 ((h.sI k Z).2.2 i hi).2)}
 ·intro k Z;obtain e|e|⟨j,Y,e|e⟩|e:=Z;{exact .inl (h.no k (.inl e))};{exact .inl (h.no k (.inr (.inl e)))};{exact .inl (h.no k (.inr (.inr (.inl ⟨j,Y,.inl e⟩))))}
  ·by_cases T:j=i
   ·subst T;have e':v'.ownBlock=μ k:=by have:=e;simp only[rJ]at this;exact this
    obtain M|M:=hv k e';{exact .inl (h.no k (.inr (.inr (.inl ⟨j,Y,.inr M⟩))))};exact .inr ⟨M,hP.ou.lt k e',e'⟩
   have e':(z.v j).ownBlock=μ k:=by have:=e;simp only[pH _ _ T]at this;exact this
   exact .inl (h.no k (.inr (.inr (.inl ⟨j,Y,.inr e'⟩))))
  exact .inl (h.no k (.inr (.inr (.inr e))))
 {refine⟨λe=> ?_,λe=> ?_,λb U e=> ?_⟩;{obtain e|e:=e;{exact h.nb.1 e};have h8:w.heap.size<=z.Bb:=e.1;omega};{obtain e|e:=e;{exact h.nb.2.1 e};have h8:w.heap.size<=z.fm.g:=e.1;omega};obtain e|e:=e;{exact h.nb.2.2 b U e};have h9:=aen b U;omega};{intro j Y;refine⟨(h.sR.2.2 j Y).1,?_⟩;by_cases T:j=i;{subst T;show(Cy z.v j v' j).ownBlock≠_;rw[rJ];exact λe=>(h.sR.2.2 j Y).2 (A _ h.pT.lt e)};show(Cy z.v i v' j).ownBlock≠_;rw[pH _ _ T];exact(h.sR.2.2 j Y).2};{intro a b J U G;refine⟨(h.sB a b J U G).1,λk Z=> ?_⟩;show(Cy z.v i v' b).ownBlock≠μ k;have H:(Cy z.v i v' a).ownBlock=μ k:=Z;by_cases E:a=i;{subst E;rw[rJ]at H;rw[pH _ _ (λe=>G e.symm)];intro e;have u:=(h.pt b U).ou.lt k e;exact(h.sB a b J U G).2 k (A k u H) e};rw[pH _ _ E]at H;by_cases eb:b=i;{subst eb;rw[rJ];intro e;have u:=(h.pt a J).ou.lt k H;exact(h.sB a b J U G).2 k H (A k u e)};rw[pH _ _ eb];exact(h.sB a b J U G).2 k H};{intro a b J U;show(Cy z.v i v' a).ownBlock≠μ (z.B b);by_cases E:a=i;{subst E;rw[rJ];exact λe=>h.sV a b J U (A _ (h.pt b U).lk.lt e)};rw[pH _ _ E];exact h.sV a b J U};{intro k Z;obtain⟨h1,h2,h3⟩:=h.sI k Z;refine⟨h1,h2,λj Y=>⟨(h3 j Y).1,?_⟩⟩;show(Cy z.v i v' j).ownBlock≠μ k;by_cases T:j=i;{subst T;rw[rJ];exact λe=>(h3 j Y).2 (A k (h.ib.lt k Z) e)};rw[pH _ _ T];exact(h3 j Y).2};intro k Z;obtain e|e|⟨j,Y,e|e⟩|e:=Z;{exact .inl (.inl e)};{exact .inl (.inr (.inl e))};{exact .inl (.inr (.inr (.inl ⟨j,Y,.inl e⟩)))}
 ·by_cases T:j=i
  ·subst T;have e':v'.ownBlock=μ k:=by have:=e;simp only[rJ]at this;exact this
   obtain M|M:=hv k e';{exact .inl (.inr (.inr (.inl ⟨j,Y,.inr M⟩)))};exact .inr M
  have e':(z.v j).ownBlock=μ k:=by have:=e;simp only[pH _ _ T]at this;exact this
  exact .inl (.inr (.inr (.inl ⟨j,Y,.inr e'⟩)))
 exact .inl (.inr (.inr (.inr e)))
def Bm.refl(w:fA)(z:Zt)(n:Nat):Bm w w z n:=⟨rfl,rfl,rfl,aj _,λ_ _ _ _ _=>rfl⟩
def Bm.jY(z:Zt)(n:Nat)(h:fP w w'):Bm w w' z n:=⟨h.os,h.tape,h.output,h.size,λk Z _ _ _=>h.block k Z⟩
def Zt.uB(z:Zt):z.like z:=⟨rfl,rfl,rfl,rfl,rfl,rfl,rfl,rfl⟩
def Zt.F9 {a b c:Zt} (h:a.like b)(k:b.like c):a.like c:=⟨k.R.trans h.R,k.g.trans h.g,k.cap.trans h.cap,k.B.trans h.B,k.Bb.trans h.Bb,k.bm.trans h.bm,k.fg.trans h.fg,k.bs.trans h.bs⟩
def n9.Cz {z:Zt} {r:jO} (h:n9 w z r):∀k,z.mine r.n k->k<w.heap.size:=λk Z=>h.bs.S0 k (h.no k Z)
def n9.below {w w':fA} {z:Zt} {r:jO} (h:n9 w z r)(Z:fP w w'):n9 w' z r:=
 ⟨h.n1,h.n3,h.Po,h.id,h.pT.keep (Z.block _ h.pT.lt),λi hi=>(h.pt i hi).below Z,h.ib.below Z,h.bs.below Z,h.bl,h.no,h.nb,h.sR,h.sB,h.sV,h.sI,h.Ts⟩
def jy.still {z:Zt} {r:jO} (h:n9 w z r)(Z:fP w w'):jy w w' z r r.n:=
 ⟨⟨z,h.below Z,z.uB,λ_ e=>.inl e,λ_ e=>e⟩,Bm.jY z r.n Z⟩
def jy.refl {w:fA} {z:Zt} {r:jO} (h:n9 w z r):jy w w z r r.n:=⟨⟨z,h,z.uB,λ_ e=>.inl e,λ_ e=>e⟩,Bm.refl w z r.n⟩
def jy.step {z:Zt} {r r':jO} (h:jy a b z r n)(k:∀X,n9 b X r->z.like X->jy b c X r' n):jy a c z r' n:=by
 obtain⟨⟨X,A,hl,J,y⟩,Z⟩:=h;obtain⟨⟨u,G,E,H,D⟩,Y⟩:=k X A hl;refine⟨⟨u,G,Zt.F9 hl E,λx hx=> ?_,λx hx=>D x (y x hx)⟩,⟨Y.os.trans Z.os,Y.tape.trans Z.tape,Y.output.trans Z.output,au Z.size Y.size,λx hx U T M=>(Y.block x (aq hx Z.size) (λe=> ?_) (by rw[hl.bm];exact T) (by rw[hl.bs];exact M)).trans (Z.block x hx U T M)⟩⟩;{obtain e|e:=H x hx;{exact J x e};exact .inr (au Z.size e)};obtain V|V:=J x e;{exact U V};omega
def jy.below {z:Zt} {r:jO} (h:jy a b z r n)(X:r.n=n)(Y:fP b c):jy a c z r n:=by
 subst X;exact h.step λz' Z _=>jy.still Z Y
def jy.first {z:Zt} {r r':jO} (G:n9 a z r)(E:r.n=n)(Z:fP a b)(k:n9 b z r->jy b c z r' n):jy a c z r' n:=by
 subst E;obtain⟨⟨D,V,U,X,T⟩,Y⟩:=k (G.below Z);exact⟨⟨D,V,U,λx hx=>(X x hx).imp_right (λe=>au Z.size e),T⟩,⟨Y.os.trans Z.os,Y.tape.trans Z.tape,Y.output.trans Z.output,au Z.size Y.size,λx hx M J H=>(Y.block x (aq hx Z.size) M J H).trans (Z.block x hx)⟩⟩
def jy.tab {z:Zt} {r0 r:jO} (h:jy a b z r n)(Z:n9 a z r0)(U:r0.n=n)(X:kd a):kd b:=λe s V hs=>by
 subst U;refine(ak (a:=⟨0,e*10+s,ν⟩) (h.kept.block 0 X.lt (λY=> ?_) (λY=> ?_) (λY=> ?_))).trans (X e s V hs);{obtain e|e|⟨i,hi,e|e⟩|e:=Y;{exact Z.sR.2.1 e.symm};{exact(Z.pt 0 Z.n1).nz.1 e.symm};{exact(Z.pt i hi).nz.2.1 e.symm};{exact(Z.pt i hi).nz.2.2 e};{exact Z.Ts.1 e}}
 {exact Z.Ts.2 0 (.inl Y) rfl};{exact Z.Ts.2 0 (.inr Y) rfl}
def n9.base {z:Zt} {r:jO} {K':Int->Option PS} {O':Nat->Int->Option PS} (h:n9 w z r)(T:BR w' z.Bb z.fm k K' O')(Y:kM w w' z.fm):jy w w' z {r with K:=K',O:=O'} r.n:=by
 have X:∀x,z.mine r.n x->w'.heap[x]? =w.heap[x]? :=λx hx=>Y.block x (h.Cz x hx) (λe=>h.nb.2.2 x (.inl e) (h.no x hx)) (λe=>h.nb.2.2 x (.inr e) (h.no x hx));refine⟨⟨z,⟨h.n1,h.n3,h.Po,h.id,h.pT.keep (X _ (.inl rfl)),λi hi=> ?_,h.ib.keep Y.size (λx hx=>X x (.inr (.inr (.inr hx)))),T.six,h.bl,h.no,h.nb,h.sR,h.sB,h.sV,h.sI,h.Ts⟩,z.uB,λ_ e=>.inl e,λ_ e=>e⟩,⟨Y.os,Y.tape,Y.output,Y.size,λx hx _ V U=>Y.block x hx V U⟩⟩;have Z:=h.pt i hi;obtain⟨F,hC,hF⟩:=Z.yY;exact⟨⟨F,hC.keep (X _ (.inr (.inl rfl))),hF⟩,Z.lk.keep (X _ (.inr (.inr (.inl ⟨i,hi,.inl rfl⟩)))),Z.ou.keep Y.size (λx hx=>X x (.inr (.inr (.inl ⟨i,hi,.inr hx⟩)))),Z.few,Z.ok,Z.gB,Z.vg,Z.vB,Z.nz⟩
def aeq(p:kB)(B:Nat)(v:fB)(F:Nat->fB)(q:mX):∀j<71,ui (ui (ui (yX p B v F) 67 (.int .i64 q.who)) 68 (.bool q.both)) 69 (.int .i64 q.left) j=yX {p with pe:=q} B v F j:=by
 intro j hj;by_cases Z:j=69;{subst Z;simp[ui,yX]};by_cases Y:j=68;{subst Y;simp[ui,yX]};by_cases X:j=67;{subst X;simp[ui,yX]};rw[kU _ _ Z,kU _ _ Y,kU _ _ X];simp only[yX,Z,Y,X,if_false]
def sD.peer {g o:Nat} {p:kB} (h:sD w g o B v p)(q:mX):
 nE w (((w.setCell ⟨g,o+67,ν⟩ (.int .i64 q.who)).setCell ⟨g,o+68,ν⟩ (.bool q.both)).setCell ⟨g,o+69,ν⟩ (.int .i64 q.left)) g o B v {p with pe:=q}:=by
  obtain⟨F,hC,hF⟩:=h.yY;have Z:na w (((w.setCell ⟨g,o+67,ν⟩ (.int .i64 q.who)).setCell ⟨g,o+68,ν⟩ (.bool q.both)).setCell ⟨g,o+69,ν⟩ (.int .i64 q.left)) g o 71:=(((na.refl w g o 71).set (o+67) fC fC _).set (o+68) fC fC _).set (o+69) fC fC _;have Y:∀x<w.heap.size,x≠g->_:=Z.block;refine⟨⟨v,⟨⟨F,(((hC.set 67 fF _).set 68 fF _).set 69 fF _).congr (aeq p B v F q),hF⟩,h.lk.keep (Y B h.lk.lt (λe=>h.gB e.symm)),h.ou.keep Z.size (λx hx=>Y x (h.ou.lt x hx) (λe=>h.vg (by rw[hx,e]))),h.few,h.ok,h.gB,h.vg,h.vB,h.nz⟩,λ_ e=>.inl e⟩,⟨Z.os,Z.tape,Z.output,Z.size,λi hi X _ _=>Z.block i hi X,Z.cell,Z.fz⟩⟩
def n9.own {z:Zt} {r:jO} (h:n9 w z r)(Y:fB)(kA:List wK)(d:Int)(hs:w.heap.size<=w'.heap.size)(Hy:w'.os=w.os)(N7:w'.tape=w.tape)(Iv:w'.output=w.output)(Z:∀k<w.heap.size,k≠z.R->z.iv.ownBlock≠μ k->w'.heap[k]? =w.heap[k]?)
 (qk:j2 w' z.R #[ι κ r.id,σ (μ ⟨z.g,0,ν⟩) r.n z.cap,π (μ ⟨z.Bb,0,ν⟩),Y,ι κ d] 135) (D:Row w' 3 Y kA.length (rz kA)) (T:∀k,Y.ownBlock=μ k->z.iv.ownBlock=μ k \/w.heap.size<=k):jy w w' z {r with kA:=kA,drop:=d} r.n:=by
  have J:∀k,z.iv.ownBlock=μ k->z.mine r.n k:=λk Z=>.inr (.inr (.inr Z));have E:∀k<w.heap.size,¬z.mine r.n k->w'.heap[k]? =w.heap[k]? :=λk G M=>Z k G (λe=>M (.inl e)) (λe=>M (J k e));have u:=h.bs.still hs (λj U hn=>E j U (λe=>hn (h.no j e))) h.nb.1 h.nb.2.1 h.nb.2.2 (λk=>z.fm.no k \/(w.heap.size<=k/\k<w'.heap.size/\Y.ownBlock=μ k)) (λj U=>by
   obtain e|e:=U;{exact .inl e}
   ·exact .inr e.1) (λj U=>by
   obtain e|e:=U;{exact aq (h.bs.S0 j e) hs}
   ·exact e.2.1)
  have H:∀b,(b=z.fm.bm \/b∈z.fm.bs)->b<w.heap.size:=h.bs.mlt;have aeo:z.Bb<w.heap.size:=by obtain⟨_,_,hF,_⟩:=h.bs.ex;exact hF.lt
  have aep:z.fm.g<w.heap.size:=by obtain⟨_,_,hF,_⟩:=h.bs.ex;exact hF.row.lt _ rfl
  have hI':∀k<w.heap.size,Y.ownBlock=μ k->z.iv.ownBlock=μ k:=λk Z e=>by
   obtain X|X:=T k e;{exact X};omega
  refine⟨⟨{z with iv:=Y,fm:={z.fm with no:=λk=>z.fm.no k \/(w.heap.size<=k/\k<w'.heap.size/\Y.ownBlock=μ k)}},⟨h.n1,h.n3,h.Po,h.id,qk,λi hi=> ?_,D,u,h.bl,?_,?_,h.sR,h.sB,h.sV,?_,?_⟩,⟨rfl,rfl,rfl,rfl,rfl,rfl,rfl,rfl⟩,?_,λk Z=>.inl Z⟩,⟨Hy,N7,Iv,hs,λk G M _ _=>E k G M⟩⟩;{have V:=h.pt i hi;obtain⟨F,hC,hF⟩:=V.yY;have y:=h.sR.2.2 i hi;refine⟨⟨F,hC.keep (Z _ V.lt (λe=>h.sR.1 e.symm) (λe=>(h.sI _ e).2.1 rfl)),hF⟩,V.lk.keep (Z _ V.lk.lt y.1 (λe=>((h.sI _ e).2.2 i hi).1 rfl)),V.ou.keep hs (λx hx=>Z x (V.ou.lt x hx) (λe=>y.2 (by rw[hx,e])) (λe=>((h.sI x e).2.2 i hi).2 hx)),V.few,V.ok,V.gB,V.vg,V.vB,V.nz⟩};{intro k Z;obtain e|e|e|e:=Z;{exact .inl (h.no k (.inl e))};{exact .inl (h.no k (.inr (.inl e)))};{exact .inl (h.no k (.inr (.inr (.inl e))))};obtain X|X:=T k e;{exact .inl (h.no k (J k X))};exact .inr ⟨X,D.lt k e,e⟩};{refine⟨λe=> ?_,λe=> ?_,λb A e=> ?_⟩;{obtain e|e:=e;{exact h.nb.1 e};have h8:w.heap.size<=z.Bb:=e.1;omega};{obtain e|e:=e;{exact h.nb.2.1 e};have h8:w.heap.size<=z.fm.g:=e.1;omega};obtain e|e:=e;{exact h.nb.2.2 b A e};have h9:=H b A;omega};{intro k Z;obtain X|X:=T k Z;{exact h.sI k X};refine⟨λe=> ?_,λe=> ?_,λi hi=>⟨λe=> ?_,λe=> ?_⟩⟩;{have e':k=z.R:=e;have:=h.pT.lt;omega};{have e':k=z.g:=e;have:=(h.pt 0 h.n1).lt;omega};{have e':k=z.B i:=e;have:=(h.pt i hi).lk.lt;omega};have:=(h.pt i hi).ou.lt k e;omega};{refine⟨λe=> ?_,h.Ts.2⟩;obtain X|X:=T 0 e;{exact h.Ts.1 X};have:=h.pT.lt;omega};intro k Z;obtain e|e|e|e:=Z;{exact .inl (.inl e)};{exact .inl (.inr (.inl e))};{exact .inl (.inr (.inr (.inl e)))};exact(T k e).imp_left (J k)
def n9.c0 {z:Zt} {r:jO} (h:n9 w z r):w.cell? ⟨z.R,0,ν⟩=μ (ι κ r.id):=h.pT.cell 0
def n9.c1 {z:Zt} {r:jO} (h:n9 w z r):w.cell? ⟨z.R,1,ν⟩=μ (σ (μ ⟨z.g,0,ν⟩) r.n z.cap):=h.pT.cell 1
def n9.c2 {z:Zt} {r:jO} (h:n9 w z r):w.cell? ⟨z.R,2,ν⟩=μ (π (μ ⟨z.Bb,0,ν⟩)):=h.pT.cell 2
def n9.c3 {z:Zt} {r:jO} (h:n9 w z r):w.cell? ⟨z.R,3,ν⟩=μ z.iv:=h.pT.cell 3
def n9.c4 {z:Zt} {r:jO} (h:n9 w z r):w.cell? ⟨z.R,4,ν⟩=μ (ι κ r.drop):=h.pT.cell 4
def n9.lt {w:fA} {z:Zt} {r:jO} (h:n9 w z r):z.R<w.heap.size:=h.pT.lt
def n9.Lz {z:Zt} {r:jO} (h:n9 w z r):z.g<w.heap.size:=(h.pt 0 h.n1).lt
def hasB(i:Int)(n:Nat):Bool:=decide (0<=i)&&decide (i<(n:Int))
def Bp(h:i<n):hasB (i:Int) n=true:=by simp[hasB];omega
def Pq(i:Int)(n:Nat):hasB i n=false \/ ∃k:Nat,k<n/\i=(k:Int):=by
 by_cases Z:0<=i;{by_cases Y:i<(n:Int);{exact .inr ⟨i.toNat,fC,fC⟩};exact .inl (by simp[hasB,Y])};exact .inl (by simp[hasB,Z])
def Ga(z:Zt)(r:jO)(i:Int)(w:fA)(h:n9 w z r):
 gb gg 72 #[π (μ ⟨z.R,0,ν⟩),ι κ i] w λe w'=>e=ρ (.bool (hasB i r.n))/\w=w':=by
  have hl:=h.lt;have c1:=h.c1;unfold hasB;by_cases Z:0<=i
  ·by_cases Y:i<(r.n:Int)
   ·have hv:(decide (0<=i)&&decide (i<(r.n:Int)))=true:=by simp[Z,Y]
    rw[hv];clear hv h;go_in;go_wp2;go_ret;exact⟨by first|rfl|(simp;omega),rfl⟩
   have hv:(decide (0<=i)&&decide (i<(r.n:Int)))=false:=by simp[Y]
   rw[hv];clear hv h;go_in;go_wp2;go_ret;exact⟨by first|rfl|(simp;omega),rfl⟩
  have hv:(decide (0<=i)&&decide (i<(r.n:Int)))=false:=by simp[Z]
  rw[hv];clear hv h;go_in;go_wp2;go_ret;exact⟨by first|rfl|(simp;omega),rfl⟩
structure qe(id:Int)(q:mX):Prop where
 who:0<=q.who/\q.who<=6
 me:q.who≠id
 both:q.both=true->1<=q.who
 left:0<=q.left/\q.left<=4
def ZJ(K:Int->Option PS):Prop:=∀x,(K x).isSome=true->1<=x/\x<=6
def ZJ.vN(h:ZJ K) {k:Int} (hk:1<=k/\k<=6)(q:PS):ZJ (xY K k q):=λx hx=>by
 unfold xY at hx;split at hx;{omega};{exact h x hx}
structure nh(r:jO):Prop where
 id:1<=r.id/\r.id<=6
 m:∀i<r.n,1<=(r.P i).m/\(r.P i).m<=20
 pe:∀i<r.n,qe r.id (r.P i).pe
 own:∃q,r.K r.id=μ q/\qq r.id q.1 q.2=0
 Tt:ZJ r.K
def qe.nobody {id:Int} (h:1<=id):qe id Rt.nobody:=⟨⟨fF,fF⟩,λe=>(by have e2:(0:Int)=id:=e;omega),λe=>absurd e fF,⟨fF,fF⟩⟩
def qe.tick {q:mX} (hi:1<=id)(h:qe id q):qe id (jP q):=by
 unfold jP;split;{exact qe.nobody hi};exact⟨h.who,h.me,h.both,by have:=h.left;simp;omega⟩
def qe.aaO {f s:Int} (hi:1<=id)(hf:1<=f/\f<=6):qe id (kg id f s):=by
 unfold kg;split;{exact qe.nobody hi};rename_i h;exact⟨by simp;omega,by simpa using h,λ_=>by simp;omega,gZ⟩
def Dx(P:Nat->kB)(n:Int)(k:Nat):Prop:=(P k).pe.both=true/\(P k).pe.who=n/\(match kQ P n k with|none=>true|some b=>decide ((P k).m<(P b).m))=true
instance(P:Nat->kB)(n:Int)(k:Nat):Decidable (Dx P n k):=by unfold Dx;infer_instance
def y8 {P:Nat->kB} {n:Int} (h:Dx P n k):kQ P n (k+1)=μ k:=by
 unfold kQ;exact ag h
def yi {P:Nat->kB} {n:Int} (h:¬Dx P n k):kQ P n (k+1)=kQ P n k:=by
 have:kQ P n (k+1)=if Dx P n k then μ k else kQ P n k:=by
  rw[kQ];by_cases hc:Dx P n k;{rw[ag hc];exact ag hc};rw[af hc];exact af hc
 rw[this,af h]
def oT {P:Nat->kB} {n:Int}:∀ {k b:Nat},kQ P n k=μ b->b<k/\(P b).pe.both=true/\(P b).pe.who=n
 |0,b,h=>by simp[kQ]at h
 |k+1,b,h=>by
  by_cases hc:Dx P n k;{rw[y8 hc]at h;have:=aL h;subst this;exact⟨fC,hc.1,hc.2.1⟩};{rw[yi hc]at h;have:=oT h;exact⟨fC,this.2⟩}
def qE(r:jO)(j n:Nat):List kS:=(List.range' j n).filterMap λ(j:Nat)=>(kQ r.P ((j:Int)+1) r.n).map λb=>((j:Int)+1,(r.P b).m)
def Dy(r:jO):kH r=qE r 0 6:=by unfold kH qE;rw[dL]
def uo {r:jO} (h:nh r):∀(n j:Nat) (Z:Int),Z<=j->j+n<=6->sj r.id Z (qE r j n)=0/\(qE r j n).length<=n
 |0,j,Z,_,_=>by simp[qE,sj]
 |n+1,j,Z,h1,h2=>by
  have ih:=uo h n (j+1) ((j:Int)+1) fC fC;have ih2:=uo h n (j+1) Z fC fC;have e:qE r j (n+1)=(match kQ r.P ((j:Int)+1) r.n with|none=>qE r (j+1) n|some b=>((j:Int)+1,(r.P b).m)::qE r (j+1) n):=by
   unfold qE;rw[eF,bG];cases kQ r.P ((j:Int)+1) r.n<;>simp
  cases X:kQ r.P ((j:Int)+1) r.n with
  |none=>
   rw[X]at e;simp only at e;rw[e];exact⟨ih2.1,fC⟩
  |some b=>
   rw[X]at e;simp only at e;rw[e];obtain⟨Y,KE,V⟩:=oT X;have hm:=h.m b Y;have T:=h.pe b Y;have U:=T.me;rw[V]at U;refine⟨?_,by simp;omega⟩;unfold sj;rw[af (by simp only;omega)];simp only
   first
    |exact ih.1
    |(rw[af fC];exact ih.1)
    |(rw[af fC,af fC];exact ih.1)
def Bq {r:jO} (h:nh r) {seq:Int} (hs:1<=seq/\seq<=1000000):qq r.id seq (kH r)=0:=by
 have Z:=uo h 6 0 0 fC fC;rw[<-Dy]at Z;have qo:=h.id;unfold qq;rw[af fC,af fC];exact Z.1
def nh.jW {r:jO} (h:nh r)(i:Nat)(p:kB)(Y:p.m=(r.P i).m)(X:i<r.n->qe r.id p.pe):nh (r.jW i p):=by
 refine⟨h.id,λj Z=> ?_,λj Z=> ?_,h.own,h.Tt⟩;{show 1<=(m8 r.P i p j).m/\(m8 r.P i p j).m<=20;by_cases e:j=i;{subst e;simp only[m8,if_true];rw[Y];exact h.m j Z};simp only[m8,if_neg e];exact h.m j Z};show qe r.id (m8 r.P i p j).pe;by_cases e:j=i;{subst e;simp only[m8,if_true];exact X Z};simp only[m8,if_neg e];exact h.pe j Z
def nh.behind {r:jO} (h:nh r) {seq:Int} (hs:0<=seq):nh (r.behind seq):=by
 unfold jO.behind;split;{refine⟨h.id,h.m,h.pe,⟨(seq+1,kH r),by simp[jO.Ag,xY],Bq h fC⟩,h.Tt.vN h.id _⟩};exact h
def nh.seq {r:jO} (h:nh r):1<=Cx r.K r.id/\Cx r.K r.id<=1000000:=by
 obtain⟨q,Z,hs⟩:=h.own;have:=(kD hs).2.1;unfold Cx;rw[Z];exact this
def nh.change {r:jO} (h:nh r):nh r.change:=by
 unfold jO.change;split;{exact h};exact h.behind (by have:=h.seq;omega)
def nh.Ak {r:jO} (h:nh r)(Z:Nat->Int->Option PS):nh {r with O:=Z}:=⟨h.id,h.m,h.pe,h.own,h.Tt⟩
def nh.meet {r:jO} (h:nh r)(i:Nat) {q:mX} (Y:qe r.id q):nh (r.meet i q):=by
 have Z:nh (r.jW i {r.P i with pe:=q}):=h.jW i _ rfl (λ_=>Y);unfold jO.meet;simp only;split;{exact Z};split;{exact(Z.Ak _).change.Ak _};exact(Z.Ak _).change
def rowOf(m:Nat)(F:Nat->fB):Array fB:=(iP m).map F
def oo(m:Nat)(F:Nat->fB):(rowOf m F).size=m:=by simp[rowOf]
def uQ(m:Nat)(F:Nat->fB)(j:Nat)(h:j<m):(rowOf m F)[j]? =μ (F j):=by simp[rowOf,h]
section
variable {P:Program}
def sg.loadAt {w:fA} {g o m:Nat} {F:Nat->fB} (h:sg w g o m F)(t:fE)(d:TypeDesc)(hu:P.underlying t=some d)(hd:(match d with| .struct _| .array _ _=>true|_=>false)=true)(hi:(P.info? t).map (·.size)=some m):
 (iH t (π (μ ⟨g,o,ν⟩))).run P w=.ok (.agg (rowOf m F)) w:=by
  have hl:(loadCells ⟨g,o,ν⟩ (rowOf m F).toList.length).run P w=.ok (rowOf m F).toList.toArray w:=
   run_loadCells_list (P:=P) w ⟨g,o,ν⟩ (rowOf m F).toList (λj v hv=>by
    have V:(⟨g,o,ν⟩:fq).add j=⟨g,o+j,ν⟩:=by unfold Addr.add;split<;>simp_all
    have X:j<m:=by
     have:=(aT.1 hv).1;simpa[rowOf]using this
    have U:(rowOf m F).toList[j]? =μ (F j):=by simpa using uQ m F j X
    rw[V,h.cell j X];exact U.symm.trans hv)
  cases Y:P.info? t with
  |none=>simp[Y]at hi
  |some i=>
   have hs:i.size=m:=by simpa[Y]using hi
   have Z:(isAgg t).run P w=.ok true w:=by
    unfold isAgg;rw[iJ,run_underlying hu w];cases d<;>simp_all
   simp only[Array.length_toList,Array.toArray_toList,oo]at hl;simp[iH,iI,loadVar,iJ,Z,sizeOf,typeInfo,Y,hs,hl]
def Ek(w:fA) {rest:List Oper} {a:Act} (Z:o.guard=ν)(x:iN)(t:fE)(V:o.op=.load t x)
 (g off m:Nat) (F:Nat->fB) (d:TypeDesc) (hx:a.eval x=.pointer (some ⟨g,off,none⟩)) (X:sg w g off m F) (hu:P.underlying t=some d) (hd:(match d with| .struct _| .array _ _=>true|_=>false)=true) (hi:(P.info? t).map (·.size)=some m)
 (h:wpList P ops Q rest (a.put o.dst (.agg (rowOf m F))) w):wpList P ops Q (o::rest) a w:=by
  refine wpList_plain Z λK Y=> ?_;have U:=sg.loadAt X t d hu hd hi;unfold fK iO;simp only[V,iJ,iK,fL,hx,U];exact Y _ _ h
def pY(w:fA) {rest:List Oper} {a:Act} (Z:o.guard=ν)(x y:iN)(t:fE)(V:o.op=.store t x y)(hd:o.dst=ν)
 (B:Nat) (C D:Array fB) (hx:a.eval x=π (μ ⟨B,0,ν⟩)) (hy:a.eval y=.agg D) (X:j2 w B C t) (hs:C.size=D.size) (hi:(P.info? t).map (·.size)=μ D.size) (Y:D.all (·.oneCell')=true)
 (h:wpList P ops Q rest a (w.setRow B D)):wpList P ops Q (o::rest) a w:=by
  refine oc w Z x y t V B C D hx hy X hs hi Y ?_;rw[hd];exact h
end
def zPt:Nat->fB:=λj=>if j=0 then ι κ 0 else if j=1 then π ν else if j<67 then OY (j-2)else if j=67 then ι κ 0 else if j=68 then .bool false else if j=69 then ι κ 0 else σ ν 0 0
def Xp:(gg.info? 142).map (λi=>(i.zero,i.size))=μ (μ (.agg (rowOf 71 zPt)),71):=iV
def Pr(w:fA):(zeroValue 142).run gg w=.ok (.agg (rowOf 71 zPt)) w:=(cz Xp).1 w
def Ps:(gg.info? 142).map (·.size)=μ 71:=(cz Xp).2
def EE.one {l:List UInt8} {e d:Bool} (h:EE F l e d)(j:Nat)(hj:j<65):(F j).oneCell'=true:=by
 by_cases Z:j<62;{obtain⟨x,hx⟩:=h.live j Z;rw[hx];rfl};have:j=62 \/j=63 \/j=64:=fC;obtain rfl|rfl|rfl:=this;{rw[h.many];rfl};{rw[h.esc];rfl};rw[h.bad];rfl
def KF {p:kB} (h:EE F p.rd.1 p.rd.2.1 p.rd.2.2)(hv:v.oneCell'=true):(rowOf 71 (yX p B v F)).all (·.oneCell')=true:=by
 rw[Array.all_eq_true];intro j M;rw[oo]at M;have e:(rowOf 71 (yX p B v F))[j] =yX p B v F j:=by simp[rowOf]
 rw[e];unfold yX;by_cases Z:j=0;{simp[Z];rfl};by_cases Y:j=1;{simp[Y];rfl};by_cases X:j<67;{simp only[Z,Y,X,if_false,if_true];exact EE.one h (j-2) fC};by_cases V:j=67;{simp[V];rfl};by_cases U:j=68;{simp[U];rfl};by_cases T:j=69;{simp[T];rfl};simp only[Z,Y,X,V,U,T,if_false];exact hv
def Row.one {xs:List fB} (h:Row w k v n xs):v.oneCell'=true:=by
 obtain⟨e,_⟩|⟨g,c,e,_⟩:=h.2;{rw[e];rfl};rw[e];rfl
def Jp:Option Nat->Int
 |none=>0
 |some b=>(b:Int)
def MJ(P:Nat->kB)(n:Int)(k b:Nat)(h:kQ P n k=μ b):b<k:=(oT h).1
def Gc(z:Zt)(r:jO)(x:Int)(w:fA)(h:n9 w z r):
 gb gg 200 #[π (μ ⟨z.R,0,ν⟩),ι κ x] w λe w'=>e=ρ (τ #[ι κ (Jp (kQ r.P x r.n)),.bool (kQ r.P x r.n).isSome])/\fP w w':=by
  have hl:=h.lt;have c1:=h.c1;have hz:=Pr;have ud:=Ps;have xK:=h.n3;have ED:=h.Po;obtain⟨n,hn⟩:=fH (r.n);have HR:Hid _:=h;have Y:Hid _:=hn;rw[hn]at c1 xK ED;rw[hn];obtain⟨Zp,Vr⟩:=fH (rowOf 71 zPt);have Tw:Zp.size=71:=by rw[<-Vr];exact oo _ _
  rw[Vr]at hz;clear h hn Vr;go_in;go_wp2;go_loopw [6,7,15] (λb f i wr=>∃k:Nat,k<=n/\i=ι κ k/\b=ι κ (Jp (kQ r.P x k))/\f=.bool (kQ r.P x k).isSome/\fP w wr) (λ_ _ i _=>n-(gj i).toNat);(case atStart=>exact⟨0,aw _,rfl,rfl,rfl,aC _ _⟩)
  case round=>
   obtain⟨k,hk,rfl,rfl,rfl,jS⟩:=hrel;by_cases lZ:k<n
   ·have pE:(k:Int)<(n:Int):=fC;have IV:(0:Int)<=(k:Int):=fC;have R:=HR.out.below jS;have Cj:k<r.n:=by rw[Y.out];exact lZ
    have hp:=R.pt k Cj;obtain⟨F,hC,hF⟩:=hp.yY;have qX:=KF (B:=z.B k) (v:=z.v k) hF (Row.one hp.ou);have gl:=R.Lz;have d1:=R.c1;have dl:=R.lt;rw[Y.out]at d1;have HM:Hid (∀b,kQ r.P x k=μ b->wr.cell? ⟨z.g,b*71,ν⟩=μ (ι κ (r.P b).m)):=λb X=>(R.pt b (by have:=MJ _ _ _ _ X;omega)).c0;obtain⟨D,T⟩:=fH (rowOf 71 (yX (r.P k) (z.B k) (z.v k) F));have LA:D.size=71:=by rw[<-T];exact oo _ _
    have a0:D[0]? =μ (ι κ (r.P k).m):=by rw[<-T];exact uQ 71 _ 0 fF
    have G:D[67]? =μ (ι κ (r.P k).pe.who):=by rw[<-T];exact uQ 71 _ 67 fF
    have E:D[68]? =μ (.bool (r.P k).pe.both):=by rw[<-T];exact uQ 71 _ 68 fF
    rw[T]at qX;have ba:=gu wr (γ D 142);have hB:j2 (wr.alloc (γ D 142)) wr.heap.size D 142:=j2.new _ _ _;have M:Hid (fP w (wr.alloc (γ D 142))):=fQ jS ba;have d1':=(ak (a:=⟨z.R,1,ν⟩) (ba.block z.R dl)).trans d1;have dl':z.R<(wr.alloc (γ D 142)).heap.size:=aq dl ba.size;have I9:Hid (∀b,kQ r.P x k=μ b->(wr.alloc (γ D 142)).cell? ⟨z.g,b*71,ν⟩=μ (ι κ (r.P b).m)):=λb X=>(ak (a:=⟨z.g,b*71,ν⟩) (ba.block z.g gl)).trans (HM.out b X);have gl':z.g<(wr.alloc (γ D 142)).heap.size:=aq gl ba.size;have kt:=eW wr Zp D 142;go_wp2_with(first
     |(refine Ek _ rfl (.tmp 18) 142 rfl z.g (k*71) 71 (yX (r.P k) (z.B k) (z.v k) F) _ rfl hC underlying142 rfl ud ?_;rw[T])
     |(refine pY _ rfl (.tmp 9) (.tmp 19) 142 rfl rfl wr.heap.size Zp D rfl rfl (j2.new _ _ _) (by rw[Tw,LA]) (by rw[LA];exact ud) qX ?_;rw[kt]))
    have y0:=(hB.cell 0).trans a0;have A:=(hB.cell 67).trans G;have V:=(hB.cell 68).trans E;have yl:wr.heap.size<(wr.alloc (γ D 142)).heap.size:=ai _ _ y0;obtain⟨W,hW⟩:=fH (wr.alloc (γ D 142));obtain⟨Z,hZ⟩:=fH (wr.heap.size);rw[hW]at M I9 d1' dl' gl' y0 A V yl;rw[hZ]at y0 A V yl;rw[hW,hZ];clear hW hZ kt hB ba HM qX hC hF hp R T a0 G E LA d1 dl gl;cases X:(r.P k).pe.both with
    |false=>
     have Y:Hid _:=yi (P:=r.P) (n:=x) (k:=k) (λhc=>by have:=hc.1;rw[X]at this;cases this);rw[X]at V
     go_wp2
     go_quiet(fail)
     go_wp2
     go_roundw
     case rel=>exact⟨k+1,fC,by go_num,by rw[Y.out],by rw[Y.out],below_drewN M.out _⟩
     case measure=>simp[gj];omega
    |true=>
     rw[X]at V;cases hw:((r.P k).pe.who==x)with
     |false=>
      have Y:Hid _:=yi (P:=r.P) (n:=x) (k:=k) (λhc=>by have:=hc.2.1;simp[this]at hw)
      go_wp2
      go_quiet(fail)
      go_wp2
      go_roundw
      case rel=>exact⟨k+1,fC,by go_num,by rw[Y.out],by rw[Y.out],below_drewN M.out _⟩
      case measure=>simp[gj];omega
     |true=>
      have Xq:(r.P k).pe.who=x:=by simpa using hw
      cases U:kQ r.P x k with
      |none=>
       have H:Hid _:=y8 (P:=r.P) (n:=x) (k:=k) ⟨X,Xq,by rw[U]⟩;have y:Jp ν=0:=rfl;have u:(ν:Option Nat).isSome=false:=rfl;rw[y,u]
       go_wp2
       go_quiet(fail)
       go_wp2
       go_roundw
       case rel=>exact⟨k+1,fC,by go_num,by rw[H.out];rfl,by rw[H.out];rfl,below_drewN M.out _⟩
       case measure=>simp[gj];omega
      |some b=>
       have hbk:=MJ _ _ _ _ U;have hM:=I9.out b U;have lU:(b:Int)<(n:Int):=fC;have Ad:(0:Int)<=(b:Int):=fC;have y:Jp (μ b)=(b:Int):=rfl;have u:(μ b:Option Nat).isSome=true:=rfl;by_cases J:(r.P k).m<(r.P b).m
       ·have H:Hid _:=y8 (P:=r.P) (n:=x) (k:=k) ⟨X,Xq,by rw[U];simp[J]⟩;have hmd:decide ((r.P k).m<(r.P b).m)=true:=by simp[J]
        rw[y,u];clear J U
        go_wp2
        go_quiet(fail)
        go_wp2
        go_roundw
        case rel=>exact⟨k+1,fC,by go_num,by rw[H.out];rfl,by rw[H.out];rfl,below_drewN M.out _⟩
        case measure=>simp[gj];omega
       ·have Y:Hid (kQ r.P x (k+1)=μ b):=(yi (P:=r.P) (n:=x) (k:=k) (λhc=>by have:=hc.2.2;rw[U]at this;simp[J]at this)).trans U;have hmd:decide ((r.P k).m<(r.P b).m)=false:=by simp[J]
        rw[y,u];clear J U
        go_wp2
        go_quiet(fail)
        go_wp2
        go_roundw
        case rel=>exact⟨k+1,fC,by go_num,by rw[Y.out];rfl,by rw[Y.out];rfl,below_drewN M.out _⟩
        case measure=>simp[gj];omega
   have Cj:k=n:=fC;subst Cj;go_wp2;go_ret2;exact⟨rfl,jS⟩
def Iw(r:jO)(k:Nat):List kS:=(gw k).filterMap λ(j:Nat)=>(kQ r.P ((j:Int)+1) r.n).map λb=>((j:Int)+1,(r.P b).m)
def Tx {r:jO} (h:kQ r.P ((k:Int)+1) r.n=ν):Iw r (k+1)=Iw r k:=by
 unfold Iw;rw[cE,bW];simp[h]
def Ty {r:jO} {b:Nat} (h:kQ r.P ((k:Int)+1) r.n=μ b):Iw r (k+1)=Iw r k++ [((k:Int)+1,(r.P b).m)] :=by
 unfold Iw;rw[cE,bW];simp[h]
def Gd(z:Zt)(r:jO)(w:fA)(h:n9 w z r):
 gb gg 179 #[π (μ ⟨z.R,0,ν⟩)] w λe w'=>∃v,e=ρ v/\Made w w' v (kH r):=by
  obtain⟨i0,hi,pB,oR,oe⟩:=bu A4;have HR:Hid _:=h;clear h;go_in;go_wp2;go_loopw [3,7] (λout i wr=>∃(k:Nat) (ao:Option fq) (m cp:Nat),k<=6/\out=σ ao m cp/\i=ι κ k/\m<=k/\Row wr 2 (σ ao m cp) m (jX (Iw r k))/\(∀j,fD (σ ao m cp)=μ j->w.heap.size<=j)/\fP w wr) (λ_ i _=>6-(gj i).toNat);(case atStart=>exact⟨0,ν,0,0,aw _,rfl,rfl,aj _,by simpa[Iw,jX]using Row.nil w 2,λj A=>oL A,aC _ _⟩)
  case round=>
   obtain⟨k,ao,m,cp,hk,rfl,rfl,hmk,V,M,U⟩:=hrel;by_cases lZ:k<6
   ·have pE:(k:Int)<6:=fC;have IV:(0:Int)<=(k:Int):=fC;have R:=HR.out.below U;have Z:=Gc z r ((k:Int)+1) wr R;cases X:kQ r.P ((k:Int)+1) r.n with
    |none=>
     have Z:gb gg 200 #[π (μ ⟨z.R,0,ν⟩),ι κ ((k:Int)+1)] wr λe w'=>e=ρ (τ #[ι κ 0,.bool false])/\fP wr w':=by
      rw[X]at Z;exact Z
     have E:Hid _:=Tx X;have Y:Hid _:=V;have H:Hid _:=U;clear R X V U;go_wp2_with fail;refine Z.mono ?_;rintro e w1 ⟨rfl,b1⟩;clear Z
     go_wp2
     go_roundw
     case rel=>exact⟨k+1,_,m,cp,fC,rfl,by go_num,fC,by rw[E.out];exact Row.below Y.out b1,M,fQ H.out b1⟩
     case measure=>simp[gj];omega
    |some b=>
     have Z:gb gg 200 #[π (μ ⟨z.R,0,ν⟩),ι κ ((k:Int)+1)] wr λe w'=>e=ρ (τ #[ι κ (b:Int),.bool true])/\fP wr w':=by
      rw[X]at Z;exact Z
     have E:Hid _:=Ty X;have D:=(oT X).1;have G:Hid _:=R;have Y:Hid _:=V;have H:Hid _:=U;clear R X V U;go_wp2_with fail;refine Z.mono ?_;rintro e w1 ⟨rfl,b1⟩;have T:=G.out.below b1;have d1:=T.c1;have dl:=T.lt;have gl:=T.Lz;have g0:=(T.pt b D).c0;have lU:(b:Int)<(r.n:Int):=fC;have Ad:(0:Int)<=(b:Int):=fC;have xX:=Row.below Y.out b1;have J:=fQ H.out b1;clear Z T;go_wp2_with(at_builtin;go_must(refine jN _ rfl (.tmp 18) (.tmp 30) 38 rfl 123 i0 (.agg #[ι κ 0,ι κ 0]) 2 16 underlying38 hi pB oR oe rfl fF (σ ao m cp) m (jX (Iw r k)) rfl (xX.alloc _) _ 1 1 [ι κ ((k:Int)+1),ι κ (r.P b).m] rfl rfl fF (oQ _ _ _ _ _ gZ) (nC _ _ _ _) (by unfold maxLen;omega) fC ?_));intro g' kE w2 mQ mb u;have oB:=nO (J.alloc J.size _) mb M;have oA:=pL (B:=w.heap.size) u (by have:=J.size;omega) M;rw[show [ι .i64 ((k:Int)+1),ι .i64 (r.P b).m] =[ι .i64 (((k:Int)+1,(r.P b).m):kS).1,ι .i64 (((k:Int)+1,(r.P b).m):kS).2]from rfl,<-nZ,<-E.out]at mQ;clear mb u
     go_wp2
     go_roundw
     case rel=>exact⟨k+1,_,m+1,kE,fC,rfl,by go_num,fC,mQ,λj A=>mc oA A,oB⟩
     case measure=>simp[gj];omega
   have y:k=6:=fC;subst y;have Ca:m=(kH r).length:=by have:=V.1;rw[m9]at this;show m=(Iw r 6).length;omega
   go_wp2;go_ret;exact⟨_,rfl,⟨by rw[<-Ca];exact V,M,U⟩⟩
def Cc(a b:Option fq)(ca D n m:Nat)(os qs:List kS)(w:fA)(J:kc w a n os)(H:kc w b m qs)(hn:n<=1000000)(hm:m<=1000000):
 gb gg 178 #[σ a n ca,σ b m D] w λe w'=>e=ρ (.bool (decide (os=qs)))/\∃k,w'=w.drewN k:=by
  have hl:=J.1;have Kh:=H.1;by_cases E:n=m
  ·subst E;have heq:((n:Int) !=(n:Int))=false:=gZ;go_in;go_wp2;go_loopw [13] (λi wr=>∃k m:Nat,k<=n/\i=ι κ k/\os.take k=qs.take k/\wr=w.drewN m) (λi _=>n-(gj i).toNat);(case atStart=>exact⟨0,0,aw _,rfl,rfl,rfl⟩)
   case round=>
    obtain⟨k,m,hk,rfl,M,rfl⟩:=hrel;have T:Hid _:=M;clear M;by_cases lZ:k<n
    ·obtain hA|⟨b1,o1,rfl,hA⟩:=J.2;{omega};obtain X|⟨b2,o2,rfl,X⟩:=H.2;{omega};obtain⟨c1,c2⟩:=hA k fC;obtain⟨c3,c4⟩:=X k fC;have V:Hid (os.take (k+1)=os.take k++ [os[k]'(by omega)]):=aJ fC;have U:Hid (qs.take (k+1)=qs.take k++ [qs[k]'(by omega)]):=aJ fC;have Y:Hid (os=qs->os[k]'(by omega)=qs[k]'(by omega)):=λh=>by subst h;rfl
     clear hA X;generalize os[k]'(by omega)=o at c1 c2 V Y;generalize qs[k]'(by omega)=q at c3 c4 U Y;have pE:(k:Int)<(n:Int):=fC;cases q1:(o.1==q.1)
     ·have Z:Hid (decide (os=qs)=false):=by
       show _=_;rw[b9];intro h;have:=Y.out h;rw[this]at q1;simp at q1
      go_wp2;go_quiet(fail);go_wp2_with fail;rw[Z.out];go_ret;exact⟨rfl,_,drewN_drewN _ _ _⟩
     cases q2:(o.2==q.2)
     ·have Z:Hid (decide (os=qs)=false):=by
       show _=_;rw[b9];intro h;have:=Y.out h;rw[this]at q2;simp at q2
      go_wp2;go_quiet(fail);go_wp2_with fail;rw[Z.out];go_ret;exact⟨rfl,_,drewN_drewN _ _ _⟩
     have G:Hid (os.take (k+1)=qs.take (k+1)):=by
      show _=_;rw[V.out,U.out,T.out];simp at q1 q2;congr 2;exact bq q1 q2
     go_wp2;go_quiet(fail);go_wp2;go_roundw;(case rel=>exact⟨k+1,_,fC,by go_num,G.out,rfl⟩);case measure=>simp[gj];omega
    have u:decide (os=qs)=true:=by
     have A:os.take k=os:=aR fC;have y:qs.take k=qs:=aR fC;have:=T.out;rw[A,y]at this;simp[this]
    go_wp2_with fail;rw[u];go_ret;exact⟨rfl,m,rfl⟩
  have heq:((n:Int) !=(m:Int))=true:=by simp;omega
  have Z:decide (os=qs)=false:=by
   rw[b9];intro h;subst h;omega
  rw[Z];go_in;go_wp2;go_ret;exact⟨rfl,0,rfl⟩
def Tz(C:l8)(o:Nat)(e:kS)(es:List kS):oS C o (e::es)=oS (vP C o e.1.toNat e.2) o es:=rfl
def Ro(o:Nat)(own:Int)(x y:Nat):∀(es:List kS) (Y:Int) (C:l8),sj own Y es=0->oS C o es x y=if x=o then((es.find? λe=>e.1==(y:Int)).map (·.2)).getD (C x y)else C x y
 |[],_,C,_=>by
  show C x y=_;split<;>simp
 |e::es,Y,C,h=>by
  unfold sj at h;split at h;{simp at h}
  ·rename_i h1
   split at h;{simp at h}
   ·rw[Tz,Ro o own x y es e.1 _ h];by_cases hx:x=o
    ·rw[ag hx,ag hx,List.find?_cons];by_cases hy:e.1=(y:Int)
     ·have Z:(e.1==(y:Int))=true:=by simp[hy]
      rw[Z];have X:es.find? (λe=>e.1==(y:Int))=ν:=by
       rw[List.find?_eq_none];intro f hf;have:=Rp own es e.1 h f hf;simp;omega
      rw[X];simp only[Option.map_none,Option.getD_none,Option.map_some,Option.getD_some,vP];rw[ag ⟨hx,fC⟩]
     ·have Z:(e.1==(y:Int))=false:=by simp[hy]
      rw[Z];have:vP C o e.1.toNat e.2 x y=C x y:=by
       simp only[vP];rw[af fC]
      rw[this]
    ·rw[af hx,af hx];simp only[vP];rw[af fC]
where
 Rp (own:Int):∀(es:List kS) (ah:Int),sj own ah es=0->∀f∈es,ah<f.1
  |[],_,_,f,hf=>by simp at hf
  |e::es,ah,h,f,hf=>by
   unfold sj at h;split at h;{simp at h};{split at h;{simp at h};{obtain rfl|hf:=aS.1 hf;{omega};{have:=Rp own es e.1 h f hf;omega}}}
def Vs(es:List kS)(y:Nat):Int:=((es.find? λe=>e.1==(y:Int)).map (·.2)).getD 0
def MK {K:Int->Option PS} {n:Nat} {S:Nat->SV} {E:Nat->List kS} (h:xt K n S E)(x y:Nat):∀k≤n,(∀j<k,(S j).own=(x:Int)->ln S E k x y=Vs (E j) y)/\((∀j<k,(S j).own≠(x:Int))->ln S E k x y=0)
 |0,_=>⟨λj Y=>fC,λ_=>rfl⟩
 |k+1,hk=>by
  have ih:=MK h x y k fC;have M:=h.ok k fC;obtain⟨ho,_,_,U⟩:=kD M;have V:ln S E (k+1) x y=if x=(S k).own.toNat then(((E k).find? λe=>e.1==(y:Int)).map (·.2)).getD (ln S E k x y)else ln S E k x y:=Ro (S k).own.toNat (S k).own x y (E k) 0 (ln S E k) U
  rw[V];by_cases hx:x=(S k).own.toNat
  ·rw[ag hx];have T:ln S E k x y=0:=ih.2 (λj Y e=>by
    have:=h.Vm j k Y fC;omega)
   rw[T];refine⟨λj Y hs=> ?_,λX=>absurd fC (X k fC)⟩;by_cases Z:j=k;{subst Z;rfl};{have:=h.Vm j k fC fC;omega}
  ·rw[af hx];refine⟨λj Y hs=> ?_,λX=>ih.2 (λj Y=>X j fC)⟩;by_cases Z:j=k;{subst Z;omega};{exact ih.1 j fC hs}
def xt.ahG {S:Nat->SV} {E:Nat->List kS} (h:xt K n S E)(U:ZJ K):ln S E n=oD K:=by
 funext x y;have X:=MK h x y n (aj _);unfold oD;cases Y:K (x:Int)with|none=>simp only;refine X.2 (λj Z e=> ?_);have:=(h.at_ j Z).2;rw[e,Y]at this;cases this|some q=>simp only;have hr:=U x (by rw[Y];rfl);obtain⟨j,Z,V⟩:=h.all x ⟨fC,fC⟩ (by rw[Y];rfl);rw[X.1 j Z V];have:=(h.at_ j Z).2;rw[V,Y]at this;have:=(eV (aL this)).2;unfold Vs;rw[<-this]
