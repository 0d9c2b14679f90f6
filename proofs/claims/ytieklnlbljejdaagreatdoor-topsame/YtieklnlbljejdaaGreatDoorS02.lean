import Derived.Test.YtieklnlbljejdaaGreatDoorS01
open Go.Value renaming int → ι, slice → σ, pointer → π, tuple → τ, nilIface → η, ownBlock → eD
open Go.IntKind renaming i64 → κ
open Go.Ending renaming returned → ρ
open Go.Obj renaming cells → γ
open Option renaming none → ν, some → μ
open Go renaming World → ew, Value → eA, TypeId → eE, Addr → eh, Calls → fc
open Go.World renaming setRow → fQ
open Go.Instr renaming loadAt → fR, sureAddr → fS, storeAt → fW
open Go.Sem renaming run_bind → fT, run_pure → fU
open Go.Result renaming andThen → fV, andThen_ok → eO
open Array renaming range → fX, mem_map → fY
open Go.Proofs.Tryz renaming prog → fe
open Go.RowKit renaming intOf → fh
open Go.RowKit.Below renaming alloc → fZ
open List renaming length_cons → eW
set_option maxRecDepth 100000
set_option maxHeartbeats 8000000
open Go.Proofs.Tryz
namespace Go.Proofs.YtieklnlbljejdaaGreatDoor
open Go.RowKit St
variable {B py n r:Nat} {C:Array Value} {Q:Exit->Act->World->Prop} {a:Act} {bn:Nat->Bool} {by' far:Int} {o:Oper} {ops:Array Oper} {p:List Nat} {t:TypeId} {w:World}
theorem ji.setRow {w:ew} {B:Nat} {C D:Array eA} {t:eE} (h:ji w B C t):ji (w.setRow B D) B D t:=by
 unfold ji at*;simp only[fQ];rw[cO,ai rfl,h];rfl
theorem pg {a:ew} (h:Below n w a)(hB:n<=B)(D:Array eA):Below n w (a.setRow B D):=by
 refine⟨h.os,h.tape,h.output,by simpa[fQ]using h.size,λi hi=> ?_⟩;rw[<-h.block i hi];simp only[fQ];rw[cO,af eB]
theorem ji.U5 {B':Nat} {D:Array eA} (h:ji w B C t)(Z:B≠B'):ji (w.setRow B' D) B C t:=by
 unfold ji at*;simp only[fQ];rw[cO,af (λe=>Z e.symm)];exact h
section
variable {P:Program}
theorem ji.loadAt {w:ew} {B:Nat} {C:Array eA} {t:eE} (h:ji w B C t)(n:Nat)(e:eE)(Z:P.underlying t=μ (.array n e))(hi:(P.info? t).map (·.size)=μ C.size):(fR t (π (μ ⟨B,0,ν⟩))).run P w=.ok (.agg C) w:=by
 simp only[fR,fS,fT,fU,fV];exact bV w B t t C (0,0) _ h Z rfl hi
theorem ji.storeAt {w:ew} {B:Nat} {C D:Array eA} {t:eE} (h:ji w B C t)(hs:C.size=D.size)(hi:(P.info? t).map (·.size)=μ D.size)(Z:D.all (·.oneCell')=true):(fW t (π (μ ⟨B,0,ν⟩)) (.agg D)).run P w=.ok () (w.setRow B D):=by
 simp only[fW,fS,fT,fU,fV];exact run_storeVar_row w B t t C D h hi hs Z
theorem lI(w:ew) {rest:List Oper} (Z:o.guard=ν)(x:Operand)(t:eE)(X:o.op=.load t x)
 (B:Nat) (C:Array eA) (n:Nat) (e:eE) (hx:a.eval x=π (μ ⟨B,0,ν⟩)) (hb:ji w B C t) (U:P.underlying t=μ (.array n e)) (hi:(P.info? t).map (·.size)=μ C.size)
 (h:wpList P ops Q rest (a.put o.dst (.agg C)) w):wpList P ops Q (o::rest) a w:=by
 refine wpList_plain Z λK Y=> ?_;have V:=hb.loadAt n e U hi;unfold Oper.wp execOp;simp only[X,fT,fU,eO,hx,V];exact Y _ _ h
theorem mQ(w:ew) {rest:List Oper} (Z:o.guard=ν)(x y:Operand)(t:eE)(V:o.op=.store t x y)
 (B:Nat) (C D:Array eA) (hx:a.eval x=π (μ ⟨B,0,ν⟩)) (hy:a.eval y=.agg D) (hb:ji w B C t) (hs:C.size=D.size) (hi:(P.info? t).map (·.size)=μ D.size) (Y:D.all (·.oneCell')=true)
 (h:wpList P ops Q rest (a.put o.dst undef) (w.setRow B D)):wpList P ops Q (o::rest) a w:=by
 refine wpList_plain Z λK X=> ?_;have U:=hb.storeAt hs hi Y;unfold Oper.wp execOp;simp only[V,fT,fU,eO,hx,hy,U];exact X _ _ h
end
abbrev k8:=Nat->Nat->Int
def gC(C:k8):Array eA:=(fX 49).map λi=>ι κ (C (i/7) (i%7))
theorem qE(C:k8):(gC C).size=49:=by simp[gC]
theorem Le(C:k8)(i:Nat)(h:i<49):(gC C)[i]? =μ (ι κ (C (i/7) (i%7))):=by simp[gC,h]
theorem Bi(C:k8)(a b:Nat)(ha:a<7)(hb:b<7):(gC C)[a*7+b]? =μ (ι κ (C a b)):=by
 rw[Le C _ eB];rw[show(a*7+b)/7=a by omega,show(a*7+b) %7=b by omega]
def ux(C:k8)(a b:Nat)(v:Int):k8:=λx y=>if x=a/\y=b then v else C x y
theorem U6(C:k8)(a b:Nat)(v:Int)(hb:b<7):(gC C).setIfInBounds (a*7+b) (ι κ v)=gC (ux C a b v):=by
 apply bS;intro i;rw[bu];by_cases hi:i<49;{rw[Le _ i hi,Le _ i hi,qE];by_cases e:a*7+b=i;{rw[ai e,ai eB];have Z:i/7=a:=eB;have Y:i%7=b:=eB;simp[ux,Z,Y]};{rw[af e];have:¬(i/7=a/\i%7=b):=eB;simp only[ux,if_neg this]}};{have hs:∀D:k8,(gC D)[i]? =ν:=λD=>bh (by rw[qE];omega);rw[hs,hs];split;{rw[af (by rw[qE];omega)]};{rfl}}
theorem NL(C:k8):(gC C).all (·.oneCell')=true:=by
 rw[ct];intro v hv;obtain⟨i,_,rfl⟩:=fY.1 hv;rfl
structure HP where
 dst:Int
 far:Int
 sj:Int
def HP.zero:HP:=⟨0,0,0⟩
def Lf(H:Nat->HP)(i:Nat):eA:=ι κ (if i%3=0 then(H (i/3)).dst else if i%3=1 then(H (i/3)).far else(H (i/3)).sj)
def hC(H:Nat->HP):Array eA:=(fX 21).map (Lf H)
theorem tZ(H:Nat->HP):(hC H).size=21:=by simp[hC]
theorem Ex(H:Nat->HP)(i:Nat)(h:i<21):(hC H)[i]? =μ (Lf H i):=by simp[hC,h]
theorem Bj(H:Nat->HP)(n:Nat)(hn:n<7):(hC H)[n*3]? =μ (ι κ (H n).dst)/\(hC H)[n*3+1]? =μ (ι κ (H n).far)/\(hC H)[n*3+2]? =μ (ι κ (H n).sj):=by
 rw[Ex _ _ eB,Ex _ _ eB,Ex _ _ eB];unfold Lf;rw[show n*3%3=0 by omega,show n*3/3=n by omega,show(n*3+1) %3=1 by omega,show(n*3+1)/3=n by omega,show(n*3+2) %3=2 by omega,show(n*3+2)/3=n by omega];exact⟨rfl,rfl,rfl⟩
theorem U7(H:Nat->HP):(hC H).all (·.oneCell')=true:=by
 rw[ct];intro v hv;obtain⟨i,_,rfl⟩:=fY.1 hv;rfl
def rP(H:Nat->HP)(n:Nat)(p:HP):Nat->HP:=λx=>if x=n then p else H x
theorem Js(H:Nat->HP)(n:Nat)(p:HP)(hn:n<7):(((hC H).setIfInBounds (n*3) (ι κ p.dst)).setIfInBounds (n*3+1) (ι κ p.far)).setIfInBounds (n*3+2) (ι κ p.sj)=hC (rP H n p):=by
 apply bS;intro i;rw[bu,bu,bu];simp only[Array.size_setIfInBounds,tZ];by_cases hi:i<21
 ·rw[Ex _ i hi,Ex _ i hi];unfold Lf;by_cases e:i/3=n
  ·have Y:rP H n p (i/3)=p:=by simp[rP,e]
   rw[Y];rcases(show i%3=0 \/i%3=1 \/i%3=2 by omega)with Z|Z|Z
   {rw[af (show¬n*3+2=i by omega),af (show¬n*3+1=i by omega),ai (show n*3=i by omega),ai eB,ai Z]};{rw[af (show¬n*3+2=i by omega),ai (show n*3+1=i by omega),ai eB,af eB,ai Z]};{rw[ai (show n*3+2=i by omega),ai eB,af eB,af eB]}
  ·have Y:rP H n p (i/3)=H (i/3):=by simp[rP,e]
   rw[Y,af (show¬n*3+2=i by omega),af (show¬n*3+1=i by omega),af (show¬n*3=i by omega)]
 ·have hs:∀D:Nat->HP,(hC D)[i]? =ν:=λD=>bh (by rw[tZ];omega);rw[hs,hs,af (show¬n*3+2=i by omega),af (show¬n*3+1=i by omega),af (show¬n*3=i by omega)]
theorem PE:(fe.info? 256).map (λi=>(i.zero,i.size))=μ (μ (.agg (gC λ_ _=>0)),49):=ga
theorem PF:(fe.info? 259).map (λi=>(i.zero,i.size))=μ (μ (.agg (hC λ_=>HP.zero)),21):=ga
theorem Bk(w:ew):(zeroValue 256).run fe w=.ok (.agg (gC λ_ _=>0)) w:=(bW PE).1 w
theorem Lg(w:ew):(zeroValue 259).run fe w=.ok (.agg (hC λ_=>HP.zero)) w:=(bW PF).1 w
theorem xL:(fe.info? 256).map (·.size)=μ 49:=(bW PE).2
theorem Jt:(fe.info? 259).map (·.size)=μ 21:=(bW PF).2
structure NM(w:ew)(a:Option eh)(n:Nat)(L:List HP):Prop where
 len:L.length=n
 row:n=0 \/ ∃b off,a=μ ⟨b,off,ν⟩/\∀j h,L[j]? =μ h->w.cell? ⟨b,off+j*3,ν⟩=μ (ι κ h.dst)/\w.cell? ⟨b,off+j*3+1,ν⟩=μ (ι κ h.far)/\w.cell? ⟨b,off+j*3+2,ν⟩=μ (ι κ h.sj)
theorem NM.below {w':ew} {a:Option eh} {L:List HP} (h:NM w a n L)(hb:eH w w'):NM w' a n L:=by
 refine⟨h.len,?_⟩;rcases h.row with Z|⟨b,off,rfl,Z⟩
 {exact .inl Z};{refine .inr ⟨b,off,rfl,λj s e=> ?_⟩;obtain⟨c1,c2,c3⟩:=Z j s e;have l:=ag w _ c1;exact⟨(hb.cell (p:=⟨b,off+j*3,ν⟩) l).trans c1,(hb.cell (p:=⟨b,off+j*3+1,ν⟩) l).trans c2,(hb.cell (p:=⟨b,off+j*3+2,ν⟩) l).trans c3⟩}
structure HsN(w w':ew)(a:Option eh)(n:Nat)(L:List HP):Prop where
 r:NM w' a n L
 nw:∀x,a=μ x->w.heap.size<=x.block
def yV(L:List HP)(n:Int):Nat->Option Nat
 |0=>none
 |k+1=>match yV L n k with|some i=>some i|none=>(match L[k]? with|some h=>if h.dst=n then some k else none|none=>none)
def acM:Option Nat->Int
 |none=> -1
 |some i=>(i:Int)
theorem U8(pd pf V x:Int)(X:Nat)(w:ew)(Z:w.cell? ⟨X,0,ν⟩=μ (ι κ x)):
 fc fe 219 #[.agg #[ι κ pd,ι κ pf,ι κ V],π (μ ⟨X,0,ν⟩)] w λe w'=>e=ρ (.bool (pd==x))/\eH w w':=by
 have U:X<w.heap.size:=ag w _ Z;have Y:=gK w (γ #[ι κ pd,ι κ pf,ι κ V] 98);have qQ:=(Y.cell (p:=⟨X,0,ν⟩) U).trans Z
 go_in
 go_wp2
 go_ret;exact⟨rfl,Y⟩
theorem GL(a:Option eh)(n cap:Nat)(L:List HP)(x:Int)(X:Nat)(w:ew)(h:NM w a n L)(hn:n<=1000)(y:w.cell? ⟨X,0,ν⟩=μ (ι κ x)):
 fc fe 218 #[σ a n cap,.func (.func 219) #[] #[π (μ ⟨X,0,ν⟩)]] w λe w'=>e=ρ (ι κ (acM (yV L x n)))/\eH w w':=by
 go_in
 go_wp2
 go_loopw [8] (λv wr=>∃k:Nat,k<=n/\v=ι κ k/\yV L x k=ν/\eH w wr) (λv _=>n-(fh v).toNat)
 case atStart=>exact⟨0,Nat.zero_le _,rfl,rfl,au _ _⟩
 case round=>
  obtain⟨k,hk,rfl,A,U⟩:=hrel;have D:Hid _:=A;clear A;by_cases kL:k<n
  ·have n9:(k:Int)<(n:Int):=eB;have u:=h.below U;have hl:=h.len;rcases u.row with h1|⟨b,off,rfl,hc⟩
   ·omega
   have J:L[k]? =μ (L[k]'(by omega)):=aw eB;obtain⟨c0,c1,c2⟩:=hc k _ J;have M:Hid (yV L x (k+1)=if(L[k]'(by omega)).dst=x then μ k else ν):=by
    show _=_;simp only[yV,D.out,J]
   generalize L[k]'(by omega)=p at c0 c1 c2 M J;obtain⟨pd,pf,px⟩:=p;simp only at c0 c1 c2 M;have j:X<w.heap.size:=ag w _ y;have Y:=U8 pd pf px x X wr ((U.cell (p:=⟨X,0,ν⟩) j).trans y);have E:Hid _:=U;clear hc u J U;by_cases Z:pd=x
   ·have V:(pd==x)=true:=by simpa using Z
    rw[V]at Y;have T:Hid (yV L x n=μ k):=by
     have mono:∀d,yV L x (k+1+d)=μ k:=by
      intro d
      induction d with
      |zero=>rw[Nat.add_zero,M.out,ai Z]
      |succ d ih=>rw[<-Nat.add_assoc];simp only[yV,ih]
     have:=mono (n-(k+1))
     rwa [show k+1+(n-(k+1))=n by omega]at this
    clear Z V;go_wp2_with(fail);refine Y.mono ?_;rintro e w1 ⟨rfl,k1⟩;have H:Hid _:=fP E.out k1;clear Y k1
    go_wp2
    go_ret;exact⟨by rw[T.out];rfl,H.out⟩
   ·have V:(pd==x)=false:=by simpa using Z
    rw[V]at Y;have T:Hid (yV L x (k+1)=ν):=by show _=_;rw[M.out,af Z]
    clear Z V;go_wp2_with(fail);refine Y.mono ?_;rintro e w1 ⟨rfl,k1⟩;have H:Hid _:=fP E.out k1;clear Y k1
    go_wp2
    go_roundw
    case rel=>exact⟨k+1,eB,by go_num,T.out,H.out⟩
    case measure=>simp[fh];omega
  ·have yc:¬(k:Int)<(n:Int):=eB;have G:k=n:=eB;have T:Hid (yV L x n=ν):=by rw[<-G];exact D.out
   clear G
   go_wp2
   go_ret;exact⟨by rw[T.out];rfl,U⟩
def Bl(L:List HP)(n:Int):Option HP:=L.find? λh=>h.dst==n
theorem H5(L:List HP)(n:Int):∀k,k<=L.length->(match yV L n k with|some i=>i<k/\L[i]? =Bl (L.take k) n/\(Bl (L.take k) n).isSome=true|none=>Bl (L.take k) n=none)
 |0,_=>by simp[yV,Bl]
 |k+1,hk=>by
  have ih:=H5 L n k eB;have X:Bl (L.take (k+1)) n=(Bl (L.take k) n).or (if(L[k]'(by omega)).dst=n then μ (L[k]'(by omega))else ν):=by
   unfold Bl;rw[az eB,List.find?_append];congr 1;by_cases e:(L[k]'(by omega)).dst=n<;>simp[e]
  simp only[yV];cases hi:yV L n k with
  |some i=>
   rw[hi]at ih;obtain⟨h1,Z,Y⟩:=ih;simp only;rw[X];cases e:Bl (L.take k) n with
   |none=>rw[e]at Y;cases Y
   |some q=>rw[e]at Z;exact⟨eB,by simpa using Z,rfl⟩
  |none=>
   rw[hi]at ih;simp only at ih⊢;have V:L[k]? =μ (L[k]'(by omega)):=aw eB;rw[X,ih,V];by_cases e:(L[k]'(by omega)).dst=n;{simp[e]};{simp[e]}
theorem acN(a:Option eh)(n cap:Nat)(L:List HP)(x:Int)(w:ew)(h:NM w a n L)(hn:n<=1000):
 fc fe 199 #[σ a n cap,ι κ x] w λe w'=>e=ρ (τ #[.agg #[ι κ ((Bl L x).getD HP.zero).dst,ι κ ((Bl L x).getD HP.zero).far,ι κ ((Bl L x).getD HP.zero).sj],.bool (Bl L x).isSome])/\eH w w':=by
 obtain⟨U,V⟩:=fq ((w.alloc (γ #[ι κ x] 3)).alloc (γ #[ι κ 0,ι κ 0,ι κ 0] 98));have E:eH w U:=by rw[<-V];exact(gK _ _).alloc ik _
 have hX:ji U w.heap.size #[ι κ x] 3:=by rw[<-V];exact(ji.new w _ _).below (gK _ _)
 have hY:ji U (w.heap.size+1) #[ι κ 0,ι κ 0,ι κ 0] 98:=by rw[<-V];exact ji.Gy _ _ _ _ ik
 have X:=GL a n cap L x w.heap.size U (h.below E) hn (hX.cell 0);have Y:=H5 L x L.length (Nat.le_refl _);rw[cu,h.len]at Y;have j:Hid _:=V;clear V
 go_in
 go_wp2_with(fail);rw[j.out];refine X.mono ?_;rintro e A ⟨rfl,k2⟩;have Z:=hY.below k2;have D:=fP E k2;have y0:A.cell? ⟨w.heap.size+1,0,ν⟩=μ (ι κ 0):=Z.cell 0;have y1:A.cell? ⟨w.heap.size+1,1,ν⟩=μ (ι κ 0):=Z.cell 1;have y2:A.cell? ⟨w.heap.size+1,2,ν⟩=μ (ι κ 0):=Z.cell 2;have f0:=Z.frozen 0;have f1:=Z.frozen 1;have f2:=Z.frozen 2;have lY:=Z.lt;have G:=h.below D;have HY2:Hid _:=Z;have y:Hid _:=D;clear X hX hY k2 E j Z D;cases hi:yV L x n with
 |none=>
  rw[hi]at Y;simp only at Y;have J:Hid ((Bl L x).getD HP.zero=HP.zero):=by show _=_;rw[Y];rfl
  have H:Hid ((Bl L x).isSome=false):=by show _=_;rw[Y];rfl
  have hv:acM ν= -1:=rfl;rw[hv];clear Y G hv;go_wp2_with(fail);refine aE (v:=τ #[.agg #[ι κ 0,ι κ 0,ι κ 0],.bool false]) (by simp[results,results199,go_sem,y0,y1,y2]) rfl ?_;exact⟨by rw[J.out,H.out];rfl,bD (bD (bD y.out (by show w.heap.size<=w.heap.size+1;omega) _) (by show w.heap.size<=w.heap.size+1;omega) _) (by show w.heap.size<=w.heap.size+1;omega) _⟩
 |some i=>
  rw[hi]at Y;obtain⟨h1,T,u⟩:=Y;have ll:(i:Int)<(n:Int):=eB;have PH:¬(i:Int)<0:=eB;obtain⟨p,M⟩:∃p,Bl L x=μ p:=Option.isSome_iff_exists.1 u;rw[M]at T;have J:Hid ((Bl L x).getD HP.zero=p):=by show _=_;rw[M];rfl
  have H:Hid ((Bl L x).isSome=true):=by show _=_;rw[M];rfl
  have hv:acM (μ i)=(i:Int):=rfl;rw[hv];clear hv;rcases G.row with e|⟨b,off,rfl,hc⟩
  ·omega
  obtain⟨c0,c1,c2⟩:=hc i p T;obtain⟨pd,pf,px⟩:=p;simp only at c0 c1 c2;have jx:b≠w.heap.size+1:=by
   rcases h.row with e|⟨b',akl,e',j9⟩
   {omega};{cases e';have:=ag w _ (j9 i _ T).1;simp only at this;omega}
  clear h1 T u M hc G;go_wp2_with(fail);refine aE (v:=τ #[.agg #[ι κ pd,ι κ pf,ι κ px],.bool true]) (by simp[results,results199,go_sem,y0,y1,y2]) rfl ?_;exact⟨by rw[J.out,H.out],bD (bD (bD y.out (by show w.heap.size<=w.heap.size+1;omega) _) (by show w.heap.size<=w.heap.size+1;omega) _) (by show w.heap.size<=w.heap.size+1;omega) _⟩
def nH(C:k8)(o:Nat)(es:List jQ):k8:=es.foldl (λC e=>ux C o e.1.toNat e.2) C
theorem H6(C:k8)(o:Nat)(es:List jQ)(k:Nat)(h:k<es.length):nH C o (es.take (k+1))=ux (nH C o (es.take k)) o (es[k].1.toNat) (es[k].2):=by
 unfold nH;rw[az h,db];rfl
def j7(S:Nat->SV)(E:Nat->List jQ):Nat->k8
 |0=>λ_ _=>0
 |i+1=>nH (j7 S E i) (S i).own.toNat (E i)
theorem Rp(a:Option eh)(n cap:Nat)(S:Nat->SV)(E:Nat->List jQ)(w:ew)(h:uv w a n S E)(hn:n<=1000)(jb:∀j,j<n->oK (S j).own (S j).seq (E j)=0):
 fc fe 162 #[σ a n cap] w λe w'=>e=ρ (.agg (gC (j7 S E n)))/\eH w w':=by
 have hz:=Bk;have Rq:Hid _:=jb;clear jb;obtain⟨Z,hZ⟩:=fq (gC (λ_ _=>0));rw[hZ]at hz
 go_in
 go_wp2_with(fail);obtain⟨W0,nL⟩:=fq ((w.alloc (γ Z 256)).alloc (γ Z 256));have yW:eH w W0:=by rw[<-nL];exact(gK _ _).alloc ik _
 have xJ:ji W0 w.heap.size Z 256:=by rw[<-nL];exact(ji.new w Z _).below (gK _ _)
 have su:ji W0 (w.heap.size+1) (gC (j7 S E 0)) 256:=by rw[<-nL];show ji _ _ (gC λ_ _=>0) _;rw[hZ];exact ji.Gy _ _ _ _ ik
 rw[nL];clear nL;obtain⟨V,Gr⟩:=fq (w.heap.size);have wA:w.heap.size<=V:=eB;rw[Gr]at xJ su;rw[Gr];clear Gr
 go_loopw [10] (λv wr=>∃i:Nat,i<=n/\v=ι κ i/\ji wr (V+1) (gC (j7 S E i)) 256/\ji wr V Z 256/\eH w wr) (λv _=>n-(fh v).toNat)
 case atStart=>exact⟨0,Nat.zero_le _,rfl,su,xJ,yW⟩
 case round=>
  clear xJ su yW;obtain⟨i,hi,rfl,T,M,U⟩:=hrel;by_cases kL:i<n
  ·have n9:(i:Int)<(n:Int):=eB;have hw:=h.below U;obtain⟨ho,nG,hx⟩:=hw.opt i kL;have jf:=hw.row;rcases jf with h1|⟨sb,off,rfl,hcs⟩
   ·omega
   obtain⟨c0,c1,c2⟩:=hcs i kL;have H:=Rq.out i kL;have HOW:=(h.opt i kL).1;have HT:Hid (j7 S E (i+1)=nH (j7 S E i) (S i).own.toNat (E i)):=rfl;obtain⟨s,hs⟩:=fq (S i);obtain⟨es,he⟩:=fq (E i);rw[hs]at c0 c1 c2 ho nG hx H HT HOW;rw[he]at ho H HT HOW;clear hs he hcs hw;obtain⟨so,sq,sa,sn,sc⟩:=s;simp only at c0 c1 c2 ho nG hx H HT HOW;have YQ:=(jC H).1;obtain⟨o,rfl⟩:∃o:Nat,so=(o:Int):=⟨so.toNat,eB⟩
   rw[Int.toNat_natCast]at HT;have YT:=pI _ es 0 (jC H).2.2.2;have HES:Hid _:=YT;have HOL:=ho.1;have hsn:sn<=6:=by have:=(jC H).2.2.1;omega
   have GM:=U.alloc U.size (γ #[ι κ (o:Int),ι κ sq,σ sa sn sc] 40);have ti:=Bf (o:Int) sq sa sn sc es _ hx (HOW.below GM);have uN:Hid (jB (oK (o:Int) sq es)=η):=by show _=_;rw[H];rfl
   rw[uN.out]at ti;have D:=ji.new wr #[ι κ (o:Int),ι κ sq,σ sa sn sc] 40;have hG2:=T.below (gK wr (γ #[ι κ (o:Int),ι κ sq,σ sa sn sc] 40));have X6:=M.below (gK wr (γ #[ι κ (o:Int),ι κ sq,σ sa sn sc] 40));have Hba:Hid _:=GM;have Hwl:Hid (V+1<wr.heap.size):=T.lt;have Hlw:Hid _:=U.size;have HX:Hid _:=D;have u:Hid _:=hG2;have HZ2:Hid _:=X6;clear YT H U T M D hG2 X6 ho nG hx GM;go_wp2_with(fail);refine ti.mono ?_;rintro e w1 ⟨rfl,k1⟩;have A:=ji.below HX.out k1;have y:Hid _:=ji.below u.out k1;have HZ1:Hid _:=ji.below HZ2.out k1;have Hb1:Hid _:=fP Hba.out k1;obtain⟨X,MW⟩:=fq (wr.heap.size);rw[MW]at A;have akH:Hid (V+1<X):=by show _<_;rw[<-MW];exact Hwl.out
   have aqd:Hid (w.heap.size<=X):=by show _<=_;rw[<-MW];exact Hlw.out
   rw[MW];have x0:w1.cell? ⟨X,0,ν⟩=μ (ι κ (o:Int)):=A.cell 0;have x1:w1.cell? ⟨X,1,ν⟩=μ (ι κ sq):=A.cell 1;have x2:w1.cell? ⟨X,2,ν⟩=μ (σ sa sn sc):=A.cell 2;have HX1:Hid _:=A;clear ti k1 MW A HX u HZ2 Hba Hwl Hlw c0 c1 c2;go_wp2_with(fail);obtain⟨W1,rfl⟩:∃W1,W1=w1:=⟨_,rfl⟩
   clear x0 x1 x2
   go_loopw [20] (λv wr=>∃k:Nat,k<=sn/\v=ι κ k/\ji wr (V+1) (gC (nH (j7 S E i) o (es.take k))) 256/\ji wr V Z 256/\ji wr X #[ι κ (o:Int),ι κ sq,σ sa sn sc] 40/\eH w wr) (λv _=>sn-(fh v).toNat)
   case atStart=>exact⟨0,Nat.zero_le _,rfl,y.out,HZ1.out,HX1.out,Hb1.out⟩
   case round=>
    clear y HZ1 HX1 Hb1;obtain⟨k,hk,rfl,T,M,D,U⟩:=hrel;by_cases Bh:k<sn
    ·have agb:(k:Int)<(sn:Int):=eB;have YU:=HOW.below U;rcases YU.2 with h1|⟨eb,akI,rfl,hec⟩
     ·omega
     obtain⟨d0,d1⟩:=hec k eB;have Hy:=HES.out _ (aF (show k<es.length by omega));have HP:Hid (nH (j7 S E i) o (es.take (k+1))=ux (nH (j7 S E i) o (es.take k)) o ((es[k]'(by omega)).1.toNat) ((es[k]'(by omega)).2)):=H6 _ o es k eB;obtain⟨p,hp⟩:=fq (es[k]'(by omega));rw[hp]at d0 d1 Hy HP;obtain⟨pt,pm⟩:=p;simp only at d0 d1 Hy HP;obtain⟨t,rfl⟩:∃t:Nat,pt=(t:Int):=⟨pt.toNat,eB⟩
     rw[Int.toNat_natCast]at HP;obtain⟨G,nK⟩:=fq (wr.alloc (γ #[ι κ (t:Int),ι κ pm] 123));have kb:eH wr G:=by rw[<-nK];exact gK _ _
     have hY:ji G wr.heap.size #[ι κ (t:Int),ι κ pm] 123:=by rw[<-nK];exact ji.new _ _ _
     have J:=T.below kb;have yS:=D.below kb;have Hb3:Hid _:=fP U kb;have HZ3:Hid _:=M.below kb;have U9:Hid _:=nK;clear hec hp YU nK;obtain⟨Y,Rr⟩:=fq (wr.heap.size);have HYl:Hid (X<Y):=by show _<_;rw[<-Rr];exact D.lt
     rw[Rr]at hY;have HYe:Hid _:=Rr;clear Rr kb T D M U;have y0:G.drew.cell? ⟨Y,0,ν⟩=μ (ι κ (t:Int)):=hY.cell 0;have y1:G.drew.cell? ⟨Y,1,ν⟩=μ (ι κ pm):=hY.cell 1;have z0:G.drew.cell? ⟨X,0,ν⟩=μ (ι κ (o:Int)):=yS.cell 0;have g0:G.drew.cell? ⟨V+1,o*7+t,ν⟩=μ (ι κ (nH (j7 S E i) o (es.take k) o t)):=(J.cell _).trans (Bi _ o t eB eB);have g1:G.drew.frozen? ⟨V+1,o*7+t,ν⟩=false:=J.frozen _;have o7:(o:Int)<7:=eB;have t7:(t:Int)<7:=eB;have HG3:Hid _:=J;have HX3:Hid _:=yS;have HY3:Hid _:=hY;clear J yS hY Hy YQ
     go_upto_region 9 with fail
     rw[U9.out,HYe.out]
     go_region
     all_goals
      go_wp2
      go_roundw
      case rel=>
       have jx:X≠V+1:=by have:=akH.out;omega
       refine⟨k+1,eB,by go_num,?_,?_,?_,?_⟩;{rw[HP.out,<-U6 _ o t pm eB];exact ji.set HG3.out _ _};{exact ji.other HZ3.out eB _};{exact ji.other HX3.out jx _};{exact below_drewN (bD Hb3.out (by show w.heap.size<=V+1;omega) _) 1}
      case measure=>simp[fh];omega
    ·have yc:¬(k:Int)<(sn:Int):=eB;have HG:Hid _:=T;have HZ:Hid _:=M;have HB:Hid _:=U;clear T M D U
     go_wp2
     go_roundw
     case rel=>
      refine⟨i+1,eB,by go_num,?_,HZ.out,HB.out⟩;have e1:es.take k=es:=aH eB;rw[HT.out,<-e1];exact HG.out
     case measure=>simp[fh];omega
  ·have ld:i=n:=eB;subst ld;have yc:¬(i:Int)<(i:Int):=eB;clear kL;obtain⟨g,hg⟩:=fq (gC (j7 S E i));have gs:g.size=49:=by rw[<-hg];exact qE _
   have g1:g.all (·.oneCell')=true:=by rw[<-hg];exact NL _
   have zs:Z.size=49:=by rw[<-hZ];exact qE _
   rw[hg]at T;have HGE:Hid (g=gC (j7 S E i)):=hg.symm;have hR:ji (wr.setRow V g) V g 256:=M.setRow;have l6:=bV (P:=fe) (wr.setRow V g) V 256 256 g (0,0) _ hR underlying256 rfl (by rw[gs];exact xL);have HBE:Hid (eH w (wr.setRow V g)):=pg U wA g;have vP:(fe.info? 256).map (·.size)=μ g.size:=by rw[gs];exact xL
   have sG:Z.size=g.size:=by rw[gs,zs]
   clear hR hg hZ U;go_wp2_with(first
    |refine lI _ rfl (.tmp 3) 256 rfl (V+1) g _ _ rfl T underlying256 vP ?_
    |refine mQ _ rfl (.tmp 2) (.tmp 34) 256 rfl V Z g rfl rfl M sG vP g1 ?_)
   refine aE (v:=.agg g) (by simp[results,results162,asAddr,l6]) rfl ?_;exact⟨by rw[HGE.out],HBE.out⟩
theorem wG {C D:k8} (h:∀x y,x<7->y<7->C x y=D x y):gC C=gC D:=by
 apply bS;intro i;by_cases hi:i<49;{rw[Le _ i hi,Le _ i hi,h (i/7) (i%7) eB eB]};{rw[bh (by rw[qE];omega),bh (by rw[qE];omega)]}
def kE(C:k8):k8:=λx y=>if 0<C y x then C x y else 0
def Kq(C:k8)(a b:Nat):k8:=λx y=>if x<a \/(x=a/\y<b)then kE C x y else 0
theorem Va(C:k8)(a b:Nat):gC (Kq C a (b+1))=gC (ux (Kq C a b) a b (kE C a b)):=by
 refine wG λx y hx hy=> ?_;simp only[Kq,ux];by_cases Z:x=a/\y=b;{rw[ai Z,ai eB,Z.1,Z.2]};{rw[af Z];by_cases Y:x<a \/(x=a/\y<b);{rw[ai Y,ai eB]};{rw[af Y,af eB]}}
theorem Vb(C:k8)(a b:Nat)(h:kE C a b=0):gC (Kq C a (b+1))=gC (Kq C a b):=by
 refine wG λx y hx hy=> ?_;simp only[Kq];by_cases Z:x=a/\y=b;{rw[ai eB,af eB,Z.1,Z.2,h]};{by_cases Y:x<a \/(x=a/\y<b);{rw[ai Y,ai eB]};{rw[af Y,af eB]}}
theorem YV(C:k8)(a:Nat):gC (Kq C a 7)=gC (Kq C (a+1) 0):=by
 refine wG λx y hx hy=> ?_;simp only[Kq];by_cases Z:x<a \/(x=a/\y<7);{rw[ai Z,ai eB]};{rw[af Z,af eB]}
theorem Vc(C:k8)(w:ew):
 fc fe 163 #[.agg (gC C)] w λe w'=>e=ρ (.agg (gC (kE C)))/\eH w w':=by
 have hz:=Bk;obtain⟨Z,h⟩:=fq (gC (λ_ _=>0));rw[h]at hz;obtain⟨c,hc⟩:=fq (gC C);rw[hc]
 go_in
 go_wp2_with(fail);obtain⟨j,A⟩:=fq (((w.alloc (γ c 256)).alloc (γ Z 256)).alloc (γ Z 256));have yW:eH w j:=by rw[<-A];exact((gK _ _).alloc ik _).alloc (by simp;omega) _
 have xJ:ji j w.heap.size c 256:=by rw[<-A];exact((ji.new w c _).below (gK _ _)).below (gK _ _)
 have su:ji j (w.heap.size+1) Z 256:=by rw[<-A];exact(ji.Gy _ Z _ _ ik).below (gK _ _)
 have De:ji j (w.heap.size+2) (gC (Kq C 0 0)) 256:=by
  rw[<-A];have:gC (Kq C 0 0)=Z:=by rw[<-h];exact wG λx y _ _=>by simp[Kq]
  rw[this];exact ji.Gy _ _ _ _ ik
 rw[A];clear A;obtain⟨Y,Gr⟩:=fq (w.heap.size);have wA:w.heap.size<=Y:=eB;rw[Gr]at xJ su De;rw[Gr];clear Gr
 go_loopw [6] (λv wr=>∃a:Nat,a<=7/\v=ι κ a/\ji wr (Y+2) (gC (Kq C a 0)) 256/\ji wr Y c 256/\ji wr (Y+1) Z 256/\eH w wr) (λv _=>7-(fh v).toNat)
 case atStart=>exact⟨0,eB,rfl,De,xJ,su,yW⟩
 case round=>
  clear xJ su De yW;obtain⟨a,ha,rfl,X,V,U,M⟩:=hrel;by_cases D:a<7
  ·have akJ:(a:Int)<7:=eB;have G:Hid _:=X;have J:Hid _:=V;have E:Hid _:=U;have H:Hid _:=M;clear X V U M
   go_wp2
   go_loopw [9] (λv wr=>∃b:Nat,b<=7/\v=ι κ b/\ji wr (Y+2) (gC (Kq C a b)) 256/\ji wr Y c 256/\ji wr (Y+1) Z 256/\eH w wr) (λv _=>7-(fh v).toNat)
   case atStart=>exact⟨0,eB,rfl,G.out,J.out,E.out,H.out⟩
   case round=>
    clear G J E H;obtain⟨b,hb,rfl,X,V,U,M⟩:=hrel;by_cases T:b<7
    ·have acR:(b:Int)<7:=eB;have r1:wr.cell? ⟨Y,b*7+a,ν⟩=μ (ι κ (C b a)):=(V.cell _).trans (by rw[<-hc];exact Bi C b a T D);have r2:wr.cell? ⟨Y,a*7+b,ν⟩=μ (ι κ (C a b)):=(V.cell _).trans (by rw[<-hc];exact Bi C a b D T);have r3:wr.cell? ⟨Y+2,a*7+b,ν⟩=μ (ι κ (Kq C a b a b)):=(X.cell _).trans (Bi _ a b D T);have r4:=X.frozen (a*7+b);have G:Hid _:=X;have J:Hid _:=V;have E:Hid _:=U;have H:Hid _:=M;clear X V U M;by_cases qN:0<C b a
     ·have HS:Hid (kE C a b=C a b):=by show _=_;simp[kE,qN]
      go_wp2
      go_region
      all_goals
       go_wp2
       go_roundw
       case rel=>
        refine⟨b+1,eB,by go_num,?_,ji.other J.out eB _,ji.other E.out eB _,below_drewN (bD H.out (by show w.heap.size<=Y+2;omega) _) 1⟩;rw[Va,HS.out,<-U6 _ a b _ T];exact ji.set G.out _ _
       case measure=>simp[fh];omega
     ·have HS:Hid (kE C a b=0):=by show _=_;simp[kE,qN]
      go_wp2
      go_roundw
      case rel=>exact⟨b+1,eB,by go_num,by rw[Vb _ _ _ HS.out];exact G.out,J.out,E.out,H.out⟩
      case measure=>simp[fh];omega
    ·have acR:¬(b:Int)<7:=eB;have hbe:b=7:=eB;have G:Hid _:=X;have J:Hid _:=V;have E:Hid _:=U;have H:Hid _:=M;clear X V U M
     go_wp2
     go_roundw
     case rel=>exact⟨a+1,eB,by go_num,by rw[<-YV,<-hbe];exact G.out,J.out,E.out,H.out⟩
     case measure=>simp[fh];omega
  ·have akJ:¬(a:Int)<7:=eB;have u:Hid (gC (Kq C a 0)=gC (kE C)):=wG λx y hx hy=>by simp only[Kq];rw[ai eB]
   obtain⟨g,hg⟩:=fq (gC (Kq C a 0));have gs:g.size=49:=by rw[<-hg];exact qE _
   have g1:g.all (·.oneCell')=true:=by rw[<-hg];exact NL _
   have zs:Z.size=49:=by rw[<-h];exact qE _
   rw[hg]at X u;have hR:ji (wr.setRow (Y+1) g) (Y+1) g 256:=U.setRow;have l6:=bV (P:=fe) (wr.setRow (Y+1) g) (Y+1) 256 256 g (0,0) _ hR underlying256 rfl (by rw[gs];exact xL);have HBE:Hid (eH w (wr.setRow (Y+1) g)):=pg M eB g;have vP:(fe.info? 256).map (·.size)=μ g.size:=by rw[gs];exact xL
   have sG:Z.size=g.size:=by rw[gs,zs]
   clear hR hg h M V;go_wp2_with(first
    |refine lI _ rfl (.tmp 3) 256 rfl (Y+2) g _ _ rfl X underlying256 vP ?_
    |refine mQ _ rfl (.tmp 2) (.tmp 29) 256 rfl (Y+1) Z g rfl rfl U sG vP g1 ?_)
   refine aE (v:=.agg g) (by simp[results,results163,asAddr,l6]) rfl ?_;exact⟨by rw[u.out],HBE.out⟩
theorem wH(S:Nat->SV)(E:Nat->List jQ):∀n,(∀j,j<n->oK (S j).own (S j).seq (E j)=0)->∀x y,0<=j7 S E n x y/\j7 S E n x y<=20
 |0,_,x,y=>by simp[j7]
 |n+1,h,x,y=>by
  have ih:=wH S E n (λj hj=>h j eB);have Z:=pI _ (E n) 0 (jC (h n eB)).2.2.2;simp only[j7,nH];generalize E n=es at Z;generalize j7 S E n=C at ih
  induction es generalizing C with
  |nil=>exact ih x y
  |cons e es ihs=>
   rw[bI];refine ihs (λq Y=>Z q (by simp[Y])) _ (λu v=> ?_);simp only[ux];have:=Z e ik;split;{omega};{exact ih u v}
theorem Vd(a:Option eh)(n cap:Nat)(S:Nat->SV)(E:Nat->List jQ)(p q:Nat)(w:ew)(h:uv w a n S E)(hn:n<=1000)(jb:∀j,j<n->oK (S j).own (S j).seq (E j)=0):
 fc fe 159 #[σ a n cap,ι κ (p:Int),ι κ (q:Int)] w λe w'=>e=ρ (ι κ (kE (j7 S E n) p q))/\eH w w':=by
 have Rq:Hid _:=jb;clear jb
 go_in
 go_wp2
 go_loopw [7,8,9] (λt k v wr=>∃i:Nat,i<=n/\v=ι κ i/\t=ι κ (j7 S E i p q)/\k=.bool (decide (0<j7 S E i q p))/\eH w wr) (λ_ _ v _=>n-(fh v).toNat)
 case atStart=>exact⟨0,Nat.zero_le _,rfl,rfl,by simp[j7],au _ _⟩
 case round=>
  obtain⟨i,hi,rfl,rfl,rfl,M⟩:=hrel;by_cases kL:i<n
  ·have n9:(i:Int)<(n:Int):=eB;obtain⟨sb,off,rfl,hcs⟩:∃sb off,a=μ ⟨sb,off,ν⟩/\∀j,j<n->w.cell? ⟨sb,off+j*3,ν⟩=μ (ι κ (S j).own)/\w.cell? ⟨sb,off+j*3+1,ν⟩=μ (ι κ (S j).seq)/\w.cell? ⟨sb,off+j*3+2,ν⟩=μ (σ (S j).a (S j).n (S j).cap):=by
    rcases h.row with h1|h1
    {omega};{exact h1}
   have HOW:=(h.opt i kL).1;have Bm:=Rq.out i kL;have YQ:=(jC Bm).1;have YT:=pI _ (E i) 0 (jC Bm).2.2.2;have h6:=(jC Bm).2.2.1;obtain⟨o,A⟩:∃o:Nat,(S i).own=(o:Int):=⟨(S i).own.toNat,eB⟩
   have HT:Hid (j7 S E (i+1)=nH (j7 S E i) o (E i)):=by show nH _ _ _=_;rw[A,Int.toNat_natCast]
   have HC:Hid (∀W,eH w W->W.cell? ⟨sb,off+i*3,ν⟩=μ (ι κ (o:Int))/\W.cell? ⟨sb,off+i*3+2,ν⟩=μ (σ (S i).a (S i).n (S i).cap)):=by
    intro W hW;obtain⟨c0,c1,c2⟩:=hcs i kL;have l:=ag w _ c0;rw[A]at c0;exact⟨(hW.cell (p:=⟨sb,off+i*3,ν⟩) l).trans c0,(hW.cell (p:=⟨sb,off+i*3+2,ν⟩) l).trans c2⟩
   have HES:Hid _:=YT;obtain⟨es,he⟩:=fq (E i);rw[he]at HOW HT HES h6;have Lc:=HOW.1;generalize (S i).a=sa at HC HOW;generalize (S i).cap=sc at HC;generalize (S i).n=sn at HC HOW Lc;have hsn:sn<=6:=eB;clear hcs he YT Bm A YQ;obtain⟨Z,TN⟩:=fq (j7 S E i);rw[TN]at HT;rw[TN];clear TN;have HB:Hid _:=M;clear M
   go_wp2
   go_loopw [7,8,10] (λt z v wr=>∃k:Nat,k<=sn/\v=ι κ k/\t=ι κ (nH Z o (es.take k) p q)/\z=.bool (decide (0<nH Z o (es.take k) q p))/\eH w wr) (λ_ _ v _=>sn-(fh v).toNat)
   case atStart=>exact⟨0,Nat.zero_le _,rfl,rfl,rfl,HB.out⟩
   case round=>
    clear HB;obtain⟨k,hk,rfl,rfl,rfl,M⟩:=hrel;obtain⟨c0,c2⟩:=HC.out wr M;by_cases Bh:k<sn
    ·have agb:(k:Int)<(sn:Int):=eB;have A:=HOW.below M;rcases A.2 with h1|⟨eb,akI,rfl,hec⟩
     ·omega
     obtain⟨d0,d1⟩:=hec k eB;have Hy:=HES.out _ (aF (show k<es.length by omega));have HP:Hid (nH Z o (es.take (k+1))=ux (nH Z o (es.take k)) o ((es[k]'(by omega)).1.toNat) ((es[k]'(by omega)).2)):=H6 _ o es k eB;obtain⟨g,hg⟩:=fq (es[k]'(by omega));rw[hg]at d0 d1 Hy HP;obtain⟨gt,gm⟩:=g;simp only at d0 d1 Hy HP;obtain⟨t,rfl⟩:∃t:Nat,gt=(t:Int):=⟨gt.toNat,eB⟩
     rw[Int.toNat_natCast]at HP;have ka:=M.alloc M.size (γ #[ι κ (t:Int),ι κ gm] 123);obtain⟨e0,T⟩:=HC.out _ ka;have H:Hid _:=ka;have V:Hid (nH Z o (es.take (k+1)) p q=(if p=o/\q=t then gm else nH Z o (es.take k) p q)/\decide (0<nH Z o (es.take (k+1)) q p)=(if q=o/\p=t then true else decide (0<nH Z o (es.take k) q p))):=by
      rw[HP.out];refine⟨rfl,?_⟩;by_cases e:q=o/\p=t
      ·have T:ux (nH Z o (es.take k)) o t gm q p=gm:=by simp only[ux,if_pos e]
       rw[ai e];exact cQ (by rw[T];omega)
      ·have T:ux (nH Z o (es.take k)) o t gm q p=nH Z o (es.take k) q p:=by simp only[ux,if_neg e]
       rw[af e,decide_eq_decide,T]
     clear hec hg A ka M HP;generalize nH Z o (es.take k) p q=t1 at V⊢;generalize decide (0<nH Z o (es.take k) q p)=u at V⊢;have main:∀Q:Prop,(((o:Int)==(p:Int))=true->((t:Int)==(q:Int))=true->p=o->q=t->Q)->(((o:Int)==(p:Int))=true->((t:Int)==(q:Int))=false->¬(p=o/\q=t)->Q)->(((o:Int)==(p:Int))=false->¬(p=o/\q=t)->Q)->Q:=by
      intro Q q1 q2 q3;by_cases X:p=o
      ·have f1:((o:Int)==(p:Int))=true:=by simp[X]
       by_cases T:q=t;{exact q1 f1 (by simp[T]) X T}
       ·exact q2 f1 (by
         have:¬(t:Int)=(q:Int):=eB;simpa using this) (λe=>T e.2)
      ·exact q3 (by
        have:¬(o:Int)=(p:Int):=eB;simpa using this) (λe=>X e.1)
     have aa0:∀Q:Prop,(((o:Int)==(q:Int))=true->((t:Int)==(p:Int))=true->q=o/\p=t->Q)->(((o:Int)==(q:Int))=true->((t:Int)==(p:Int))=false->¬(q=o/\p=t)->Q)->(((o:Int)==(q:Int))=false->¬(q=o/\p=t)->Q)->Q:=by
      intro Q q1 q2 q3;by_cases X:q=o
      ·have f1:((o:Int)==(q:Int))=true:=by simp[X]
       by_cases T:p=t;{exact q1 f1 (by simp[T]) ⟨X,T⟩}
       ·exact q2 f1 (by
         have:¬(t:Int)=(p:Int):=eB;simpa using this) (λe=>T e.2)
      ·exact q3 (by
        have:¬(o:Int)=(q:Int):=eB;simpa using this) (λe=>X e.1)
     have D:Hid _:=aa0;clear aa0;refine main _ ?_ ?_ ?_<;>clear main
     ·intro f1 f2 X T;have J:Hid (nH Z o (es.take (k+1)) p q=gm):=by show _=_;rw[V.out.1,ai ⟨X,T⟩]
      clear X T;refine D.out _ ?_ ?_ ?_<;>clear D
      ·intro G f4 Y;have U:Hid (decide (0<nH Z o (es.take (k+1)) q p)=true):=by show _=_;rw[V.out.2,ai Y]
       clear Y
       go_wp2
       go_roundw
       case rel=>exact⟨k+1,eB,by go_num,by rw[J.out],by rw[U.out],H.out⟩
       case measure=>simp[fh];omega
      ·intro G f4 Y;have U:Hid (decide (0<nH Z o (es.take (k+1)) q p)=u):=by show _=_;rw[V.out.2,af Y]
       clear Y
       go_wp2
       go_roundw
       case rel=>exact⟨k+1,eB,by go_num,by rw[J.out],by rw[U.out],H.out⟩
       case measure=>simp[fh];omega
      ·intro G Y;have U:Hid (decide (0<nH Z o (es.take (k+1)) q p)=u):=by show _=_;rw[V.out.2,af Y]
       clear Y
       go_wp2
       go_roundw
       case rel=>exact⟨k+1,eB,by go_num,by rw[J.out],by rw[U.out],H.out⟩
       case measure=>simp[fh];omega
     ·intro f1 f2 X;have J:Hid (nH Z o (es.take (k+1)) p q=t1):=by show _=_;rw[V.out.1,af X]
      clear X;refine D.out _ ?_ ?_ ?_<;>clear D
      ·intro G f4 Y;have U:Hid (decide (0<nH Z o (es.take (k+1)) q p)=true):=by show _=_;rw[V.out.2,ai Y]
       clear Y
       go_wp2
       go_roundw
       case rel=>exact⟨k+1,eB,by go_num,by rw[J.out],by rw[U.out],H.out⟩
       case measure=>simp[fh];omega
      ·intro G f4 Y;have U:Hid (decide (0<nH Z o (es.take (k+1)) q p)=u):=by show _=_;rw[V.out.2,af Y]
       clear Y
       go_wp2
       go_roundw
       case rel=>exact⟨k+1,eB,by go_num,by rw[J.out],by rw[U.out],H.out⟩
       case measure=>simp[fh];omega
      ·intro G Y;have U:Hid (decide (0<nH Z o (es.take (k+1)) q p)=u):=by show _=_;rw[V.out.2,af Y]
       clear Y
       go_wp2
       go_roundw
       case rel=>exact⟨k+1,eB,by go_num,by rw[J.out],by rw[U.out],H.out⟩
       case measure=>simp[fh];omega
     ·intro f1 X;have J:Hid (nH Z o (es.take (k+1)) p q=t1):=by show _=_;rw[V.out.1,af X]
      clear X;refine D.out _ ?_ ?_ ?_<;>clear D
      ·intro G f4 Y;have U:Hid (decide (0<nH Z o (es.take (k+1)) q p)=true):=by show _=_;rw[V.out.2,ai Y]
       clear Y
       go_wp2
       go_roundw
       case rel=>exact⟨k+1,eB,by go_num,by rw[J.out],by rw[U.out],H.out⟩
       case measure=>simp[fh];omega
      ·intro G f4 Y;have U:Hid (decide (0<nH Z o (es.take (k+1)) q p)=u):=by show _=_;rw[V.out.2,af Y]
       clear Y
       go_wp2
       go_roundw
       case rel=>exact⟨k+1,eB,by go_num,by rw[J.out],by rw[U.out],H.out⟩
       case measure=>simp[fh];omega
      ·intro G Y;have U:Hid (decide (0<nH Z o (es.take (k+1)) q p)=u):=by show _=_;rw[V.out.2,af Y]
       clear Y
       go_wp2
       go_roundw
       case rel=>exact⟨k+1,eB,by go_num,by rw[J.out],by rw[U.out],H.out⟩
       case measure=>simp[fh];omega
    ·have yc:¬(k:Int)<(sn:Int):=eB;have HTT:Hid (nH Z o (es.take k)=j7 S E (i+1)):=by
      show _=_;rw[HT.out,aH eB]
     rw[HTT.out];have HB:Hid _:=M;clear M
     go_wp2
     go_roundw
     case rel=>exact⟨i+1,eB,by go_num,rfl,rfl,HB.out⟩
     case measure=>simp[fh];omega
  ·have yc:¬(i:Int)<(n:Int):=eB;have ld:i=n:=eB;subst ld;by_cases y:0<j7 S E i q p
   ·have V:Hid (kE (j7 S E i) p q=j7 S E i p q):=by show _=_;simp only[kE,if_pos y]
    have X:decide (0<j7 S E i q p)=true:=cQ y;rw[X];clear X y
    go_wp2
    go_ret;exact⟨by rw[V.out];rfl,M⟩
   ·have V:Hid (kE (j7 S E i) p q=0):=by show _=_;simp only[kE,if_neg y]
    have X:decide (0<j7 S E i q p)=false:=dh y;rw[X];clear X y
    go_wp2
    go_ret;exact⟨by rw[V.out];rfl,M⟩
def lS(C:k8)(r n:Nat):Nat->HP:=λx=>if x<n/\0<C r x then⟨x,C r x,x⟩else HP.zero
theorem Ey {H K:Nat->HP} (h:∀x,x<7->H x=K x):hC H=hC K:=by
 apply bS;intro i;by_cases hi:i<21;{rw[Ex _ i hi,Ex _ i hi];unfold Lf;rw[h (i/3) eB]};{rw[bh (by rw[tZ];omega),bh (by rw[tZ];omega)]}
theorem NN(C:k8)(r n:Nat)(h:0<C r n):hC (lS C r (n+1))=hC (rP (lS C r n) n ⟨n,C r n,n⟩):=by
 refine Ey λx hx=> ?_;simp only[lS,rP];by_cases e:x=n;{subst e;rw[ai ⟨eB,h⟩,ai rfl]};{rw[af e];by_cases Z:x<n/\0<C r x;{rw[ai Z,ai ⟨eB,Z.2⟩]};{rw[af Z,af (λY=>Z ⟨eB,Y.2⟩)]}}
theorem Rs(C:k8)(r n:Nat)(h:¬0<C r n):hC (lS C r (n+1))=hC (lS C r n):=by
 refine Ey λx hx=> ?_;simp only[lS];by_cases e:x=n;{subst e;rw[af (λZ=>h Z.2),af (λZ=>h Z.2)]};{by_cases Y:x<n/\0<C r x;{rw[ai Y,ai ⟨eB,Y.2⟩]};{rw[af Y,af (λZ=>Y ⟨eB,Z.2⟩)]}}
theorem Ru(C:k8)(r:Nat)(hr:r<7)(w:ew):
 fc fe 164 #[.agg (gC C),ι κ (r:Int)] w λe w'=>e=ρ (.agg (hC (lS C r 7)))/\eH w w':=by
 have hz:=Lg;obtain⟨Z,J⟩:=fq (hC (λ_=>HP.zero));rw[J]at hz;obtain⟨c,hc⟩:=fq (gC C);rw[hc];have hr7:(r:Int)<7:=eB
 go_in
 go_wp2_with(fail);obtain⟨M,V⟩:=fq (((w.alloc (γ c 256)).alloc (γ Z 259)).alloc (γ Z 259));have yW:eH w M:=by rw[<-V];exact((gK _ _).alloc ik _).alloc (by simp;omega) _
 have xJ:ji M w.heap.size c 256:=by rw[<-V];exact((ji.new w c _).below (gK _ _)).below (gK _ _)
 have su:ji M (w.heap.size+1) Z 259:=by rw[<-V];exact(ji.Gy _ Z _ _ ik).below (gK _ _)
 have E:ji M (w.heap.size+2) (hC (lS C r 0)) 259:=by
  rw[<-V];have:hC (lS C r 0)=Z:=by rw[<-J];exact Ey λx _=>by simp[lS]
  rw[this];exact ji.Gy _ _ _ _ ik
 rw[V];clear V;obtain⟨Y,D⟩:=fq (w.heap.size);have wA:w.heap.size<=Y:=eB;rw[D]at xJ su E;rw[D];clear D
 go_loopw [8] (λv wr=>∃n:Nat,n<=7/\v=ι κ n/\ji wr (Y+2) (hC (lS C r n)) 259/\ji wr Y c 256/\ji wr (Y+1) Z 259/\eH w wr) (λv _=>7-(fh v).toNat)
 case atStart=>exact⟨0,eB,rfl,E,xJ,su,yW⟩
 case round=>
  clear xJ su E yW;obtain⟨n,hn,rfl,X,G,T,H⟩:=hrel;by_cases h:n<7
  ·have Vf:(n:Int)<7:=eB;have r1:wr.cell? ⟨Y,r*7+n,ν⟩=μ (ι κ (C r n)):=(G.cell _).trans (by rw[<-hc];exact Bi C r n hr h);obtain⟨q0,q1,q2⟩:=Bj (lS C r n) n h;have s0:=(X.cell (n*3)).trans q0;have s1:=(X.cell (n*3+1)).trans q1;have s2:=(X.cell (n*3+2)).trans q2;have f0:=X.frozen (n*3);have f1:=X.frozen (n*3+1);have f2:=X.frozen (n*3+2);have lG:=X.lt;have HG:Hid _:=X;have GQ:Hid _:=G;have X7:Hid _:=T;have HB:Hid _:=H;clear X G T H q0 q1 q2;have HY:=NN C r n;have HN:=Rs C r n;have j:Hid _:=HY;have u:Hid _:=HN;clear HY HN;by_cases qN:0<C r n
   ·go_wp2
    go_roundw
    case rel=>
     refine⟨n+1,eB,by go_num,?_,ji.other (ji.other (ji.other GQ.out eB _) eB _) eB _,ji.other (ji.other (ji.other X7.out eB _) eB _) eB _,bD (bD (bD HB.out (by show w.heap.size<=Y+2;omega) _) (by show w.heap.size<=Y+2;omega) _) (by show w.heap.size<=Y+2;omega) _⟩;rw[j.out qN,<-Js _ n _ h];exact ji.set (ji.set (ji.set HG.out _ _) _ _) _ _
    case measure=>simp[fh];omega
   ·go_wp2
    go_roundw
    case rel=>exact⟨n+1,eB,by go_num,by rw[u.out qN];exact HG.out,GQ.out,X7.out,HB.out⟩
    case measure=>simp[fh];omega
  ·have Vf:¬(n:Int)<7:=eB;have jx:n=7:=eB;obtain⟨g,U⟩:=fq (hC (lS C r n));have gs:g.size=21:=by rw[<-U];exact tZ _
   have g1:g.all (·.oneCell')=true:=by rw[<-U];exact U7 _
   have zs:Z.size=21:=by rw[<-J];exact tZ _
   have y:Hid (g=hC (lS C r 7)):=by show _=_;rw[<-U,jx]
   rw[U]at X;have hR:ji (wr.setRow (Y+1) g) (Y+1) g 259:=T.setRow;have l6:=bV (P:=fe) (wr.setRow (Y+1) g) (Y+1) 259 259 g (0,0) _ hR underlying259 rfl (by rw[gs];exact Jt);have A:Hid (eH w (wr.setRow (Y+1) g)):=pg H eB g;have vP:(fe.info? 259).map (·.size)=μ g.size:=by rw[gs];exact Jt
   have sG:Z.size=g.size:=by rw[gs,zs]
   clear hR U J H G jx;go_wp2_with(first
    |refine lI _ rfl (.tmp 5) 259 rfl (Y+2) g _ _ rfl X underlying259 vP ?_
    |refine mQ _ rfl (.tmp 4) (.tmp 25) 259 rfl (Y+1) Z g rfl rfl T sG vP g1 ?_)
   refine aE (v:=.agg g) (by simp[results,results164,asAddr,l6]) rfl ?_;exact⟨by rw[y.out],A.out⟩
def uO(a b:HP):Bool:=b.far==0||decide (a.far<b.far)||(a.far==b.far&&decide (a.sj<b.sj))
theorem Lh(a b:HP)(w:ew):
 fc fe 205 #[.agg #[ι κ a.dst,ι κ a.far,ι κ a.sj],.agg #[ι κ b.dst,ι κ b.far,ι κ b.sj]] w λe w'=>e=ρ (.bool (uO a b))/\eH w w':=by
 obtain⟨V,Z,Y⟩:=a;obtain⟨b0,b1,b2⟩:=b;simp only;have M:eH w ((w.alloc (γ #[ι κ V,ι κ Z,ι κ Y] 98)).alloc (γ #[ι κ b0,ι κ b1,ι κ b2] 98)):=(gK _ _).alloc ik _;have T:Hid (uO ⟨V,Z,Y⟩ ⟨b0,b1,b2⟩=(b1==0||decide (Z<b1)||(Z==b1&&decide (Y<b2)))):=rfl;by_cases H:(b1==0)=true
 ·have X:Hid (uO ⟨V,Z,Y⟩ ⟨b0,b1,b2⟩=true):=by show _=_;rw[T.out,H];rfl
  go_in
  go_wp2_with(fail);rw[X.out];go_ret;exact⟨rfl,M⟩
 have U:(b1==0)=false:=by simpa using H
 by_cases J:Z<b1
 ·have X:Hid (uO ⟨V,Z,Y⟩ ⟨b0,b1,b2⟩=true):=by show _=_;rw[T.out,cQ J];simp
  go_in
  go_wp2_with(fail);rw[X.out];go_ret;exact⟨rfl,M⟩
 by_cases G:(Z==b1)=true
 ·have X:Hid (uO ⟨V,Z,Y⟩ ⟨b0,b1,b2⟩=decide (Y<b2)):=by show _=_;rw[T.out,U,dh J,G];simp
  rw[X.out]
  go_in
  go_wp2
  go_ret;exact⟨rfl,M⟩
 have E:(Z==b1)=false:=by simpa using G
 have X:Hid (uO ⟨V,Z,Y⟩ ⟨b0,b1,b2⟩=false):=by show _=_;rw[T.out,U,dh J,E];simp
 go_in
 go_wp2_with(fail);rw[X.out];go_ret;exact⟨rfl,M⟩
def pJ(C:k8)(r b n:Nat)(H:Nat->HP):Nat->HP:=
 if(H b).far=0 \/C b n=0 \/n=r then H
 else if uO ⟨n,(H b).far+C b n,(H b).sj⟩ (H n)=true then rP H n ⟨n,(H b).far+C b n,(H b).sj⟩else H
def pX(C:k8)(r b:Nat)(H:Nat->HP):Nat->Nat->HP
 |0=>H
 |n+1=>pJ C r b n (pX C r b H n)
def Df(C:k8)(r:Nat)(H:Nat->HP):Nat->Nat->HP
 |0=>H
 |b+1=>pX C r b (Df C r H b) 7
def sK(H:Nat->HP)(m:Int):Prop:=∀n,0<=(H n).far/\(H n).far<=m
theorem sK.step {C:k8} {b:Nat} {H:Nat->HP} {m:Int} (h:sK H m)(hC:∀x y,0<=C x y/\C x y<=20):sK (pJ C r b n H) (m+20):=by
 intro x;have hx:=h x;have hb:=h b;have hc:=hC b n;unfold pJ;split;{omega};{split;{simp only[rP];split;{simp only;omega};{omega}};{omega}}
theorem sK.row {C:k8} {r b:Nat} {H:Nat->HP} {m:Int} (h:sK H m)(hC:∀x y,0<=C x y/\C x y<=20):∀n,sK (pX C r b H n) (m+20*n)
 |0=>λx=>by have:=h x;simp only[pX];omega
 |n+1=>λx=>by
  have:=(sK.step (C:=C) (r:=r) (b:=b) (n:=n) (sK.row (r:=r) (b:=b) h hC n) hC) x;simp only[pX];push_cast;omega
theorem sK.go {C:k8} {r:Nat} {H:Nat->HP} {m:Int} (h:sK H m)(hC:∀x y,0<=C x y/\C x y<=20):∀b,sK (Df C r H b) (m+140*b)
 |0=>λx=>by have:=h x;simp only[Df];omega
 |b+1=>λx=>by
  have:=(sK.row (C:=C) (r:=r) (b:=b) (sK.go (r:=r) h hC b) hC 7) x;simp only[Df];push_cast at this⊢;omega
theorem NP {a:ew} {o:Option Nat} (h:a.grownBy w o):a.grownBy w.drew o:=⟨h.os,h.tape,h.output,h.size,h.block⟩
theorem Vg(C:k8)(r:Nat)(hr:r<7)(H:Nat->HP)(B:Nat)(m:Int)(w:ew)(hB:ji w B (hC H) 259)(Dg:∀x y,0<=C x y/\C x y<=20)(hm:sK H m)(Dh:m<=1000000):
 fc fe 165 #[π (μ ⟨B,0,ν⟩),.agg (gC C),ι κ (r:Int)] w λe w'=>e=ρ (τ #[])/\ji w' B (hC (Df C r H 7)) 259/\w.grownBy w' (μ B):=by
 obtain⟨c,hc⟩:=fq (gC C);rw[hc];have hr7:(r:Int)<7:=eB
 go_in
 go_wp2_with(fail);obtain⟨W0,nL⟩:=fq (w.alloc (γ c 256));have GF:eH w W0:=by rw[<-nL];exact gK _ _
 have yW:w.grownBy W0 (μ B):=⟨GF.os,GF.tape,GF.output,GF.size,λi hi _=>GF.block i hi⟩
 have xJ:ji W0 w.heap.size c 256:=by rw[<-nL];exact ji.new w c _
 have su:ji W0 B (hC (Df C r H 0)) 259:=hB.below GF;have hBC:B<w.heap.size:=hB.lt;rw[nL];clear nL GF hB;obtain⟨A,Gr⟩:=fq (w.heap.size);have wA:w.heap.size<=A:=eB;rw[Gr]at xJ hBC;rw[Gr];clear Gr;have HFL:=λb=>hm.go (r:=r) Dg b;have HM:Hid _:=HFL;clear HFL hm
 go_loopw [9] (λv wr=>∃b:Nat,b<=7/\v=ι κ b/\ji wr B (hC (Df C r H b)) 259/\ji wr A c 256/\w.grownBy wr (μ B)) (λv _=>7-(fh v).toNat)
 case atStart=>exact⟨0,eB,rfl,su,xJ,yW⟩
 case round=>
  clear xJ su yW;obtain⟨b,hb,rfl,U,si,j⟩:=hrel;by_cases hb7:b<7
  ·have acR:(b:Int)<7:=eB;have V:Hid _:=U;have E:Hid _:=si;have X:Hid _:=j;have wI:Hid (Df C r H (b+1)=pX C r b (Df C r H b) 7):=rfl;have hmb:=HM.out b;clear U si j;obtain⟨M,hHb⟩:=fq (Df C r H b);rw[hHb]at V wI hmb;have HMB:Hid (∀n,sK (pX C r b M n) (m+140*b+20*n)):=λn=>hmb.row Dg n;clear hmb hHb
   go_wp2
   go_loopw [12] (λv wr=>∃n:Nat,n<=7/\v=ι κ n/\ji wr B (hC (pX C r b M n)) 259/\ji wr A c 256/\w.grownBy wr (μ B)) (λv _=>7-(fh v).toNat)
   case atStart=>exact⟨0,eB,rfl,V.out,E.out,X.out⟩
   case round=>
    clear V E X;obtain⟨n,hn,rfl,U,si,j⟩:=hrel;by_cases YW:n<7
    ·have Vf:(n:Int)<7:=eB;have wJ:Hid (pX C r b M (n+1)=pJ C r b n (pX C r b M n)):=rfl;have xM:=HMB.out n b;obtain⟨G,hGe⟩:=fq (pX C r b M n);rw[hGe]at U wJ xM;clear hGe;have r1:wr.cell? ⟨A,b*7+n,ν⟩=μ (ι κ (C b n)):=(si.cell _).trans (by rw[<-hc];exact Bi C b n hb7 YW);obtain⟨p0,p1,p2⟩:=Bj G b hb7;have b0:=(U.cell (b*3)).trans p0;have b1:=(U.cell (b*3+1)).trans p1;have b2:=(U.cell (b*3+2)).trans p2;clear p0 p1 p2;have V:Hid _:=U;have E:Hid _:=si;have X:Hid _:=j;clear U si j;by_cases h1:(G b).far=0
     ·have yX:((G b).far==0)=true:=by simpa using h1
      have J:Hid (pX C r b M (n+1)=G):=by show _=_;rw[wJ.out,pJ,ai (.inl h1)]
      generalize (G b).far=bf at b1 yX;clear h1
      go_wp2
      go_roundw
      case rel=>exact⟨n+1,eB,by go_num,by rw[J.out];exact V.out,E.out,X.out⟩
      case measure=>simp[fh];omega
     have yX:((G b).far==0)=false:=by simpa using h1
     by_cases h2:C b n=0
     ·have Bn:(C b n==0)=true:=by simpa using h2
      have J:Hid (pX C r b M (n+1)=G):=by show _=_;rw[wJ.out,pJ,ai (.inr (.inl h2))]
      generalize (G b).far=bf at b1 yX;generalize C b n=u at r1 Bn;clear h1 h2
      go_wp2
      go_roundw
      case rel=>exact⟨n+1,eB,by go_num,by rw[J.out];exact V.out,E.out,X.out⟩
      case measure=>simp[fh];omega
     have Bn:(C b n==0)=false:=by simpa using h2
     by_cases h3:n=r
     ·have uy:((n:Int)==(r:Int))=true:=by simp[h3]
      have J:Hid (pX C r b M (n+1)=G):=by show _=_;rw[wJ.out,pJ,ai (.inr (.inr h3))]
      generalize (G b).far=bf at b1 yX;generalize C b n=u at r1 Bn;clear h1 h2 h3
      go_wp2
      go_roundw
      case rel=>exact⟨n+1,eB,by go_num,by rw[J.out];exact V.out,E.out,X.out⟩
      case measure=>simp[fh];omega
     have uy:((n:Int)==(r:Int))=false:=by
      have:¬(n:Int)=(r:Int):=eB;simpa using this
     have J:Hid (pX C r b M (n+1)=if uO ⟨n,(G b).far+C b n,(G b).sj⟩ (G n)=true then rP G n ⟨n,(G b).far+C b n,(G b).sj⟩else G):=by
      show _=_;rw[wJ.out,pJ,af (by simp[h1,h2,h3])]
     have vr:=Dg b n;have X8:κ.wrap ((G b).far+C b n)=(G b).far+C b n:=aS _ ⟨eB,eB⟩;have D:=Lh ⟨n,(G b).far+C b n,(G b).sj⟩ (G n);obtain⟨p0,p1,p2⟩:=Bj G n YW;have HN:Hid (∀W,ji W B (hC G) 259->W.cell? ⟨B,n*3,ν⟩=μ (ι κ (G n).dst)/\W.cell? ⟨B,n*3+1,ν⟩=μ (ι κ (G n).far)/\W.cell? ⟨B,n*3+2,ν⟩=μ (ι κ (G n).sj)):=
      λW hW=>⟨(hW.cell _).trans p0,(hW.cell _).trans p1,(hW.cell _).trans p2⟩
     clear p0 p1 p2 wJ h1 h2 h3 xM vr;generalize uO ⟨n,(G b).far+C b n,(G b).sj⟩ (G n)=bt at J D;simp only at D;generalize Ju:(G b).far+C b n=ff at J D X8;generalize (G b).far=bf at b1 yX Ju X8;generalize C b n=u at r1 Bn Ju X8;generalize (G b).sj=bx at b2 J D;generalize (G n).dst=nd at HN D;generalize (G n).far=nf at HN D;generalize (G n).sj=nx at HN D;have akL:κ.wrap (bf+u)=ff:=by rw[Ju];exact X8
     have d0:wr.drew.cell? ⟨B,b*3+1,ν⟩=μ (ι κ bf):=b1;have d1:wr.drew.cell? ⟨B,b*3+2,ν⟩=μ (ι κ bx):=b2;have d2:wr.drew.cell? ⟨A,b*7+n,ν⟩=μ (ι κ u):=r1;have lB:B<wr.heap.size:=ji.lt V.out;have lC:A<wr.heap.size:=ji.lt E.out;have kz:=gK wr (γ #[ι κ 0,ι κ 0,ι κ 0] 98);have e0:=(kz.cell (p:=⟨B,b*3+1,ν⟩) lB).trans b1;have e1:=(kz.cell (p:=⟨B,b*3+2,ν⟩) lB).trans b2;have e2:=(kz.cell (p:=⟨A,b*7+n,ν⟩) lC).trans r1;clear Ju X8 kz
     go_upto_region 8 with fail
     clear yX Bn uy
     go_region
     all_goals
      obtain⟨W3,yh⟩:=fq ((wr.alloc (γ #[ι κ (n:Int),ι κ ff,ι κ bx] 98)).drew);have k3:eH wr W3:=by rw[<-yh];exact below_drewN (gK _ _) 1
      have hY:ji W3 wr.heap.size #[ι κ (n:Int),ι κ ff,ι κ bx] 98:=by rw[<-yh];exact ji.drewN (ji.new wr _ _) 1
      obtain⟨Y,Rr⟩:=fq (wr.heap.size);have hG3:=ji.below V.out k3;have Hc3:Hid _:=ji.below E.out k3;have Ez:Hid (w.grownBy W3 (μ B)):=⟨k3.os.trans X.out.os,k3.tape.trans X.out.tape,k3.output.trans X.out.output,Nat.le_trans X.out.size k3.size,λi hi h=>(k3.block i (Nat.lt_of_lt_of_le hi X.out.size)).trans (X.out.block i hi h)⟩
      have HYB:Hid (B<Y/\A<Y):=by show _/\_;rw[<-Rr];exact⟨lB,lC⟩
      rw[Rr]at hY;have HY:Hid _:=hY;have HG3:Hid _:=hG3;have HF:Hid (∀W,eH W3 W->(W.cell? ⟨Y,0,ν⟩=μ (ι κ (n:Int))/\W.cell? ⟨Y,1,ν⟩=μ (ι κ ff)/\W.cell? ⟨Y,2,ν⟩=μ (ι κ bx))/\W.cell? ⟨B,n*3,ν⟩=μ (ι κ nd)/\W.cell? ⟨B,n*3+1,ν⟩=μ (ι κ nf)/\W.cell? ⟨B,n*3+2,ν⟩=μ (ι κ nx)):=by
       intro W hW;have q:=ji.below HY.out hW;exact⟨⟨ji.cell q 0,ji.cell q 1,ji.cell q 2⟩,HN.out W (ji.below HG3.out hW)⟩
      have KD:eH W3 W3.drew:=below_drewN (au _ _) 1;have F0:=HF.out _ KD;rw[yh,Rr];clear yh k3 Rr hG3 hY d0 d1 d2 e0 e1 e2 b0 b1 b2 r1 lB lC akL
      go_wp2
      go_region_held3(λx=>(x.cell? ⟨Y,0,ν⟩=μ (ι κ (n:Int))/\x.cell? ⟨Y,1,ν⟩=μ (ι κ ff)/\x.cell? ⟨Y,2,ν⟩=μ (ι κ bx))/\x.cell? ⟨B,n*3,ν⟩=μ (ι κ nd)/\x.cell? ⟨B,n*3+1,ν⟩=μ (ι κ nf)/\x.cell? ⟨B,n*3+2,ν⟩=μ (ι κ nx))
       (first|assumption|exact F0|exact F1)
       ((go_at_call 205;refine(D _).mono ?_;rintro e w5 ⟨rfl,k5⟩;have F1:=HF.out _ (fP KD k5)))
      all_goals
       have Z:=fP KD k5;have T:=ji.below HG3.out Z;have Jv:Hid _:=T;have Hc5:Hid _:=ji.below Hc3.out Z;have Kr:Hid (w.grownBy w5 (μ B)):=⟨Z.os.trans Ez.out.os,Z.tape.trans Ez.out.tape,Z.output.trans Ez.out.output,Nat.le_trans Ez.out.size Z.size,λi hi h=>(Z.block i (Nat.lt_of_lt_of_le hi Ez.out.size)).trans (Ez.out.block i hi h)⟩
       obtain⟨⟨y0,y1,y2⟩,g0,g1,g2⟩:=F1;have f0:=T.frozen (n*3);have f1:=T.frozen (n*3+1);have f2:=T.frozen (n*3+2);have lB:=T.lt;clear HF HN D F0 k5 KD Z T;cases bt
       ·have HS3:Hid (pX C r b M (n+1)=G):=by show _=_;rw[J.out];simp
        go_wp2
        go_roundw
        case rel=>exact⟨n+1,eB,by go_num,by rw[HS3.out];exact Jv.out,Hc5.out,Kr.out⟩
        case measure=>simp[fh];omega
       ·have HS3:Hid (pX C r b M (n+1)=rP G n ⟨n,ff,bx⟩):=by show _=_;rw[J.out];simp
        go_wp2
        go_region
        all_goals
         go_wp2
         go_roundw
         case rel=>
          have h:A≠B:=by have:=Kr.out.size;omega
          refine⟨n+1,eB,by go_num,?_,ji.other (ji.other (ji.other Hc5.out h _) h _) h _,NP (la (la (la Kr.out _ _) _ _) _ _)⟩;rw[HS3.out,<-Js _ n _ YW];exact ji.set (ji.set (ji.set Jv.out _ _) _ _) _ _
         case measure=>simp[fh];omega
    ·have Vf:¬(n:Int)<7:=eB;have h:n=7:=eB;have V:Hid _:=U;have E:Hid _:=si;have X:Hid _:=j;clear U si j
     go_wp2
     go_roundw
     case rel=>exact⟨b+1,eB,by go_num,by rw[wI.out,<-h];exact V.out,E.out,X.out⟩
     case measure=>simp[fh];omega
  ·have acR:¬(b:Int)<7:=eB;have hbe:b=7:=eB;have V:Hid (ji wr B (hC (Df C r H 7)) 259):=by rw[<-hbe];exact U
   have X:Hid _:=j;clear U si j hbe
   go_wp2
   first|go_end0|refine iX rfl rfl ?_
   exact⟨rfl,V.out,X.out⟩
def pD(H:Nat->HP):Nat->List HP
 |0=>[]
 |n+1=>if 0<(H n).far then pD H n++ [H n]else pD H n
theorem rQ(H:Nat->HP):∀n,(pD H n).length<=n
 |0=>Nat.le_refl _
 |n+1=>by
  have:=rQ H n;simp only[pD];split;{simp;omega};{omega}
def NQ(L:List HP):List eA:=L.flatMap λh=>[ι κ h.dst,ι κ h.far,ι κ h.sj]
theorem Li(L:List HP)(h:HP):NQ (L++ [h])=NQ L++ [ι κ h.dst,ι κ h.far,ι κ h.sj] :=by simp[NQ]
theorem PJ:∀(L:List HP) (j:Nat) (h:HP),L[j]? =μ h->(NQ L)[j*3]? =μ (ι κ h.dst)/\(NQ L)[j*3+1]? =μ (ι κ h.far)/\(NQ L)[j*3+2]? =μ (ι κ h.sj)
 |[],j,s,h=>by simp at h
 |x::l,0,s,h=>by
  have:x=s:=by simpa using h
  subst this;exact⟨rfl,rfl,rfl⟩
 |x::l,j+1,s,h=>by
  have V:l[j]? =μ s:=by simpa using h
  obtain⟨a,b,c⟩:=PJ l j s V;have e:NQ (x::l)=ι κ x.dst::ι κ x.far::ι κ x.sj::NQ l:=rfl;have Z:(j+1)*3=j*3+3:=eB;have Y:(j+1)*3+1=j*3+1+3:=eB;have X:(j+1)*3+2=j*3+2+3:=eB;rw[e,Y,X,Z];simp only[List.getElem?_cons_succ];exact⟨a,b,c⟩
theorem Row.hs {v:eA} {L:List HP} (h:Row w 3 v L.length (NQ L)):∃a cap,v=σ a L.length cap/\NM w a L.length L:=by
 rcases h.2 with⟨rfl,e⟩|⟨g,cap,rfl,_⟩
 {rw[e];exact⟨ν,0,rfl,⟨e,.inl rfl⟩⟩};{refine⟨_,cap,rfl,⟨rfl,.inr ⟨g,0,rfl,λj s e=> ?_⟩⟩⟩;obtain⟨a,b,c⟩:=PJ L j s e;rw[show 0+j*3=j*3 by omega];exact⟨Row.cell h _ _ a,Row.cell h _ _ b,Row.cell h _ _ c⟩}
theorem zV(w:ew)(x y z:eA)(t:eE)(g:Nat)(Z:w.heap.size=g):∀(j:Nat) (u:eA),[x,y,z][j]? =μ u->(w.alloc (γ #[x,y,z] t)).cell? ((⟨g,0,ν⟩:eh).add j)=μ u:=by
 subst Z;intro j u Y;rw[add_plain,ak];simpa using Y
theorem Vh(x y z:Int):∀u∈ [ι .i64 x,ι .i64 y,ι .i64 z],u.oneCell'=true:=by simp[Value.oneCell']
theorem PL:(fe.info? 98).map (λi=>(i.zero,i.size,i.bytes))=μ (μ (.agg #[ι κ 0,ι κ 0,ι κ 0]),3,24):=ga
theorem Vi(H:Nat->HP)(B:Nat)(w:ew)(hB:ji w B (hC H) 259):
 fc fe 166 #[π (μ ⟨B,0,ν⟩)] w λe w'=>∃a cap,e=ρ (σ a (pD H 7).length cap)/\HsN w w' a (pD H 7).length (pD H 7)/\eH w w':=by
 obtain⟨i0,hi,oN,nG,mS⟩:=aX PL
 go_in
 go_wp2
 go_loopw [3,8] (λs v wr=>∃n:Nat,n<=7/\v=ι κ n/\Row wr 3 s (pD H n).length (NQ (pD H n))/\(∀g,s.ownBlock=μ g->w.heap.size<=g)/\eH w wr) (λ_ v _=>7-(fh v).toNat)
 case atStart=>exact⟨0,eB,rfl,Row.nil _ _,λg hg=>by simp[eD]at hg,au _ _⟩
 case round=>
  obtain⟨n,hn,rfl,J,M,Z⟩:=hrel;have HL:Hid _:=rQ H n;have Y:Hid (pD H (n+1)=if 0<(H n).far then pD H n++ [H n]else pD H n):=rfl;by_cases YW:n<7
  ·have Vf:(n:Int)<7:=eB;obtain⟨p0,p1,p2⟩:=Bj H n YW;have E:=hB.below Z;have c0:=(E.cell (n*3)).trans p0;have c1:=(E.cell (n*3+1)).trans p1;have c2:=(E.cell (n*3+2)).trans p2;clear p0 p1 p2 E;obtain⟨p,hp⟩:=fq (H n);rw[hp]at c0 c1 c2 Y;clear hp;obtain⟨pd,pf,V⟩:=p;simp only at c0 c1 c2 Y;have A:=Z.alloc Z.size (γ #[ι κ pd,ι κ pf,ι κ V] 98);have h:Hid _:=A;have hws:Hid (w.heap.size<=wr.heap.size):=Z.size;have G:=J.alloc (γ #[ι κ pd,ι κ pf,ι κ V] 98);have D:Hid _:=M;by_cases hf:0<pf
   ·rw[ai hf]at Y;obtain⟨L,T⟩:=fq (pD H n);rw[T]at Y HL G;have hLl:L.length<=n:=HL.out;clear T J M Z A;go_wp2_with(at_builtin;go_must(refine iU _ rfl (.tmp 16) (.tmp 18) 94 rfl 98 i0 (.agg #[ι κ 0,ι κ 0,ι κ 0]) 3 24 underlying94 hi oN nG mS rfl eF u3 L.length (NQ L) rfl (G.alloc _) _ 1 1 [ι κ pd,ι κ pf,ι κ V] rfl rfl eF (zV _ _ _ _ _ _ ik) (Vh _ _ _) (by unfold maxLen;omega) eB ?_));intro g' jH w3 tu U tC;have j:Hid (Row w3 3 (σ (μ ⟨g',0,ν⟩) (L.length+1) jH) (L++ [(⟨pd,pf,V⟩:HP)]).length (NQ (L++ [(⟨pd,pf,V⟩:HP)]))):=by
     show Row _ _ _ _ _;rw[Li,aA];exact tu
    have X:eH w ((wr.alloc (γ #[ι κ pd,ι κ pf,ι κ V] 98)).alloc (γ #[ι κ pd,ι κ pf,ι κ V] 98)):=fZ h.out h.out.size _;have Ez:Hid (eH w w3):=⟨U.os.trans X.os,U.tape.trans X.tape,U.output.trans X.output,Nat.le_trans X.size U.size,λi hi=>(U.block i (Nat.lt_of_lt_of_le hi X.size) (λe=>by have:=D.out i e.symm;omega)).trans (X.block i hi)⟩
    have y:Hid (∀g,eD (σ (μ ⟨g',0,ν⟩) (L.length+1) jH)=μ g->w.heap.size<=g):=by
     intro g hg;have QV:g'=g:=by simpa[eD]using hg
     subst QV;rcases tC with e|e
     {exact D.out _ e};{have:=hws.out;omega}
    clear tu U tC X G c0 c1 c2
    go_wp2
    go_roundw
    case rel=>exact⟨n+1,eB,by go_num,by rw[Y.out];exact j.out,y.out,Ez.out⟩
    case measure=>simp[fh];omega
   ·rw[af hf]at Y;have u:Hid _:=G;clear J M Z A G
    go_wp2
    go_roundw
    case rel=>exact⟨n+1,eB,by go_num,by rw[Y.out];exact u.out,D.out,h.out⟩
    case measure=>simp[fh];omega
  ·have Vf:¬(n:Int)<7:=eB;have jx:n=7:=eB;subst jx;obtain⟨a,cap,rfl,hR⟩:=Row.hs J;have HR:Hid (HsN w wr a (pD H 7).length (pD H 7)):=⟨hR,λx e=>by subst e;exact M _ rfl⟩
   clear hR J M
   go_wp2
   go_ret
   first|exact⟨a,cap,rfl,HR.out,Z⟩|exact⟨a,⟨cap,rfl⟩,HR.out,Z⟩
def jF(C:k8)(r:Nat):Nat->Nat->HP
 |0=>lS C r 7
 |k+1=>Df C r (jF C r k) 7
def qq(C:k8)(r:Nat):List HP:=pD (jF C r 6) 7
theorem Cq {C:k8} (r:Nat)(hC:∀x y,0<=C x y/\C x y<=20):∀k,sK (jF C r k) (20+980*k)
 |0=>λn=>by
  simp only[jF,lS];have:=hC r n;split;{simp only;omega}
  ·simp[HP.zero]
 |k+1=>λn=>by
  have:=(Cq r hC k).go (r:=r) hC 7 n;simp only[jF];push_cast at this⊢;omega
theorem Cr {C:k8} (hC:∀x y,0<=C x y/\C x y<=20):∀x y,0<=kE C x y/\kE C x y<=20:=by
 intro x y;have:=hC x y;simp only[kE];split<;>omega
theorem Vj(a:Option eh)(n cap:Nat)(S:Nat->SV)(E:Nat->List jQ)(r:Nat)(w:ew)(h:uv w a n S E)(hn:n<=1000)(jb:∀j,j<n->oK (S j).own (S j).seq (E j)=0)(lE:1<=r)(hr6:r<=6):
 fc fe 116 #[σ a n cap,ι κ (r:Int)] w λe w'=>∃b c,e=ρ (σ b (qq (kE (j7 S E n)) r).length c)/\HsN w w' b (qq (kE (j7 S E n)) r).length (qq (kE (j7 S E n)) r)/\eH w w':=by
 have YO:=Rp a n cap S E w h hn jb;have hz:=Bk;have mS:=Lg;have Hy:=Cr (wH S E n jb);have y:Hid _:=Hy;have r1:¬(r:Int)<1:=eB;have r2:¬6<(r:Int):=eB;obtain⟨Z,hZ⟩:=fq (gC (λ_ _=>0));obtain⟨M,X6⟩:=fq (hC (λ_=>HP.zero));have zs:Z.size=49:=by rw[<-hZ];exact qE _
 have zs2:M.size=21:=by rw[<-X6];exact tZ _
 rw[hZ]at hz;rw[X6]at mS;clear hZ X6 Hy jb
 go_in
 go_wp2_with(fail);refine YO.mono ?_;rintro e w1 ⟨rfl,k1⟩;have yf:=Vc (j7 S E n) w1;obtain⟨C,hCe⟩:=fq (kE (j7 S E n));rw[hCe]at yf y;have HCe:Hid _:=hCe;clear YO hCe;go_wp2_with(fail);refine yf.mono ?_;rintro e T ⟨rfl,k2⟩;have m7:=fP k1 k2;clear yf k1 k2;have gs:(gC C).size=49:=qE _;have g1:(gC C).all (·.oneCell')=true:=NL _;have vP:(fe.info? 256).map (·.size)=μ (gC C).size:=by rw[gs];exact xL
 have sG:Z.size=(gC C).size:=by rw[gs,zs]
 have u:ji (T.alloc (γ Z 256)) T.heap.size Z 256:=ji.new _ _ _;have De:ji ((T.alloc (γ Z 256)).setRow T.heap.size (gC C)) T.heap.size (gC C) 256:=u.setRow;have Hb3:Hid (eH w ((T.alloc (γ Z 256)).setRow T.heap.size (gC C))):=pg (m7.alloc m7.size _) m7.size _;have PG:=Ru C r eB ((T.alloc (γ Z 256)).setRow T.heap.size (gC C));have A2:Hid _:=De;have Hs2:Hid _:=m7.size;clear m7;go_wp2_with(first
  |refine lI _ rfl (.tmp 5) 256 rfl T.heap.size (gC C) _ _ rfl De underlying256 vP ?_
  |refine mQ _ rfl (.tmp 5) (.tmp 15) 256 rfl T.heap.size Z (gC C) rfl rfl u sG vP g1 ?_)
 refine PG.mono ?_;rintro e V ⟨rfl,k3⟩;have yS:=ji.below A2.out k3;have r9:=fP Hb3.out k3;obtain⟨X,MW⟩:=fq (T.heap.size);have HsX:Hid (w.heap.size<=X):=by show _<=_;rw[<-MW];exact Hs2.out
 rw[MW]at yS;rw[MW];have A:Hid (X<V.heap.size):=yS.lt;clear PG u De A2 Hb3 k3 Hs2 MW vP sG;obtain⟨F,hF⟩:=fq (hC (lS C r 7));have fs:F.size=21:=by rw[<-hF];exact tZ _
 have f1:F.all (·.oneCell')=true:=by rw[<-hF];exact U7 _
 have Rv:(fe.info? 259).map (·.size)=μ F.size:=by rw[fs];exact Jt
 have agh:M.size=F.size:=by rw[fs,zs2]
 rw[hF];have u:ji (V.alloc (γ M 259)) V.heap.size M 259:=ji.new _ _ _;have hY4:ji ((V.alloc (γ M 259)).setRow V.heap.size F) V.heap.size F 259:=u.setRow;have hX4:ji ((V.alloc (γ M 259)).setRow V.heap.size F) X (gC C) 256:=(yS.below (gK _ _)).U5 (by have:=A.out;omega);have D:Hid (eH w ((V.alloc (γ M 259)).setRow V.heap.size F)):=pg (r9.alloc r9.size _) r9.size _;have G:Hid (ji ((V.alloc (γ M 259)).setRow V.heap.size F) V.heap.size (hC (jF C r 0)) 259):=by show ji _ _ (hC (lS C r 7)) _;rw[hF];exact hY4
 have H:Hid _:=hX4;have HS3:Hid _:=r9.size;clear r9 hF yS;go_wp2_with(first
  |refine mQ _ rfl (.tmp 6) (.tmp 18) 259 rfl V.heap.size M F rfl rfl u agh Rv f1 ?_)
 obtain⟨Y,Rr⟩:=fq (V.heap.size);rw[Rr]at G H D A HS3;rw[Rr];clear Rr u hY4 hX4 Rv agh fs f1;obtain⟨W4,vz⟩:=fq ((V.alloc (γ M 259)).setRow Y F);rw[vz]at G H D;rw[vz];clear vz;have HRF:=Cq r y.out;have akQ:Hid _:=HRF;clear HRF
 go_loopw [19] (λv wr=>∃k:Nat,k<=6/\v=ι κ k/\ji wr X (gC C) 256/\ji wr Y (hC (jF C r k)) 259/\eH w wr) (λv _=>6-(fh v).toNat)
 case atStart=>exact⟨0,eB,rfl,H.out,G.out,D.out⟩
 case round=>
  clear H G D;obtain⟨k,hk,rfl,hX,hY,iY⟩:=hrel;by_cases hk6:k<6
  ·have akR:(k:Int)<6:=eB;have vP:(fe.info? 256).map (·.size)=μ (gC C).size:=by rw[gs];exact xL
   have hgo:=Vg C r eB (jF C r k) Y (20+980*k) wr hY y.out (akQ.out k) eB;have HX:Hid _:=hX;have J:Hid _:=iY;clear hY iY;go_wp2_with(first
    |refine lI _ rfl (.tmp 5) 256 rfl X (gC C) _ _ rfl hX underlying256 vP ?_)
   refine hgo.mono ?_;rintro e w5 ⟨rfl,hY5,U⟩;have hXl:=ji.lt HX.out;have HX5:Hid (ji w5 X (gC C) 256):=ji.keep HX.out (U.block X hXl (λe=>by have:=A.out;simp at e;omega));have HY5:Hid _:=hY5;have Kr:Hid (eH w w5):=⟨U.os.trans J.out.os,U.tape.trans J.out.tape,U.output.trans J.out.output,Nat.le_trans J.out.size U.size,λi hi=>(U.block i (Nat.lt_of_lt_of_le hi J.out.size) (λe=>by have:=HS3.out;simp at e;omega)).trans (J.out.block i hi)⟩
   clear hgo hY5 U hX vP
   go_wp2
   go_roundw
   case rel=>exact⟨k+1,eB,by go_num,HX5.out,HY5.out,Kr.out⟩
   case measure=>simp[fh];omega
  ·have akR:¬(k:Int)<6:=eB;have hke:k=6:=eB;have hli:=Vi (jF C r k) Y wr hY;have HL:Hid (pD (jF C r k) 7=qq (kE (j7 S E n)) r):=by show _=_;rw[HCe.out,hke];rfl
   rw[HL.out]at hli;clear hX hY hke HL;go_wp2_with(fail);refine hli.mono ?_;rintro e w5 ⟨ra,rc,rfl,hR,k5⟩;have HR:Hid (HsN w w5 ra (qq (kE (j7 S E n)) r).length (qq (kE (j7 S E n)) r)):=⟨hR.r,λx e=>Nat.le_trans iY.size (hR.nw x e)⟩
   have J:Hid _:=fP iY k5;clear hli hR k5 iY
   go_wp2
   go_ret
   first|exact⟨_,_,rfl,HR.out,J.out⟩|exact⟨_,⟨_,rfl⟩,HR.out,J.out⟩
section
variable {P:Program}
end
section
variable {P:Program} {md:Region.Mode} {ops:Array Oper} {Q:Exit->Act->World->Prop} {S:World->Prop}
theorem jD(i:Nat)(d:Option Tmp) {oi:Oper} {v:eA} {fuel:Nat} {listed:Array Bool} (hi:ops[i]? =μ oi)(hd:oi.dst=d)
 (hs:Region.noSelect ops=true) (hf:Region.free md ops listed i=true) (X:(Region.ready md ops listed).contains i=true)
 (Z:∀c a w,Q (.panic c) (a.put d v) w->Q (.panic c) a w) (V:Region.wanted oi (yielded ops a.tmps)=true) (hy:∀w,S w->(execOp a.eval oi).run P w=.ok (.value v) w) (Y:S w)
 (h:wpAnyH P md ops Q S fuel (listed.setIfInBounds i true) (a.put d v) w):wpAnyH P md ops Q S (fuel+1) listed a w:=by
 subst hd;exact wpAnyH_take hi hs hf X Z (Or.inl ⟨V,hy⟩) Y h
end
theorem uP {x:ew} {o:Obj} {v:eA} (h:ji w B C t)(Z:(w.alloc o).drew.grownBy x v.ownBlock)(hv:v.ownBlock≠μ B):ji x B C t:=by
 refine h.keep ?_;rw[Z.block B (by show B<(w.alloc o).heap.size;have:=h.lt;simp;omega) (λe=>hv e.symm)];exact aV w o B h.lt
theorem Vk(w:ew):(zeroValue 254).run fe w=.ok (.agg #[ι κ 0,ι κ 0,ι κ 0,ι κ 0,ι κ 0,ι κ 0,ι κ 0,ι κ 0,ι κ 0,ι κ 0,ι κ 0,σ ν 0 0]) w:=ga
theorem Di(w:ew)(o:Obj):(w.alloc o).heap[w.heap.size]? =μ o:=aY w o
theorem YY(S M:Int)(w:ew)(Y:¬S<40)(X:¬255<S)(V:¬M<1)(U:¬255<M):
 fc fe 119 #[ι κ S,ι κ M] w λe w'=>∃B,e=ρ (τ #[π (μ ⟨B,0,ν⟩),η])/\Lk w' B (Uj S M S M 0 0 0 255 0 0 0 (σ ν 0 0))/\w.heap.size<=B/\eH w w':=by
 have hz:=zG;have hzl:=Vk;have T:=acf S M w Y X V U;clear Y X V U
 go_in
 go_wp2_with(fail);refine T.mono ?_;rintro e w1 ⟨rfl,hb⟩;have hs:=hb.size;have D:=(hb.alloc hb.size (γ #[ι κ S,ι κ M] 252))
 have J:=fP D (gK _ (γ (Uj S M S M 0 0 0 255 0 0 0 (σ ν 0 0)) 254));have Z:=Di (w1.alloc (γ #[ι κ S,ι κ M] 252)) (γ (Uj S M S M 0 0 0 255 0 0 0 (σ ν 0 0)) 254);have E:(w1.alloc (γ #[ι κ S,ι κ M] 252)).heap.size=w1.heap.size+1:=ik;rw[E]at Z;have G:Hid _:=Z;have H:Hid _:=J;clear Z J T
 go_wp2
 go_ret2
 exact⟨w1.heap.size+1,rfl,G.out,eB,H.out⟩
theorem r8.rest {s:LS} (h:Lk w B (s.c (σ ν 0 0))):r8 w B (λk=>k<w.heap.size) s (σ ν 0 0) [] :=
 ⟨h,Row.nil _ 3,λg Z=>by simp[eD]at Z,h.lt,λ_ Y=>Y,λp X=>by simp at X⟩
def NS(S M:Int):LS:=⟨S,M,S,M,0,0,0,255,0,0,0⟩
theorem EA(S M:Int):(lr {NS S M with st:=1} 0).2.2=0/\(lr {NS S M with st:=1} 0).1.st=6/\(lr {NS S M with st:=1} 0).2.1.length=1:=⟨ga,ga,ga⟩
section
variable (C:k8) (r:Nat)
def pc:List Nat->Int
 |[] =>0
 |[n] =>C r n
 |n::m::l=>pc (m::l)+C m n
def H7:List Nat->Prop
 |[] =>False
 |[n] =>0<C r n/\n≠r/\n<7
 |n::m::l=>H7 (m::l)/\0<C m n/\n≠r/\n<7
end
def yi:List Nat->Nat
 |[] =>0
 |[n] =>n
 |_::m::l=>yi (m::l)
def xN(a:Int×Int)(b:Int×Int):Prop:=a.1<b.1 \/(a.1=b.1/\a.2<=b.2)
theorem xN.trans {a b c:Int×Int} (h:xN a b)(k:xN b c):xN a c:=by unfold xN at*;omega
theorem xN.rfl'(a:Int×Int):xN a a:=.inr ⟨rfl,Int.le_refl _⟩
def HP.v(h:HP):Int×Int:=(h.far,h.sj)
def zW(G' G:Nat->HP):Prop:=∀x,0<(G x).far->0<(G' x).far/\xN (G' x).v (G x).v
theorem zW.refl(G:Nat->HP):zW G G:=λ_ h=>⟨h,xN.rfl' _⟩
theorem zW.trans {A B D:Nat->HP} (h:zW A B)(k:zW B D):zW A D:=λx hx=>⟨(h x (k x hx).1).1,(h x (k x hx).1).2.trans (k x hx).2⟩
theorem zX(a b:HP):uO a b=true↔b.far=0 \/a.far<b.far \/(a.far=b.far/\a.sj<b.sj):=by
 unfold uO;simp[or_assoc]
section
variable {C:k8} {r:Nat}
structure Sound(C:k8)(r:Nat)(G:Nat->HP):Prop where
 nn:∀n,0<=(G n).far
 way:∀n,0<(G n).far->(G n).dst=n/\∃p,H7 C r p/\p.head? =μ n/\pc C r p=(G n).far/\((yi p:Nat):Int)=(G n).sj
theorem Jw(hC:∀x y,0<=C x y):∀p,H7 C r p->0<pc C r p
 |[],h=>h.elim
 |[n],h=>h.1
 |n::m::l,h=>by
  have:=Jw hC (m::l) h.1;have h2:=h.2.1;simp only[pc];omega
theorem Rw(b n:Nat)(G:Nat->HP)(Z:∀x,0<=(G x).far)(hC:∀x y,0<=C x y):zW (pJ C r b n G) G:=by
 intro x hx;unfold pJ;split;{exact⟨hx,xN.rfl' _⟩}
 ·rename_i hc
  split
  ·rename_i hb
   rw[zX]at hb;simp only[rP];by_cases e:x=n;{subst e;rw[ai rfl];have h1:=Z b;have h2:=hC b x;refine⟨by simp only;omega,?_⟩;simp only[HP.v,xN]at hb⊢;omega};{rw[af e];exact⟨hx,xN.rfl' _⟩}
  ·exact⟨hx,xN.rfl' _⟩
theorem NT(b n:Nat)(G:Nat->HP)(Z:∀x,0<=(G x).far)(h1:0<(G b).far)(h2:0<C b n)(h3:n≠r):0<(pJ C r b n G n).far/\xN (pJ C r b n G n).v ((G b).far+C b n,(G b).sj):=by
 unfold pJ;rw[af eB];by_cases hb:uO ⟨n,(G b).far+C b n,(G b).sj⟩ (G n)=true;{rw[ai hb];simp only[rP,if_true];exact⟨eB,xN.rfl' _⟩};{rw[af hb];rw[zX]at hb;have:=Z n;simp only at hb;refine⟨eB,?_⟩;simp only[HP.v,xN];omega}
theorem NU(b n:Nat)(V:n<7)(G:Nat->HP)(Z:Sound C r G)(hC:∀x y,0<=C x y):Sound C r (pJ C r b n G):=by
 unfold pJ;split;{exact Z}
 ·rename_i hc
  split
  ·have h1:=Z.nn b;have h2:=hC b n;refine⟨λx=> ?_,λx hx=> ?_⟩;{simp only[rP];split;{simp only;omega};{exact Z.nn x}}
   ·simp only[rP]at hx⊢;by_cases e:x=n
    ·subst e;simp only[if_true]at hx⊢;obtain⟨_,p,Y,X,p3,U⟩:=Z.way b eB;refine⟨trivial,x::p,?_,rfl,?_,?_⟩
     ·cases p with
      |nil=>exact Y.elim
      |cons m l=>
       have:m=b:=by simpa using X
       subst this;exact⟨Y,eB,eB,V⟩
     ·cases p with
      |nil=>exact Y.elim
      |cons m l=>
       have:m=b:=by simpa using X
       subst this;simp only[pc,p3]
     ·cases p with
      |nil=>exact Y.elim
      |cons m l=>exact U
    ·rw[af e]at hx⊢;exact Z.way x hx
  ·exact Z
theorem xO(b:Nat)(G:Nat->HP)(Z:Sound C r G)(hC:∀x y,0<=C x y):∀n,n<=7->Sound C r (pX C r b G n)
 |0,_=>Z
 |n+1,h=>NU b n eB _ (xO b G Z hC n eB) hC
theorem go_sound(G:Nat->HP)(Z:Sound C r G)(hC:∀x y,0<=C x y):∀b,Sound C r (Df C r G b)
 |0=>Z
 |b+1=>xO b _ (go_sound G Z hC b) hC 7 (Nat.le_refl _)
theorem zY(b:Nat)(G:Nat->HP)(Z:Sound C r G)(hC:∀x y,0<=C x y)(i:Nat):∀d,i+d<=7->zW (pX C r b G (i+d)) (pX C r b G i)
 |0,_=>zW.refl _
 |d+1,h=>(Rw b (i+d) _ (xO b G Z hC (i+d) eB).nn hC).trans (zY b G Z hC i d eB)
theorem Rx(b:Nat)(G:Nat->HP)(Z:Sound C r G)(hC:∀x y,0<=C x y)(m:Nat)(hm:m<7)(X:0<(G b).far)(V:0<C b m)(U:m≠r):0<(pX C r b G 7 m).far/\xN (pX C r b G 7 m).v ((G b).far+C b m,(G b).sj):=by
 have k0:=zY b G Z hC 0 m eB;rw[Nat.zero_add]at k0;have k1:=k0 b X;have k2:=NT (r:=r) b m (pX C r b G m) (xO b G Z hC m eB).nn k1.1 V U;have k3:=zY b G Z hC (m+1) (7-(m+1)) eB;rw[show m+1+(7-(m+1))=7 by omega]at k3;have Y:=k3 m k2.1;refine⟨Y.1,Y.2.trans (xN.trans k2.2 ?_)⟩;have:=k1.2;simp only[xN,HP.v,pX]at this⊢;omega
theorem DF(G:Nat->HP)(Z:Sound C r G)(hC:∀x y,0<=C x y)(i:Nat):∀d,zW (Df C r G (i+d)) (Df C r G i)
 |0=>zW.refl _
 |d+1=>by
  have h:=zY (i+d) _ (go_sound G Z hC (i+d)) hC 0 7 eB;exact zW.trans h (DF G Z hC i d)
theorem Vl(G:Nat->HP)(Z:Sound C r G)(hC:∀x y,0<=C x y)(b m:Nat)(hb:b<7)(T:m<7)(X:0<(G b).far)(V:0<C b m)(U:m≠r):0<(Df C r G 7 m).far/\xN (Df C r G 7 m).v ((G b).far+C b m,(G b).sj):=by
 have k0:=DF G Z hC 0 b;rw[Nat.zero_add]at k0;have k1:=k0 b X;have k2:=Rx b _ (go_sound G Z hC b) hC m T k1.1 V U;have k3:=DF G Z hC (b+1) (7-(b+1));rw[show b+1+(7-(b+1))=7 by omega]at k3;have Y:=k3 m k2.1;refine⟨Y.1,Y.2.trans (xN.trans k2.2 ?_)⟩;have:=k1.2;simp only[xN,HP.v,Df]at this⊢;omega
def DG(C:k8)(r:Nat)(G:Nat->HP)(p:List Nat):Prop:=∀n,p.head? =μ n->0<(G n).far/\xN (G n).v (pc C r p,((yi p:Nat):Int))
theorem Lj(hC:∀x y,0<=C x y)(hd:C r r=0):Sound C r (lS C r 7):=by
 refine⟨λn=> ?_,λn Z=> ?_⟩;{simp only[lS];have:=hC r n;split;{simp only;omega};{simp[HP.zero]}};{simp only[lS]at Z⊢;by_cases h:n<7/\0<C r n;{rw[ai h]at Z⊢;refine⟨rfl,[n],⟨h.2,?_,h.1⟩,rfl,rfl,rfl⟩;rintro rfl;omega};{rw[af h]at Z;simp[HP.zero]at Z}}
theorem qF(hC:∀x y,0<=C x y)(hd:C r r=0):∀k,Sound C r (jF C r k)
 |0=>Lj hC hd
 |k+1=>go_sound _ (qF hC hd k) hC 7
theorem YZ:∀ {p:List Nat} {n:Nat},H7 C r p->p.head? =μ n->n<7/\n≠r
 |[],n,h,_=>h.elim
 |[m],n,h,e=>by
  have:m=n:=by simpa using e
  subst this;exact⟨h.2.2,h.2.1⟩
 |m::x::l,n,h,e=>by
  have:m=n:=by simpa using e
  subst this;exact⟨h.2.2.2,h.2.2.1⟩
theorem yY(hC:∀x y,0<=C x y)(hd:C r r=0):∀k p,H7 C r p->p.length<=k+1->DG C r (jF C r k) p
 |0,[],h,_=>h.elim
 |0,[n],h,_=>by
  intro x hx;have:n=x:=by simpa using hx
  subst this;simp only[jF,lS,if_pos (show n<7/\0<C r n from⟨h.2.2,h.1⟩)];exact⟨h.1,xN.rfl' _⟩
 |0,n::m::l,h,hl=>by simp at hl
 |k+1,p,h,hl=>by
  by_cases hs:p.length<=k+1;{intro n V;have Z:=yY hC hd k p h hs n V;have Y:=DF (jF C r k) (qF hC hd k) hC 0 7 n Z.1;exact⟨Y.1,Y.2.trans Z.2⟩}
  ·match p,h,hl,hs with
   |[],h,_,_=>exact h.elim
   |[n],h,_,hs=>simp at hs
   |n::m::l,h,hl,hs=>
    intro x hx;have:n=x:=by simpa using hx
    subst this;have Z:=yY hC hd k (m::l) h.1 (by simp at hl⊢;omega) m rfl;have X:=(YZ h.1 (show(m::l).head? =μ m from rfl)).1;have Y:=Vl (jF C r k) (qF hC hd k) hC m n X h.2.2.2 Z.1 h.2.1 h.2.2.1;refine⟨Y.1,xN.trans Y.2 ?_⟩;have:=Z.2;simp only[xN,HP.v,pc,yi]at this⊢;omega
theorem Ll(hC:∀x y,0<=C x y)(n:Nat):∀q:List Nat,H7 C r q->q.Nodup->n∈q->∃t,H7 C r t/\t.Nodup/\t.head? =μ n/\yi t=yi q/\pc C r t<=pc C r q/\t.length<=q.length
 |[],h,_,_=>h.elim
 |[m],h,hd,hm=>by
  have:n=m:=by simpa using hm
  subst this;exact⟨[n],h,hd,rfl,rfl,Int.le_refl _,Nat.le_refl _⟩
 |m::x::l,h,hd,hm=>by
  by_cases e:m=n;{subst e;exact⟨_,h,hd,rfl,rfl,Int.le_refl _,Nat.le_refl _⟩}
  ·have Y:n∈x::l:=by
    rcases aP.1 hm with Z|Z
    {exact absurd Z.symm e};{exact Z}
   obtain⟨t,t1,t2,X,V,t5,U⟩:=Ll hC n (x::l) h.1 (bw.1 hd).2 Y;refine⟨t,t1,t2,X,V,?_,by simp at U⊢;omega⟩;have:=h.2.1;simp only[pc];omega
theorem Br(hC:∀x y,0<=C x y):∀p:List Nat,H7 C r p->∃q,H7 C r q/\q.Nodup/\q.head? =p.head? /\yi q=yi p/\pc C r q<=pc C r p
 |[],h=>h.elim
 |[n],h=>⟨[n],h,ik,rfl,rfl,Int.le_refl _⟩
 |n::m::l,h=>by
  obtain⟨q,q1,q2,V,Y,q5⟩:=Br hC (m::l) h.1;have X:=h.2.1;by_cases Z:n∈q;{obtain⟨t,t1,t2,U,T,t5,_⟩:=Ll hC n q q1 q2 Z;refine⟨t,t1,t2,U,by rw[T,Y];rfl,?_⟩;simp only[pc];omega}
  ·cases q with
   |nil=>exact q1.elim
   |cons x t=>
    have:x=m:=by simpa using V
    subst this;refine⟨n::x::t,⟨q1,X,h.2.2.1,h.2.2.2⟩,bw.2 ⟨Z,q2⟩,rfl,?_,?_⟩;{exact Y};{simp only[pc];omega}
theorem Lm:∀ {p:List Nat},H7 C r p->∀x∈p,x<7/\x≠r
 |[],h,_,_=>h.elim
 |[n],h,x,hx=>by
  have:x=n:=by simpa using hx
  subst this;exact⟨h.2.2,h.2.1⟩
 |n::m::l,h,x,hx=>by
  rcases aP.1 hx with e|e
  {subst e;exact⟨h.2.2.2,h.2.2.1⟩};{exact Lm h.1 x e}
theorem Jx:∀(l m:List Nat),l.Nodup->(∀x∈l,x∈m)->l.length<=m.length
 |[],_,_,_=>Nat.zero_le _
 |x::l,m,hp,hs=>by
  obtain⟨Z,Y⟩:=bw.1 hp;have hx:=hs x ik;have:=Jx l (m.erase x) Y (λy hy=>(dg (λe=>Z (by rw[<-e];exact hy))).2 (hs y (cT _ hy)));rw[cZ hx]at this;have hm:0<m.length:=dP hx;simp only[eW];omega
theorem EB(hC:∀x y,0<=C x y)(hd:C r r=0)(p:List Nat)(Y:H7 C r p):DG C r (jF C r 6) p:=by
 obtain⟨q,q1,q2,X,V,q5⟩:=Br hC p Y;have hl:=Jx q (List.range 7) q2 (λx hx=>aN.2 (Lm q1 x hx).1);rw[dA]at hl;intro n Z;have:=yY hC hd 6 q q1 hl n (by rw[X];exact Z);refine⟨this.1,xN.trans this.2 ?_⟩;simp only[xN,V];omega
theorem EC(hC:∀x y,0<=C x y)(hd:C r r=0)(n:Nat)(U:0<(jF C r 6 n).far):(jF C r 6 n).dst=n/\∃q,H7 C r q/\q.Nodup/\q.head? =μ n/\pc C r q=(jF C r 6 n).far/\((yi q:Nat):Int)=(jF C r 6 n).sj:=by
 obtain⟨V,p,T,Z,p3,M⟩:=(qF hC hd 6).way n U;obtain⟨q,q1,q2,Y,J,q5⟩:=Br hC p T;have X:=EB hC hd q q1 n (by rw[Y];exact Z);have:pc C r q=(jF C r 6 n).far:=by
  have:=X.2;simp only[xN,HP.v]at this;omega
 exact⟨V,q,q1,q2,by rw[Y];exact Z,this,by rw[J];exact M⟩
end
section
variable {C:k8}
def zZ(C:k8)(r n:Nat):Int:=(jF C r 6 n).far
theorem NV(hC:∀x y,0<=C x y)(hd:C r r=0)(n:Nat):0<=zZ C r n:=(qF hC hd 6).nn n
theorem Ln {r:Nat}:∀q:List Nat,H7 C r q->0<C r (yi q)/\yi q≠r/\yi q<7
 |[],h=>h.elim
 |[_],h=>h
 |_::m::l,h=>Ln (m::l) h.1
def wc(C:k8):List Nat->Int
 |[] =>0
 |[_] =>0
 |n::m::l=>wc C (m::l)+C m n
theorem PN(H:Nat->HP):∀n h,h∈pD H n↔∃k,k<n/\h=H k/\0<(H k).far
 |0,h=>by simp[pD]
 |n+1,h=>by
  have ih:=PN H n h;simp only[pD];split
  ·rename_i V
   rw[av,ih];constructor;{rintro(⟨k,X,Z,Y⟩|X);{exact⟨k,eB,Z,Y⟩};{exact⟨n,eB,by simpa using X,V⟩}};{rintro⟨k,X,Z,Y⟩;by_cases e:k=n;{subst e;exact .inr (by simp[Z])};{exact .inl ⟨k,eB,Z,Y⟩}}
  ·rename_i V
   rw[ih];constructor;{rintro⟨k,X,Z,Y⟩;exact⟨k,eB,Z,Y⟩};{rintro⟨k,X,Z,Y⟩;by_cases e:k=n;{subst e;exact absurd Y V};{exact⟨k,eB,Z,Y⟩}}
theorem Vn(C:k8)(r:Nat)(x:HP):x∈qq C r↔∃k,k<7/\x=jF C r 6 k/\0<zZ C r k:=PN (jF C r 6) 7 x
end
theorem Jy(a b:Option eh)(n ca M:Nat)(L:List HP)(w:ew)(U:NM w a n L)(H:NM w b n L)(hn:n<=1000):
 fc fe 46 #[σ a n ca,σ b n M] w λe w'=>e=ρ (.bool true)/\eH w w':=by
 have hl:=U.len
 go_in
 go_wp2
 go_loopw [5] (λi wr=>∃k:Nat,k<=n/\i=ι κ k/\eH w wr) (λi _=>n-(fh i).toNat)
 case atStart=>exact⟨0,Nat.zero_le _,rfl,au _ _⟩
 case round=>
  obtain⟨k,hk,rfl,Y⟩:=hrel;by_cases kL:k<n
  ·have n9:(k:Int)<(n:Int):=eB;have r1:=(U.below Y).row;have G:=(H.below Y).row;rcases r1 with J|⟨b1,o1,rfl,Z⟩
   ·omega
   rcases G with J|⟨b2,o2,rfl,V⟩
   {omega};have X:L[k]? =μ (L[k]'(by omega)):=aw eB;obtain⟨c0,c1,c2⟩:=Z k _ X;obtain⟨d0,d1,d2⟩:=V k _ X;generalize L[k]'(by omega)=p at c0 c1 c2 d0 d1 d2 X;obtain⟨pd,pf,px⟩:=p;simp only at c0 c1 c2 d0 d1 d2;clear Z V X;have T:Hid _:=Y;clear Y
   go_wp2
   go_quiet(fail)
   go_wp2
   go_roundw
   case rel=>exact⟨k+1,eB,by go_num,below_drewN T.out _⟩
   case measure=>simp[fh];omega
  ·have yc:¬(k:Int)<(n:Int):=eB
   go_wp2
   go_ret;exact⟨rfl,Y⟩
theorem H8(S:Nat->SV)(E:Nat->List jQ):∀n,(∀j,j<n->oK (S j).own (S j).seq (E j)=0)->∀x,j7 S E n x x=0
 |0,_,x=>rfl
 |n+1,h,x=>by
  have ih:=H8 S E n (λj hj=>h j eB) x;have V:=h n eB;have ho:=(jC V).1;have Z:=(jC V).2.2.2;simp only[j7,nH];generalize E n=es at Z;generalize j7 S E n=C at ih;have Y:∃X:Int,qP (S n).own X es=0:=⟨0,Z⟩
  clear Z
  induction es generalizing C with
  |nil=>exact ih
  |cons e es ihs=>
   rw[bI];obtain⟨X,Z⟩:=Y;simp only[qP]at Z;split at Z;{cases Z}
   ·rename_i h1
    split at Z;{cases Z}
    ·rename_i h2
     refine ihs _ ?_ ⟨_,Z⟩;simp only[ux];rw[af eB];exact ih
theorem PO(S:Nat->SV)(E:Nat->List jQ):∀n,(∀j,j<n->oK (S j).own (S j).seq (E j)=0)->∀x y,0<j7 S E n x y->(1<=x/\x<=6)/\1<=y/\y<=6
 |0,_,x,y,h=>by simp[j7]at h
 |n+1,h,x,y,hp=>by
  have ih:=PO S E n (λj hj=>h j eB);have X:=h n eB;have ho:=(jC X).1;have Y:=pI _ (E n) 0 (jC X).2.2.2;simp only[j7,nH]at hp;generalize E n=es at Y hp;generalize j7 S E n=C at ih hp
  induction es generalizing C with
  |nil=>exact ih x y hp
  |cons e es ihs=>
   rw[bI]at hp;refine ihs (λq V=>Y q (by simp[V])) _ (λu v Z=> ?_) hp;have h1:=Y e ik;simp only[ux]at Z;split at Z
   ·rename_i h2
    omega
   ·exact ih u v Z
theorem Ry(S:Nat->SV)(E:Nat->List jQ)(n:Nat)(h:∀j,j<n->oK (S j).own (S j).seq (E j)=0)(x:Nat):kE (j7 S E n) x x=0:=by
 simp only[kE,H8 S E n h x];rfl
theorem Y0(S:Nat->SV)(E:Nat->List jQ)(n:Nat)(h:∀j,j<n->oK (S j).own (S j).seq (E j)=0)(x y:Nat)(Z:0<kE (j7 S E n) x y):(1<=x/\x<=6)/\1<=y/\y<=6:=by
 simp only[kE]at Z;split at Z;{exact PO S E n h x y Z};{omega}
def bC(b:Nat->Bool):Array eA:=(fX 7).map λi=>.bool (b i)
theorem Jz(b:Nat->Bool):(bC b).size=7:=by simp[bC]
theorem JA(b:Nat->Bool)(i:Nat)(h:i<7):(bC b)[i]? =μ (.bool (b i)):=by simp[bC,h]
def qG(b:Nat->Bool)(n:Nat):Nat->Bool:=λx=>if x=n then true else b x
theorem acU(b:Nat->Bool)(n:Nat):(bC b).setIfInBounds n (.bool true)=bC (qG b n):=by
 apply bS;intro i;rw[bu];by_cases hi:i<7;{rw[JA _ i hi,JA _ i hi];by_cases e:n=i;{subst e;simp[qG,bC,hi]};{have Z:¬i=n:=λh=>e h.symm;simp[qG,e,Z]}};{have hs:∀D:Nat->Bool,(bC D)[i]? =ν:=λD=>bh (by simp[bC];omega);rw[hs,hs];split;{simp[bC];omega};{rfl}}
theorem aa2:(fe.info? 205).map (λi=>(i.zero,i.size))=μ (μ (.agg (bC λ_=>false)),7):=ga
theorem agi(w:ew):(zeroValue 205).run fe w=.ok (.agg (bC λ_=>false)) w:=(bW aa2).1 w
theorem Vo:(fe.info? 205).map (·.size)=μ 7:=(bW aa2).2
theorem Y1:(fe.info? 204).map (λi=>(i.zero,i.size))=μ (μ (.agg (hC λ_=>HP.zero)),21):=ga
theorem Y2(w:ew):(zeroValue 204).run fe w=.ok (.agg (hC λ_=>HP.zero)) w:=(bW Y1).1 w
section
variable {C:k8} {r:Nat}
def acV(G:Nat->HP):Prop:=∀n,(G n).far=0->G n=HP.zero
structure RS(C:k8)(r:Nat)(G:Nat->HP):Prop where
 s:Sound C r G
 z:acV G
theorem acW {G:Nat->HP} (h:RS C r G)(n:Nat)(p:List Nat)(Z:H7 C r p)(hh:p.head? =μ n)(hC:∀x y,0<=C x y):RS C r (rP G n ⟨n,pc C r p,(yi p:Nat)⟩):=by
 have qN:=Jw hC p Z;refine⟨⟨λx=> ?_,λx hx=> ?_⟩,λx hx=> ?_⟩;{simp only[rP];split;{simp only;omega};{exact h.s.nn x}};{simp only[rP]at hx⊢;by_cases e:x=n;{subst e;simp only[if_true];exact⟨trivial,p,Z,hh,rfl,rfl⟩};{rw[af e]at hx⊢;exact h.s.way x hx}};{simp only[rP]at hx⊢;by_cases e:x=n;{subst e;simp only[if_true]at hx;omega};{rw[af e]at hx⊢;exact h.z x hx}}
theorem Vp {G:Nat->HP} (n:Nat)(q:HP)(Z:0<q.far)(hb:uO q (G n)=true):zW (rP G n q) G:=by
 intro x hx;rw[zX]at hb;simp only[rP];by_cases e:x=n;{subst e;rw[ai rfl];refine⟨Z,?_⟩;simp only[xN,HP.v];omega};{rw[af e];exact⟨hx,xN.rfl' _⟩}
theorem DG.mono {G G':Nat->HP} (h:DG C r G p)(X:zW G' G):DG C r G' p:=by
 intro n V;have Z:=h n V;have Y:=X n Z.1;exact⟨Y.1,Y.2.trans Z.2⟩
def Ext(C:k8)(r:Nat)(p:List Nat)(x:Nat)(q:List Nat):Prop:=H7 C r q/\q.Nodup/\∃e,q=e++x::p
theorem RA(hC:∀x y,0<=C x y)(hd:C r r=0)(G:Nat->HP)(T:RS C r G)(U:∀q,H7 C r q->q.Nodup->DG C r G q)(n:Nat):(G n).far=zZ C r n/\(0<zZ C r n->G n=jF C r 6 n):=by
 have h0:=NV hC hd n;have g0:=T.s.nn n;by_cases h:0<zZ C r n;{obtain⟨k1,q,q1,q2,q3,q4,q5⟩:=EC hC hd n h;have d1:=U q q1 q2 n q3;obtain⟨s1,p,J,H,p3,j⟩:=T.s.way n d1.1;have d2:=EB hC hd p J n H;have E:=d1.2;have D:=d2.2;have M:zZ C r n=(jF C r 6 n).far:=rfl;simp only[xN,HP.v]at E D;have Z:(G n).far=(jF C r 6 n).far:=eB;have V:(G n).sj=(jF C r 6 n).sj:=eB;refine⟨by rw[M];exact Z,λ_=> ?_⟩;generalize jF C r 6 n=X at k1 Z V;generalize G n=Y at s1 Z V;obtain⟨x1,x2,x3⟩:=X;obtain⟨y1,y2,y3⟩:=Y;simp only at k1 s1 Z V;rw[Z,V,k1,s1]};{refine⟨?_,λA=>absurd A h⟩;by_cases u:0<(G n).far;{obtain⟨s1,p,J,H,p3,j⟩:=T.s.way n u;exact absurd (EB hC hd p J n H).1 h};{omega}}
end
structure Vq(C:k8)(r:Nat)(p:List Nat)(py:Nat)(far by':Int)(bn:Nat->Bool):Prop where
 way:(p=[] /\py=r/\far=0/\by'=0) \/(H7 C r p/\p.head? =μ py/\pc C r p=far/\((yi p:Nat):Int)=by'/\by'≠0)
 nd:p.Nodup
 been:∀x,qG bn py x=true↔(x∈p \/x=r)
theorem Vq.next {C:k8} (h:Vq C r p py far by' bn)(n:Nat)(V:n<7)(X:0<C py n)(hb:qG bn py n=false):
 H7 C r (n::p)/\(n::p).Nodup/\pc C r (n::p)=far+C py n/\((yi (n::p):Nat):Int)=(if by'=0 then(n:Int)else by'):=by
 have Z:¬(n∈p \/n=r):=λe=>by rw[(h.been n).2 e]at hb;cases hb
 rcases h.way with⟨rfl,rfl,rfl,rfl⟩|⟨Y,U,h3,T,M⟩
 ·refine⟨⟨X,λe=>Z (.inr e),V⟩,ik,?_,?_⟩;{simp[pc]};{simp[yi]}
 ·cases p with
  |nil=>exact Y.elim
  |cons m l=>
   have:m=py:=by simpa using U
   subst this;refine⟨⟨Y,X,λe=>Z (.inr e),V⟩,bw.2 ⟨λe=>Z (.inl e),h.nd⟩,?_,?_⟩;{simp only[pc];omega};{rw[af M];exact T}
theorem Vq.step {C:k8} (h:Vq C r p py far by' bn)(n:Nat)(mP:1<=n)(T:n<7)(U:0<C py n)(hb:qG bn py n=false):Vq C r (n::p) n (far+C py n) (if by'=0 then(n:Int)else by') (qG bn py):=by
 obtain⟨Z,Y,X,V⟩:=h.next n T U hb;refine⟨.inr ⟨Z,rfl,X,V,?_⟩,Y,λx=> ?_⟩;{split;{omega};{assumption}};{show(if x=n then true else qG bn py x)=true↔_;by_cases e:x=n;{subst e;simp};{rw[af e,h.been x];simp[e]}}
theorem Vq.none {C:k8} (h:Vq C r p py far by' bn)(n:Nat)(hx:C py n=0 \/qG bn py n=true):∀q,¬Ext C r p n q:=by
 rintro q ⟨U,T,e,rfl⟩;have Y:∀e:List Nat,H7 C r (e++n::p)->H7 C r (n::p):=by
  intro e
  induction e with
  |nil=>exact λh=>h
  |cons a t ih=>
   intro V;refine ih ?_;cases t with
   |nil=>exact V.1
   |cons b u=>exact V.1
 have X:=Y e U;rcases hx with hx|hx
 ·rcases h.way with⟨rfl,rfl,_,_⟩|⟨k1,k2,_⟩
  ·have:=X.1;omega
  ·cases p with
   |nil=>exact k1
   |cons m l=>
    have:m=py:=by simpa using k2
    subst this;have:=X.2.1;omega
 ·have Z:=(h.been n).1 hx;have M:=(bG.1 T).2.1;rcases Z with Z|Z
  {exact(bw.1 M).1 Z};{exact(Lm X n ik).2 Z}
theorem aa3 {C:k8} {r:Nat} (hC:∀x y,C x y<=20):∀p:List Nat,pc C r p<=20*p.length
 |[] =>by simp[pc]
 |[n] =>by simp only[pc];have:=hC r n;simpa using this
 |n::m::l=>by
  have:=aa3 (r:=r) hC (m::l);have h2:=hC m n;simp only[pc,eW]at this⊢;push_cast at this⊢;omega
theorem Vq.acX {C:k8} (h:Vq C r p py far by' bn)(hC:∀x y,0<=C x y/\C x y<=20)(hp:p.length<=7):0<=far/\far<=140:=by
 rcases h.way with⟨_,_,rfl,_⟩|⟨Z,_,rfl,_⟩
 {exact⟨Int.le_refl _,eF⟩};{have h2:=Jw (λx y=>(hC x y).1) p Z;have h3:=aa3 (r:=r) (λx y=>(hC x y).2) p;omega}
theorem RB(a:Option eh)(n cap:Nat)(r:Nat)(w0:ew)(C:k8)(B:Nat)(xJ:w0.heap.size<=B)
 (HED:Hid (∀(u v:Nat) W,eH w0 W->fc fe 159 #[σ a n cap,ι κ (u:Int),ι κ (v:Int)] W λe w'=>e=ρ (ι κ (C u v))/\eH W w'))
 (Dg:∀x y,0<=C x y/\C x y<=20) (HI:Hid (∀u v,0<C u v->(1<=u/\u<=6)/\1<=v/\v<=6)):
 ∀(d:Nat) (p:List Nat) (py:Nat) (far by':Int) (bn:Nat->Bool) (G:Nat->HP) (w:ew),p.length+d=7->py<7->Vq C r p py far by' bn->RS C r G->ji w B (hC G) 204->eH w0 w->
 fc fe 109 #[σ a n cap,ι κ (py:Int),ι κ far,ι κ by',.agg (bC bn),π (μ ⟨B,0,ν⟩)] w λe w'=>e=ρ (τ #[])/\
  (∃Z,ji w' B (hC Z) 204/\RS C r Z/\zW Z G/\∀x q,Ext C r p x q->DG C r Z q)/\w.grownBy w' (μ B):=by
 intro d
 induction d with
 |zero=>
  intro p py far by' bn G w hlen hat hP _ _ _
  exfalso;have lL:∀x∈p,x∈(List.range 7).erase r:=by
   intro x hx;rcases hP.way with⟨rfl,_⟩|⟨h1,_⟩
   {cases hx};{have:=Lm h1 x hx;exact(dg this.2).2 (aN.2 this.1)}
  have h1:=Jx p _ hP.nd lL;rcases hP.way with⟨rfl,_⟩|⟨h2,h3,_⟩
  ·simp at hlen
  ·have hr:r<7 \/ ¬r<7:=eB;rcases hr with hr|hr
   ·rw[cZ (aN.2 hr),dA]at h1;omega
   ·have:=Ln p h2;have:=HI.out _ _ this.1;omega
 |succ d ih=>
  intro p py far by' bn G w hlen hat hP hG hB yf
  have HIH:Hid _:=ih;clear ih;have HPr:Hid _:=hP;have HG:Hid _:=hG;obtain⟨hf0,Vr⟩:=hP.acX Dg eB;clear hP hG;have ha7:(py:Int)<7:=eB;obtain⟨c,hc⟩:=fq (bC bn);rw[hc];have hBl:=hB.lt;obtain⟨N,X9⟩:=fq (w.heap.size);obtain⟨W1,kt⟩:=fq (w.alloc (γ c 205));have k1:eH w W1:=by rw[<-kt];exact gK _ _
  have hN:ji W1 N (bC bn) 205:=by rw[<-kt,hc];exact ji.Gy _ _ _ _ X9
  have E:=hB.below k1;have n0:=(hN.cell py).trans (JA bn py hat);have n1:=hN.frozen py;have lN:=hN.lt;have Y3:Hid (ji (W1.setCell ⟨N,py,ν⟩ (.bool true)) N (bC (qG bn py)) 205):=by show ji _ _ _ _;rw[<-acU];exact hN.set py _
  have HBN:Hid (B<N):=by show _<_;omega
  have A2:Hid (ji (W1.setCell ⟨N,py,ν⟩ (.bool true)) B (hC G) 204):=E.other eB _;have HG2:Hid (w.grownBy (W1.setCell ⟨N,py,ν⟩ (.bool true)) (μ B)):=by
   have k2:eH w (W1.setCell ⟨N,py,ν⟩ (.bool true)):=bD k1 (by show w.heap.size<=N;omega) _;exact⟨k2.os,k2.tape,k2.output,k2.size,λi hi _=>k2.block i hi⟩
  have Ks:Hid _:=kt;have HNe:Hid _:=X9;have HBW:Hid _:=yf;clear hc X9 kt k1 hN E hB hBl yf
  go_in
  go_upto_region 1 with fail
  rw[Ks.out,HNe.out];go_wp2_with(fail);obtain⟨W2,nK⟩:=fq (W1.setCell ⟨N,py,ν⟩ (.bool true));rw[nK]at Y3 A2 HG2;rw[nK];clear nK n0 n1 lN
  go_loopw [12] (λv wr=>∃(m:Nat) (Z:Nat->HP),1<=m/\m<=7/\v=ι κ m/\(RS C r Z/\zW Z G/\∀x q,x<m->Ext C r p x q->DG C r Z q)/\ji wr B (hC Z) 204/\ji wr N (bC (qG bn py)) 205/\w.grownBy wr (μ B)) (λv _=>7-(fh v).toNat)
  case atStart=>
   refine⟨1,G,eB,eB,rfl,⟨HG.out,zW.refl _,λx q hx hq=> ?_⟩,A2.out,Y3.out,HG2.out⟩;have hx0:x=0:=eB;subst hx0;have h1:=Dg py 0;have:C py 0=0:=by
    by_cases h2:0<C py 0;{have:=HI.out _ _ h2;omega};{omega}
   exact absurd hq (HPr.out.none 0 (.inl this) q)
  case round=>
   clear A2 Y3 HG2;obtain⟨m,Z,wv,hm7,rfl,hS,hB,hN,vM⟩:=hrel;have H:Hid _:=hS;clear hS;by_cases hm6:m<=6
   ·have ac0:(m:Int)<=6:=eB;have ak0:(m:Int)<7:=eB;have he:=HED.out py m wr (tU HBW.out vM xJ);have HB:Hid _:=hB;have HN:Hid _:=hN;have Y4:Hid _:=vM;clear hB hN vM;go_wp2_with(fail);refine he.mono ?_;rintro e w5 ⟨rfl,k5⟩;have hN5:=ji.below HN.out k5;have PR:=ji.below HB.out k5;have nb:=(hN5.cell m).trans (JA (qG bn py) m eB);have HN5:Hid _:=hN5;have Jv:Hid (w.grownBy w5 (μ B)):=⟨k5.os.trans Y4.out.os,k5.tape.trans Y4.out.tape,k5.output.trans Y4.out.output,Nat.le_trans Y4.out.size k5.size,λi hi J=>(k5.block i (Nat.lt_of_lt_of_le hi Y4.out.size)).trans (Y4.out.block i hi J)⟩
    have Ya:Hid (C py m=0 \/qG bn py m=true->∀x q,x<m+1->Ext C r p x q->DG C r Z q):=by
     intro hh x q hx hq;by_cases e:x=m;{subst e;exact absurd hq (HPr.out.none x hh q)};{exact H.out.2.2 x q eB hq}
    obtain⟨p0,p1,p2⟩:=Bj Z m eB;have b0:=(PR.cell (m*3)).trans p0;have b1:=(PR.cell (m*3+1)).trans p1;have b2:=(PR.cell (m*3+2)).trans p2;have Kr:Hid _:=PR;clear he k5 hN5 PR p0 p1 p2 HB HN Y4;have hcr:=Dg py m;by_cases hz:C py m=0
    ·have TK:(C py m==0)=true:=by simpa using hz
     have ac1:Hid _:=Ya.out (.inl hz);generalize C py m=cm at TK⊢
     go_wp2
     go_roundw
     case rel=>exact⟨m+1,Z,eB,eB,by go_num,⟨H.out.1,H.out.2.1,ac1.out⟩,Kr.out,HN5.out,Jv.out⟩
     case measure=>simp[fh];omega
    have TK:(C py m==0)=false:=by simpa using hz
    cases Rc:qG bn py m with
    |true=>
     rw[Rc]at nb;have ac1:Hid _:=Ya.out (.inr Rc);generalize C py m=cm at TK⊢
     go_wp2
     go_roundw
     case rel=>exact⟨m+1,Z,eB,eB,by go_num,⟨H.out.1,H.out.2.1,ac1.out⟩,Kr.out,HN5.out,Jv.out⟩
     case measure=>simp[fh];omega
    |false=>
     rw[Rc]at nb;have qN:0<C py m:=eB;have HPn:Hid _:=HPr.out.next m eB qN Rc;have HPs:Hid _:=HPr.out.step m wv eB qN Rc;obtain⟨nx,hnx⟩:=fq ((if by'=0 then(m:Int)else by'));rw[hnx]at HPn HPs;have HNX:Hid _:=hnx;have hzo:=H.out.1.z m;have hwy:=H.out.1.s.way m;have AX:=H.out.1.s.nn m;obtain⟨cm,Gw⟩:=fq (C py m);rw[Gw]at TK HPn HPs hcr qN;rw[Gw];have h:Hid ((Z m).dst=0↔(Z m).far=0):=by
      constructor;{intro e;by_cases h9:0<(Z m).far;{have:=(hwy h9).1;omega};{omega}};{intro e;rw[hzo e];rfl}
     have D:Hid (uO ⟨(m:Int),far+cm,nx⟩ (Z m)=true↔(Z m).far=0 \/far+cm<(Z m).far \/(far+cm=(Z m).far/\nx<(Z m).sj)):=zX _ _;have HU:Hid (uO ⟨(m:Int),far+cm,nx⟩ (Z m)=true->RS C r (rP Z m ⟨(m:Int),far+cm,nx⟩)/\zW (rP Z m ⟨(m:Int),far+cm,nx⟩) Z/\DG C r (rP Z m ⟨(m:Int),far+cm,nx⟩) (m::p)):=by
      intro hb;obtain⟨a1,a2,a3,a4⟩:=HPn.out;have h8:=acW H.out.1 m (m::p) a1 rfl (λx y=>(Dg x y).1);rw[a3,a4]at h8;refine⟨h8,Vp m _ (by simp only;omega) hb,λx hx=> ?_⟩;have:m=x:=by simpa using hx
      subst this;simp only[rP,if_true,a3,a4];exact⟨eB,xN.rfl' _⟩
     have HV:Hid (¬uO ⟨(m:Int),far+cm,nx⟩ (Z m)=true->DG C r Z (m::p)):=by
      intro hb x hx;obtain⟨a1,a2,a3,a4⟩:=HPn.out;have:m=x:=by simpa using hx
      subst this;rw[D.out]at hb;rw[a3,a4];refine⟨eB,?_⟩;simp only[xN,HP.v];omega
     clear hzo hwy Gw hnx hz Rc;by_cases wq:by'=0
     ·have ak4:(by'==0)=true:=by simpa using wq
      have hE:nx=(m:Int):=by rw[<-HNX.out,ai wq]
      subst hE;clear wq;obtain⟨U,hqd⟩:=fq ((Z m).dst);obtain⟨X,M⟩:=fq ((Z m).far);obtain⟨qx,hqx⟩:=fq ((Z m).sj);rw[hqd]at b0 h;rw[M]at b1 h D;rw[hqx]at b2 D;obtain⟨Y,Y5⟩:=fq (w5.alloc (γ #[ι κ U,ι κ X,ι κ qx] 98));have T:eH w5 Y:=by rw[<-Y5];exact gK _ _
      have hY:ji Y w5.heap.size #[ι κ U,ι κ X,ι κ qx] 98:=by rw[<-Y5];exact ji.new _ _ _
      have HW6:Hid _:=Y5;have ED:=ji.below Kr.out T;have HN6:Hid _:=ji.below HN5.out T;have HG6:Hid (w.grownBy Y (μ B)):=⟨T.os.trans Jv.out.os,T.tape.trans Jv.out.tape,T.output.trans Jv.out.output,Nat.le_trans Jv.out.size T.size,λi hi J=>(T.block i (Nat.lt_of_lt_of_le hi Jv.out.size)).trans (Jv.out.block i hi J)⟩
      have y0:Y.cell? ⟨w5.heap.size,0,ν⟩=μ (ι κ U):=hY.cell 0;have y1:Y.cell? ⟨w5.heap.size,1,ν⟩=μ (ι κ X):=hY.cell 1;have y2:Y.cell? ⟨w5.heap.size,2,ν⟩=μ (ι κ qx):=hY.cell 2;have ly:=hY.lt;have f0:=ED.frozen (m*3);have f1:=ED.frozen (m*3+1);have f2:=ED.frozen (m*3+2);have g0:=(T.cell (p:=⟨B,m*3,ν⟩) (ji.lt Kr.out)).trans b0;have g1:=(T.cell (p:=⟨B,m*3+1,ν⟩) (ji.lt Kr.out)).trans b1;have g2:=(T.cell (p:=⟨B,m*3+2,ν⟩) (ji.lt Kr.out)).trans b2;have lB:=ED.lt;have MX:Hid _:=ED;clear Y5 T hY hqd M hqx ED HN5 Jv Kr AX
      go_upto_region 11 with fail
      rw[HW6.out];clear b0 b1 b2 nb TK;have Y6:Hid (uO ⟨(m:Int),far+cm,(m:Int)⟩ (Z m)=true->(∃V,ji (((Y.setCell ⟨B,m*3,ν⟩ (ι κ (m:Int))).setCell ⟨B,m*3+1,ν⟩ (ι κ (far+cm))).setCell ⟨B,m*3+2,ν⟩ (ι κ (m:Int))) B (hC V) 204/\RS C r V/\zW V Z/\DG C r V (m::p))/\ji (((Y.setCell ⟨B,m*3,ν⟩ (ι κ (m:Int))).setCell ⟨B,m*3+1,ν⟩ (ι κ (far+cm))).setCell ⟨B,m*3+2,ν⟩ (ι κ (m:Int))) N (bC (qG bn py)) 205/\w.grownBy (((Y.setCell ⟨B,m*3,ν⟩ (ι κ (m:Int))).setCell ⟨B,m*3+1,ν⟩ (ι κ (far+cm))).setCell ⟨B,m*3+2,ν⟩ (ι κ (m:Int))) (μ B)):=by
       intro hb;obtain⟨u1,u2,u3⟩:=HU.out hb;have J:N≠B:=by have:=HBN.out;omega
       refine⟨⟨_,?_,u1,u2,u3⟩,ji.other (ji.other (ji.other HN6.out J _) J _) J _,la (la (la HG6.out _ _) _ _) _ _⟩;rw[<-Js Z m ⟨(m:Int),far+cm,(m:Int)⟩ eB];exact ji.set (ji.set (ji.set MX.out _ _) _ _) _ _
      have Ya:Hid (¬uO ⟨(m:Int),far+cm,(m:Int)⟩ (Z m)=true->(∃V,ji Y B (hC V) 204/\RS C r V/\zW V Z/\DG C r V (m::p))/\ji Y N (bC (qG bn py)) 205/\w.grownBy Y (μ B)):=
       λhb=>⟨⟨Z,MX.out,H.out.1,zW.refl _,HV.out hb⟩,HN6.out,HG6.out⟩
      clear HN6 HG6 MX HU HV HPn;have hq5:U=0 \/(¬U=0/\far+cm<X) \/(¬U=0/\¬far+cm<X/\far+cm=X/\(m:Int)<qx) \/(¬U=0/\¬far+cm<X/\far+cm=X/\¬(m:Int)<qx) \/(¬U=0/\¬far+cm<X/\¬far+cm=X):=eB;rcases hq5 with c1|⟨c1,c2⟩|⟨c1,c2,c3,c4⟩|⟨c1,c2,c3,c4⟩|⟨c1,c2,c3⟩
      have Y7:(U==0)=true:=by simpa using c1
      obtain⟨⟨V,E,Gs,rG,RC⟩,A,j⟩:=Y6.out (D.out.2 (.inl (h.out.1 c1)));obtain⟨W7,NW⟩:=fq ((((Y.setCell ⟨B,m*3,ν⟩ (ι κ (m:Int))).setCell ⟨B,m*3+1,ν⟩ (ι κ (far+cm))).setCell ⟨B,m*3+2,ν⟩ (ι κ (m:Int))));clear c1
      rotate_left
      have Y7:(U==0)=false:=by simpa using c1
      have M:¬X=0:=λe=>c1 (h.out.2 e);obtain⟨⟨V,E,Gs,rG,RC⟩,A,j⟩:=Y6.out (D.out.2 (.inr (.inl c2)));obtain⟨W7,NW⟩:=fq ((((Y.setCell ⟨B,m*3,ν⟩ (ι κ (m:Int))).setCell ⟨B,m*3+1,ν⟩ (ι κ (far+cm))).setCell ⟨B,m*3+2,ν⟩ (ι κ (m:Int))));clear c1 M
      rotate_left
      have Y7:(U==0)=false:=by simpa using c1
      have M:¬X=0:=λe=>c1 (h.out.2 e);have c3':(far+cm==X)=true:=by simpa using c3
      obtain⟨⟨V,E,Gs,rG,RC⟩,A,j⟩:=Y6.out (D.out.2 (.inr (.inr ⟨c3,c4⟩)));obtain⟨W7,NW⟩:=fq ((((Y.setCell ⟨B,m*3,ν⟩ (ι κ (m:Int))).setCell ⟨B,m*3+1,ν⟩ (ι κ (far+cm))).setCell ⟨B,m*3+2,ν⟩ (ι κ (m:Int))));clear c1 M c3
      rotate_left
      have Y7:(U==0)=false:=by simpa using c1
      have M:¬X=0:=λe=>c1 (h.out.2 e);have c3':(far+cm==X)=true:=by simpa using c3
      obtain⟨⟨V,E,Gs,rG,RC⟩,A,j⟩:=Ya.out (λhb=>by have:=D.out.1 hb;omega);obtain⟨W7,NW⟩:=fq Y;clear c1 M c3
      rotate_left
      have Y7:(U==0)=false:=by simpa using c1
      have M:¬X=0:=λe=>c1 (h.out.2 e);have c3':(far+cm==X)=false:=by simpa using c3
      obtain⟨⟨V,E,Gs,rG,RC⟩,A,j⟩:=Ya.out (λhb=>by have:=D.out.1 hb;omega);obtain⟨W7,NW⟩:=fq Y;clear c1 M c3
      rotate_left
      all_goals
       rw[NW]at E A j;have kA:=HIH.out (m::p) m (far+cm) (m:Int) (qG bn py) V W7 (by simp;omega) eB HPs.out Gs E (tU HBW.out j xJ);have NY:ji W7 N (bC (qG bn py)) 205:=A;have Yb:(fe.info? 205).map (·.size)=μ (bC (qG bn py)).size:=by rw[Jz];exact Vo
       have Y8:Hid _:=rG;have HD1:Hid _:=RC;have HN1:Hid _:=A;have Bs:Hid _:=j;have HW7:Hid _:=NW;clear E Gs rG RC A j NW Ya Y6 D h;obtain⟨bb,JB⟩:=fq (bC (qG bn py));rw[JB]at kA NY Yb;have Vs:Hid _:=JB;clear JB
       go_upto_region 13 with fail
       rw[HW7.out];go_wp2_with(first
        |refine lI _ rfl (.tmp 10) 205 rfl N bb _ _ rfl NY underlying205 Yb ?_)
       refine kA.mono ?_;rintro e w8 ⟨rfl,⟨G2,hB8,hR8,Y9,hD8⟩,yZ⟩;have hN8:ji w8 N (bC (qG bn py)) 205:=ji.keep HN1.out (yZ.block N (ji.lt HN1.out) (λe=>by have:=HBN.out;simp at e;omega));have RD:Hid (RS C r G2/\zW G2 G/\∀x q,x<m+1->Ext C r p x q->DG C r G2 q):=by
        refine⟨hR8,Y9.trans (zW.trans Y8.out H.out.2.1),λx q hx hq=> ?_⟩;by_cases ex:x=m
        ·subst ex;obtain⟨q1,q2,e,rfl⟩:=hq;rcases cM e with rfl|⟨e',y,Cp⟩
         {exact DG.mono HD1.out Y9};{rw[cN]at Cp;subst Cp;exact hD8 y _ ⟨q1,q2,e',ik⟩}
        ·exact DG.mono (DG.mono (H.out.2.2 x q eB hq) Y8.out) Y9
       have HB8:Hid _:=hB8;have HN8:Hid _:=hN8;have HG8:Hid (w.grownBy w8 (μ B)):=⟨yZ.os.trans Bs.out.os,yZ.tape.trans Bs.out.tape,yZ.output.trans Bs.out.output,Nat.le_trans Bs.out.size yZ.size,λi hi J=>(yZ.block i (Nat.lt_of_lt_of_le hi Bs.out.size) J).trans (Bs.out.block i hi J)⟩
       clear kA hB8 hR8 Y9 hD8 yZ hN8 NY Yb
       go_wp2
       go_roundw
       case rel=>exact⟨m+1,G2,eB,eB,by go_num,RD.out,HB8.out,HN8.out,HG8.out⟩
       case measure=>simp[fh];omega
     ·have ak4:(by'==0)=false:=by simpa using wq
      have hE:nx=by':=by rw[<-HNX.out,af wq]
      subst hE;clear wq;obtain⟨U,hqd⟩:=fq ((Z m).dst);obtain⟨X,M⟩:=fq ((Z m).far);obtain⟨qx,hqx⟩:=fq ((Z m).sj);rw[hqd]at b0 h;rw[M]at b1 h D;rw[hqx]at b2 D;obtain⟨Y,Y5⟩:=fq (w5.alloc (γ #[ι κ U,ι κ X,ι κ qx] 98));have T:eH w5 Y:=by rw[<-Y5];exact gK _ _
      have hY:ji Y w5.heap.size #[ι κ U,ι κ X,ι κ qx] 98:=by rw[<-Y5];exact ji.new _ _ _
      have HW6:Hid _:=Y5;have ED:=ji.below Kr.out T;have HN6:Hid _:=ji.below HN5.out T;have HG6:Hid (w.grownBy Y (μ B)):=⟨T.os.trans Jv.out.os,T.tape.trans Jv.out.tape,T.output.trans Jv.out.output,Nat.le_trans Jv.out.size T.size,λi hi J=>(T.block i (Nat.lt_of_lt_of_le hi Jv.out.size)).trans (Jv.out.block i hi J)⟩
      have y0:Y.cell? ⟨w5.heap.size,0,ν⟩=μ (ι κ U):=hY.cell 0;have y1:Y.cell? ⟨w5.heap.size,1,ν⟩=μ (ι κ X):=hY.cell 1;have y2:Y.cell? ⟨w5.heap.size,2,ν⟩=μ (ι κ qx):=hY.cell 2;have ly:=hY.lt;have f0:=ED.frozen (m*3);have f1:=ED.frozen (m*3+1);have f2:=ED.frozen (m*3+2);have g0:=(T.cell (p:=⟨B,m*3,ν⟩) (ji.lt Kr.out)).trans b0;have g1:=(T.cell (p:=⟨B,m*3+1,ν⟩) (ji.lt Kr.out)).trans b1;have g2:=(T.cell (p:=⟨B,m*3+2,ν⟩) (ji.lt Kr.out)).trans b2;have lB:=ED.lt;have MX:Hid _:=ED;clear Y5 T hY hqd M hqx ED HN5 Jv Kr AX
      go_upto_region 11 with fail
      rw[HW6.out];clear b0 b1 b2 nb TK;have Y6:Hid (uO ⟨(m:Int),far+cm,nx⟩ (Z m)=true->(∃V,ji (((Y.setCell ⟨B,m*3,ν⟩ (ι κ (m:Int))).setCell ⟨B,m*3+1,ν⟩ (ι κ (far+cm))).setCell ⟨B,m*3+2,ν⟩ (ι κ nx)) B (hC V) 204/\RS C r V/\zW V Z/\DG C r V (m::p))/\ji (((Y.setCell ⟨B,m*3,ν⟩ (ι κ (m:Int))).setCell ⟨B,m*3+1,ν⟩ (ι κ (far+cm))).setCell ⟨B,m*3+2,ν⟩ (ι κ nx)) N (bC (qG bn py)) 205/\w.grownBy (((Y.setCell ⟨B,m*3,ν⟩ (ι κ (m:Int))).setCell ⟨B,m*3+1,ν⟩ (ι κ (far+cm))).setCell ⟨B,m*3+2,ν⟩ (ι κ nx)) (μ B)):=by
       intro hb;obtain⟨u1,u2,u3⟩:=HU.out hb;have J:N≠B:=by have:=HBN.out;omega
       refine⟨⟨_,?_,u1,u2,u3⟩,ji.other (ji.other (ji.other HN6.out J _) J _) J _,la (la (la HG6.out _ _) _ _) _ _⟩;rw[<-Js Z m ⟨(m:Int),far+cm,nx⟩ eB];exact ji.set (ji.set (ji.set MX.out _ _) _ _) _ _
      have Ya:Hid (¬uO ⟨(m:Int),far+cm,nx⟩ (Z m)=true->(∃V,ji Y B (hC V) 204/\RS C r V/\zW V Z/\DG C r V (m::p))/\ji Y N (bC (qG bn py)) 205/\w.grownBy Y (μ B)):=
       λhb=>⟨⟨Z,MX.out,H.out.1,zW.refl _,HV.out hb⟩,HN6.out,HG6.out⟩
      clear HN6 HG6 MX HU HV HPn;have hq5:U=0 \/(¬U=0/\far+cm<X) \/(¬U=0/\¬far+cm<X/\far+cm=X/\nx<qx) \/(¬U=0/\¬far+cm<X/\far+cm=X/\¬nx<qx) \/(¬U=0/\¬far+cm<X/\¬far+cm=X):=eB;rcases hq5 with c1|⟨c1,c2⟩|⟨c1,c2,c3,c4⟩|⟨c1,c2,c3,c4⟩|⟨c1,c2,c3⟩
      have Y7:(U==0)=true:=by simpa using c1
      obtain⟨⟨V,E,Gs,rG,RC⟩,A,j⟩:=Y6.out (D.out.2 (.inl (h.out.1 c1)));obtain⟨W7,NW⟩:=fq ((((Y.setCell ⟨B,m*3,ν⟩ (ι κ (m:Int))).setCell ⟨B,m*3+1,ν⟩ (ι κ (far+cm))).setCell ⟨B,m*3+2,ν⟩ (ι κ nx)));clear c1
      rotate_left
      have Y7:(U==0)=false:=by simpa using c1
      have M:¬X=0:=λe=>c1 (h.out.2 e);obtain⟨⟨V,E,Gs,rG,RC⟩,A,j⟩:=Y6.out (D.out.2 (.inr (.inl c2)));obtain⟨W7,NW⟩:=fq ((((Y.setCell ⟨B,m*3,ν⟩ (ι κ (m:Int))).setCell ⟨B,m*3+1,ν⟩ (ι κ (far+cm))).setCell ⟨B,m*3+2,ν⟩ (ι κ nx)));clear c1 M
      rotate_left
      have Y7:(U==0)=false:=by simpa using c1
      have M:¬X=0:=λe=>c1 (h.out.2 e);have c3':(far+cm==X)=true:=by simpa using c3
      obtain⟨⟨V,E,Gs,rG,RC⟩,A,j⟩:=Y6.out (D.out.2 (.inr (.inr ⟨c3,c4⟩)));obtain⟨W7,NW⟩:=fq ((((Y.setCell ⟨B,m*3,ν⟩ (ι κ (m:Int))).setCell ⟨B,m*3+1,ν⟩ (ι κ (far+cm))).setCell ⟨B,m*3+2,ν⟩ (ι κ nx)));clear c1 M c3
      rotate_left
      have Y7:(U==0)=false:=by simpa using c1
      have M:¬X=0:=λe=>c1 (h.out.2 e);have c3':(far+cm==X)=true:=by simpa using c3
      obtain⟨⟨V,E,Gs,rG,RC⟩,A,j⟩:=Ya.out (λhb=>by have:=D.out.1 hb;omega);obtain⟨W7,NW⟩:=fq Y;clear c1 M c3
      rotate_left
      have Y7:(U==0)=false:=by simpa using c1
      have M:¬X=0:=λe=>c1 (h.out.2 e);have c3':(far+cm==X)=false:=by simpa using c3
      obtain⟨⟨V,E,Gs,rG,RC⟩,A,j⟩:=Ya.out (λhb=>by have:=D.out.1 hb;omega);obtain⟨W7,NW⟩:=fq Y;clear c1 M c3
      rotate_left
      all_goals
       rw[NW]at E A j;have kA:=HIH.out (m::p) m (far+cm) nx (qG bn py) V W7 (by simp;omega) eB HPs.out Gs E (tU HBW.out j xJ);have NY:ji W7 N (bC (qG bn py)) 205:=A;have Yb:(fe.info? 205).map (·.size)=μ (bC (qG bn py)).size:=by rw[Jz];exact Vo
       have Y8:Hid _:=rG;have HD1:Hid _:=RC;have HN1:Hid _:=A;have Bs:Hid _:=j;have HW7:Hid _:=NW;clear E Gs rG RC A j NW Ya Y6 D h;obtain⟨bb,JB⟩:=fq (bC (qG bn py));rw[JB]at kA NY Yb;have Vs:Hid _:=JB;clear JB
       go_upto_region 13 with fail
       rw[HW7.out];go_wp2_with(first
        |refine lI _ rfl (.tmp 10) 205 rfl N bb _ _ rfl NY underlying205 Yb ?_)
       refine kA.mono ?_;rintro e w8 ⟨rfl,⟨G2,hB8,hR8,Y9,hD8⟩,yZ⟩;have hN8:ji w8 N (bC (qG bn py)) 205:=ji.keep HN1.out (yZ.block N (ji.lt HN1.out) (λe=>by have:=HBN.out;simp at e;omega));have RD:Hid (RS C r G2/\zW G2 G/\∀x q,x<m+1->Ext C r p x q->DG C r G2 q):=by
        refine⟨hR8,Y9.trans (zW.trans Y8.out H.out.2.1),λx q hx hq=> ?_⟩;by_cases ex:x=m
        ·subst ex;obtain⟨q1,q2,e,rfl⟩:=hq;rcases cM e with rfl|⟨e',y,Cp⟩
         {exact DG.mono HD1.out Y9};{rw[cN]at Cp;subst Cp;exact hD8 y _ ⟨q1,q2,e',ik⟩}
        ·exact DG.mono (DG.mono (H.out.2.2 x q eB hq) Y8.out) Y9
       have HB8:Hid _:=hB8;have HN8:Hid _:=hN8;have HG8:Hid (w.grownBy w8 (μ B)):=⟨yZ.os.trans Bs.out.os,yZ.tape.trans Bs.out.tape,yZ.output.trans Bs.out.output,Nat.le_trans Bs.out.size yZ.size,λi hi J=>(yZ.block i (Nat.lt_of_lt_of_le hi Bs.out.size) J).trans (Bs.out.block i hi J)⟩
       clear kA hB8 hR8 Y9 hD8 yZ hN8 NY Yb
       go_wp2
       go_roundw
       case rel=>exact⟨m+1,G2,eB,eB,by go_num,RD.out,HB8.out,HN8.out,HG8.out⟩
       case measure=>simp[fh];omega
   ·have ac0:¬(m:Int)<=6:=eB;have HR:Hid (∃Z,ji wr B (hC Z) 204/\RS C r Z/\zW Z G/\∀x q,Ext C r p x q->DG C r Z q):=by
     refine⟨Z,hB,H.out.1,H.out.2.1,λx q hq=>H.out.2.2 x q ?_ hq⟩;obtain⟨q1,_,e,rfl⟩:=hq;have:=(Lm q1 x ik).1;omega
    have Y4:Hid _:=vM;clear hB hN vM
    go_wp2
    first|go_end0|refine iX rfl rfl ?_
    exact⟨rfl,HR.out,Y4.out⟩
theorem RE(a:Option eh)(n cap:Nat)(S:Nat->SV)(E:Nat->List jQ)(r:Nat)(w:ew)(h:uv w a n S E)(hn:n<=1000)(jb:∀j,j<n->oK (S j).own (S j).seq (E j)=0)(lE:1<=r)(hr6:r<=6):
 fc fe 48 #[σ a n cap,ι κ (r:Int)] w λe w'=>∃b c,e=ρ (σ b (qq (kE (j7 S E n)) r).length c)/\NM w' b (qq (kE (j7 S E n)) r).length (qq (kE (j7 S E n)) r)/\eH w w':=by
 have V:Hid (∀(u v:Nat) W,eH w W->fc fe 159 #[σ a n cap,ι κ (u:Int),ι κ (v:Int)] W λe w'=>e=ρ (ι κ (kE (j7 S E n) u v))/\eH W w'):=
  λu v W hW=>Vd a n cap S E u v W (h.below hW) hn jb
 have Dg:=Cr (wH S E n jb);have A:=Ry S E n jb;have HI:Hid (∀u v,0<kE (j7 S E n) u v->(1<=u/\u<=6)/\1<=v/\v<=6):=Y0 S E n jb;generalize kE (j7 S E n)=C at V Dg A HI⊢;clear jb;have Gr:∀x y,0<=C x y:=λx y=>(Dg x y).1;have hz:=agi;have mS:=Y2;have r1:¬(r:Int)<1:=eB;have r2:¬6<(r:Int):=eB;obtain⟨Z,hZ⟩:=fq (bC (λ_=>false));obtain⟨Z2,X6⟩:=fq (hC (λ_=>HP.zero));rw[hZ]at hz;rw[X6]at mS;obtain⟨W1,kt⟩:=fq ((w.alloc (γ Z2 204)).alloc (γ Z 205));have k1:eH w W1:=by rw[<-kt];exact(gK _ _).alloc ik _
 have hB:ji W1 w.heap.size (hC λ_=>HP.zero) 204:=by rw[<-kt,X6];exact(ji.new w _ _).below (gK _ _)
 have hN:ji W1 (w.heap.size+1) Z 205:=by rw[<-kt];exact ji.Gy _ _ _ _ ik
 have Yb:(fe.info? 205).map (·.size)=μ Z.size:=by rw[<-hZ,Jz];exact Vo
 have Uq:Vq C r [] r 0 0 (λ_=>false):=by
  refine⟨.inl ⟨rfl,rfl,rfl,rfl⟩,da,λx=> ?_⟩;simp[qG]
 have hrs:RS C r (λ_=>HP.zero):=⟨⟨λ_=>Int.le_refl _,λn hn=>by simp[HP.zero]at hn⟩,λ_ _=>rfl⟩
 have kA:=RB a n cap r w C w.heap.size (Nat.le_refl _) V Dg HI 7 [] r 0 0 (λ_=>false) (λ_=>HP.zero) W1 rfl eB Uq hrs hB k1;rw[hZ]at kA;have Ks:Hid _:=kt;have HK1:Hid _:=k1;clear kt hZ X6 Uq hrs hB k1 V
 go_in
 go_upto_region 5 with fail
 rw[Ks.out];go_wp2_with(first
  |refine lI _ rfl (.tmp 6) 205 rfl (w.heap.size+1) Z _ _ rfl hN underlying205 Yb ?_)
 refine kA.mono ?_;rintro e J ⟨rfl,⟨G,De,Gp,_,hD2⟩,vM⟩;have sv:eH w J:=tU HK1.out vM (Nat.le_refl _);have kJ:=RA Gr (A r) G Gp (λq q1 q2=>by
  rcases cM q with rfl|⟨e,x,he⟩
  ·exact q1.elim
  ·rw[cN]at he;exact hD2 x q ⟨q1,q2,e,he⟩)
 have HD3:Hid (∀m:Nat,1<=m->((0:Int)<(G m).dst↔0<zZ C r m)/\(0<zZ C r m->G m=jF C r 6 m)):=by
  intro m hm;obtain⟨s1,s2⟩:=kJ m;refine⟨⟨λh9=> ?_,λh9=> ?_⟩,s2⟩;{by_cases e:0<zZ C r m;{exact e};{have e0:=NV Gr (A r) m;have:=Gp.z m eB;rw[this]at h9;simp[HP.zero]at h9}};{have:=(Gp.s.way m eB).1;omega}
 have HF0:Hid (zZ C r 0=0):=by
  show _=_;have e0:=NV Gr (A r) 0;by_cases e:0<zZ C r 0
  ·obtain⟨_,q,q1,_,q3,_⟩:=EC Gr (A r) 0 e;exfalso
   match q,q1,q3 with
   |[],q1,_=>exact q1
   |[x],q1,q3=>
    have:x=0:=by simpa using q3
    subst this;have:=HI.out _ _ q1.1;omega
   |x::y::l,q1,q3=>
    have:x=0:=by simpa using q3
    subst this;have:=HI.out _ _ q1.2.1;omega
  ·omega
 have HL:Hid (∀m,pD (jF C r 6) (m+1)=if 0<zZ C r m then pD (jF C r 6) m++ [jF C r 6 m]else pD (jF C r 6) m):=λm=>rfl;have HE:Hid (pD (jF C r 6) 7=qq C r):=rfl;have HLL:Hid (∀m,(pD (jF C r 6) m).length<=m):=rQ _;obtain⟨i0,hi,oN,nG,MY⟩:=aX PL;have A2:Hid _:=De;have HK2:Hid _:=sv;obtain⟨B,U⟩:=fq (w.heap.size);rw[U]at A2;rw[U];clear kA De Gp hD2 vM sv kJ hN Yb Ks U
 go_wp2
 go_loopw [7,8] (λs v wr=>∃m:Nat,1<=m/\m<=7/\v=ι κ m/\Row wr 3 s (pD (jF C r 6) m).length (NQ (pD (jF C r 6) m))/\(∀g,s.ownBlock=μ g->J.heap.size<=g)/\eH J wr) (λ_ v _=>7-(fh v).toNat)
 case atStart=>
  refine⟨1,eB,eB,rfl,?_,λg hg=>by simp[eD]at hg,au _ _⟩;have e:pD (jF C r 6) 1=[] :=by
   rw[HL.out 0,af (by rw[HF0.out];omega)];rfl
  rw[e];exact Row.nil _ _
 case round=>
  obtain⟨m,wv,hm7,rfl,X,jA,T⟩:=hrel;by_cases hm6:m<=6
  ·have ac0:(m:Int)<=6:=eB;have ak0:(m:Int)<7:=eB;obtain⟨p0,p1,p2⟩:=Bj G m eB;have YX:=ji.below A2.out T;have c0:=(YX.cell (m*3)).trans p0;have c1:=(YX.cell (m*3+1)).trans p1;have c2:=(YX.cell (m*3+2)).trans p2;clear p0 p1 p2 YX;obtain⟨d1,d2⟩:=HD3.out m wv;have HS:Hid _:=HL.out m;have hll:=HLL.out m;have Bq:Hid _:=jA;have HB:Hid _:=T;by_cases hf:0<zZ C r m
   ·have Y:0<(G m).dst:=d1.2 hf;have he:=d2 hf;have zQ:Hid (pD (jF C r 6) (m+1)=pD (jF C r 6) m++ [G m]):=by show _=_;rw[HS.out,ai hf,he]
    obtain⟨p,hp⟩:=fq (G m);rw[hp]at c0 c1 c2 Y zQ;obtain⟨pd,pf,px⟩:=p;simp only at c0 c1 c2 Y;obtain⟨L,hLe⟩:=fq (pD (jF C r 6) m);rw[hLe]at zQ X hll;have hws:Hid (J.heap.size<=wr.heap.size):=T.size;clear hp hLe d1 d2 hf he jA T HS;go_wp2_with(at_builtin;go_must(refine iU _ rfl (.tmp 28) (.tmp 32) 94 rfl 98 i0 (.agg #[ι κ 0,ι κ 0,ι κ 0]) 3 24 underlying94 hi oN nG MY rfl eF u7 L.length (NQ L) rfl (X.alloc _) _ 1 1 [ι κ pd,ι κ pf,ι κ px] rfl rfl eF (zV _ _ _ _ _ _ ik) (Vh _ _ _) (by unfold maxLen;omega) eB ?_));intro g' jH w3 tu H tC;have HR3:Hid (Row w3 3 (σ (μ ⟨g',0,ν⟩) (L.length+1) jH) (L++ [(⟨pd,pf,px⟩:HP)]).length (NQ (L++ [(⟨pd,pf,px⟩:HP)]))):=by
     show Row _ _ _ _ _;rw[Li,aA];exact tu
    have M:eH J (wr.alloc (γ #[ι κ pd,ι κ pf,ι κ px] 98)):=fZ HB.out HB.out.size _;have Ez:Hid (eH J w3):=⟨H.os.trans M.os,H.tape.trans M.tape,H.output.trans M.output,Nat.le_trans M.size H.size,λi hi=>(H.block i (Nat.lt_of_lt_of_le hi M.size) (λe=>by have:=Bq.out i e.symm;omega)).trans (M.block i hi)⟩
    have HG3:Hid (∀g,eD (σ (μ ⟨g',0,ν⟩) (L.length+1) jH)=μ g->J.heap.size<=g):=by
     intro g hg;have QV:g'=g:=by simpa[eD]using hg
     subst QV;rcases tC with e|e
     {exact Bq.out _ e};{have:=hws.out;omega}
    clear tu H tC M X c0 c1 c2
    go_wp2
    go_roundw
    case rel=>exact⟨m+1,eB,eB,by go_num,by rw[zQ.out];exact HR3.out,HG3.out,Ez.out⟩
    case measure=>simp[fh];omega
   ·have Y:¬0<(G m).dst:=λe=>hf (d1.1 e);have zQ:Hid (pD (jF C r 6) (m+1)=pD (jF C r 6) m):=by show _=_;rw[HS.out,af hf]
    generalize (G m).dst=pd at c0 Y;have wI:Hid _:=X;clear d1 d2 hf HS jA T X c1 c2
    go_wp2
    go_roundw
    case rel=>exact⟨m+1,eB,eB,by go_num,by rw[zQ.out];exact wI.out,Bq.out,HB.out⟩
    case measure=>simp[fh];omega
  ·have ac0:¬(m:Int)<=6:=eB;have RF:m=7:=eB;subst RF;rw[HE.out]at X;obtain⟨ra,rc,rfl,hR⟩:=Row.hs X;have HR:Hid _:=hR;have D:Hid _:=fP HK2.out T;clear hR X jA T
   go_wp2
   go_ret
   first|exact⟨_,_,rfl,HR.out,D.out⟩|exact⟨_,⟨_,rfl⟩,HR.out,D.out⟩
