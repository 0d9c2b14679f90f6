import Derived.Test.YtieklnlbljejdaaGreatDoorM01
open Go.Value renaming int → ι, slice → σ, pointer → π, tuple → τ, nilIface → η
open Go.IntKind renaming i64 → κ
open Go.Ending renaming returned → ρ
open Go.Obj renaming cells → γ
open Option renaming none → ν, some → μ
open Go renaming World → dY, Value → dZ, TypeId → ew, Calls → eW
open Go.World renaming setRow → fM
open Go.Instr renaming loadAt → fN, sureAddr → fO, storeAt → fS
open Go.Sem renaming run_bind → fP, run_pure → fQ
open Go.Result renaming andThen → fR, andThen_ok → eI
open Array renaming range → fT, mem_map → fU
open Go.Proofs.Tryz renaming prog → eX
open Go.RowKit renaming intOf → eY
open Go.IntKind renaming i64 → ft
open Go.Value renaming int → eB, ownBlock → eu
set_option maxRecDepth 100000
set_option maxHeartbeats 8000000
open Go.Proofs.Tryz
namespace Go.Proofs.YtieklnlbljejdaaGreatDoor
open Go.RowKit St
variable {B n:Nat} {Q:Exit->Act->World->Prop} {a w:World} {o:Oper} {ops:Array Oper} {rest:List Oper}
theorem iX.setRow {w:dY} {B:Nat} {C D:Array dZ} {t:ew} (h:iX w B C t):iX (w.setRow B D) B D t:=by
 unfold iX at*;simp only[fM];rw[cH,ai rfl,h];rfl
theorem oK(h:Below n w a)(hB:n<=B)(D:Array dZ):Below n w (a.setRow B D):=by
 refine⟨h.os,h.tape,h.output,by simpa[fM]using h.size,λi hi=> ?_⟩;rw[<-h.block i hi];simp only[fM];rw[cH,af eh]
theorem iX.T6 {B':Nat} {C D:Array dZ} {t:ew} (h:iX w B C t)(Z:B≠B'):iX (w.setRow B' D) B C t:=by
 unfold iX at*;simp only[fM];rw[cH,af (λe=>Z e.symm)];exact h
section
variable {P:Program}
theorem iX.loadAt {w:dY} {B:Nat} {C:Array dZ} {t:ew} (h:iX w B C t)(n:Nat)(e:ew)(Z:P.underlying t=μ (.array n e))(hi:(P.info? t).map (·.size)=μ C.size):(fN t (π (μ ⟨B,0,ν⟩))).run P w=.ok (.agg C) w:=by
 simp only[fN,fO,fP,fQ,fR];exact bU w B t t C (0,0) _ h Z rfl hi
theorem iX.storeAt {w:dY} {B:Nat} {C D:Array dZ} {t:ew} (h:iX w B C t)(hs:C.size=D.size)(hi:(P.info? t).map (·.size)=μ D.size)(Z:D.all (·.oneCell')=true):(fS t (π (μ ⟨B,0,ν⟩)) (.agg D)).run P w=.ok () (w.setRow B D):=by
 simp only[fS,fO,fP,fQ,fR];exact run_storeVar_row w B t t C D h hi hs Z
theorem lg(w:dY) {a:Act} (U:o.guard=ν)(x:Operand)(t:ew)(Y:o.op=.load t x)
 (B:Nat) (C:Array dZ) (n:Nat) (e:ew) (hx:a.eval x=π (μ ⟨B,0,ν⟩)) (hb:iX w B C t) (V:P.underlying t=μ (.array n e)) (hi:(P.info? t).map (·.size)=μ C.size)
 (h:wpList P ops Q rest (a.put o.dst (.agg C)) w):wpList P ops Q (o::rest) a w:=by
 refine wpList_plain U λK Z=> ?_;have X:=hb.loadAt n e V hi;unfold Oper.wp execOp;simp only[Y,fP,fQ,eI,hx,X];exact Z _ _ h
theorem mB(w:dY) {a:Act} (U:o.guard=ν)(x y:Operand)(t:ew)(X:o.op=.store t x y)
 (B:Nat) (C D:Array dZ) (hx:a.eval x=π (μ ⟨B,0,ν⟩)) (hy:a.eval y=.agg D) (hb:iX w B C t) (hs:C.size=D.size) (hi:(P.info? t).map (·.size)=μ D.size) (Z:D.all (·.oneCell')=true)
 (h:wpList P ops Q rest (a.put o.dst undef) (w.setRow B D)):wpList P ops Q (o::rest) a w:=by
 refine wpList_plain U λK Y=> ?_;have V:=hb.storeAt hs hi Z;unfold Oper.wp execOp;simp only[X,fP,fQ,eI,hx,hy,V];exact Y _ _ h
end
abbrev kV:=Nat->Nat->Int
def gC(C:kV):Array dZ:=(fT 49).map λi=>ι κ (C (i/7) (i%7))
theorem pX(C:kV):(gC C).size=49:=by simp[gC]
theorem Kw(C:kV)(i:Nat)(h:i<49):(gC C)[i]? =μ (ι κ (C (i/7) (i%7))):=by simp[gC,h]
theorem AG(C:kV)(a b:Nat)(ha:a<7)(hb:b<7):(gC C)[a*7+b]? =μ (ι κ (C a b)):=by
 rw[Kw C _ eh];rw[show(a*7+b)/7=a by omega,show(a*7+b) %7=b by omega]
def tM(C:kV)(a b:Nat)(v:Int):kV:=λx y=>if x=a/\y=b then v else C x y
theorem T7(C:kV)(a b:Nat)(v:Int)(hb:b<7):(gC C).setIfInBounds (a*7+b) (ι κ v)=gC (tM C a b v):=by
 apply bS;intro i;rw[bq];by_cases hi:i<49
 ·rw[Kw _ i hi,Kw _ i hi,pX];by_cases e:a*7+b=i
  ·rw[ai e,ai eh];have Z:i/7=a:=eh;have Y:i%7=b:=eh;simp[tM,Z,Y]
  ·rw[af e];have:¬(i/7=a/\i%7=b):=eh;simp only[tM,if_neg this]
 ·have hs:∀D:kV,(gC D)[i]? =ν:=λD=>bg (by rw[pX];omega);rw[hs,hs];split
  ·rw[af (by rw[pX];omega)]
  ·rfl
theorem MX(C:kV):(gC C).all (·.oneCell')=true:=by
 rw[ch];intro v hv;obtain⟨i,_,rfl⟩:=fU.1 hv;rfl
structure HP where
 dst:Int
 far:Int
 rG:Int
def HP.zero:HP:=⟨0,0,0⟩
def Kx(H:Nat->HP)(i:Nat):dZ:=ι κ (if i%3=0 then(H (i/3)).dst else if i%3=1 then(H (i/3)).far else(H (i/3)).rG)
def hC(H:Nat->HP):Array dZ:=(fT 21).map (Kx H)
theorem tu(H:Nat->HP):(hC H).size=21:=by simp[hC]
theorem D5(H:Nat->HP)(i:Nat)(h:i<21):(hC H)[i]? =μ (Kx H i):=by simp[hC,h]
theorem AH(H:Nat->HP)(n:Nat)(hn:n<7):(hC H)[n*3]? =μ (ι κ (H n).dst)/\(hC H)[n*3+1]? =μ (ι κ (H n).far)/\(hC H)[n*3+2]? =μ (ι κ (H n).rG):=by
 rw[D5 _ _ eh,D5 _ _ eh,D5 _ _ eh];unfold Kx;rw[show n*3%3=0 by omega,show n*3/3=n by omega,show(n*3+1) %3=1 by omega,show(n*3+1)/3=n by omega,show(n*3+2) %3=2 by omega,show(n*3+2)/3=n by omega];exact⟨rfl,rfl,rfl⟩
theorem T8(H:Nat->HP):(hC H).all (·.oneCell')=true:=by
 rw[ch];intro v hv;obtain⟨i,_,rfl⟩:=fU.1 hv;rfl
def rh(H:Nat->HP)(n:Nat)(p:HP):Nat->HP:=λx=>if x=n then p else H x
theorem IY(H:Nat->HP)(n:Nat)(p:HP)(hn:n<7):(((hC H).setIfInBounds (n*3) (ι κ p.dst)).setIfInBounds (n*3+1) (ι κ p.far)).setIfInBounds (n*3+2) (ι κ p.rG)=hC (rh H n p):=by
 apply bS;intro i;rw[bq,bq,bq];simp only[Array.size_setIfInBounds,tu];by_cases hi:i<21
 ·rw[D5 _ i hi,D5 _ i hi];unfold Kx;by_cases e:i/3=n
  ·have Y:rh H n p (i/3)=p:=by simp[rh,e]
   rw[Y];rcases(show i%3=0 \/i%3=1 \/i%3=2 by omega)with Z|Z|Z
   ·rw[af (show¬n*3+2=i by omega),af (show¬n*3+1=i by omega),ai (show n*3=i by omega),ai eh,ai Z]
   ·rw[af (show¬n*3+2=i by omega),ai (show n*3+1=i by omega),ai eh,af eh,ai Z]
   ·rw[ai (show n*3+2=i by omega),ai eh,af eh,af eh]
  ·have Y:rh H n p (i/3)=H (i/3):=by simp[rh,e]
   rw[Y,af (show¬n*3+2=i by omega),af (show¬n*3+1=i by omega),af (show¬n*3=i by omega)]
 ·have hs:∀D:Nat->HP,(hC D)[i]? =ν:=λD=>bg (by rw[tu];omega);rw[hs,hs,af (show¬n*3+2=i by omega),af (show¬n*3+1=i by omega),af (show¬n*3=i by omega)]
theorem OX:(eX.info? 256).map (λi=>(i.zero,i.size))=μ (μ (.agg (gC λ_ _=>0)),49):=gq
theorem OY:(eX.info? 259).map (λi=>(i.zero,i.size))=μ (μ (.agg (hC λ_=>HP.zero)),21):=gq
theorem AJ(w:dY):(zeroValue 256).run eX w=.ok (.agg (gC λ_ _=>0)) w:=(bV OX).1 w
theorem Ky(w:dY):(zeroValue 259).run eX w=.ok (.agg (hC λ_=>HP.zero)) w:=(bV OY).1 w
theorem xd:(eX.info? 256).map (·.size)=μ 49:=(bV OX).2
theorem IZ:(eX.info? 259).map (·.size)=μ 21:=(bV OY).2
structure OZ(w:dY)(a:Option Addr)(n:Nat)(L:List HP):Prop where
 len:L.length=n
 row:n=0 \/ ∃b off,a=μ ⟨b,off,ν⟩/\∀j h,L[j]? =μ h->w.cell? ⟨b,off+j*3,ν⟩=μ (ι κ h.dst)/\w.cell? ⟨b,off+j*3+1,ν⟩=μ (ι κ h.far)/\w.cell? ⟨b,off+j*3+2,ν⟩=μ (ι κ h.rG)
theorem OZ.below {w':dY} {a:Option Addr} {L:List HP} (h:OZ w a n L)(hb:eE w w'):OZ w' a n L:=by
 refine⟨h.len,?_⟩;rcases h.row with Z|⟨b,off,rfl,Z⟩
 ·exact .inl Z
 ·refine .inr ⟨b,off,rfl,λj s e=> ?_⟩;obtain⟨c1,c2,c3⟩:=Z j s e;have l:=ag w _ c1;exact⟨(hb.cell (p:=⟨b,off+j*3,ν⟩) l).trans c1,(hb.cell (p:=⟨b,off+j*3+1,ν⟩) l).trans c2,(hb.cell (p:=⟨b,off+j*3+2,ν⟩) l).trans c3⟩
structure ZZ(w w':dY)(a:Option Addr)(n:Nat)(L:List HP):Prop where
 r:OZ w' a n L
 nw:∀x,a=μ x->w.heap.size<=x.block
def yt(L:List HP)(n:Int):Nat->Option Nat
 |0=>none
 |k+1=>match yt L n k with|some i=>some i|none=>(match L[k]? with|some h=>if h.dst=n then some k else none|none=>none)
def abo:Option Nat->Int
 |none=> -1
 |some i=>(i:Int)
theorem T9(pd pf V x:Int)(X:Nat)(w:dY)(Y:w.cell? ⟨X,0,ν⟩=μ (ι κ x)):
 eW eX 219 #[.agg #[ι κ pd,ι κ pf,ι κ V],π (μ ⟨X,0,ν⟩)] w λe w'=>e=ρ (.bool (pd==x))/\eE w w':=by
 have U:X<w.heap.size:=ag w _ Y;have Z:=gW w (γ #[ι κ pd,ι κ pf,ι κ V] 98);have rK:=(Z.cell (p:=⟨X,0,ν⟩) U).trans Y
 go_in
 go_wp2
 go_ret;exact⟨rfl,Z⟩
theorem Ge(a:Option Addr)(n cap:Nat)(L:List HP)(x:Int)(X:Nat)(w:dY)(h:OZ w a n L)(hn:n<=1000)(H:w.cell? ⟨X,0,ν⟩=μ (ι κ x)):
 eW eX 218 #[σ a n cap,.func (.func 219) #[] #[π (μ ⟨X,0,ν⟩)]] w λe w'=>e=ρ (ι κ (abo (yt L x n)))/\eE w w':=by
 go_in
 go_wp2
 go_loopw [8] (λv wr=>∃k:Nat,k<=n/\v=ι κ k/\yt L x k=ν/\eE w wr) (λv _=>n-(eY v).toNat)
 case atStart=>exact⟨0,Nat.zero_le _,rfl,rfl,av _ _⟩
 case round=>
  obtain⟨k,hk,rfl,A,U⟩:=hrel;have G:Hid _:=A;clear A;by_cases kB:k<n
  ·have nQ:(k:Int)<(n:Int):=eh;have D:=h.below U;have hl:=h.len;rcases D.row with h1|⟨b,off,rfl,hc⟩
   ·omega
   have S:L[k]? =μ (L[k]'(by omega)):=az eh;obtain⟨c0,c1,c2⟩:=hc k _ S;have M:Hid (yt L x (k+1)=if(L[k]'(by omega)).dst=x then μ k else ν):=by
    show _=_;simp only[yt,G.out,S]
   generalize L[k]'(by omega)=p at c0 c1 c2 M S;obtain⟨pd,pf,u⟩:=p;simp only at c0 c1 c2 M;have j:X<w.heap.size:=ag w _ H;have Z:=T9 pd pf u x X wr ((U.cell (p:=⟨X,0,ν⟩) j).trans H);have E:Hid _:=U;clear hc D S U;by_cases Y:pd=x
   ·have V:(pd==x)=true:=by simpa using Y
    rw[V]at Z;have T:Hid (yt L x n=μ k):=by
     have mono:∀d,yt L x (k+1+d)=μ k:=by
      intro d
      induction d with
      |zero=>rw[Nat.add_zero,M.out,ai Y]
      |succ d ih=>rw[<-Nat.add_assoc];simp only[yt,ih]
     have:=mono (n-(k+1))
     rwa [show k+1+(n-(k+1))=n by omega]at this
    clear Y V;go_wp2_with(fail);refine Z.mono ?_;rintro e w1 ⟨rfl,k1⟩;have J:Hid _:=gk E.out k1;clear Z k1
    go_wp2
    go_ret;exact⟨by rw[T.out];rfl,J.out⟩
   ·have V:(pd==x)=false:=by simpa using Y
    rw[V]at Z;have T:Hid (yt L x (k+1)=ν):=by show _=_;rw[M.out,af Y]
    clear Y V;go_wp2_with(fail);refine Z.mono ?_;rintro e w1 ⟨rfl,k1⟩;have J:Hid _:=gk E.out k1;clear Z k1
    go_wp2
    go_roundw
    case rel=>exact⟨k+1,eh,by go_num,T.out,J.out⟩
    case measure=>simp[eY];omega
  ·have xP:¬(k:Int)<(n:Int):=eh;have y:k=n:=eh;have T:Hid (yt L x n=ν):=by rw[<-y];exact G.out
   clear y
   go_wp2
   go_ret;exact⟨by rw[T.out];rfl,U⟩
def AL(L:List HP)(n:Int):Option HP:=L.find? λh=>h.dst==n
theorem GZ(L:List HP)(n:Int):∀k,k<=L.length->(match yt L n k with|some i=>i<k/\L[i]? =AL (L.take k) n/\(AL (L.take k) n).isSome=true|none=>AL (L.take k) n=none)
 |0,_=>by simp[yt,AL]
 |k+1,hk=>by
  have ih:=GZ L n k eh;have Y:AL (L.take (k+1)) n=(AL (L.take k) n).or (if(L[k]'(by omega)).dst=n then μ (L[k]'(by omega))else ν):=by
   unfold AL;rw[aB eh,List.find?_append];congr 1;by_cases e:(L[k]'(by omega)).dst=n<;>simp[e]
  simp only[yt];cases hi:yt L n k with
  |some i=>
   rw[hi]at ih;obtain⟨h1,X,Z⟩:=ih;simp only;rw[Y];cases e:AL (L.take k) n with
   |none=>rw[e]at Z;cases Z
   |some q=>rw[e]at X;exact⟨eh,by simpa using X,rfl⟩
  |none=>
   rw[hi]at ih;simp only at ih⊢;have V:L[k]? =μ (L[k]'(by omega)):=az eh;rw[Y,ih,V];by_cases e:(L[k]'(by omega)).dst=n
   ·simp[e]
   ·simp[e]
theorem abp(a:Option Addr)(n cap:Nat)(L:List HP)(x:Int)(w:dY)(h:OZ w a n L)(hn:n<=1000):
 eW eX 199 #[σ a n cap,ι κ x] w λe w'=>e=ρ (τ #[.agg #[ι κ ((AL L x).getD HP.zero).dst,ι κ ((AL L x).getD HP.zero).far,ι κ ((AL L x).getD HP.zero).rG],.bool (AL L x).isSome])/\eE w w':=by
 obtain⟨T,X⟩:=gg ((w.alloc (γ #[ι κ x] 3)).alloc (γ #[ι κ 0,ι κ 0,ι κ 0] 98));have E:eE w T:=by rw[<-X];exact(gW _ _).alloc gY _
 have A:iX T w.heap.size #[ι κ x] 3:=by rw[<-X];exact(iX.new w _ _).below (gW _ _)
 have j:iX T (w.heap.size+1) #[ι κ 0,ι κ 0,ι κ 0] 98:=by rw[<-X];exact iX.F8 _ _ _ _ gY
 have V:=Ge a n cap L x w.heap.size T (h.below E) hn (A.cell 0);have Y:=GZ L x L.length (Nat.le_refl _);rw[cr,h.len]at Y;have hW:Hid _:=X;clear X
 go_in
 go_wp2_with(fail);rw[hW.out];refine V.mono ?_;rintro e M ⟨rfl,k2⟩;have Z:=j.below k2;have H:=gk E k2;have y0:M.cell? ⟨w.heap.size+1,0,ν⟩=μ (ι κ 0):=Z.cell 0;have y1:M.cell? ⟨w.heap.size+1,1,ν⟩=μ (ι κ 0):=Z.cell 1;have y2:M.cell? ⟨w.heap.size+1,2,ν⟩=μ (ι κ 0):=Z.cell 2;have f0:=Z.frozen 0;have f1:=Z.frozen 1;have f2:=Z.frozen 2;have lY:=Z.lt;have J:=h.below H;have HY2:Hid _:=Z;have y:Hid _:=H;clear V A j k2 E hW Z H;cases hi:yt L x n with
 |none=>
  rw[hi]at Y;simp only at Y;have G:Hid ((AL L x).getD HP.zero=HP.zero):=by show _=_;rw[Y];rfl
  have D:Hid ((AL L x).isSome=false):=by show _=_;rw[Y];rfl
  have hv:abo ν= -1:=rfl;rw[hv];clear Y J hv;go_wp2_with(fail);refine aF (v:=τ #[.agg #[ι κ 0,ι κ 0,ι κ 0],.bool false]) (by simp[results,results199,go_sem,y0,y1,y2]) rfl ?_;exact⟨by rw[G.out,D.out];rfl,bz (bz (bz y.out (by show w.heap.size<=w.heap.size+1;omega) _) (by show w.heap.size<=w.heap.size+1;omega) _) (by show w.heap.size<=w.heap.size+1;omega) _⟩
 |some i=>
  rw[hi]at Y;obtain⟨h1,S,u⟩:=Y;have kS:(i:Int)<(n:Int):=eh;have O1:¬(i:Int)<0:=eh;obtain⟨p,U⟩:∃p,AL L x=μ p:=Option.isSome_iff_exists.1 u;rw[U]at S;have G:Hid ((AL L x).getD HP.zero=p):=by show _=_;rw[U];rfl
  have D:Hid ((AL L x).isSome=true):=by show _=_;rw[U];rfl
  have hv:abo (μ i)=(i:Int):=rfl;rw[hv];clear hv;rcases J.row with e|⟨b,off,rfl,hc⟩
  ·omega
  obtain⟨c0,c1,c2⟩:=hc i p S;obtain⟨pd,pf,px⟩:=p;simp only at c0 c1 c2;have ju:b≠w.heap.size+1:=by
   rcases h.row with e|⟨b',ai6,e',jX⟩
   ·omega
   ·cases e';have:=ag w _ (jX i _ S).1;simp only at this;omega
  clear h1 S u U hc J;go_wp2_with(fail);refine aF (v:=τ #[.agg #[ι κ pd,ι κ pf,ι κ px],.bool true]) (by simp[results,results199,go_sem,y0,y1,y2]) rfl ?_;exact⟨by rw[G.out,D.out],bz (bz (bz y.out (by show w.heap.size<=w.heap.size+1;omega) _) (by show w.heap.size<=w.heap.size+1;omega) _) (by show w.heap.size<=w.heap.size+1;omega) _⟩
def ni(C:kV)(o:Nat)(es:List jE):kV:=es.foldl (λC e=>tM C o e.1.toNat e.2) C
theorem G0(C:kV)(o:Nat)(es:List jE)(k:Nat)(h:k<es.length):ni C o (es.take (k+1))=tM (ni C o (es.take k)) o (es[k].1.toNat) (es[k].2):=by
 unfold ni;rw[aB h,da];rfl
def jV(S:Nat->SV)(E:Nat->List jE):Nat->kV
 |0=>λ_ _=>0
 |i+1=>ni (jV S E i) (S i).own.toNat (E i)
theorem Qw(a:Option Addr)(n cap:Nat)(S:Nat->SV)(E:Nat->List jE)(w:dY)(h:vP w a n S E)(hn:n<=1000)(iN:∀j,j<n->oy (S j).own (S j).seq (E j)=0):
 eW eX 162 #[σ a n cap] w λe w'=>e=ρ (.agg (gC (jV S E n)))/\eE w w':=by
 have hz:=AJ;have Qx:Hid _:=iN;clear iN;obtain⟨Z,hZ⟩:=gg (gC (λ_ _=>0));rw[hZ]at hz
 go_in
 go_wp2_with(fail);obtain⟨W0,nX⟩:=gg ((w.alloc (γ Z 256)).alloc (γ Z 256));have yo:eE w W0:=by rw[<-nX];exact(gW _ _).alloc gY _
 have xe:iX W0 w.heap.size Z 256:=by rw[<-nX];exact(iX.new w Z _).below (gW _ _)
 have rH:iX W0 (w.heap.size+1) (gC (jV S E 0)) 256:=by rw[<-nX];show iX _ _ (gC λ_ _=>0) _;rw[hZ];exact iX.F8 _ _ _ _ gY
 rw[nX];clear nX;obtain⟨V,FP⟩:=gg (w.heap.size);have vN:w.heap.size<=V:=eh;rw[FP]at xe rH;rw[FP];clear FP
 go_loopw [10] (λv wr=>∃i:Nat,i<=n/\v=ι κ i/\iX wr (V+1) (gC (jV S E i)) 256/\iX wr V Z 256/\eE w wr) (λv _=>n-(eY v).toNat)
 case atStart=>exact⟨0,Nat.zero_le _,rfl,rH,xe,yo⟩
 case round=>
  clear xe rH yo;obtain⟨i,hi,rfl,T,M,U⟩:=hrel;by_cases y:i<n
  ·have nQ:(i:Int)<(n:Int):=eh;have hw:=h.below U;obtain⟨ho,nh,hx⟩:=hw.opt i y;have iW:=hw.row;rcases iW with h1|⟨sb,off,rfl,hcs⟩
   ·omega
   obtain⟨c0,c1,c2⟩:=hcs i y;have H:=Qx.out i y;have HOW:=(h.opt i y).1;have HT:Hid (jV S E (i+1)=ni (jV S E i) (S i).own.toNat (E i)):=rfl;obtain⟨s,hs⟩:=gg (S i);obtain⟨es,he⟩:=gg (E i);rw[hs]at c0 c1 c2 ho nh hx H HT HOW;rw[he]at ho H HT HOW;clear hs he hcs hw;obtain⟨so,sq,sa,sn,sc⟩:=s;simp only at c0 c1 c2 ho nh hx H HT HOW;have XO:=(jt H).1;obtain⟨o,rfl⟩:∃o:Nat,so=(o:Int):=⟨so.toNat,eh⟩
   rw[Int.toNat_natCast]at HT;have XP:=pU _ es 0 (jt H).2.2.2;have HES:Hid _:=XP;have HOL:=ho.1;have hsn:sn<=6:=by have:=(jt H).2.2.1;omega
   have Gf:=U.alloc U.size (γ #[ι κ (o:Int),ι κ sq,σ sa sn sc] 40);have sD:=Az (o:Int) sq sa sn sc es _ hx (HOW.below Gf);have ud:Hid (jm (oy (o:Int) sq es)=η):=by show _=_;rw[H];rfl
   rw[ud.out]at sD;have G:=iX.new wr #[ι κ (o:Int),ι κ sq,σ sa sn sc] 40;have hG2:=T.below (gW wr (γ #[ι κ (o:Int),ι κ sq,σ sa sn sc] 40));have W9:=M.below (gW wr (γ #[ι κ (o:Int),ι κ sq,σ sa sn sc] 40));have u:Hid _:=Gf;have Hwl:Hid (V+1<wr.heap.size):=T.lt;have Hlw:Hid _:=U.size;have HX:Hid _:=G;have HG2:Hid _:=hG2;have HZ2:Hid _:=W9;clear XP H U T M G hG2 W9 ho nh hx Gf;go_wp2_with(fail);refine sD.mono ?_;rintro e w1 ⟨rfl,k1⟩;have A:=iX.below HX.out k1;have HG1:Hid _:=iX.below HG2.out k1;have HZ1:Hid _:=iX.below HZ2.out k1;have Hb1:Hid _:=gk u.out k1;obtain⟨X,Mq⟩:=gg (wr.heap.size);rw[Mq]at A;have ajC:Hid (V+1<X):=by show _<_;rw[<-Mq];exact Hwl.out
   have aoL:Hid (w.heap.size<=X):=by show _<=_;rw[<-Mq];exact Hlw.out
   rw[Mq];have x0:w1.cell? ⟨X,0,ν⟩=μ (ι κ (o:Int)):=A.cell 0;have x1:w1.cell? ⟨X,1,ν⟩=μ (ι κ sq):=A.cell 1;have x2:w1.cell? ⟨X,2,ν⟩=μ (σ sa sn sc):=A.cell 2;have HX1:Hid _:=A;clear sD k1 Mq A HX HG2 HZ2 u Hwl Hlw c0 c1 c2;go_wp2_with(fail);obtain⟨W1,rfl⟩:∃W1,W1=w1:=⟨_,rfl⟩
   clear x0 x1 x2
   go_loopw [20] (λv wr=>∃k:Nat,k<=sn/\v=ι κ k/\iX wr (V+1) (gC (ni (jV S E i) o (es.take k))) 256/\iX wr V Z 256/\iX wr X #[ι κ (o:Int),ι κ sq,σ sa sn sc] 40/\eE w wr) (λv _=>sn-(eY v).toNat)
   case atStart=>exact⟨0,Nat.zero_le _,rfl,HG1.out,HZ1.out,HX1.out,Hb1.out⟩
   case round=>
    clear HG1 HZ1 HX1 Hb1;obtain⟨k,hk,rfl,T,M,G,U⟩:=hrel;by_cases AK:k<sn
    ·have aeW:(k:Int)<(sn:Int):=eh;have XQ:=HOW.below U;rcases XQ.2 with h1|⟨eb,ajD,rfl,hec⟩
     ·omega
     obtain⟨d0,d1⟩:=hec k eh;have G4:=HES.out _ (aG (show k<es.length by omega));have HP:Hid (ni (jV S E i) o (es.take (k+1))=tM (ni (jV S E i) o (es.take k)) o ((es[k]'(by omega)).1.toNat) ((es[k]'(by omega)).2)):=G0 _ o es k eh;obtain⟨p,hp⟩:=gg (es[k]'(by omega));rw[hp]at d0 d1 G4 HP;obtain⟨pt,pm⟩:=p;simp only at d0 d1 G4 HP;obtain⟨t,rfl⟩:∃t:Nat,pt=(t:Int):=⟨pt.toNat,eh⟩
     rw[Int.toNat_natCast]at HP;obtain⟨D,nr⟩:=gg (wr.alloc (γ #[ι κ (t:Int),ι κ pm] 123));have kb:eE wr D:=by rw[<-nr];exact gW _ _
     have hY:iX D wr.heap.size #[ι κ (t:Int),ι κ pm] 123:=by rw[<-nr];exact iX.new _ _ _
     have J:=T.below kb;have ym:=G.below kb;have Hb3:Hid _:=gk U kb;have HZ3:Hid _:=M.below kb;have Ua:Hid _:=nr;clear hec hp XQ nr;obtain⟨Y,Qy⟩:=gg (wr.heap.size);have HYl:Hid (X<Y):=by show _<_;rw[<-Qy];exact G.lt
     rw[Qy]at hY;have HYe:Hid _:=Qy;clear Qy kb T G M U;have y0:D.drew.cell? ⟨Y,0,ν⟩=μ (ι κ (t:Int)):=hY.cell 0;have y1:D.drew.cell? ⟨Y,1,ν⟩=μ (ι κ pm):=hY.cell 1;have z0:D.drew.cell? ⟨X,0,ν⟩=μ (ι κ (o:Int)):=ym.cell 0;have g0:D.drew.cell? ⟨V+1,o*7+t,ν⟩=μ (ι κ (ni (jV S E i) o (es.take k) o t)):=(J.cell _).trans (AG _ o t eh eh);have g1:D.drew.frozen? ⟨V+1,o*7+t,ν⟩=false:=J.frozen _;have o7:(o:Int)<7:=eh;have t7:(t:Int)<7:=eh;have Z1:Hid _:=J;have HX3:Hid _:=ym;have HY3:Hid _:=hY;clear J ym hY G4 XO
     go_upto_region 9 with fail
     rw[Ua.out,HYe.out]
     go_region
     all_goals
      go_wp2
      go_roundw
      case rel=>
       have ju:X≠V+1:=by have:=ajC.out;omega
       refine⟨k+1,eh,by go_num,?_,?_,?_,?_⟩
       ·rw[HP.out,<-T7 _ o t pm eh];exact iX.set Z1.out _ _
       ·exact iX.other HZ3.out eh _
       ·exact iX.other HX3.out ju _
       ·exact below_drewN (bz Hb3.out (by show w.heap.size<=V+1;omega) _) 1
      case measure=>simp[eY];omega
    ·have xP:¬(k:Int)<(sn:Int):=eh;have HG:Hid _:=T;have HZ:Hid _:=M;have HB:Hid _:=U;clear T M G U
     go_wp2
     go_roundw
     case rel=>
      refine⟨i+1,eh,by go_num,?_,HZ.out,HB.out⟩;have e1:es.take k=es:=aJ eh;rw[HT.out,<-e1];exact HG.out
     case measure=>simp[eY];omega
  ·have kP:i=n:=eh;subst kP;have xP:¬(i:Int)<(i:Int):=eh;clear y;obtain⟨g,hg⟩:=gg (gC (jV S E i));have gs:g.size=49:=by rw[<-hg];exact pX _
   have g1:g.all (·.oneCell')=true:=by rw[<-hg];exact MX _
   have zs:Z.size=49:=by rw[<-hZ];exact pX _
   rw[hg]at T;have HGE:Hid (g=gC (jV S E i)):=hg.symm;have hR:iX (wr.setRow V g) V g 256:=M.setRow;have l6:=bU (P:=eX) (wr.setRow V g) V 256 256 g (0,0) _ hR underlying256 rfl (by rw[gs];exact xd);have Z3:Hid (eE w (wr.setRow V g)):=oK U vN g;have vh:(eX.info? 256).map (·.size)=μ g.size:=by rw[gs];exact xd
   have rQ:Z.size=g.size:=by rw[gs,zs]
   clear hR hg hZ U;go_wp2_with(first
    |refine lg _ rfl (.tmp 3) 256 rfl (V+1) g _ _ rfl T underlying256 vh ?_
    |refine mB _ rfl (.tmp 2) (.tmp 34) 256 rfl V Z g rfl rfl M rQ vh g1 ?_)
   refine aF (v:=.agg g) (by simp[results,results162,asAddr,l6]) rfl ?_;exact⟨by rw[HGE.out],Z3.out⟩
theorem vV {C D:kV} (h:∀x y,x<7->y<7->C x y=D x y):gC C=gC D:=by
 apply bS;intro i;by_cases hi:i<49
 ·rw[Kw _ i hi,Kw _ i hi,h (i/7) (i%7) eh eh]
 ·rw[bg (by rw[pX];omega),bg (by rw[pX];omega)]
def kK(C:kV):kV:=λx y=>if 0<C y x then C x y else 0
def JW(C:kV)(a b:Nat):kV:=λx y=>if x<a \/(x=a/\y<b)then kK C x y else 0
theorem Ub(C:kV)(a b:Nat):gC (JW C a (b+1))=gC (tM (JW C a b) a b (kK C a b)):=by
 refine vV λx y hx hy=> ?_;simp only[JW,tM];by_cases Z:x=a/\y=b
 ·rw[ai Z,ai eh,Z.1,Z.2]
 ·rw[af Z];by_cases Y:x<a \/(x=a/\y<b)
  ·rw[ai Y,ai eh]
  ·rw[af Y,af eh]
theorem Uc(C:kV)(a b:Nat)(h:kK C a b=0):gC (JW C a (b+1))=gC (JW C a b):=by
 refine vV λx y hx hy=> ?_;simp only[JW];by_cases Z:x=a/\y=b
 ·rw[ai eh,af eh,Z.1,Z.2,h]
 ·by_cases Y:x<a \/(x=a/\y<b)
  ·rw[ai Y,ai eh]
  ·rw[af Y,af eh]
theorem XR(C:kV)(a:Nat):gC (JW C a 7)=gC (JW C (a+1) 0):=by
 refine vV λx y hx hy=> ?_;simp only[JW];by_cases Z:x<a \/(x=a/\y<7)
 ·rw[ai Z,ai eh]
 ·rw[af Z,af eh]
theorem Ud(C:kV)(w:dY):
 eW eX 163 #[.agg (gC C)] w λe w'=>e=ρ (.agg (gC (kK C)))/\eE w w':=by
 have hz:=AJ;obtain⟨Z,j⟩:=gg (gC (λ_ _=>0));rw[j]at hz;obtain⟨c,hc⟩:=gg (gC C);rw[hc]
 go_in
 go_wp2_with(fail);obtain⟨u,E⟩:=gg (((w.alloc (γ c 256)).alloc (γ Z 256)).alloc (γ Z 256));have yo:eE w u:=by rw[<-E];exact((gW _ _).alloc gY _).alloc (by simp;omega) _
 have xe:iX u w.heap.size c 256:=by rw[<-E];exact((iX.new w c _).below (gW _ _)).below (gW _ _)
 have rH:iX u (w.heap.size+1) Z 256:=by rw[<-E];exact(iX.F8 _ Z _ _ gY).below (gW _ _)
 have CL:iX u (w.heap.size+2) (gC (JW C 0 0)) 256:=by
  rw[<-E];have:gC (JW C 0 0)=Z:=by rw[<-j];exact vV λx y _ _=>by simp[JW]
  rw[this];exact iX.F8 _ _ _ _ gY
 rw[E];clear E;obtain⟨Y,FP⟩:=gg (w.heap.size);have vN:w.heap.size<=Y:=eh;rw[FP]at xe rH CL;rw[FP];clear FP
 go_loopw [6] (λv wr=>∃a:Nat,a<=7/\v=ι κ a/\iX wr (Y+2) (gC (JW C a 0)) 256/\iX wr Y c 256/\iX wr (Y+1) Z 256/\eE w wr) (λv _=>7-(eY v).toNat)
 case atStart=>exact⟨0,eh,rfl,CL,xe,rH,yo⟩
 case round=>
  clear xe rH CL yo;obtain⟨a,ha,rfl,X,V,U,T⟩:=hrel;by_cases M:a<7
  ·have ajE:(a:Int)<7:=eh;have H:Hid _:=X;have G:Hid _:=V;have S:Hid _:=U;have J:Hid _:=T;clear X V U T
   go_wp2
   go_loopw [9] (λv wr=>∃b:Nat,b<=7/\v=ι κ b/\iX wr (Y+2) (gC (JW C a b)) 256/\iX wr Y c 256/\iX wr (Y+1) Z 256/\eE w wr) (λv _=>7-(eY v).toNat)
   case atStart=>exact⟨0,eh,rfl,H.out,G.out,S.out,J.out⟩
   case round=>
    clear H G S J;obtain⟨b,hb,rfl,X,V,U,T⟩:=hrel;by_cases A:b<7
    ·have abr:(b:Int)<7:=eh;have r1:wr.cell? ⟨Y,b*7+a,ν⟩=μ (ι κ (C b a)):=(V.cell _).trans (by rw[<-hc];exact AG C b a A M);have r2:wr.cell? ⟨Y,a*7+b,ν⟩=μ (ι κ (C a b)):=(V.cell _).trans (by rw[<-hc];exact AG C a b M A);have r3:wr.cell? ⟨Y+2,a*7+b,ν⟩=μ (ι κ (JW C a b a b)):=(X.cell _).trans (AG _ a b M A);have r4:=X.frozen (a*7+b);have H:Hid _:=X;have G:Hid _:=V;have S:Hid _:=U;have J:Hid _:=T;clear X V U T;by_cases qq:0<C b a
     ·have HS:Hid (kK C a b=C a b):=by show _=_;simp[kK,qq]
      go_wp2
      go_region
      all_goals
       go_wp2
       go_roundw
       case rel=>
        refine⟨b+1,eh,by go_num,?_,iX.other G.out eh _,iX.other S.out eh _,below_drewN (bz J.out (by show w.heap.size<=Y+2;omega) _) 1⟩;rw[Ub,HS.out,<-T7 _ a b _ A];exact iX.set H.out _ _
       case measure=>simp[eY];omega
     ·have HS:Hid (kK C a b=0):=by show _=_;simp[kK,qq]
      go_wp2
      go_roundw
      case rel=>exact⟨b+1,eh,by go_num,by rw[Uc _ _ _ HS.out];exact H.out,G.out,S.out,J.out⟩
      case measure=>simp[eY];omega
    ·have abr:¬(b:Int)<7:=eh;have hbe:b=7:=eh;have H:Hid _:=X;have G:Hid _:=V;have S:Hid _:=U;have J:Hid _:=T;clear X V U T
     go_wp2
     go_roundw
     case rel=>exact⟨a+1,eh,by go_num,by rw[<-XR,<-hbe];exact H.out,G.out,S.out,J.out⟩
     case measure=>simp[eY];omega
  ·have ajE:¬(a:Int)<7:=eh;have D:Hid (gC (JW C a 0)=gC (kK C)):=vV λx y hx hy=>by simp only[JW];rw[ai eh]
   obtain⟨g,h⟩:=gg (gC (JW C a 0));have gs:g.size=49:=by rw[<-h];exact pX _
   have g1:g.all (·.oneCell')=true:=by rw[<-h];exact MX _
   have zs:Z.size=49:=by rw[<-j];exact pX _
   rw[h]at X D;have hR:iX (wr.setRow (Y+1) g) (Y+1) g 256:=U.setRow;have l6:=bU (P:=eX) (wr.setRow (Y+1) g) (Y+1) 256 256 g (0,0) _ hR underlying256 rfl (by rw[gs];exact xd);have Z3:Hid (eE w (wr.setRow (Y+1) g)):=oK T eh g;have vh:(eX.info? 256).map (·.size)=μ g.size:=by rw[gs];exact xd
   have rQ:Z.size=g.size:=by rw[gs,zs]
   clear hR h j T V;go_wp2_with(first
    |refine lg _ rfl (.tmp 3) 256 rfl (Y+2) g _ _ rfl X underlying256 vh ?_
    |refine mB _ rfl (.tmp 2) (.tmp 29) 256 rfl (Y+1) Z g rfl rfl U rQ vh g1 ?_)
   refine aF (v:=.agg g) (by simp[results,results163,asAddr,l6]) rfl ?_;exact⟨by rw[D.out],Z3.out⟩
theorem vW(S:Nat->SV)(E:Nat->List jE):∀n,(∀j,j<n->oy (S j).own (S j).seq (E j)=0)->∀x y,0<=jV S E n x y/\jV S E n x y<=20
 |0,_,x,y=>by simp[jV]
 |n+1,h,x,y=>by
  have ih:=vW S E n (λj hj=>h j eh);have Z:=pU _ (E n) 0 (jt (h n eh)).2.2.2;simp only[jV,ni];generalize E n=es at Z;generalize jV S E n=C at ih
  induction es generalizing C with
  |nil=>exact ih x y
  |cons e es ihs=>
   rw[bH];refine ihs (λq Y=>Z q (by simp[Y])) _ (λu v=> ?_);simp only[tM];have:=Z e gY;split
   ·omega
   ·exact ih u v
theorem Ue(a:Option Addr)(n cap:Nat)(S:Nat->SV)(E:Nat->List jE)(p q:Nat)(w:dY)(h:vP w a n S E)(hn:n<=1000)(iN:∀j,j<n->oy (S j).own (S j).seq (E j)=0):
 eW eX 159 #[σ a n cap,ι κ (p:Int),ι κ (q:Int)] w λe w'=>e=ρ (ι κ (kK (jV S E n) p q))/\eE w w':=by
 have Qx:Hid _:=iN;clear iN
 go_in
 go_wp2
 go_loopw [7,8,9] (λt k v wr=>∃i:Nat,i<=n/\v=ι κ i/\t=ι κ (jV S E i p q)/\k=.bool (decide (0<jV S E i q p))/\eE w wr) (λ_ _ v _=>n-(eY v).toNat)
 case atStart=>exact⟨0,Nat.zero_le _,rfl,rfl,by simp[jV],av _ _⟩
 case round=>
  obtain⟨i,hi,rfl,rfl,rfl,M⟩:=hrel;by_cases kB:i<n
  ·have nQ:(i:Int)<(n:Int):=eh;obtain⟨sb,off,rfl,hcs⟩:∃sb off,a=μ ⟨sb,off,ν⟩/\∀j,j<n->w.cell? ⟨sb,off+j*3,ν⟩=μ (ι κ (S j).own)/\w.cell? ⟨sb,off+j*3+1,ν⟩=μ (ι κ (S j).seq)/\w.cell? ⟨sb,off+j*3+2,ν⟩=μ (σ (S j).a (S j).n (S j).cap):=by
    rcases h.row with h1|h1
    ·omega
    ·exact h1
   have HOW:=(h.opt i kB).1;have AO:=Qx.out i kB;have XO:=(jt AO).1;have XP:=pU _ (E i) 0 (jt AO).2.2.2;have h6:=(jt AO).2.2.1;obtain⟨o,D⟩:∃o:Nat,(S i).own=(o:Int):=⟨(S i).own.toNat,eh⟩
   have HT:Hid (jV S E (i+1)=ni (jV S E i) o (E i)):=by show ni _ _ _=_;rw[D,Int.toNat_natCast]
   have HC:Hid (∀W,eE w W->W.cell? ⟨sb,off+i*3,ν⟩=μ (ι κ (o:Int))/\W.cell? ⟨sb,off+i*3+2,ν⟩=μ (σ (S i).a (S i).n (S i).cap)):=by
    intro W hW;obtain⟨c0,c1,c2⟩:=hcs i kB;have l:=ag w _ c0;rw[D]at c0;exact⟨(hW.cell (p:=⟨sb,off+i*3,ν⟩) l).trans c0,(hW.cell (p:=⟨sb,off+i*3+2,ν⟩) l).trans c2⟩
   have HES:Hid _:=XP;obtain⟨es,he⟩:=gg (E i);rw[he]at HOW HT HES h6;have Kz:=HOW.1;generalize (S i).a=sa at HC HOW;generalize (S i).cap=sc at HC;generalize (S i).n=sn at HC HOW Kz;have hsn:sn<=6:=eh;clear hcs he XP AO D XO;obtain⟨Y,S6⟩:=gg (jV S E i);rw[S6]at HT;rw[S6];clear S6;have HB:Hid _:=M;clear M
   go_wp2
   go_loopw [7,8,10] (λt z v wr=>∃k:Nat,k<=sn/\v=ι κ k/\t=ι κ (ni Y o (es.take k) p q)/\z=.bool (decide (0<ni Y o (es.take k) q p))/\eE w wr) (λ_ _ v _=>sn-(eY v).toNat)
   case atStart=>exact⟨0,Nat.zero_le _,rfl,rfl,rfl,HB.out⟩
   case round=>
    clear HB;obtain⟨k,hk,rfl,rfl,rfl,M⟩:=hrel;obtain⟨c0,c2⟩:=HC.out wr M;by_cases AK:k<sn
    ·have aeW:(k:Int)<(sn:Int):=eh;have D:=HOW.below M;rcases D.2 with h1|⟨eb,ajD,rfl,hec⟩
     ·omega
     obtain⟨d0,d1⟩:=hec k eh;have G4:=HES.out _ (aG (show k<es.length by omega));have HP:Hid (ni Y o (es.take (k+1))=tM (ni Y o (es.take k)) o ((es[k]'(by omega)).1.toNat) ((es[k]'(by omega)).2)):=G0 _ o es k eh;obtain⟨g,hg⟩:=gg (es[k]'(by omega));rw[hg]at d0 d1 G4 HP;obtain⟨gt,gm⟩:=g;simp only at d0 d1 G4 HP;obtain⟨t,rfl⟩:∃t:Nat,gt=(t:Int):=⟨gt.toNat,eh⟩
     rw[Int.toNat_natCast]at HP;have ka:=M.alloc M.size (γ #[ι κ (t:Int),ι κ gm] 123);obtain⟨e0,T⟩:=HC.out _ ka;have H:Hid _:=ka;have V:Hid (ni Y o (es.take (k+1)) p q=(if p=o/\q=t then gm else ni Y o (es.take k) p q)/\decide (0<ni Y o (es.take (k+1)) q p)=(if q=o/\p=t then true else decide (0<ni Y o (es.take k) q p))):=by
      rw[HP.out];refine⟨rfl,?_⟩;by_cases e:q=o/\p=t
      ·have T:tM (ni Y o (es.take k)) o t gm q p=gm:=by simp only[tM,if_pos e]
       rw[ai e];exact dm (by rw[T];omega)
      ·have T:tM (ni Y o (es.take k)) o t gm q p=ni Y o (es.take k) q p:=by simp only[tM,if_neg e]
       rw[af e,decide_eq_decide,T]
     clear hec hg D ka M HP;generalize ni Y o (es.take k) p q=t1 at V⊢;generalize decide (0<ni Y o (es.take k) q p)=y at V⊢;have main:∀Q:Prop,(((o:Int)==(p:Int))=true->((t:Int)==(q:Int))=true->p=o->q=t->Q)->(((o:Int)==(p:Int))=true->((t:Int)==(q:Int))=false->¬(p=o/\q=t)->Q)->(((o:Int)==(p:Int))=false->¬(p=o/\q=t)->Q)->Q:=by
      intro Q q1 q2 q3;by_cases X:p=o
      ·have f1:((o:Int)==(p:Int))=true:=by simp[X]
       by_cases T:q=t
       ·exact q1 f1 (by simp[T]) X T
       ·exact q2 f1 (by
         have:¬(t:Int)=(q:Int):=eh;simpa using this) (λe=>T e.2)
      ·exact q3 (by
        have:¬(o:Int)=(p:Int):=eh;simpa using this) (λe=>X e.1)
     have Z4:∀Q:Prop,(((o:Int)==(q:Int))=true->((t:Int)==(p:Int))=true->q=o/\p=t->Q)->(((o:Int)==(q:Int))=true->((t:Int)==(p:Int))=false->¬(q=o/\p=t)->Q)->(((o:Int)==(q:Int))=false->¬(q=o/\p=t)->Q)->Q:=by
      intro Q q1 q2 q3;by_cases X:q=o
      ·have f1:((o:Int)==(q:Int))=true:=by simp[X]
       by_cases T:p=t
       ·exact q1 f1 (by simp[T]) ⟨X,T⟩
       ·exact q2 f1 (by
         have:¬(t:Int)=(p:Int):=eh;simpa using this) (λe=>T e.2)
      ·exact q3 (by
        have:¬(o:Int)=(q:Int):=eh;simpa using this) (λe=>X e.1)
     have A:Hid _:=Z4;clear Z4;refine main _ ?_ ?_ ?_<;>clear main
     ·intro f1 f2 X T;have J:Hid (ni Y o (es.take (k+1)) p q=gm):=by show _=_;rw[V.out.1,ai ⟨X,T⟩]
      clear X T;refine A.out _ ?_ ?_ ?_<;>clear A
      ·intro G f4 Z;have U:Hid (decide (0<ni Y o (es.take (k+1)) q p)=true):=by show _=_;rw[V.out.2,ai Z]
       clear Z
       go_wp2
       go_roundw
       case rel=>exact⟨k+1,eh,by go_num,by rw[J.out],by rw[U.out],H.out⟩
       case measure=>simp[eY];omega
      ·intro G f4 Z;have U:Hid (decide (0<ni Y o (es.take (k+1)) q p)=y):=by show _=_;rw[V.out.2,af Z]
       clear Z
       go_wp2
       go_roundw
       case rel=>exact⟨k+1,eh,by go_num,by rw[J.out],by rw[U.out],H.out⟩
       case measure=>simp[eY];omega
      ·intro G Z;have U:Hid (decide (0<ni Y o (es.take (k+1)) q p)=y):=by show _=_;rw[V.out.2,af Z]
       clear Z
       go_wp2
       go_roundw
       case rel=>exact⟨k+1,eh,by go_num,by rw[J.out],by rw[U.out],H.out⟩
       case measure=>simp[eY];omega
     ·intro f1 f2 X;have J:Hid (ni Y o (es.take (k+1)) p q=t1):=by show _=_;rw[V.out.1,af X]
      clear X;refine A.out _ ?_ ?_ ?_<;>clear A
      ·intro G f4 Z;have U:Hid (decide (0<ni Y o (es.take (k+1)) q p)=true):=by show _=_;rw[V.out.2,ai Z]
       clear Z
       go_wp2
       go_roundw
       case rel=>exact⟨k+1,eh,by go_num,by rw[J.out],by rw[U.out],H.out⟩
       case measure=>simp[eY];omega
      ·intro G f4 Z;have U:Hid (decide (0<ni Y o (es.take (k+1)) q p)=y):=by show _=_;rw[V.out.2,af Z]
       clear Z
       go_wp2
       go_roundw
       case rel=>exact⟨k+1,eh,by go_num,by rw[J.out],by rw[U.out],H.out⟩
       case measure=>simp[eY];omega
      ·intro G Z;have U:Hid (decide (0<ni Y o (es.take (k+1)) q p)=y):=by show _=_;rw[V.out.2,af Z]
       clear Z
       go_wp2
       go_roundw
       case rel=>exact⟨k+1,eh,by go_num,by rw[J.out],by rw[U.out],H.out⟩
       case measure=>simp[eY];omega
     ·intro f1 X;have J:Hid (ni Y o (es.take (k+1)) p q=t1):=by show _=_;rw[V.out.1,af X]
      clear X;refine A.out _ ?_ ?_ ?_<;>clear A
      ·intro G f4 Z;have U:Hid (decide (0<ni Y o (es.take (k+1)) q p)=true):=by show _=_;rw[V.out.2,ai Z]
       clear Z
       go_wp2
       go_roundw
       case rel=>exact⟨k+1,eh,by go_num,by rw[J.out],by rw[U.out],H.out⟩
       case measure=>simp[eY];omega
      ·intro G f4 Z;have U:Hid (decide (0<ni Y o (es.take (k+1)) q p)=y):=by show _=_;rw[V.out.2,af Z]
       clear Z
       go_wp2
       go_roundw
       case rel=>exact⟨k+1,eh,by go_num,by rw[J.out],by rw[U.out],H.out⟩
       case measure=>simp[eY];omega
      ·intro G Z;have U:Hid (decide (0<ni Y o (es.take (k+1)) q p)=y):=by show _=_;rw[V.out.2,af Z]
       clear Z
       go_wp2
       go_roundw
       case rel=>exact⟨k+1,eh,by go_num,by rw[J.out],by rw[U.out],H.out⟩
       case measure=>simp[eY];omega
    ·have xP:¬(k:Int)<(sn:Int):=eh;have HTT:Hid (ni Y o (es.take k)=jV S E (i+1)):=by
      show _=_;rw[HT.out,aJ eh]
     rw[HTT.out];have HB:Hid _:=M;clear M
     go_wp2
     go_roundw
     case rel=>exact⟨i+1,eh,by go_num,rfl,rfl,HB.out⟩
     case measure=>simp[eY];omega
  ·have xP:¬(i:Int)<(n:Int):=eh;have kP:i=n:=eh;subst kP;by_cases u:0<jV S E i q p
   ·have V:Hid (kK (jV S E i) p q=jV S E i p q):=by show _=_;simp only[kK,if_pos u]
    have X:decide (0<jV S E i q p)=true:=dm u;rw[X];clear X u
    go_wp2
    go_ret;exact⟨by rw[V.out];rfl,M⟩
   ·have V:Hid (kK (jV S E i) p q=0):=by show _=_;simp only[kK,if_neg u]
    have X:decide (0<jV S E i q p)=false:=dc u;rw[X];clear X u
    go_wp2
    go_ret;exact⟨by rw[V.out];rfl,M⟩
def lz(C:kV)(r n:Nat):Nat->HP:=λx=>if x<n/\0<C r x then⟨x,C r x,x⟩else HP.zero
theorem D6 {H K:Nat->HP} (h:∀x,x<7->H x=K x):hC H=hC K:=by
 apply bS;intro i;by_cases hi:i<21
 ·rw[D5 _ i hi,D5 _ i hi];unfold Kx;rw[h (i/3) eh]
 ·rw[bg (by rw[tu];omega),bg (by rw[tu];omega)]
theorem MZ(C:kV)(r n:Nat)(h:0<C r n):hC (lz C r (n+1))=hC (rh (lz C r n) n ⟨n,C r n,n⟩):=by
 refine D6 λx hx=> ?_;simp only[lz,rh];by_cases e:x=n
 ·subst e;rw[ai ⟨eh,h⟩,ai rfl]
 ·rw[af e];by_cases Z:x<n/\0<C r x
  ·rw[ai Z,ai ⟨eh,Z.2⟩]
  ·rw[af Z,af (λY=>Z ⟨eh,Y.2⟩)]
theorem Qz(C:kV)(r n:Nat)(h:¬0<C r n):hC (lz C r (n+1))=hC (lz C r n):=by
 refine D6 λx hx=> ?_;simp only[lz];by_cases e:x=n
 ·subst e;rw[af (λZ=>h Z.2),af (λZ=>h Z.2)]
 ·by_cases Y:x<n/\0<C r x
  ·rw[ai Y,ai ⟨eh,Y.2⟩]
  ·rw[af Y,af (λZ=>Y ⟨eh,Z.2⟩)]
theorem QA(C:kV)(r:Nat)(hr:r<7)(w:dY):
 eW eX 164 #[.agg (gC C),ι κ (r:Int)] w λe w'=>e=ρ (.agg (hC (lz C r 7)))/\eE w w':=by
 have hz:=Ky;obtain⟨Z,M⟩:=gg (hC (λ_=>HP.zero));rw[M]at hz;obtain⟨c,hc⟩:=gg (gC C);rw[hc];have hr7:(r:Int)<7:=eh
 go_in
 go_wp2_with(fail);obtain⟨S,V⟩:=gg (((w.alloc (γ c 256)).alloc (γ Z 259)).alloc (γ Z 259));have yo:eE w S:=by rw[<-V];exact((gW _ _).alloc gY _).alloc (by simp;omega) _
 have y:iX S w.heap.size c 256:=by rw[<-V];exact((iX.new w c _).below (gW _ _)).below (gW _ _)
 have E:iX S (w.heap.size+1) Z 259:=by rw[<-V];exact(iX.F8 _ Z _ _ gY).below (gW _ _)
 have j:iX S (w.heap.size+2) (hC (lz C r 0)) 259:=by
  rw[<-V];have:hC (lz C r 0)=Z:=by rw[<-M];exact D6 λx _=>by simp[lz]
  rw[this];exact iX.F8 _ _ _ _ gY
 rw[V];clear V;obtain⟨Y,D⟩:=gg (w.heap.size);have vN:w.heap.size<=Y:=eh;rw[D]at y E j;rw[D];clear D
 go_loopw [8] (λv wr=>∃n:Nat,n<=7/\v=ι κ n/\iX wr (Y+2) (hC (lz C r n)) 259/\iX wr Y c 256/\iX wr (Y+1) Z 259/\eE w wr) (λv _=>7-(eY v).toNat)
 case atStart=>exact⟨0,eh,rfl,j,y,E,yo⟩
 case round=>
  clear y E j yo;obtain⟨n,hn,rfl,X,T,J,H⟩:=hrel;by_cases G:n<7
  ·have Ug:(n:Int)<7:=eh;have r1:wr.cell? ⟨Y,r*7+n,ν⟩=μ (ι κ (C r n)):=(T.cell _).trans (by rw[<-hc];exact AG C r n hr G);obtain⟨q0,q1,q2⟩:=AH (lz C r n) n G;have s0:=(X.cell (n*3)).trans q0;have s1:=(X.cell (n*3+1)).trans q1;have s2:=(X.cell (n*3+2)).trans q2;have f0:=X.frozen (n*3);have f1:=X.frozen (n*3+1);have f2:=X.frozen (n*3+2);have lG:=X.lt;have HG:Hid _:=X;have Gg:Hid _:=T;have Xa:Hid _:=J;have HB:Hid _:=H;clear X T J H q0 q1 q2;have HY:=MZ C r n;have HN:=Qz C r n;have h:Hid _:=HY;have A:Hid _:=HN;clear HY HN;by_cases qq:0<C r n
   ·go_wp2
    go_roundw
    case rel=>
     refine⟨n+1,eh,by go_num,?_,iX.other (iX.other (iX.other Gg.out eh _) eh _) eh _,iX.other (iX.other (iX.other Xa.out eh _) eh _) eh _,bz (bz (bz HB.out (by show w.heap.size<=Y+2;omega) _) (by show w.heap.size<=Y+2;omega) _) (by show w.heap.size<=Y+2;omega) _⟩;rw[h.out qq,<-IY _ n _ G];exact iX.set (iX.set (iX.set HG.out _ _) _ _) _ _
    case measure=>simp[eY];omega
   ·go_wp2
    go_roundw
    case rel=>exact⟨n+1,eh,by go_num,by rw[A.out qq];exact HG.out,Gg.out,Xa.out,HB.out⟩
    case measure=>simp[eY];omega
  ·have Ug:¬(n:Int)<7:=eh;have ju:n=7:=eh;obtain⟨g,U⟩:=gg (hC (lz C r n));have gs:g.size=21:=by rw[<-U];exact tu _
   have g1:g.all (·.oneCell')=true:=by rw[<-U];exact T8 _
   have zs:Z.size=21:=by rw[<-M];exact tu _
   have u:Hid (g=hC (lz C r 7)):=by show _=_;rw[<-U,ju]
   rw[U]at X;have hR:iX (wr.setRow (Y+1) g) (Y+1) g 259:=J.setRow;have l6:=bU (P:=eX) (wr.setRow (Y+1) g) (Y+1) 259 259 g (0,0) _ hR underlying259 rfl (by rw[gs];exact IZ);have Z3:Hid (eE w (wr.setRow (Y+1) g)):=oK H eh g;have vh:(eX.info? 259).map (·.size)=μ g.size:=by rw[gs];exact IZ
   have rQ:Z.size=g.size:=by rw[gs,zs]
   clear hR U M H T ju;go_wp2_with(first
    |refine lg _ rfl (.tmp 5) 259 rfl (Y+2) g _ _ rfl X underlying259 vh ?_
    |refine mB _ rfl (.tmp 4) (.tmp 25) 259 rfl (Y+1) Z g rfl rfl J rQ vh g1 ?_)
   refine aF (v:=.agg g) (by simp[results,results164,asAddr,l6]) rfl ?_;exact⟨by rw[u.out],Z3.out⟩
def uh(a b:HP):Bool:=b.far==0||decide (a.far<b.far)||(a.far==b.far&&decide (a.rG<b.rG))
theorem KA(a b:HP)(w:dY):
 eW eX 205 #[.agg #[ι κ a.dst,ι κ a.far,ι κ a.rG],.agg #[ι κ b.dst,ι κ b.far,ι κ b.rG]] w λe w'=>e=ρ (.bool (uh a b))/\eE w w':=by
 obtain⟨V,Z,Y⟩:=a;obtain⟨b0,b1,b2⟩:=b;simp only;have T:eE w ((w.alloc (γ #[ι κ V,ι κ Z,ι κ Y] 98)).alloc (γ #[ι κ b0,ι κ b1,ι κ b2] 98)):=(gW _ _).alloc gY _;have S:Hid (uh ⟨V,Z,Y⟩ ⟨b0,b1,b2⟩=(b1==0||decide (Z<b1)||(Z==b1&&decide (Y<b2)))):=rfl;by_cases H:(b1==0)=true
 ·have X:Hid (uh ⟨V,Z,Y⟩ ⟨b0,b1,b2⟩=true):=by show _=_;rw[S.out,H];rfl
  go_in
  go_wp2_with(fail);rw[X.out];go_ret;exact⟨rfl,T⟩
 have U:(b1==0)=false:=by simpa using H
 by_cases M:Z<b1
 ·have X:Hid (uh ⟨V,Z,Y⟩ ⟨b0,b1,b2⟩=true):=by show _=_;rw[S.out,dm M];simp
  go_in
  go_wp2_with(fail);rw[X.out];go_ret;exact⟨rfl,T⟩
 by_cases J:(Z==b1)=true
 ·have X:Hid (uh ⟨V,Z,Y⟩ ⟨b0,b1,b2⟩=decide (Y<b2)):=by show _=_;rw[S.out,U,dc M,J];simp
  rw[X.out]
  go_in
  go_wp2
  go_ret;exact⟨rfl,T⟩
 have G:(Z==b1)=false:=by simpa using J
 have X:Hid (uh ⟨V,Z,Y⟩ ⟨b0,b1,b2⟩=false):=by show _=_;rw[S.out,U,dc M,G];simp
 go_in
 go_wp2_with(fail);rw[X.out];go_ret;exact⟨rfl,T⟩
def oZ(C:kV)(r b n:Nat)(H:Nat->HP):Nat->HP:=
 if(H b).far=0 \/C b n=0 \/n=r then H
 else if uh ⟨n,(H b).far+C b n,(H b).rG⟩ (H n)=true then rh H n ⟨n,(H b).far+C b n,(H b).rG⟩else H
def pC(C:kV)(r b:Nat)(H:Nat->HP):Nat->Nat->HP
 |0=>H
 |n+1=>oZ C r b n (pC C r b H n)
def CM(C:kV)(r:Nat)(H:Nat->HP):Nat->Nat->HP
 |0=>H
 |b+1=>pC C r b (CM C r H b) 7
def rS(H:Nat->HP)(m:Int):Prop:=∀n,0<=(H n).far/\(H n).far<=m
theorem rS.step {C:kV} {r b:Nat} {H:Nat->HP} {m:Int} (h:rS H m)(hC:∀x y,0<=C x y/\C x y<=20):rS (oZ C r b n H) (m+20):=by
 intro x;have hx:=h x;have hb:=h b;have hc:=hC b n;unfold oZ;split
 ·omega
 ·split
  ·simp only[rh];split
   ·simp only;omega
   ·omega
  ·omega
theorem rS.row {C:kV} {r b:Nat} {H:Nat->HP} {m:Int} (h:rS H m)(hC:∀x y,0<=C x y/\C x y<=20):∀n,rS (pC C r b H n) (m+20*n)
 |0=>λx=>by have:=h x;simp only[pC];omega
 |n+1=>λx=>by
  have:=(rS.step (C:=C) (r:=r) (b:=b) (n:=n) (rS.row (r:=r) (b:=b) h hC n) hC) x;simp only[pC];push_cast;omega
theorem rS.go {C:kV} {r:Nat} {H:Nat->HP} {m:Int} (h:rS H m)(hC:∀x y,0<=C x y/\C x y<=20):∀b,rS (CM C r H b) (m+140*b)
 |0=>λx=>by have:=h x;simp only[CM];omega
 |b+1=>λx=>by
  have:=(rS.row (C:=C) (r:=r) (b:=b) (rS.go (r:=r) h hC b) hC 7) x;simp only[CM];push_cast at this⊢;omega
theorem M3 {o:Option Nat} (h:a.grownBy w o):a.grownBy w.drew o:=⟨h.os,h.tape,h.output,h.size,h.block⟩
theorem Uh(C:kV)(r:Nat)(hr:r<7)(H:Nat->HP)(B:Nat)(m:Int)(w:dY)(hB:iX w B (hC H) 259)(CN:∀x y,0<=C x y/\C x y<=20)(hm:rS H m)(CO:m<=1000000):
 eW eX 165 #[π (μ ⟨B,0,ν⟩),.agg (gC C),ι κ (r:Int)] w λe w'=>e=ρ (τ #[])/\iX w' B (hC (CM C r H 7)) 259/\w.grownBy w' (μ B):=by
 obtain⟨c,hc⟩:=gg (gC C);rw[hc];have hr7:(r:Int)<7:=eh
 go_in
 go_wp2_with(fail);obtain⟨W0,nX⟩:=gg (w.alloc (γ c 256));have G6:eE w W0:=by rw[<-nX];exact gW _ _
 have yo:w.grownBy W0 (μ B):=⟨G6.os,G6.tape,G6.output,G6.size,λi hi _=>G6.block i hi⟩
 have xe:iX W0 w.heap.size c 256:=by rw[<-nX];exact iX.new w c _
 have rH:iX W0 B (hC (CM C r H 0)) 259:=hB.below G6;have hBC:B<w.heap.size:=hB.lt;rw[nX];clear nX G6 hB;obtain⟨D,FP⟩:=gg (w.heap.size);have vN:w.heap.size<=D:=eh;rw[FP]at xe hBC;rw[FP];clear FP;have HFL:=λb=>hm.go (r:=r) CN b;have HM:Hid _:=HFL;clear HFL hm
 go_loopw [9] (λv wr=>∃b:Nat,b<=7/\v=ι κ b/\iX wr B (hC (CM C r H b)) 259/\iX wr D c 256/\w.grownBy wr (μ B)) (λv _=>7-(eY v).toNat)
 case atStart=>exact⟨0,eh,rfl,rH,xe,yo⟩
 case round=>
  clear xe rH yo;obtain⟨b,hb,rfl,X,E,j⟩:=hrel;by_cases Xb:b<7
  ·have abr:(b:Int)<7:=eh;have U:Hid _:=X;have M:Hid _:=E;have Z:Hid _:=j;have CP:Hid (CM C r H (b+1)=pC C r b (CM C r H b) 7):=rfl;have hmb:=HM.out b;clear X E j;obtain⟨S,hHb⟩:=gg (CM C r H b);rw[hHb]at U CP hmb;have HMB:Hid (∀n,rS (pC C r b S n) (m+140*b+20*n)):=λn=>hmb.row CN n;clear hmb hHb
   go_wp2
   go_loopw [12] (λv wr=>∃n:Nat,n<=7/\v=ι κ n/\iX wr B (hC (pC C r b S n)) 259/\iX wr D c 256/\w.grownBy wr (μ B)) (λv _=>7-(eY v).toNat)
   case atStart=>exact⟨0,eh,rfl,U.out,M.out,Z.out⟩
   case round=>
    clear U M Z;obtain⟨n,hn,rfl,X,E,j⟩:=hrel;by_cases XS:n<7
    ·have Ug:(n:Int)<7:=eh;have vX:Hid (pC C r b S (n+1)=oZ C r b n (pC C r b S n)):=rfl;have xf:=HMB.out n b;obtain⟨G,hGe⟩:=gg (pC C r b S n);rw[hGe]at X vX xf;clear hGe;have r1:wr.cell? ⟨D,b*7+n,ν⟩=μ (ι κ (C b n)):=(E.cell _).trans (by rw[<-hc];exact AG C b n Xb XS);obtain⟨p0,p1,p2⟩:=AH G b Xb;have b0:=(X.cell (b*3)).trans p0;have b1:=(X.cell (b*3+1)).trans p1;have b2:=(X.cell (b*3+2)).trans p2;clear p0 p1 p2;have U:Hid _:=X;have M:Hid _:=E;have Z:Hid _:=j;clear X E j;by_cases h1:(G b).far=0
     ·have yr:((G b).far==0)=true:=by simpa using h1
      have T:Hid (pC C r b S (n+1)=G):=by show _=_;rw[vX.out,oZ,ai (.inl h1)]
      generalize (G b).far=bf at b1 yr;clear h1
      go_wp2
      go_roundw
      case rel=>exact⟨n+1,eh,by go_num,by rw[T.out];exact U.out,M.out,Z.out⟩
      case measure=>simp[eY];omega
     have yr:((G b).far==0)=false:=by simpa using h1
     by_cases h2:C b n=0
     ·have AB:(C b n==0)=true:=by simpa using h2
      have T:Hid (pC C r b S (n+1)=G):=by show _=_;rw[vX.out,oZ,ai (.inr (.inl h2))]
      generalize (G b).far=bf at b1 yr;generalize C b n=u at r1 AB;clear h1 h2
      go_wp2
      go_roundw
      case rel=>exact⟨n+1,eh,by go_num,by rw[T.out];exact U.out,M.out,Z.out⟩
      case measure=>simp[eY];omega
     have AB:(C b n==0)=false:=by simpa using h2
     by_cases h3:n=r
     ·have tN:((n:Int)==(r:Int))=true:=by simp[h3]
      have T:Hid (pC C r b S (n+1)=G):=by show _=_;rw[vX.out,oZ,ai (.inr (.inr h3))]
      generalize (G b).far=bf at b1 yr;generalize C b n=u at r1 AB;clear h1 h2 h3
      go_wp2
      go_roundw
      case rel=>exact⟨n+1,eh,by go_num,by rw[T.out];exact U.out,M.out,Z.out⟩
      case measure=>simp[eY];omega
     have tN:((n:Int)==(r:Int))=false:=by
      have:¬(n:Int)=(r:Int):=eh;simpa using this
     have T:Hid (pC C r b S (n+1)=if uh ⟨n,(G b).far+C b n,(G b).rG⟩ (G n)=true then rh G n ⟨n,(G b).far+C b n,(G b).rG⟩else G):=by
      show _=_;rw[vX.out,oZ,af (by simp[h1,h2,h3])]
     have uM:=CN b n;have Xc:ft.wrap ((G b).far+C b n)=(G b).far+C b n:=aX _ ⟨eh,eh⟩;have J:=KA ⟨n,(G b).far+C b n,(G b).rG⟩ (G n);obtain⟨p0,p1,p2⟩:=AH G n XS;have HN:Hid (∀W,iX W B (hC G) 259->W.cell? ⟨B,n*3,ν⟩=μ (ι κ (G n).dst)/\W.cell? ⟨B,n*3+1,ν⟩=μ (ι κ (G n).far)/\W.cell? ⟨B,n*3+2,ν⟩=μ (ι κ (G n).rG)):=
      λW hW=>⟨(hW.cell _).trans p0,(hW.cell _).trans p1,(hW.cell _).trans p2⟩
     clear p0 p1 p2 vX h1 h2 h3 xf uM;generalize uh ⟨n,(G b).far+C b n,(G b).rG⟩ (G n)=bt at T J;simp only at J;generalize IX:(G b).far+C b n=ff at T J Xc;generalize (G b).far=bf at b1 yr IX Xc;generalize C b n=u at r1 AB IX Xc;generalize (G b).rG=bx at b2 T J;generalize (G n).dst=nd at HN J;generalize (G n).far=nf at HN J;generalize (G n).rG=nx at HN J;have ajG:ft.wrap (bf+u)=ff:=by rw[IX];exact Xc
     have d0:wr.drew.cell? ⟨B,b*3+1,ν⟩=μ (ι κ bf):=b1;have d1:wr.drew.cell? ⟨B,b*3+2,ν⟩=μ (ι κ bx):=b2;have d2:wr.drew.cell? ⟨D,b*7+n,ν⟩=μ (ι κ u):=r1;have lB:B<wr.heap.size:=iX.lt U.out;have lC:D<wr.heap.size:=iX.lt M.out;have kz:=gW wr (γ #[ι κ 0,ι κ 0,ι κ 0] 98);have e0:=(kz.cell (p:=⟨B,b*3+1,ν⟩) lB).trans b1;have e1:=(kz.cell (p:=⟨B,b*3+2,ν⟩) lB).trans b2;have e2:=(kz.cell (p:=⟨D,b*7+n,ν⟩) lC).trans r1;clear IX Xc kz
     go_upto_region 8 with fail
     clear yr AB tN
     go_region
     all_goals
      obtain⟨W3,xI⟩:=gg ((wr.alloc (γ #[ι κ (n:Int),ι κ ff,ι κ bx] 98)).drew);have k3:eE wr W3:=by rw[<-xI];exact below_drewN (gW _ _) 1
      have hY:iX W3 wr.heap.size #[ι κ (n:Int),ι κ ff,ι κ bx] 98:=by rw[<-xI];exact iX.drewN (iX.new wr _ _) 1
      obtain⟨Y,Qy⟩:=gg (wr.heap.size);have hG3:=iX.below U.out k3;have Hc3:Hid _:=iX.below M.out k3;have Gh:Hid (w.grownBy W3 (μ B)):=⟨k3.os.trans Z.out.os,k3.tape.trans Z.out.tape,k3.output.trans Z.out.output,Nat.le_trans Z.out.size k3.size,λi hi A=>(k3.block i (Nat.lt_of_lt_of_le hi Z.out.size)).trans (Z.out.block i hi A)⟩
      have HYB:Hid (B<Y/\D<Y):=by show _/\_;rw[<-Qy];exact⟨lB,lC⟩
      rw[Qy]at hY;have HY:Hid _:=hY;have Z1:Hid _:=hG3;have HF:Hid (∀W,eE W3 W->(W.cell? ⟨Y,0,ν⟩=μ (ι κ (n:Int))/\W.cell? ⟨Y,1,ν⟩=μ (ι κ ff)/\W.cell? ⟨Y,2,ν⟩=μ (ι κ bx))/\W.cell? ⟨B,n*3,ν⟩=μ (ι κ nd)/\W.cell? ⟨B,n*3+1,ν⟩=μ (ι κ nf)/\W.cell? ⟨B,n*3+2,ν⟩=μ (ι κ nx)):=by
       intro W hW;have q:=iX.below HY.out hW;exact⟨⟨iX.cell q 0,iX.cell q 1,iX.cell q 2⟩,HN.out W (iX.below Z1.out hW)⟩
      have KD:eE W3 W3.drew:=below_drewN (av _ _) 1;have F0:=HF.out _ KD;rw[xI,Qy];clear xI k3 Qy hG3 hY d0 d1 d2 e0 e1 e2 b0 b1 b2 r1 lB lC ajG
      go_wp2
      go_region_held3(λx=>(x.cell? ⟨Y,0,ν⟩=μ (ι κ (n:Int))/\x.cell? ⟨Y,1,ν⟩=μ (ι κ ff)/\x.cell? ⟨Y,2,ν⟩=μ (ι κ bx))/\x.cell? ⟨B,n*3,ν⟩=μ (ι κ nd)/\x.cell? ⟨B,n*3+1,ν⟩=μ (ι κ nf)/\x.cell? ⟨B,n*3+2,ν⟩=μ (ι κ nx))
       (first|assumption|exact F0|exact F1)
       ((go_at_call 205;refine(J _).mono ?_;rintro e w5 ⟨rfl,k5⟩;have F1:=HF.out _ (gk KD k5)))
      all_goals
       have h:=gk KD k5;have V:=iX.below Z1.out h;have I0:Hid _:=V;have Hc5:Hid _:=iX.below Hc3.out h;have G7:Hid (w.grownBy w5 (μ B)):=⟨h.os.trans Gh.out.os,h.tape.trans Gh.out.tape,h.output.trans Gh.out.output,Nat.le_trans Gh.out.size h.size,λi hi A=>(h.block i (Nat.lt_of_lt_of_le hi Gh.out.size)).trans (Gh.out.block i hi A)⟩
       obtain⟨⟨y0,y1,y2⟩,g0,g1,g2⟩:=F1;have f0:=V.frozen (n*3);have f1:=V.frozen (n*3+1);have f2:=V.frozen (n*3+2);have lB:=V.lt;clear HF HN J F0 k5 KD h V;cases bt
       ·have HS3:Hid (pC C r b S (n+1)=G):=by show _=_;rw[T.out];simp
        go_wp2
        go_roundw
        case rel=>exact⟨n+1,eh,by go_num,by rw[HS3.out];exact I0.out,Hc5.out,G7.out⟩
        case measure=>simp[eY];omega
       ·have HS3:Hid (pC C r b S (n+1)=rh G n ⟨n,ff,bx⟩):=by show _=_;rw[T.out];simp
        go_wp2
        go_region
        all_goals
         go_wp2
         go_roundw
         case rel=>
          have A:D≠B:=by have:=G7.out.size;omega
          refine⟨n+1,eh,by go_num,?_,iX.other (iX.other (iX.other Hc5.out A _) A _) A _,M3 (kO (kO (kO G7.out _ _) _ _) _ _)⟩;rw[HS3.out,<-IY _ n _ XS];exact iX.set (iX.set (iX.set I0.out _ _) _ _) _ _
         case measure=>simp[eY];omega
    ·have Ug:¬(n:Int)<7:=eh;have A:n=7:=eh;have U:Hid _:=X;have M:Hid _:=E;have Z:Hid _:=j;clear X E j
     go_wp2
     go_roundw
     case rel=>exact⟨b+1,eh,by go_num,by rw[CP.out,<-A];exact U.out,M.out,Z.out⟩
     case measure=>simp[eY];omega
  ·have abr:¬(b:Int)<7:=eh;have hbe:b=7:=eh;have U:Hid (iX wr B (hC (CM C r H 7)) 259):=by rw[<-hbe];exact X
   have Z:Hid _:=j;clear X E j hbe
   go_wp2
   first|go_end0|refine iJ rfl rfl ?_
   exact⟨rfl,U.out,Z.out⟩
def pR(H:Nat->HP):Nat->List HP
 |0=>[]
 |n+1=>if 0<(H n).far then pR H n++ [H n]else pR H n
theorem rj(H:Nat->HP):∀n,(pR H n).length<=n
 |0=>Nat.le_refl _
 |n+1=>by
  have:=rj H n;simp only[pR];split
  ·simp;omega
  ·omega
def M4(L:List HP):List dZ:=L.flatMap λh=>[ι κ h.dst,ι κ h.far,ι κ h.rG]
theorem KB(L:List HP)(h:HP):M4 (L++ [h])=M4 L++ [ι κ h.dst,ι κ h.far,ι κ h.rG] :=by simp[M4]
theorem O3:∀(L:List HP) (j:Nat) (h:HP),L[j]? =μ h->(M4 L)[j*3]? =μ (ι κ h.dst)/\(M4 L)[j*3+1]? =μ (ι κ h.far)/\(M4 L)[j*3+2]? =μ (ι κ h.rG)
 |[],j,s,h=>by simp at h
 |x::l,0,s,h=>by
  have:x=s:=by simpa using h
  subst this;exact⟨rfl,rfl,rfl⟩
 |x::l,j+1,s,h=>by
  have Z:l[j]? =μ s:=by simpa using h
  obtain⟨a,b,c⟩:=O3 l j s Z;have e:M4 (x::l)=ι κ x.dst::ι κ x.far::ι κ x.rG::M4 l:=rfl;have X:(j+1)*3=j*3+3:=eh;have Y:(j+1)*3+1=j*3+1+3:=eh;have V:(j+1)*3+2=j*3+2+3:=eh;rw[e,Y,V,X];simp only[List.getElem?_cons_succ];exact⟨a,b,c⟩
theorem Row.hs {v:dZ} {L:List HP} (h:Row w 3 v L.length (M4 L)):∃a cap,v=σ a L.length cap/\OZ w a L.length L:=by
 rcases h.2 with⟨rfl,e⟩|⟨g,cap,rfl,_⟩
 ·rw[e];exact⟨ν,0,rfl,⟨e,.inl rfl⟩⟩
 ·refine⟨_,cap,rfl,⟨rfl,.inr ⟨g,0,rfl,λj s e=> ?_⟩⟩⟩;obtain⟨a,b,c⟩:=O3 L j s e;rw[show 0+j*3=j*3 by omega];exact⟨Row.cell h _ _ a,Row.cell h _ _ b,Row.cell h _ _ c⟩
theorem zn(w:dY)(x y z:dZ)(t:ew)(g:Nat)(Z:w.heap.size=g):∀(j:Nat) (u:dZ),[x,y,z][j]? =μ u->(w.alloc (γ #[x,y,z] t)).cell? ((⟨g,0,ν⟩:Addr).add j)=μ u:=by
 subst Z;intro j u Y;rw[add_plain,ar];simpa using Y
theorem Ui(x y z:Int):∀u∈ [eB .i64 x,eB .i64 y,eB .i64 z],u.oneCell'=true:=by simp[Value.oneCell']
theorem O4:(eX.info? 98).map (λi=>(i.zero,i.size,i.bytes))=μ (μ (.agg #[ι κ 0,ι κ 0,ι κ 0]),3,24):=gq
theorem Uj(H:Nat->HP)(B:Nat)(w:dY)(hB:iX w B (hC H) 259):
 eW eX 166 #[π (μ ⟨B,0,ν⟩)] w λe w'=>∃a cap,e=ρ (σ a (pR H 7).length cap)/\ZZ w w' a (pR H 7).length (pR H 7)/\eE w w':=by
 obtain⟨i0,hi,ox,nh,mO⟩:=aY O4
 go_in
 go_wp2
 go_loopw [3,8] (λs v wr=>∃n:Nat,n<=7/\v=ι κ n/\Row wr 3 s (pR H n).length (M4 (pR H n))/\(∀g,s.ownBlock=μ g->w.heap.size<=g)/\eE w wr) (λ_ v _=>7-(eY v).toNat)
 case atStart=>exact⟨0,eh,rfl,Row.nil _ _,λg h=>by simp[eu]at h,av _ _⟩
 case round=>
  obtain⟨n,hn,rfl,J,T,Z⟩:=hrel;have HL:Hid _:=rj H n;have V:Hid (pR H (n+1)=if 0<(H n).far then pR H n++ [H n]else pR H n):=rfl;by_cases XS:n<7
  ·have Ug:(n:Int)<7:=eh;obtain⟨p0,p1,p2⟩:=AH H n XS;have G:=hB.below Z;have c0:=(G.cell (n*3)).trans p0;have c1:=(G.cell (n*3+1)).trans p1;have c2:=(G.cell (n*3+2)).trans p2;clear p0 p1 p2 G;obtain⟨p,hp⟩:=gg (H n);rw[hp]at c0 c1 c2 V;clear hp;obtain⟨pd,pf,Y⟩:=p;simp only at c0 c1 c2 V;have u:=Z.alloc Z.size (γ #[ι κ pd,ι κ pf,ι κ Y] 98);have j:Hid _:=u;have y:Hid (w.heap.size<=wr.heap.size):=Z.size;have S:=J.alloc (γ #[ι κ pd,ι κ pf,ι κ Y] 98);have AQ:Hid _:=T;by_cases hf:0<pf
   ·rw[ai hf]at V;obtain⟨L,M⟩:=gg (pR H n);rw[M]at V HL S;have hLl:L.length<=n:=HL.out;clear M J T Z u;go_wp2_with(at_builtin;go_must(refine iG _ rfl (.tmp 16) (.tmp 18) 94 rfl 98 i0 (.agg #[ι κ 0,ι κ 0,ι κ 0]) 3 24 underlying94 hi ox nh mO rfl eA u3 L.length (M4 L) rfl (S.alloc _) _ 1 1 [ι κ pd,ι κ pf,ι κ Y] rfl rfl eA (zn _ _ _ _ _ _ gY) (Ui _ _ _) (by unfold maxLen;omega) eh ?_));intro E jr w3 sA U sy;have D:Hid (Row w3 3 (σ (μ ⟨E,0,ν⟩) (L.length+1) jr) (L++ [(⟨pd,pf,Y⟩:HP)]).length (M4 (L++ [(⟨pd,pf,Y⟩:HP)]))):=by
     show Row _ _ _ _ _;rw[KB,aA];exact sA
    have X:eE w ((wr.alloc (γ #[ι κ pd,ι κ pf,ι κ Y] 98)).alloc (γ #[ι κ pd,ι κ pf,ι κ Y] 98)):=Below.alloc j.out j.out.size _;have Gh:Hid (eE w w3):=⟨U.os.trans X.os,U.tape.trans X.tape,U.output.trans X.output,Nat.le_trans X.size U.size,λi hi=>(U.block i (Nat.lt_of_lt_of_le hi X.size) (λe=>by have:=AQ.out i e.symm;omega)).trans (X.block i hi)⟩
    have Z1:Hid (∀g,eu (σ (μ ⟨E,0,ν⟩) (L.length+1) jr)=μ g->w.heap.size<=g):=by
     intro g h;have QB:E=g:=by simpa[eu]using h
     subst QB;rcases sy with e|e
     ·exact AQ.out _ e
     ·have:=y.out;omega
    clear sA U sy X S c0 c1 c2
    go_wp2
    go_roundw
    case rel=>exact⟨n+1,eh,by go_num,by rw[V.out];exact D.out,Z1.out,Gh.out⟩
    case measure=>simp[eY];omega
   ·rw[af hf]at V;have A:Hid _:=S;clear J T Z u S
    go_wp2
    go_roundw
    case rel=>exact⟨n+1,eh,by go_num,by rw[V.out];exact A.out,AQ.out,j.out⟩
    case measure=>simp[eY];omega
  ·have Ug:¬(n:Int)<7:=eh;have ju:n=7:=eh;subst ju;obtain⟨a,cap,rfl,hR⟩:=Row.hs J;have HR:Hid (ZZ w wr a (pR H 7).length (pR H 7)):=⟨hR,λx e=>by subst e;exact T _ rfl⟩
   clear hR J T
   go_wp2
   go_ret
   first|exact⟨a,cap,rfl,HR.out,Z⟩|exact⟨a,⟨cap,rfl⟩,HR.out,Z⟩
