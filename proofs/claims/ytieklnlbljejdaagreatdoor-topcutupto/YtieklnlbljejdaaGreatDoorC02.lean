import Derived.Test.YtieklnlbljejdaaGreatDoorC01
open Go.Value renaming int → ι, slice → σ, pointer → π, tuple → τ, nilIface → η, ownBlock → eh
open Go.IntKind renaming i64 → κ
open Go.Ending renaming returned → ρ
open Go.Obj renaming cells → γ
open Option renaming none → ν, some → μ
open Go renaming World → dX, Value → dY, TypeId → eu, Addr → dW, Calls → eX
open Go.World renaming setRow → fN
open Go.Instr renaming loadAt → fO, sureAddr → fP, storeAt → fT
open Go.Sem renaming run_bind → fQ, run_pure → fR
open Go.Result renaming andThen → fS, andThen_ok → eG
open Array renaming range → fU, mem_map → fV
open Go.Proofs.Tryz renaming prog → eY
open Go.RowKit renaming intOf → eZ
set_option maxRecDepth 100000
set_option maxHeartbeats 8000000
open Go.Proofs.Tryz
namespace Go.Proofs.YtieklnlbljejdaaGreatDoor
open Go.RowKit St
variable {B oL n r:Nat} {Q:Exit->Act->World->Prop} {a w:World} {bn:Nat->Bool} {by' far:Int} {o:Oper} {ops:Array Oper} {p:List Nat} {rest:List Oper}
theorem iX.setRow {w:dX} {B:Nat} {C D:Array dY} {t:eu} (h:iX w B C t):iX (w.setRow B D) B D t:=by
 unfold iX at*;simp only[fN];rw[cJ,ai rfl,h];rfl
theorem oM(h:Below n w a)(hB:n<=B)(D:Array dY):Below n w (a.setRow B D):=by
 refine⟨h.os,h.tape,h.output,by simpa[fN]using h.size,λi hi=> ?_⟩;rw[<-h.block i hi];simp only[fN];rw[cJ,af dZ]
theorem iX.Um {B':Nat} {C D:Array dY} {t:eu} (h:iX w B C t)(Z:B≠B'):iX (w.setRow B' D) B C t:=by
 unfold iX at*;simp only[fN];rw[cJ,af (λe=>Z e.symm)];exact h
section
variable {P:Program}
theorem iX.loadAt {w:dX} {B:Nat} {C:Array dY} {t:eu} (h:iX w B C t)(n:Nat)(e:eu)(Z:P.underlying t=μ (.array n e))(hi:(P.info? t).map (·.size)=μ C.size):(fO t (π (μ ⟨B,0,ν⟩))).run P w=.ok (.agg C) w:=by
 simp only[fO,fP,fQ,fR,fS];exact bS w B t t C (0,0) _ h Z rfl hi
theorem iX.storeAt {w:dX} {B:Nat} {C D:Array dY} {t:eu} (h:iX w B C t)(hs:C.size=D.size)(hi:(P.info? t).map (·.size)=μ D.size)(Z:D.all (·.oneCell')=true):(fT t (π (μ ⟨B,0,ν⟩)) (.agg D)).run P w=.ok () (w.setRow B D):=by
 simp only[fT,fP,fQ,fR,fS];exact run_storeVar_row w B t t C D h hi hs Z
theorem lg(w:dX) {a:Act} (Z:o.guard=ν)(x:Operand)(t:eu)(X:o.op=.load t x)
 (B:Nat) (C:Array dY) (n:Nat) (e:eu) (hx:a.eval x=π (μ ⟨B,0,ν⟩)) (hb:iX w B C t) (U:P.underlying t=μ (.array n e)) (hi:(P.info? t).map (·.size)=μ C.size)
 (h:wpList P ops Q rest (a.put o.dst (.agg C)) w):wpList P ops Q (o::rest) a w:=by
 refine wpList_plain Z λK Y=> ?_;have V:=hb.loadAt n e U hi;unfold Oper.wp execOp;simp only[X,fQ,fR,eG,hx,V];exact Y _ _ h
theorem mC(w:dX) {a:Act} (Z:o.guard=ν)(x y:Operand)(t:eu)(V:o.op=.store t x y)
 (B:Nat) (C D:Array dY) (hx:a.eval x=π (μ ⟨B,0,ν⟩)) (hy:a.eval y=.agg D) (hb:iX w B C t) (hs:C.size=D.size) (hi:(P.info? t).map (·.size)=μ D.size) (Y:D.all (·.oneCell')=true)
 (h:wpList P ops Q rest (a.put o.dst undef) (w.setRow B D)):wpList P ops Q (o::rest) a w:=by
 refine wpList_plain Z λK X=> ?_;have U:=hb.storeAt hs hi Y;unfold Oper.wp execOp;simp only[V,fQ,fR,eG,hx,hy,U];exact X _ _ h
end
abbrev kQ:=Nat->Nat->Int
def gC(C:kQ):Array dY:=(fU 49).map λi=>ι κ (C (i/7) (i%7))
theorem pX(C:kQ):(gC C).size=49:=by simp[gC]
theorem KC(C:kQ)(i:Nat)(h:i<49):(gC C)[i]? =μ (ι κ (C (i/7) (i%7))):=by simp[gC,h]
theorem AH(C:kQ)(a b:Nat)(ha:a<7)(hb:b<7):(gC C)[a*7+b]? =μ (ι κ (C a b)):=by
 rw[KC C _ dZ];rw[show(a*7+b)/7=a by omega,show(a*7+b) %7=b by omega]
def tN(C:kQ)(a b:Nat)(v:Int):kQ:=λx y=>if x=a/\y=b then v else C x y
theorem Un(C:kQ)(a b:Nat)(v:Int)(hb:b<7):(gC C).setIfInBounds (a*7+b) (ι κ v)=gC (tN C a b v):=by
 apply bQ;intro i;rw[bk];by_cases hi:i<49;{rw[KC _ i hi,KC _ i hi,pX];by_cases e:a*7+b=i;{rw[ai e,ai dZ];have Z:i/7=a:=dZ;have Y:i%7=b:=dZ;simp[tN,Z,Y]};{rw[af e];have:¬(i/7=a/\i%7=b):=dZ;simp only[tN,if_neg this]}};{have hs:∀D:kQ,(gC D)[i]? =ν:=λD=>a9 (by rw[pX];omega);rw[hs,hs];split;{rw[af (by rw[pX];omega)]};{rfl}}
theorem Nb(C:kQ):(gC C).all (·.oneCell')=true:=by
 rw[cr];intro v hv;obtain⟨i,_,rfl⟩:=fV.1 hv;rfl
structure HP where
 dst:Int
 far:Int
 rJ:Int
def HP.zero:HP:=⟨0,0,0⟩
def KE(H:Nat->HP)(i:Nat):dY:=ι κ (if i%3=0 then(H (i/3)).dst else if i%3=1 then(H (i/3)).far else(H (i/3)).rJ)
def hC(H:Nat->HP):Array dY:=(fU 21).map (KE H)
theorem tD(H:Nat->HP):(hC H).size=21:=by simp[hC]
theorem D7(H:Nat->HP)(i:Nat)(h:i<21):(hC H)[i]? =μ (KE H i):=by simp[hC,h]
theorem AJ(H:Nat->HP)(n:Nat)(hn:n<7):(hC H)[n*3]? =μ (ι κ (H n).dst)/\(hC H)[n*3+1]? =μ (ι κ (H n).far)/\(hC H)[n*3+2]? =μ (ι κ (H n).rJ):=by
 rw[D7 _ _ dZ,D7 _ _ dZ,D7 _ _ dZ];unfold KE;rw[show n*3%3=0 by omega,show n*3/3=n by omega,show(n*3+1) %3=1 by omega,show(n*3+1)/3=n by omega,show(n*3+2) %3=2 by omega,show(n*3+2)/3=n by omega];exact⟨rfl,rfl,rfl⟩
theorem Uo(H:Nat->HP):(hC H).all (·.oneCell')=true:=by
 rw[cr];intro v hv;obtain⟨i,_,rfl⟩:=fV.1 hv;rfl
def rk(H:Nat->HP)(n:Nat)(p:HP):Nat->HP:=λx=>if x=n then p else H x
theorem I6(H:Nat->HP)(n:Nat)(p:HP)(hn:n<7):(((hC H).setIfInBounds (n*3) (ι κ p.dst)).setIfInBounds (n*3+1) (ι κ p.far)).setIfInBounds (n*3+2) (ι κ p.rJ)=hC (rk H n p):=by
 apply bQ;intro i;rw[bk,bk,bk];simp only[Array.size_setIfInBounds,tD];by_cases hi:i<21
 ·rw[D7 _ i hi,D7 _ i hi];unfold KE;by_cases e:i/3=n
  ·have Y:rk H n p (i/3)=p:=by simp[rk,e]
   rw[Y];rcases(show i%3=0 \/i%3=1 \/i%3=2 by omega)with Z|Z|Z
   {rw[af (show¬n*3+2=i by omega),af (show¬n*3+1=i by omega),ai (show n*3=i by omega),ai dZ,ai Z]};{rw[af (show¬n*3+2=i by omega),ai (show n*3+1=i by omega),ai dZ,af dZ,ai Z]};{rw[ai (show n*3+2=i by omega),ai dZ,af dZ,af dZ]}
  ·have Y:rk H n p (i/3)=H (i/3):=by simp[rk,e]
   rw[Y,af (show¬n*3+2=i by omega),af (show¬n*3+1=i by omega),af (show¬n*3=i by omega)]
 ·have hs:∀D:Nat->HP,(hC D)[i]? =ν:=λD=>a9 (by rw[tD];omega);rw[hs,hs,af (show¬n*3+2=i by omega),af (show¬n*3+1=i by omega),af (show¬n*3=i by omega)]
theorem Ph:(eY.info? 256).map (λi=>(i.zero,i.size))=μ (μ (.agg (gC λ_ _=>0)),49):=gS
theorem Pj:(eY.info? 259).map (λi=>(i.zero,i.size))=μ (μ (.agg (hC λ_=>HP.zero)),21):=gS
theorem AK(w:dX):(zeroValue 256).run eY w=.ok (.agg (gC λ_ _=>0)) w:=(bT Ph).1 w
theorem KF(w:dX):(zeroValue 259).run eY w=.ok (.agg (hC λ_=>HP.zero)) w:=(bT Pj).1 w
theorem xf:(eY.info? 256).map (·.size)=μ 49:=(bT Ph).2
theorem I7:(eY.info? 259).map (·.size)=μ 21:=(bT Pj).2
structure Pk(w:dX)(a:Option dW)(n:Nat)(L:List HP):Prop where
 len:L.length=n
 row:n=0 \/ ∃b off,a=μ ⟨b,off,ν⟩/\∀j h,L[j]? =μ h->w.cell? ⟨b,off+j*3,ν⟩=μ (ι κ h.dst)/\w.cell? ⟨b,off+j*3+1,ν⟩=μ (ι κ h.far)/\w.cell? ⟨b,off+j*3+2,ν⟩=μ (ι κ h.rJ)
theorem Pk.below {w':dX} {a:Option dW} {L:List HP} (h:Pk w a n L)(hb:eB w w'):Pk w' a n L:=by
 refine⟨h.len,?_⟩;rcases h.row with Z|⟨b,off,rfl,Z⟩
 {exact .inl Z};{refine .inr ⟨b,off,rfl,λj s e=> ?_⟩;obtain⟨c1,c2,c3⟩:=Z j s e;have l:=ag w _ c1;exact⟨(hb.cell (p:=⟨b,off+j*3,ν⟩) l).trans c1,(hb.cell (p:=⟨b,off+j*3+1,ν⟩) l).trans c2,(hb.cell (p:=⟨b,off+j*3+2,ν⟩) l).trans c3⟩}
structure HsN(w w':dX)(a:Option dW)(n:Nat)(L:List HP):Prop where
 r:Pk w' a n L
 nw:∀x,a=μ x->w.heap.size<=x.block
def yx(L:List HP)(n:Int):Nat->Option Nat
 |0=>none
 |k+1=>match yx L n k with|some i=>some i|none=>(match L[k]? with|some h=>if h.dst=n then some k else none|none=>none)
def abQ:Option Nat->Int
 |none=> -1
 |some i=>(i:Int)
theorem Up(pd pf V x:Int)(X:Nat)(w:dX)(Z:w.cell? ⟨X,0,ν⟩=μ (ι κ x)):
 eX eY 219 #[.agg #[ι κ pd,ι κ pf,ι κ V],π (μ ⟨X,0,ν⟩)] w λe w'=>e=ρ (.bool (pd==x))/\eB w w':=by
 have U:X<w.heap.size:=ag w _ Z;have Y:=gT w (γ #[ι κ pd,ι κ pf,ι κ V] 98);have rM:=(Y.cell (p:=⟨X,0,ν⟩) U).trans Z
 go_in
 go_wp2
 go_ret;exact⟨rfl,Y⟩
theorem Gm(a:Option dW)(n cap:Nat)(L:List HP)(x:Int)(X:Nat)(w:dX)(h:Pk w a n L)(hn:n<=1000)(A:w.cell? ⟨X,0,ν⟩=μ (ι κ x)):
 eX eY 218 #[σ a n cap,.func (.func 219) #[] #[π (μ ⟨X,0,ν⟩)]] w λe w'=>e=ρ (ι κ (abQ (yx L x n)))/\eB w w':=by
 go_in
 go_wp2
 go_loopw [8] (λv wr=>∃k:Nat,k<=n/\v=ι κ k/\yx L x k=ν/\eB w wr) (λv _=>n-(eZ v).toNat)
 case atStart=>exact⟨0,Nat.zero_le _,rfl,rfl,au _ _⟩
 case round=>
  obtain⟨k,hk,rfl,D,U⟩:=hrel;have E:Hid _:=D;clear D;by_cases kA:k<n
  ·have nL:(k:Int)<(n:Int):=dZ;have y:=h.below U;have hl:=h.len;rcases y.row with h1|⟨b,off,rfl,hc⟩
   ·omega
   have M:L[k]? =μ (L[k]'(by omega)):=ay dZ;obtain⟨c0,c1,c2⟩:=hc k _ M;have S:Hid (yx L x (k+1)=if(L[k]'(by omega)).dst=x then μ k else ν):=by
    show _=_;simp only[yx,E.out,M]
   generalize L[k]'(by omega)=p at c0 c1 c2 S M;obtain⟨pd,pf,j⟩:=p;simp only at c0 c1 c2 S;have u:X<w.heap.size:=ag w _ A;have Y:=Up pd pf j x X wr ((U.cell (p:=⟨X,0,ν⟩) u).trans A);have G:Hid _:=U;clear hc y M U;by_cases Z:pd=x
   ·have V:(pd==x)=true:=by simpa using Z
    rw[V]at Y;have T:Hid (yx L x n=μ k):=by
     have mono:∀d,yx L x (k+1+d)=μ k:=by
      intro d
      induction d with
      |zero=>rw[Nat.add_zero,S.out,ai Z]
      |succ d ih=>rw[<-Nat.add_assoc];simp only[yx,ih]
     have:=mono (n-(k+1))
     rwa [show k+1+(n-(k+1))=n by omega]at this
    clear Z V;go_wp2_with(fail);refine Y.mono ?_;rintro e w1 ⟨rfl,k1⟩;have J:Hid _:=gh G.out k1;clear Y k1
    go_wp2
    go_ret;exact⟨by rw[T.out];rfl,J.out⟩
   ·have V:(pd==x)=false:=by simpa using Z
    rw[V]at Y;have T:Hid (yx L x (k+1)=ν):=by show _=_;rw[S.out,af Z]
    clear Z V;go_wp2_with(fail);refine Y.mono ?_;rintro e w1 ⟨rfl,k1⟩;have J:Hid _:=gh G.out k1;clear Y k1
    go_wp2
    go_roundw
    case rel=>exact⟨k+1,dZ,by go_num,T.out,J.out⟩
    case measure=>simp[eZ];omega
  ·have xL:¬(k:Int)<(n:Int):=dZ;have H:k=n:=dZ;have T:Hid (yx L x n=ν):=by rw[<-H];exact E.out
   clear H
   go_wp2
   go_ret;exact⟨by rw[T.out];rfl,U⟩
def AO(L:List HP)(n:Int):Option HP:=L.find? λh=>h.dst==n
theorem He(L:List HP)(n:Int):∀k,k<=L.length->(match yx L n k with|some i=>i<k/\L[i]? =AO (L.take k) n/\(AO (L.take k) n).isSome=true|none=>AO (L.take k) n=none)
 |0,_=>by simp[yx,AO]
 |k+1,hk=>by
  have ih:=He L n k dZ;have X:AO (L.take (k+1)) n=(AO (L.take k) n).or (if(L[k]'(by omega)).dst=n then μ (L[k]'(by omega))else ν):=by
   unfold AO;rw[aA dZ,List.find?_append];congr 1;by_cases e:(L[k]'(by omega)).dst=n<;>simp[e]
  simp only[yx];cases hi:yx L n k with
  |some i=>
   rw[hi]at ih;obtain⟨h1,Z,Y⟩:=ih;simp only;rw[X];cases e:AO (L.take k) n with
   |none=>rw[e]at Y;cases Y
   |some q=>rw[e]at Z;exact⟨dZ,by simpa using Z,rfl⟩
  |none=>
   rw[hi]at ih;simp only at ih⊢;have V:L[k]? =μ (L[k]'(by omega)):=ay dZ;rw[X,ih,V];by_cases e:(L[k]'(by omega)).dst=n;{simp[e]};{simp[e]}
theorem abR(a:Option dW)(n cap:Nat)(L:List HP)(x:Int)(w:dX)(h:Pk w a n L)(hn:n<=1000):
 eX eY 199 #[σ a n cap,ι κ x] w λe w'=>e=ρ (τ #[.agg #[ι κ ((AO L x).getD HP.zero).dst,ι κ ((AO L x).getD HP.zero).far,ι κ ((AO L x).getD HP.zero).rJ],.bool (AO L x).isSome])/\eB w w':=by
 obtain⟨U,V⟩:=gg ((w.alloc (γ #[ι κ x] 3)).alloc (γ #[ι κ 0,ι κ 0,ι κ 0] 98));have G:eB w U:=by rw[<-V];exact(gT _ _).alloc gU _
 have j:iX U w.heap.size #[ι κ x] 3:=by rw[<-V];exact(iX.new w _ _).below (gT _ _)
 have hY:iX U (w.heap.size+1) #[ι κ 0,ι κ 0,ι κ 0] 98:=by rw[<-V];exact iX.Gf _ _ _ _ gU
 have X:=Gm a n cap L x w.heap.size U (h.below G) hn (j.cell 0);have Y:=He L x L.length (Nat.le_refl _);rw[ct,h.len]at Y;have u:Hid _:=V;clear V
 go_in
 go_wp2_with(fail);rw[u.out];refine X.mono ?_;rintro e D ⟨rfl,k2⟩;have Z:=hY.below k2;have E:=gh G k2;have y0:D.cell? ⟨w.heap.size+1,0,ν⟩=μ (ι κ 0):=Z.cell 0;have y1:D.cell? ⟨w.heap.size+1,1,ν⟩=μ (ι κ 0):=Z.cell 1;have y2:D.cell? ⟨w.heap.size+1,2,ν⟩=μ (ι κ 0):=Z.cell 2;have f0:=Z.frozen 0;have f1:=Z.frozen 1;have f2:=Z.frozen 2;have lY:=Z.lt;have H:=h.below E;have HY2:Hid _:=Z;have A:Hid _:=E;clear X j hY k2 G u Z E;cases hi:yx L x n with
 |none=>
  rw[hi]at Y;simp only at Y;have M:Hid ((AO L x).getD HP.zero=HP.zero):=by show _=_;rw[Y];rfl
  have J:Hid ((AO L x).isSome=false):=by show _=_;rw[Y];rfl
  have hv:abQ ν= -1:=rfl;rw[hv];clear Y H hv;go_wp2_with(fail);refine aE (v:=τ #[.agg #[ι κ 0,ι κ 0,ι κ 0],.bool false]) (by simp[results,results199,go_sem,y0,y1,y2]) rfl ?_;exact⟨by rw[M.out,J.out];rfl,bw (bw (bw A.out (by show w.heap.size<=w.heap.size+1;omega) _) (by show w.heap.size<=w.heap.size+1;omega) _) (by show w.heap.size<=w.heap.size+1;omega) _⟩
 |some i=>
  rw[hi]at Y;obtain⟨h1,T,y⟩:=Y;have kT:(i:Int)<(n:Int):=dZ;have MC:¬(i:Int)<0:=dZ;obtain⟨p,S⟩:∃p,AO L x=μ p:=Option.isSome_iff_exists.1 y;rw[S]at T;have M:Hid ((AO L x).getD HP.zero=p):=by show _=_;rw[S];rfl
  have J:Hid ((AO L x).isSome=true):=by show _=_;rw[S];rfl
  have hv:abQ (μ i)=(i:Int):=rfl;rw[hv];clear hv;rcases H.row with e|⟨b,off,rfl,hc⟩
  ·omega
  obtain⟨c0,c1,c2⟩:=hc i p T;obtain⟨pd,pf,px⟩:=p;simp only at c0 c1 c2;have jt:b≠w.heap.size+1:=by
   rcases h.row with e|⟨b',ajF,e',jX⟩
   {omega};{cases e';have:=ag w _ (jX i _ T).1;simp only at this;omega}
  clear h1 T y S hc H;go_wp2_with(fail);refine aE (v:=τ #[.agg #[ι κ pd,ι κ pf,ι κ px],.bool true]) (by simp[results,results199,go_sem,y0,y1,y2]) rfl ?_;exact⟨by rw[M.out,J.out],bw (bw (bw A.out (by show w.heap.size<=w.heap.size+1;omega) _) (by show w.heap.size<=w.heap.size+1;omega) _) (by show w.heap.size<=w.heap.size+1;omega) _⟩
def ni(C:kQ)(o:Nat)(es:List jJ):kQ:=es.foldl (λC e=>tN C o e.1.toNat e.2) C
theorem Hf(C:kQ)(o:Nat)(es:List jJ)(k:Nat)(h:k<es.length):ni C o (es.take (k+1))=tN (ni C o (es.take k)) o (es[k].1.toNat) (es[k].2):=by
 unfold ni;rw[aA h,db];rfl
def jV(S:Nat->SV)(E:Nat->List jJ):Nat->kQ
 |0=>λ_ _=>0
 |i+1=>ni (jV S E i) (S i).own.toNat (E i)
theorem QR(a:Option dW)(n cap:Nat)(S:Nat->SV)(E:Nat->List jJ)(w:dX)(h:vT w a n S E)(hn:n<=1000)(iO:∀j,j<n->oA (S j).own (S j).seq (E j)=0):
 eX eY 162 #[σ a n cap] w λe w'=>e=ρ (.agg (gC (jV S E n)))/\eB w w':=by
 have hz:=AK;have QS:Hid _:=iO;clear iO;obtain⟨Z,hZ⟩:=gg (gC (λ_ _=>0));rw[hZ]at hz
 go_in
 go_wp2_with(fail);obtain⟨W0,nX⟩:=gg ((w.alloc (γ Z 256)).alloc (γ Z 256));have xh:eB w W0:=by rw[<-nX];exact(gT _ _).alloc gU _
 have xj:iX W0 w.heap.size Z 256:=by rw[<-nX];exact(iX.new w Z _).below (gT _ _)
 have rK:iX W0 (w.heap.size+1) (gC (jV S E 0)) 256:=by rw[<-nX];show iX _ _ (gC λ_ _=>0) _;rw[hZ];exact iX.Gf _ _ _ _ gU
 rw[nX];clear nX;obtain⟨V,FZ⟩:=gg (w.heap.size);have vQ:w.heap.size<=V:=dZ;rw[FZ]at xj rK;rw[FZ];clear FZ
 go_loopw [10] (λv wr=>∃i:Nat,i<=n/\v=ι κ i/\iX wr (V+1) (gC (jV S E i)) 256/\iX wr V Z 256/\eB w wr) (λv _=>n-(eZ v).toNat)
 case atStart=>exact⟨0,Nat.zero_le _,rfl,rK,xj,xh⟩
 case round=>
  clear xj rK xh;obtain⟨i,hi,rfl,T,M,U⟩:=hrel;by_cases kA:i<n
  ·have nL:(i:Int)<(n:Int):=dZ;have hw:=h.below U;obtain⟨ho,mZ,hx⟩:=hw.opt i kA;have iV:=hw.row;rcases iV with h1|⟨sb,off,rfl,hcs⟩
   ·omega
   obtain⟨c0,c1,c2⟩:=hcs i kA;have H:=QS.out i kA;have HOW:=(h.opt i kA).1;have HT:Hid (jV S E (i+1)=ni (jV S E i) (S i).own.toNat (E i)):=rfl;obtain⟨s,hs⟩:=gg (S i);obtain⟨es,he⟩:=gg (E i);rw[hs]at c0 c1 c2 ho mZ hx H HT HOW;rw[he]at ho H HT HOW;clear hs he hcs hw;obtain⟨so,sq,sa,sn,sc⟩:=s;simp only at c0 c1 c2 ho mZ hx H HT HOW;have Yd:=(ju H).1;obtain⟨o,rfl⟩:∃o:Nat,so=(o:Int):=⟨so.toNat,dZ⟩
   rw[Int.toNat_natCast]at HT;have Ye:=pV _ es 0 (ju H).2.2.2;have HES:Hid _:=Ye;have HOL:=ho.1;have hsn:sn<=6:=by have:=(ju H).2.2.1;omega
   have Gn:=U.alloc U.size (γ #[ι κ (o:Int),ι κ sq,σ sa sn sc] 40);have sC:=AF (o:Int) sq sa sn sc es _ hx (HOW.below Gn);have uf:Hid (ji (oA (o:Int) sq es)=η):=by show _=_;rw[H];rfl
   rw[uf.out]at sC;have D:=iX.new wr #[ι κ (o:Int),ι κ sq,σ sa sn sc] 40;have hG2:=T.below (gT wr (γ #[ι κ (o:Int),ι κ sq,σ sa sn sc] 40));have Xt:=M.below (gT wr (γ #[ι κ (o:Int),ι κ sq,σ sa sn sc] 40));have Hba:Hid _:=Gn;have Hwl:Hid (V+1<wr.heap.size):=T.lt;have Hlw:Hid _:=U.size;have HX:Hid _:=D;have u:Hid _:=hG2;have HZ2:Hid _:=Xt;clear Ye H U T M D hG2 Xt ho mZ hx Gn;go_wp2_with(fail);refine sC.mono ?_;rintro e w1 ⟨rfl,k1⟩;have A:=iX.below HX.out k1;have y:Hid _:=iX.below u.out k1;have HZ1:Hid _:=iX.below HZ2.out k1;have Hb1:Hid _:=gh Hba.out k1;obtain⟨X,MD⟩:=gg (wr.heap.size);rw[MD]at A;have aj4:Hid (V+1<X):=by show _<_;rw[<-MD];exact Hwl.out
   have apq:Hid (w.heap.size<=X):=by show _<=_;rw[<-MD];exact Hlw.out
   rw[MD];have x0:w1.cell? ⟨X,0,ν⟩=μ (ι κ (o:Int)):=A.cell 0;have x1:w1.cell? ⟨X,1,ν⟩=μ (ι κ sq):=A.cell 1;have x2:w1.cell? ⟨X,2,ν⟩=μ (σ sa sn sc):=A.cell 2;have HX1:Hid _:=A;clear sC k1 MD A HX u HZ2 Hba Hwl Hlw c0 c1 c2;go_wp2_with(fail);obtain⟨W1,rfl⟩:∃W1,W1=w1:=⟨_,rfl⟩
   clear x0 x1 x2
   go_loopw [20] (λv wr=>∃k:Nat,k<=sn/\v=ι κ k/\iX wr (V+1) (gC (ni (jV S E i) o (es.take k))) 256/\iX wr V Z 256/\iX wr X #[ι κ (o:Int),ι κ sq,σ sa sn sc] 40/\eB w wr) (λv _=>sn-(eZ v).toNat)
   case atStart=>exact⟨0,Nat.zero_le _,rfl,y.out,HZ1.out,HX1.out,Hb1.out⟩
   case round=>
    clear y HZ1 HX1 Hb1;obtain⟨k,hk,rfl,T,M,D,U⟩:=hrel;by_cases AL:k<sn
    ·have afl:(k:Int)<(sn:Int):=dZ;have Yf:=HOW.below U;rcases Yf.2 with h1|⟨eb,aj5,rfl,hec⟩
     ·omega
     obtain⟨d0,d1⟩:=hec k dZ;have Hd:=HES.out _ (aF (show k<es.length by omega));have HP:Hid (ni (jV S E i) o (es.take (k+1))=tN (ni (jV S E i) o (es.take k)) o ((es[k]'(by omega)).1.toNat) ((es[k]'(by omega)).2)):=Hf _ o es k dZ;obtain⟨p,hp⟩:=gg (es[k]'(by omega));rw[hp]at d0 d1 Hd HP;obtain⟨pt,pm⟩:=p;simp only at d0 d1 Hd HP;obtain⟨t,rfl⟩:∃t:Nat,pt=(t:Int):=⟨pt.toNat,dZ⟩
     rw[Int.toNat_natCast]at HP;obtain⟨G,nr⟩:=gg (wr.alloc (γ #[ι κ (t:Int),ι κ pm] 123));have kb:eB wr G:=by rw[<-nr];exact gT _ _
     have hY:iX G wr.heap.size #[ι κ (t:Int),ι κ pm] 123:=by rw[<-nr];exact iX.new _ _ _
     have J:=T.below kb;have yt:=D.below kb;have Hb3:Hid _:=gh U kb;have HZ3:Hid _:=M.below kb;have Uq:Hid _:=nr;clear hec hp Yf nr;obtain⟨Y,QT⟩:=gg (wr.heap.size);have HYl:Hid (X<Y):=by show _<_;rw[<-QT];exact D.lt
     rw[QT]at hY;have HYe:Hid _:=QT;clear QT kb T D M U;have y0:G.drew.cell? ⟨Y,0,ν⟩=μ (ι κ (t:Int)):=hY.cell 0;have y1:G.drew.cell? ⟨Y,1,ν⟩=μ (ι κ pm):=hY.cell 1;have z0:G.drew.cell? ⟨X,0,ν⟩=μ (ι κ (o:Int)):=yt.cell 0;have g0:G.drew.cell? ⟨V+1,o*7+t,ν⟩=μ (ι κ (ni (jV S E i) o (es.take k) o t)):=(J.cell _).trans (AH _ o t dZ dZ);have g1:G.drew.frozen? ⟨V+1,o*7+t,ν⟩=false:=J.frozen _;have o7:(o:Int)<7:=dZ;have t7:(t:Int)<7:=dZ;have Xu:Hid _:=J;have HX3:Hid _:=yt;have HY3:Hid _:=hY;clear J yt hY Hd Yd
     go_upto_region 9 with fail
     rw[Uq.out,HYe.out]
     go_region
     all_goals
      go_wp2
      go_roundw
      case rel=>
       have jt:X≠V+1:=by have:=aj4.out;omega
       refine⟨k+1,dZ,by go_num,?_,?_,?_,?_⟩;{rw[HP.out,<-Un _ o t pm dZ];exact iX.set Xu.out _ _};{exact iX.other HZ3.out dZ _};{exact iX.other HX3.out jt _};{exact below_drewN (bw Hb3.out (by show w.heap.size<=V+1;omega) _) 1}
      case measure=>simp[eZ];omega
    ·have xL:¬(k:Int)<(sn:Int):=dZ;have HG:Hid _:=T;have HZ:Hid _:=M;have HB:Hid _:=U;clear T M D U
     go_wp2
     go_roundw
     case rel=>
      refine⟨i+1,dZ,by go_num,?_,HZ.out,HB.out⟩;have e1:es.take k=es:=aI dZ;rw[HT.out,<-e1];exact HG.out
     case measure=>simp[eZ];omega
  ·have kL:i=n:=dZ;subst kL;have xL:¬(i:Int)<(i:Int):=dZ;clear kA;obtain⟨g,hg⟩:=gg (gC (jV S E i));have gs:g.size=49:=by rw[<-hg];exact pX _
   have g1:g.all (·.oneCell')=true:=by rw[<-hg];exact Nb _
   have zs:Z.size=49:=by rw[<-hZ];exact pX _
   rw[hg]at T;have HGE:Hid (g=gC (jV S E i)):=hg.symm;have hR:iX (wr.setRow V g) V g 256:=M.setRow;have l6:=bS (P:=eY) (wr.setRow V g) V 256 256 g (0,0) _ hR underlying256 rfl (by rw[gs];exact xf);have HBE:Hid (eB w (wr.setRow V g)):=oM U vQ g;have vm:(eY.info? 256).map (·.size)=μ g.size:=by rw[gs];exact xf
   have rS:Z.size=g.size:=by rw[gs,zs]
   clear hR hg hZ U;go_wp2_with(first
    |refine lg _ rfl (.tmp 3) 256 rfl (V+1) g _ _ rfl T underlying256 vm ?_
    |refine mC _ rfl (.tmp 2) (.tmp 34) 256 rfl V Z g rfl rfl M rS vm g1 ?_)
   refine aE (v:=.agg g) (by simp[results,results162,asAddr,l6]) rfl ?_;exact⟨by rw[HGE.out],HBE.out⟩
theorem vW {C D:kQ} (h:∀x y,x<7->y<7->C x y=D x y):gC C=gC D:=by
 apply bQ;intro i;by_cases hi:i<49;{rw[KC _ i hi,KC _ i hi,h (i/7) (i%7) dZ dZ]};{rw[a9 (by rw[pX];omega),a9 (by rw[pX];omega)]}
def kK(C:kQ):kQ:=λx y=>if 0<C y x then C x y else 0
def J8(C:kQ)(a b:Nat):kQ:=λx y=>if x<a \/(x=a/\y<b)then kK C x y else 0
theorem Ur(C:kQ)(a b:Nat):gC (J8 C a (b+1))=gC (tN (J8 C a b) a b (kK C a b)):=by
 refine vW λx y hx hy=> ?_;simp only[J8,tN];by_cases Z:x=a/\y=b;{rw[ai Z,ai dZ,Z.1,Z.2]};{rw[af Z];by_cases Y:x<a \/(x=a/\y<b);{rw[ai Y,ai dZ]};{rw[af Y,af dZ]}}
theorem Us(C:kQ)(a b:Nat)(h:kK C a b=0):gC (J8 C a (b+1))=gC (J8 C a b):=by
 refine vW λx y hx hy=> ?_;simp only[J8];by_cases Z:x=a/\y=b;{rw[ai dZ,af dZ,Z.1,Z.2,h]};{by_cases Y:x<a \/(x=a/\y<b);{rw[ai Y,ai dZ]};{rw[af Y,af dZ]}}
theorem Yg(C:kQ)(a:Nat):gC (J8 C a 7)=gC (J8 C (a+1) 0):=by
 refine vW λx y hx hy=> ?_;simp only[J8];by_cases Z:x<a \/(x=a/\y<7);{rw[ai Z,ai dZ]};{rw[af Z,af dZ]}
theorem Ut(C:kQ)(w:dX):
 eX eY 163 #[.agg (gC C)] w λe w'=>e=ρ (.agg (gC (kK C)))/\eB w w':=by
 have hz:=AK;obtain⟨Z,j⟩:=gg (gC (λ_ _=>0));rw[j]at hz;obtain⟨c,hc⟩:=gg (gC C);rw[hc]
 go_in
 go_wp2_with(fail);obtain⟨A,E⟩:=gg (((w.alloc (γ c 256)).alloc (γ Z 256)).alloc (γ Z 256));have xh:eB w A:=by rw[<-E];exact((gT _ _).alloc gU _).alloc (by simp;omega) _
 have xj:iX A w.heap.size c 256:=by rw[<-E];exact((iX.new w c _).below (gT _ _)).below (gT _ _)
 have rK:iX A (w.heap.size+1) Z 256:=by rw[<-E];exact(iX.Gf _ Z _ _ gU).below (gT _ _)
 have CQ:iX A (w.heap.size+2) (gC (J8 C 0 0)) 256:=by
  rw[<-E];have:gC (J8 C 0 0)=Z:=by rw[<-j];exact vW λx y _ _=>by simp[J8]
  rw[this];exact iX.Gf _ _ _ _ gU
 rw[E];clear E;obtain⟨Y,FZ⟩:=gg (w.heap.size);have vQ:w.heap.size<=Y:=dZ;rw[FZ]at xj rK CQ;rw[FZ];clear FZ
 go_loopw [6] (λv wr=>∃a:Nat,a<=7/\v=ι κ a/\iX wr (Y+2) (gC (J8 C a 0)) 256/\iX wr Y c 256/\iX wr (Y+1) Z 256/\eB w wr) (λv _=>7-(eZ v).toNat)
 case atStart=>exact⟨0,dZ,rfl,CQ,xj,rK,xh⟩
 case round=>
  clear xj rK CQ xh;obtain⟨a,ha,rfl,X,V,U,T⟩:=hrel;by_cases G:a<7
  ·have aj6:(a:Int)<7:=dZ;have J:Hid _:=X;have S:Hid _:=V;have H:Hid _:=U;have M:Hid _:=T;clear X V U T
   go_wp2
   go_loopw [9] (λv wr=>∃b:Nat,b<=7/\v=ι κ b/\iX wr (Y+2) (gC (J8 C a b)) 256/\iX wr Y c 256/\iX wr (Y+1) Z 256/\eB w wr) (λv _=>7-(eZ v).toNat)
   case atStart=>exact⟨0,dZ,rfl,J.out,S.out,H.out,M.out⟩
   case round=>
    clear J S H M;obtain⟨b,hb,rfl,X,V,U,T⟩:=hrel;by_cases u:b<7
    ·have abU:(b:Int)<7:=dZ;have r1:wr.cell? ⟨Y,b*7+a,ν⟩=μ (ι κ (C b a)):=(V.cell _).trans (by rw[<-hc];exact AH C b a u G);have r2:wr.cell? ⟨Y,a*7+b,ν⟩=μ (ι κ (C a b)):=(V.cell _).trans (by rw[<-hc];exact AH C a b G u);have r3:wr.cell? ⟨Y+2,a*7+b,ν⟩=μ (ι κ (J8 C a b a b)):=(X.cell _).trans (AH _ a b G u);have r4:=X.frozen (a*7+b);have J:Hid _:=X;have S:Hid _:=V;have H:Hid _:=U;have M:Hid _:=T;clear X V U T;by_cases qu:0<C b a
     ·have HS:Hid (kK C a b=C a b):=by show _=_;simp[kK,qu]
      go_wp2
      go_region
      all_goals
       go_wp2
       go_roundw
       case rel=>
        refine⟨b+1,dZ,by go_num,?_,iX.other S.out dZ _,iX.other H.out dZ _,below_drewN (bw M.out (by show w.heap.size<=Y+2;omega) _) 1⟩;rw[Ur,HS.out,<-Un _ a b _ u];exact iX.set J.out _ _
       case measure=>simp[eZ];omega
     ·have HS:Hid (kK C a b=0):=by show _=_;simp[kK,qu]
      go_wp2
      go_roundw
      case rel=>exact⟨b+1,dZ,by go_num,by rw[Us _ _ _ HS.out];exact J.out,S.out,H.out,M.out⟩
      case measure=>simp[eZ];omega
    ·have abU:¬(b:Int)<7:=dZ;have hbe:b=7:=dZ;have J:Hid _:=X;have S:Hid _:=V;have H:Hid _:=U;have M:Hid _:=T;clear X V U T
     go_wp2
     go_roundw
     case rel=>exact⟨a+1,dZ,by go_num,by rw[<-Yg,<-hbe];exact J.out,S.out,H.out,M.out⟩
     case measure=>simp[eZ];omega
  ·have aj6:¬(a:Int)<7:=dZ;have D:Hid (gC (J8 C a 0)=gC (kK C)):=vW λx y hx hy=>by simp only[J8];rw[ai dZ]
   obtain⟨g,h⟩:=gg (gC (J8 C a 0));have gs:g.size=49:=by rw[<-h];exact pX _
   have g1:g.all (·.oneCell')=true:=by rw[<-h];exact Nb _
   have zs:Z.size=49:=by rw[<-j];exact pX _
   rw[h]at X D;have hR:iX (wr.setRow (Y+1) g) (Y+1) g 256:=U.setRow;have l6:=bS (P:=eY) (wr.setRow (Y+1) g) (Y+1) 256 256 g (0,0) _ hR underlying256 rfl (by rw[gs];exact xf);have HBE:Hid (eB w (wr.setRow (Y+1) g)):=oM T dZ g;have vm:(eY.info? 256).map (·.size)=μ g.size:=by rw[gs];exact xf
   have rS:Z.size=g.size:=by rw[gs,zs]
   clear hR h j T V;go_wp2_with(first
    |refine lg _ rfl (.tmp 3) 256 rfl (Y+2) g _ _ rfl X underlying256 vm ?_
    |refine mC _ rfl (.tmp 2) (.tmp 29) 256 rfl (Y+1) Z g rfl rfl U rS vm g1 ?_)
   refine aE (v:=.agg g) (by simp[results,results163,asAddr,l6]) rfl ?_;exact⟨by rw[D.out],HBE.out⟩
theorem vX(S:Nat->SV)(E:Nat->List jJ):∀n,(∀j,j<n->oA (S j).own (S j).seq (E j)=0)->∀x y,0<=jV S E n x y/\jV S E n x y<=20
 |0,_,x,y=>by simp[jV]
 |n+1,h,x,y=>by
  have ih:=vX S E n (λj hj=>h j dZ);have Z:=pV _ (E n) 0 (ju (h n dZ)).2.2.2;simp only[jV,ni];generalize E n=es at Z;generalize jV S E n=C at ih
  induction es generalizing C with
  |nil=>exact ih x y
  |cons e es ihs=>
   rw[bF];refine ihs (λq Y=>Z q (by simp[Y])) _ (λu v=> ?_);simp only[tN];have:=Z e gU;split;{omega};{exact ih u v}
theorem Uu(a:Option dW)(n cap:Nat)(S:Nat->SV)(E:Nat->List jJ)(p q:Nat)(w:dX)(h:vT w a n S E)(hn:n<=1000)(iO:∀j,j<n->oA (S j).own (S j).seq (E j)=0):
 eX eY 159 #[σ a n cap,ι κ (p:Int),ι κ (q:Int)] w λe w'=>e=ρ (ι κ (kK (jV S E n) p q))/\eB w w':=by
 have QS:Hid _:=iO;clear iO
 go_in
 go_wp2
 go_loopw [7,8,9] (λt k v wr=>∃i:Nat,i<=n/\v=ι κ i/\t=ι κ (jV S E i p q)/\k=.bool (decide (0<jV S E i q p))/\eB w wr) (λ_ _ v _=>n-(eZ v).toNat)
 case atStart=>exact⟨0,Nat.zero_le _,rfl,rfl,by simp[jV],au _ _⟩
 case round=>
  obtain⟨i,hi,rfl,rfl,rfl,M⟩:=hrel;by_cases kA:i<n
  ·have nL:(i:Int)<(n:Int):=dZ;obtain⟨sb,off,rfl,hcs⟩:∃sb off,a=μ ⟨sb,off,ν⟩/\∀j,j<n->w.cell? ⟨sb,off+j*3,ν⟩=μ (ι κ (S j).own)/\w.cell? ⟨sb,off+j*3+1,ν⟩=μ (ι κ (S j).seq)/\w.cell? ⟨sb,off+j*3+2,ν⟩=μ (σ (S j).a (S j).n (S j).cap):=by
    rcases h.row with h1|h1
    {omega};{exact h1}
   have HOW:=(h.opt i kA).1;have AP:=QS.out i kA;have Yd:=(ju AP).1;have Ye:=pV _ (E i) 0 (ju AP).2.2.2;have h6:=(ju AP).2.2.1;obtain⟨o,A⟩:∃o:Nat,(S i).own=(o:Int):=⟨(S i).own.toNat,dZ⟩
   have HT:Hid (jV S E (i+1)=ni (jV S E i) o (E i)):=by show ni _ _ _=_;rw[A,Int.toNat_natCast]
   have HC:Hid (∀W,eB w W->W.cell? ⟨sb,off+i*3,ν⟩=μ (ι κ (o:Int))/\W.cell? ⟨sb,off+i*3+2,ν⟩=μ (σ (S i).a (S i).n (S i).cap)):=by
    intro W hW;obtain⟨c0,c1,c2⟩:=hcs i kA;have l:=ag w _ c0;rw[A]at c0;exact⟨(hW.cell (p:=⟨sb,off+i*3,ν⟩) l).trans c0,(hW.cell (p:=⟨sb,off+i*3+2,ν⟩) l).trans c2⟩
   have HES:Hid _:=Ye;obtain⟨es,he⟩:=gg (E i);rw[he]at HOW HT HES h6;have KG:=HOW.1;generalize (S i).a=sa at HC HOW;generalize (S i).cap=sc at HC;generalize (S i).n=sn at HC HOW KG;have hsn:sn<=6:=dZ;clear hcs he Ye AP A Yd;obtain⟨Z,Tr⟩:=gg (jV S E i);rw[Tr]at HT;rw[Tr];clear Tr;have HB:Hid _:=M;clear M
   go_wp2
   go_loopw [7,8,10] (λt z v wr=>∃k:Nat,k<=sn/\v=ι κ k/\t=ι κ (ni Z o (es.take k) p q)/\z=.bool (decide (0<ni Z o (es.take k) q p))/\eB w wr) (λ_ _ v _=>sn-(eZ v).toNat)
   case atStart=>exact⟨0,Nat.zero_le _,rfl,rfl,rfl,HB.out⟩
   case round=>
    clear HB;obtain⟨k,hk,rfl,rfl,rfl,M⟩:=hrel;obtain⟨c0,c2⟩:=HC.out wr M;by_cases AL:k<sn
    ·have afl:(k:Int)<(sn:Int):=dZ;have A:=HOW.below M;rcases A.2 with h1|⟨eb,aj5,rfl,hec⟩
     ·omega
     obtain⟨d0,d1⟩:=hec k dZ;have Hd:=HES.out _ (aF (show k<es.length by omega));have HP:Hid (ni Z o (es.take (k+1))=tN (ni Z o (es.take k)) o ((es[k]'(by omega)).1.toNat) ((es[k]'(by omega)).2)):=Hf _ o es k dZ;obtain⟨g,hg⟩:=gg (es[k]'(by omega));rw[hg]at d0 d1 Hd HP;obtain⟨gt,gm⟩:=g;simp only at d0 d1 Hd HP;obtain⟨t,rfl⟩:∃t:Nat,gt=(t:Int):=⟨gt.toNat,dZ⟩
     rw[Int.toNat_natCast]at HP;have ka:=M.alloc M.size (γ #[ι κ (t:Int),ι κ gm] 123);obtain⟨e0,T⟩:=HC.out _ ka;have H:Hid _:=ka;have V:Hid (ni Z o (es.take (k+1)) p q=(if p=o/\q=t then gm else ni Z o (es.take k) p q)/\decide (0<ni Z o (es.take (k+1)) q p)=(if q=o/\p=t then true else decide (0<ni Z o (es.take k) q p))):=by
      rw[HP.out];refine⟨rfl,?_⟩;by_cases e:q=o/\p=t
      ·have T:tN (ni Z o (es.take k)) o t gm q p=gm:=by simp only[tN,if_pos e]
       rw[ai e];exact bX (by rw[T];omega)
      ·have T:tN (ni Z o (es.take k)) o t gm q p=ni Z o (es.take k) q p:=by simp only[tN,if_neg e]
       rw[af e,decide_eq_decide,T]
     clear hec hg A ka M HP;generalize ni Z o (es.take k) p q=t1 at V⊢;generalize decide (0<ni Z o (es.take k) q p)=u at V⊢;have main:∀Q:Prop,(((o:Int)==(p:Int))=true->((t:Int)==(q:Int))=true->p=o->q=t->Q)->(((o:Int)==(p:Int))=true->((t:Int)==(q:Int))=false->¬(p=o/\q=t)->Q)->(((o:Int)==(p:Int))=false->¬(p=o/\q=t)->Q)->Q:=by
      intro Q q1 q2 q3;by_cases X:p=o
      ·have f1:((o:Int)==(p:Int))=true:=by simp[X]
       by_cases T:q=t;{exact q1 f1 (by simp[T]) X T}
       ·exact q2 f1 (by
         have:¬(t:Int)=(q:Int):=dZ;simpa using this) (λe=>T e.2)
      ·exact q3 (by
        have:¬(o:Int)=(p:Int):=dZ;simpa using this) (λe=>X e.1)
     have aaq:∀Q:Prop,(((o:Int)==(q:Int))=true->((t:Int)==(p:Int))=true->q=o/\p=t->Q)->(((o:Int)==(q:Int))=true->((t:Int)==(p:Int))=false->¬(q=o/\p=t)->Q)->(((o:Int)==(q:Int))=false->¬(q=o/\p=t)->Q)->Q:=by
      intro Q q1 q2 q3;by_cases X:q=o
      ·have f1:((o:Int)==(q:Int))=true:=by simp[X]
       by_cases T:p=t;{exact q1 f1 (by simp[T]) ⟨X,T⟩}
       ·exact q2 f1 (by
         have:¬(t:Int)=(p:Int):=dZ;simpa using this) (λe=>T e.2)
      ·exact q3 (by
        have:¬(o:Int)=(q:Int):=dZ;simpa using this) (λe=>X e.1)
     have D:Hid _:=aaq;clear aaq;refine main _ ?_ ?_ ?_<;>clear main
     ·intro f1 f2 X T;have J:Hid (ni Z o (es.take (k+1)) p q=gm):=by show _=_;rw[V.out.1,ai ⟨X,T⟩]
      clear X T;refine D.out _ ?_ ?_ ?_<;>clear D
      ·intro G f4 Y;have U:Hid (decide (0<ni Z o (es.take (k+1)) q p)=true):=by show _=_;rw[V.out.2,ai Y]
       clear Y
       go_wp2
       go_roundw
       case rel=>exact⟨k+1,dZ,by go_num,by rw[J.out],by rw[U.out],H.out⟩
       case measure=>simp[eZ];omega
      ·intro G f4 Y;have U:Hid (decide (0<ni Z o (es.take (k+1)) q p)=u):=by show _=_;rw[V.out.2,af Y]
       clear Y
       go_wp2
       go_roundw
       case rel=>exact⟨k+1,dZ,by go_num,by rw[J.out],by rw[U.out],H.out⟩
       case measure=>simp[eZ];omega
      ·intro G Y;have U:Hid (decide (0<ni Z o (es.take (k+1)) q p)=u):=by show _=_;rw[V.out.2,af Y]
       clear Y
       go_wp2
       go_roundw
       case rel=>exact⟨k+1,dZ,by go_num,by rw[J.out],by rw[U.out],H.out⟩
       case measure=>simp[eZ];omega
     ·intro f1 f2 X;have J:Hid (ni Z o (es.take (k+1)) p q=t1):=by show _=_;rw[V.out.1,af X]
      clear X;refine D.out _ ?_ ?_ ?_<;>clear D
      ·intro G f4 Y;have U:Hid (decide (0<ni Z o (es.take (k+1)) q p)=true):=by show _=_;rw[V.out.2,ai Y]
       clear Y
       go_wp2
       go_roundw
       case rel=>exact⟨k+1,dZ,by go_num,by rw[J.out],by rw[U.out],H.out⟩
       case measure=>simp[eZ];omega
      ·intro G f4 Y;have U:Hid (decide (0<ni Z o (es.take (k+1)) q p)=u):=by show _=_;rw[V.out.2,af Y]
       clear Y
       go_wp2
       go_roundw
       case rel=>exact⟨k+1,dZ,by go_num,by rw[J.out],by rw[U.out],H.out⟩
       case measure=>simp[eZ];omega
      ·intro G Y;have U:Hid (decide (0<ni Z o (es.take (k+1)) q p)=u):=by show _=_;rw[V.out.2,af Y]
       clear Y
       go_wp2
       go_roundw
       case rel=>exact⟨k+1,dZ,by go_num,by rw[J.out],by rw[U.out],H.out⟩
       case measure=>simp[eZ];omega
     ·intro f1 X;have J:Hid (ni Z o (es.take (k+1)) p q=t1):=by show _=_;rw[V.out.1,af X]
      clear X;refine D.out _ ?_ ?_ ?_<;>clear D
      ·intro G f4 Y;have U:Hid (decide (0<ni Z o (es.take (k+1)) q p)=true):=by show _=_;rw[V.out.2,ai Y]
       clear Y
       go_wp2
       go_roundw
       case rel=>exact⟨k+1,dZ,by go_num,by rw[J.out],by rw[U.out],H.out⟩
       case measure=>simp[eZ];omega
      ·intro G f4 Y;have U:Hid (decide (0<ni Z o (es.take (k+1)) q p)=u):=by show _=_;rw[V.out.2,af Y]
       clear Y
       go_wp2
       go_roundw
       case rel=>exact⟨k+1,dZ,by go_num,by rw[J.out],by rw[U.out],H.out⟩
       case measure=>simp[eZ];omega
      ·intro G Y;have U:Hid (decide (0<ni Z o (es.take (k+1)) q p)=u):=by show _=_;rw[V.out.2,af Y]
       clear Y
       go_wp2
       go_roundw
       case rel=>exact⟨k+1,dZ,by go_num,by rw[J.out],by rw[U.out],H.out⟩
       case measure=>simp[eZ];omega
    ·have xL:¬(k:Int)<(sn:Int):=dZ;have HTT:Hid (ni Z o (es.take k)=jV S E (i+1)):=by
      show _=_;rw[HT.out,aI dZ]
     rw[HTT.out];have HB:Hid _:=M;clear M
     go_wp2
     go_roundw
     case rel=>exact⟨i+1,dZ,by go_num,rfl,rfl,HB.out⟩
     case measure=>simp[eZ];omega
  ·have xL:¬(i:Int)<(n:Int):=dZ;have kL:i=n:=dZ;subst kL;by_cases y:0<jV S E i q p
   ·have V:Hid (kK (jV S E i) p q=jV S E i p q):=by show _=_;simp only[kK,if_pos y]
    have X:decide (0<jV S E i q p)=true:=bX y;rw[X];clear X y
    go_wp2
    go_ret;exact⟨by rw[V.out];rfl,M⟩
   ·have V:Hid (kK (jV S E i) p q=0):=by show _=_;simp only[kK,if_neg y]
    have X:decide (0<jV S E i q p)=false:=b9 y;rw[X];clear X y
    go_wp2
    go_ret;exact⟨by rw[V.out];rfl,M⟩
def lz(C:kQ)(r n:Nat):Nat->HP:=λx=>if x<n/\0<C r x then⟨x,C r x,x⟩else HP.zero
theorem D8 {H K:Nat->HP} (h:∀x,x<7->H x=K x):hC H=hC K:=by
 apply bQ;intro i;by_cases hi:i<21;{rw[D7 _ i hi,D7 _ i hi];unfold KE;rw[h (i/3) dZ]};{rw[a9 (by rw[tD];omega),a9 (by rw[tD];omega)]}
theorem Nc(C:kQ)(r n:Nat)(h:0<C r n):hC (lz C r (n+1))=hC (rk (lz C r n) n ⟨n,C r n,n⟩):=by
 refine D8 λx hx=> ?_;simp only[lz,rk];by_cases e:x=n;{subst e;rw[ai ⟨dZ,h⟩,ai rfl]};{rw[af e];by_cases Z:x<n/\0<C r x;{rw[ai Z,ai ⟨dZ,Z.2⟩]};{rw[af Z,af (λY=>Z ⟨dZ,Y.2⟩)]}}
theorem QU(C:kQ)(r n:Nat)(h:¬0<C r n):hC (lz C r (n+1))=hC (lz C r n):=by
 refine D8 λx hx=> ?_;simp only[lz];by_cases e:x=n;{subst e;rw[af (λZ=>h Z.2),af (λZ=>h Z.2)]};{by_cases Y:x<n/\0<C r x;{rw[ai Y,ai ⟨dZ,Y.2⟩]};{rw[af Y,af (λZ=>Y ⟨dZ,Z.2⟩)]}}
theorem QV(C:kQ)(r:Nat)(hr:r<7)(w:dX):
 eX eY 164 #[.agg (gC C),ι κ (r:Int)] w λe w'=>e=ρ (.agg (hC (lz C r 7)))/\eB w w':=by
 have hz:=KF;obtain⟨Z,M⟩:=gg (hC (λ_=>HP.zero));rw[M]at hz;obtain⟨c,hc⟩:=gg (gC C);rw[hc];have hr7:(r:Int)<7:=dZ
 go_in
 go_wp2_with(fail);obtain⟨S,V⟩:=gg (((w.alloc (γ c 256)).alloc (γ Z 259)).alloc (γ Z 259));have xh:eB w S:=by rw[<-V];exact((gT _ _).alloc gU _).alloc (by simp;omega) _
 have xj:iX S w.heap.size c 256:=by rw[<-V];exact((iX.new w c _).below (gT _ _)).below (gT _ _)
 have h:iX S (w.heap.size+1) Z 259:=by rw[<-V];exact(iX.Gf _ Z _ _ gU).below (gT _ _)
 have G:iX S (w.heap.size+2) (hC (lz C r 0)) 259:=by
  rw[<-V];have:hC (lz C r 0)=Z:=by rw[<-M];exact D8 λx _=>by simp[lz]
  rw[this];exact iX.Gf _ _ _ _ gU
 rw[V];clear V;obtain⟨Y,E⟩:=gg (w.heap.size);have vQ:w.heap.size<=Y:=dZ;rw[E]at xj h G;rw[E];clear E
 go_loopw [8] (λv wr=>∃n:Nat,n<=7/\v=ι κ n/\iX wr (Y+2) (hC (lz C r n)) 259/\iX wr Y c 256/\iX wr (Y+1) Z 259/\eB w wr) (λv _=>7-(eZ v).toNat)
 case atStart=>exact⟨0,dZ,rfl,G,xj,h,xh⟩
 case round=>
  clear xj h G xh;obtain⟨n,hn,rfl,X,H,T,J⟩:=hrel;by_cases j:n<7
  ·have Uw:(n:Int)<7:=dZ;have r1:wr.cell? ⟨Y,r*7+n,ν⟩=μ (ι κ (C r n)):=(H.cell _).trans (by rw[<-hc];exact AH C r n hr j);obtain⟨q0,q1,q2⟩:=AJ (lz C r n) n j;have s0:=(X.cell (n*3)).trans q0;have s1:=(X.cell (n*3+1)).trans q1;have s2:=(X.cell (n*3+2)).trans q2;have f0:=X.frozen (n*3);have f1:=X.frozen (n*3+1);have f2:=X.frozen (n*3+2);have lG:=X.lt;have HG:Hid _:=X;have Gp:Hid _:=H;have Xv:Hid _:=T;have HB:Hid _:=J;clear X H T J q0 q1 q2;have HY:=Nc C r n;have HN:=QU C r n;have u:Hid _:=HY;have y:Hid _:=HN;clear HY HN;by_cases qu:0<C r n
   ·go_wp2
    go_roundw
    case rel=>
     refine⟨n+1,dZ,by go_num,?_,iX.other (iX.other (iX.other Gp.out dZ _) dZ _) dZ _,iX.other (iX.other (iX.other Xv.out dZ _) dZ _) dZ _,bw (bw (bw HB.out (by show w.heap.size<=Y+2;omega) _) (by show w.heap.size<=Y+2;omega) _) (by show w.heap.size<=Y+2;omega) _⟩;rw[u.out qu,<-I6 _ n _ j];exact iX.set (iX.set (iX.set HG.out _ _) _ _) _ _
    case measure=>simp[eZ];omega
   ·go_wp2
    go_roundw
    case rel=>exact⟨n+1,dZ,by go_num,by rw[y.out qu];exact HG.out,Gp.out,Xv.out,HB.out⟩
    case measure=>simp[eZ];omega
  ·have Uw:¬(n:Int)<7:=dZ;have jt:n=7:=dZ;obtain⟨g,U⟩:=gg (hC (lz C r n));have gs:g.size=21:=by rw[<-U];exact tD _
   have g1:g.all (·.oneCell')=true:=by rw[<-U];exact Uo _
   have zs:Z.size=21:=by rw[<-M];exact tD _
   have A:Hid (g=hC (lz C r 7)):=by show _=_;rw[<-U,jt]
   rw[U]at X;have hR:iX (wr.setRow (Y+1) g) (Y+1) g 259:=T.setRow;have l6:=bS (P:=eY) (wr.setRow (Y+1) g) (Y+1) 259 259 g (0,0) _ hR underlying259 rfl (by rw[gs];exact I7);have D:Hid (eB w (wr.setRow (Y+1) g)):=oM J dZ g;have vm:(eY.info? 259).map (·.size)=μ g.size:=by rw[gs];exact I7
   have rS:Z.size=g.size:=by rw[gs,zs]
   clear hR U M J H jt;go_wp2_with(first
    |refine lg _ rfl (.tmp 5) 259 rfl (Y+2) g _ _ rfl X underlying259 vm ?_
    |refine mC _ rfl (.tmp 4) (.tmp 25) 259 rfl (Y+1) Z g rfl rfl T rS vm g1 ?_)
   refine aE (v:=.agg g) (by simp[results,results164,asAddr,l6]) rfl ?_;exact⟨by rw[A.out],D.out⟩
def ug(a b:HP):Bool:=b.far==0||decide (a.far<b.far)||(a.far==b.far&&decide (a.rJ<b.rJ))
theorem KH(a b:HP)(w:dX):
 eX eY 205 #[.agg #[ι κ a.dst,ι κ a.far,ι κ a.rJ],.agg #[ι κ b.dst,ι κ b.far,ι κ b.rJ]] w λe w'=>e=ρ (.bool (ug a b))/\eB w w':=by
 obtain⟨V,Z,Y⟩:=a;obtain⟨b0,b1,b2⟩:=b;simp only;have S:eB w ((w.alloc (γ #[ι κ V,ι κ Z,ι κ Y] 98)).alloc (γ #[ι κ b0,ι κ b1,ι κ b2] 98)):=(gT _ _).alloc gU _;have T:Hid (ug ⟨V,Z,Y⟩ ⟨b0,b1,b2⟩=(b1==0||decide (Z<b1)||(Z==b1&&decide (Y<b2)))):=rfl;by_cases J:(b1==0)=true
 ·have X:Hid (ug ⟨V,Z,Y⟩ ⟨b0,b1,b2⟩=true):=by show _=_;rw[T.out,J];rfl
  go_in
  go_wp2_with(fail);rw[X.out];go_ret;exact⟨rfl,S⟩
 have U:(b1==0)=false:=by simpa using J
 by_cases M:Z<b1
 ·have X:Hid (ug ⟨V,Z,Y⟩ ⟨b0,b1,b2⟩=true):=by show _=_;rw[T.out,bX M];simp
  go_in
  go_wp2_with(fail);rw[X.out];go_ret;exact⟨rfl,S⟩
 by_cases H:(Z==b1)=true
 ·have X:Hid (ug ⟨V,Z,Y⟩ ⟨b0,b1,b2⟩=decide (Y<b2)):=by show _=_;rw[T.out,U,b9 M,H];simp
  rw[X.out]
  go_in
  go_wp2
  go_ret;exact⟨rfl,S⟩
 have G:(Z==b1)=false:=by simpa using H
 have X:Hid (ug ⟨V,Z,Y⟩ ⟨b0,b1,b2⟩=false):=by show _=_;rw[T.out,U,b9 M,G];simp
 go_in
 go_wp2_with(fail);rw[X.out];go_ret;exact⟨rfl,S⟩
def oZ(C:kQ)(r b n:Nat)(H:Nat->HP):Nat->HP:=
 if(H b).far=0 \/C b n=0 \/n=r then H
 else if ug ⟨n,(H b).far+C b n,(H b).rJ⟩ (H n)=true then rk H n ⟨n,(H b).far+C b n,(H b).rJ⟩else H
def pC(C:kQ)(r b:Nat)(H:Nat->HP):Nat->Nat->HP
 |0=>H
 |n+1=>oZ C r b n (pC C r b H n)
def CR(C:kQ)(r:Nat)(H:Nat->HP):Nat->Nat->HP
 |0=>H
 |b+1=>pC C r b (CR C r H b) 7
def rU(H:Nat->HP)(m:Int):Prop:=∀n,0<=(H n).far/\(H n).far<=m
theorem rU.step {C:kQ} {b:Nat} {H:Nat->HP} {m:Int} (h:rU H m)(hC:∀x y,0<=C x y/\C x y<=20):rU (oZ C r b n H) (m+20):=by
 intro x;have hx:=h x;have hb:=h b;have hc:=hC b n;unfold oZ;split;{omega};{split;{simp only[rk];split;{simp only;omega};{omega}};{omega}}
theorem rU.row {C:kQ} {r b:Nat} {H:Nat->HP} {m:Int} (h:rU H m)(hC:∀x y,0<=C x y/\C x y<=20):∀n,rU (pC C r b H n) (m+20*n)
 |0=>λx=>by have:=h x;simp only[pC];omega
 |n+1=>λx=>by
  have:=(rU.step (C:=C) (r:=r) (b:=b) (n:=n) (rU.row (r:=r) (b:=b) h hC n) hC) x;simp only[pC];push_cast;omega
theorem rU.go {C:kQ} {r:Nat} {H:Nat->HP} {m:Int} (h:rU H m)(hC:∀x y,0<=C x y/\C x y<=20):∀b,rU (CR C r H b) (m+140*b)
 |0=>λx=>by have:=h x;simp only[CR];omega
 |b+1=>λx=>by
  have:=(rU.row (C:=C) (r:=r) (b:=b) (rU.go (r:=r) h hC b) hC 7) x;simp only[CR];push_cast at this⊢;omega
theorem Nd {o:Option Nat} (h:a.grownBy w o):a.grownBy w.drew o:=⟨h.os,h.tape,h.output,h.size,h.block⟩
theorem Ux(C:kQ)(r:Nat)(hr:r<7)(H:Nat->HP)(B:Nat)(m:Int)(w:dX)(hB:iX w B (hC H) 259)(CS:∀x y,0<=C x y/\C x y<=20)(hm:rU H m)(CT:m<=1000000):
 eX eY 165 #[π (μ ⟨B,0,ν⟩),.agg (gC C),ι κ (r:Int)] w λe w'=>e=ρ (τ #[])/\iX w' B (hC (CR C r H 7)) 259/\w.grownBy w' (μ B):=by
 obtain⟨c,hc⟩:=gg (gC C);rw[hc];have hr7:(r:Int)<7:=dZ
 go_in
 go_wp2_with(fail);obtain⟨W0,nX⟩:=gg (w.alloc (γ c 256));have Gi:eB w W0:=by rw[<-nX];exact gT _ _
 have xh:w.grownBy W0 (μ B):=⟨Gi.os,Gi.tape,Gi.output,Gi.size,λi hi _=>Gi.block i hi⟩
 have xj:iX W0 w.heap.size c 256:=by rw[<-nX];exact iX.new w c _
 have rK:iX W0 B (hC (CR C r H 0)) 259:=hB.below Gi;have hBC:B<w.heap.size:=hB.lt;rw[nX];clear nX Gi hB;obtain⟨D,FZ⟩:=gg (w.heap.size);have vQ:w.heap.size<=D:=dZ;rw[FZ]at xj hBC;rw[FZ];clear FZ;have HFL:=λb=>hm.go (r:=r) CS b;have HM:Hid _:=HFL;clear HFL hm
 go_loopw [9] (λv wr=>∃b:Nat,b<=7/\v=ι κ b/\iX wr B (hC (CR C r H b)) 259/\iX wr D c 256/\w.grownBy wr (μ B)) (λv _=>7-(eZ v).toNat)
 case atStart=>exact⟨0,dZ,rfl,rK,xj,xh⟩
 case round=>
  clear xj rK xh;obtain⟨b,hb,rfl,U,h,u⟩:=hrel;by_cases Xw:b<7
  ·have abU:(b:Int)<7:=dZ;have V:Hid _:=U;have J:Hid _:=h;have X:Hid _:=u;have AR:Hid (CR C r H (b+1)=pC C r b (CR C r H b) 7):=rfl;have hmb:=HM.out b;clear U h u;obtain⟨S,hHb⟩:=gg (CR C r H b);rw[hHb]at V AR hmb;have HMB:Hid (∀n,rU (pC C r b S n) (m+140*b+20*n)):=λn=>hmb.row CS n;clear hmb hHb
   go_wp2
   go_loopw [12] (λv wr=>∃n:Nat,n<=7/\v=ι κ n/\iX wr B (hC (pC C r b S n)) 259/\iX wr D c 256/\w.grownBy wr (μ B)) (λv _=>7-(eZ v).toNat)
   case atStart=>exact⟨0,dZ,rfl,V.out,J.out,X.out⟩
   case round=>
    clear V J X;obtain⟨n,hn,rfl,U,h,u⟩:=hrel;by_cases Yh:n<7
    ·have Uw:(n:Int)<7:=dZ;have vD:Hid (pC C r b S (n+1)=oZ C r b n (pC C r b S n)):=rfl;have xk:=HMB.out n b;obtain⟨G,hGe⟩:=gg (pC C r b S n);rw[hGe]at U vD xk;clear hGe;have r1:wr.cell? ⟨D,b*7+n,ν⟩=μ (ι κ (C b n)):=(h.cell _).trans (by rw[<-hc];exact AH C b n Xw Yh);obtain⟨p0,p1,p2⟩:=AJ G b Xw;have b0:=(U.cell (b*3)).trans p0;have b1:=(U.cell (b*3+1)).trans p1;have b2:=(U.cell (b*3+2)).trans p2;clear p0 p1 p2;have V:Hid _:=U;have J:Hid _:=h;have X:Hid _:=u;clear U h u;by_cases h1:(G b).far=0
     ·have yy:((G b).far==0)=true:=by simpa using h1
      have M:Hid (pC C r b S (n+1)=G):=by show _=_;rw[vD.out,oZ,ai (.inl h1)]
      generalize (G b).far=bf at b1 yy;clear h1
      go_wp2
      go_roundw
      case rel=>exact⟨n+1,dZ,by go_num,by rw[M.out];exact V.out,J.out,X.out⟩
      case measure=>simp[eZ];omega
     have yy:((G b).far==0)=false:=by simpa using h1
     by_cases h2:C b n=0
     ·have AQ:(C b n==0)=true:=by simpa using h2
      have M:Hid (pC C r b S (n+1)=G):=by show _=_;rw[vD.out,oZ,ai (.inr (.inl h2))]
      generalize (G b).far=bf at b1 yy;generalize C b n=A at r1 AQ;clear h1 h2
      go_wp2
      go_roundw
      case rel=>exact⟨n+1,dZ,by go_num,by rw[M.out];exact V.out,J.out,X.out⟩
      case measure=>simp[eZ];omega
     have AQ:(C b n==0)=false:=by simpa using h2
     by_cases h3:n=r
     ·have tO:((n:Int)==(r:Int))=true:=by simp[h3]
      have M:Hid (pC C r b S (n+1)=G):=by show _=_;rw[vD.out,oZ,ai (.inr (.inr h3))]
      generalize (G b).far=bf at b1 yy;generalize C b n=A at r1 AQ;clear h1 h2 h3
      go_wp2
      go_roundw
      case rel=>exact⟨n+1,dZ,by go_num,by rw[M.out];exact V.out,J.out,X.out⟩
      case measure=>simp[eZ];omega
     have tO:((n:Int)==(r:Int))=false:=by
      have:¬(n:Int)=(r:Int):=dZ;simpa using this
     have M:Hid (pC C r b S (n+1)=if ug ⟨n,(G b).far+C b n,(G b).rJ⟩ (G n)=true then rk G n ⟨n,(G b).far+C b n,(G b).rJ⟩else G):=by
      show _=_;rw[vD.out,oZ,af (by simp[h1,h2,h3])]
     have uM:=CS b n;have Uy:κ.wrap ((G b).far+C b n)=(G b).far+C b n:=aS _ ⟨dZ,dZ⟩;have E:=KH ⟨n,(G b).far+C b n,(G b).rJ⟩ (G n);obtain⟨p0,p1,p2⟩:=AJ G n Yh;have HN:Hid (∀W,iX W B (hC G) 259->W.cell? ⟨B,n*3,ν⟩=μ (ι κ (G n).dst)/\W.cell? ⟨B,n*3+1,ν⟩=μ (ι κ (G n).far)/\W.cell? ⟨B,n*3+2,ν⟩=μ (ι κ (G n).rJ)):=
      λW hW=>⟨(hW.cell _).trans p0,(hW.cell _).trans p1,(hW.cell _).trans p2⟩
     clear p0 p1 p2 vD h1 h2 h3 xk uM;generalize ug ⟨n,(G b).far+C b n,(G b).rJ⟩ (G n)=bt at M E;simp only at E;generalize I5:(G b).far+C b n=ff at M E Uy;generalize (G b).far=bf at b1 yy I5 Uy;generalize C b n=A at r1 AQ I5 Uy;generalize (G b).rJ=bx at b2 M E;generalize (G n).dst=nd at HN E;generalize (G n).far=nf at HN E;generalize (G n).rJ=nx at HN E;have aj8:κ.wrap (bf+A)=ff:=by rw[I5];exact Uy
     have d0:wr.drew.cell? ⟨B,b*3+1,ν⟩=μ (ι κ bf):=b1;have d1:wr.drew.cell? ⟨B,b*3+2,ν⟩=μ (ι κ bx):=b2;have d2:wr.drew.cell? ⟨D,b*7+n,ν⟩=μ (ι κ A):=r1;have lB:B<wr.heap.size:=iX.lt V.out;have lC:D<wr.heap.size:=iX.lt J.out;have kz:=gT wr (γ #[ι κ 0,ι κ 0,ι κ 0] 98);have e0:=(kz.cell (p:=⟨B,b*3+1,ν⟩) lB).trans b1;have e1:=(kz.cell (p:=⟨B,b*3+2,ν⟩) lB).trans b2;have e2:=(kz.cell (p:=⟨D,b*7+n,ν⟩) lC).trans r1;clear I5 Uy kz
     go_upto_region 8 with fail
     clear yy AQ tO
     go_region
     all_goals
      obtain⟨W3,xN⟩:=gg ((wr.alloc (γ #[ι κ (n:Int),ι κ ff,ι κ bx] 98)).drew);have k3:eB wr W3:=by rw[<-xN];exact below_drewN (gT _ _) 1
      have hY:iX W3 wr.heap.size #[ι κ (n:Int),ι κ ff,ι κ bx] 98:=by rw[<-xN];exact iX.drewN (iX.new wr _ _) 1
      obtain⟨Y,QT⟩:=gg (wr.heap.size);have hG3:=iX.below V.out k3;have Hc3:Hid _:=iX.below J.out k3;have J9:Hid (w.grownBy W3 (μ B)):=⟨k3.os.trans X.out.os,k3.tape.trans X.out.tape,k3.output.trans X.out.output,Nat.le_trans X.out.size k3.size,λi hi j=>(k3.block i (Nat.lt_of_lt_of_le hi X.out.size)).trans (X.out.block i hi j)⟩
      have HYB:Hid (B<Y/\D<Y):=by show _/\_;rw[<-QT];exact⟨lB,lC⟩
      rw[QT]at hY;have HY:Hid _:=hY;have Xu:Hid _:=hG3;have HF:Hid (∀W,eB W3 W->(W.cell? ⟨Y,0,ν⟩=μ (ι κ (n:Int))/\W.cell? ⟨Y,1,ν⟩=μ (ι κ ff)/\W.cell? ⟨Y,2,ν⟩=μ (ι κ bx))/\W.cell? ⟨B,n*3,ν⟩=μ (ι κ nd)/\W.cell? ⟨B,n*3+1,ν⟩=μ (ι κ nf)/\W.cell? ⟨B,n*3+2,ν⟩=μ (ι κ nx)):=by
       intro W hW;have q:=iX.below HY.out hW;exact⟨⟨iX.cell q 0,iX.cell q 1,iX.cell q 2⟩,HN.out W (iX.below Xu.out hW)⟩
      have KD:eB W3 W3.drew:=below_drewN (au _ _) 1;have F0:=HF.out _ KD;rw[xN,QT];clear xN k3 QT hG3 hY d0 d1 d2 e0 e1 e2 b0 b1 b2 r1 lB lC aj8
      go_wp2
      go_region_held3(λx=>(x.cell? ⟨Y,0,ν⟩=μ (ι κ (n:Int))/\x.cell? ⟨Y,1,ν⟩=μ (ι κ ff)/\x.cell? ⟨Y,2,ν⟩=μ (ι κ bx))/\x.cell? ⟨B,n*3,ν⟩=μ (ι κ nd)/\x.cell? ⟨B,n*3+1,ν⟩=μ (ι κ nf)/\x.cell? ⟨B,n*3+2,ν⟩=μ (ι κ nx))
       (first|assumption|exact F0|exact F1)
       ((go_at_call 205;refine(E _).mono ?_;rintro e w5 ⟨rfl,k5⟩;have F1:=HF.out _ (gh KD k5)))
      all_goals
       have Z:=gh KD k5;have T:=iX.below Xu.out Z;have I8:Hid _:=T;have Hc5:Hid _:=iX.below Hc3.out Z;have Hh:Hid (w.grownBy w5 (μ B)):=⟨Z.os.trans J9.out.os,Z.tape.trans J9.out.tape,Z.output.trans J9.out.output,Nat.le_trans J9.out.size Z.size,λi hi j=>(Z.block i (Nat.lt_of_lt_of_le hi J9.out.size)).trans (J9.out.block i hi j)⟩
       obtain⟨⟨y0,y1,y2⟩,g0,g1,g2⟩:=F1;have f0:=T.frozen (n*3);have f1:=T.frozen (n*3+1);have f2:=T.frozen (n*3+2);have lB:=T.lt;clear HF HN E F0 k5 KD Z T;cases bt
       ·have HS3:Hid (pC C r b S (n+1)=G):=by show _=_;rw[M.out];simp
        go_wp2
        go_roundw
        case rel=>exact⟨n+1,dZ,by go_num,by rw[HS3.out];exact I8.out,Hc5.out,Hh.out⟩
        case measure=>simp[eZ];omega
       ·have HS3:Hid (pC C r b S (n+1)=rk G n ⟨n,ff,bx⟩):=by show _=_;rw[M.out];simp
        go_wp2
        go_region
        all_goals
         go_wp2
         go_roundw
         case rel=>
          have j:D≠B:=by have:=Hh.out.size;omega
          refine⟨n+1,dZ,by go_num,?_,iX.other (iX.other (iX.other Hc5.out j _) j _) j _,Nd (kP (kP (kP Hh.out _ _) _ _) _ _)⟩;rw[HS3.out,<-I6 _ n _ Yh];exact iX.set (iX.set (iX.set I8.out _ _) _ _) _ _
         case measure=>simp[eZ];omega
    ·have Uw:¬(n:Int)<7:=dZ;have j:n=7:=dZ;have V:Hid _:=U;have J:Hid _:=h;have X:Hid _:=u;clear U h u
     go_wp2
     go_roundw
     case rel=>exact⟨b+1,dZ,by go_num,by rw[AR.out,<-j];exact V.out,J.out,X.out⟩
     case measure=>simp[eZ];omega
  ·have abU:¬(b:Int)<7:=dZ;have hbe:b=7:=dZ;have V:Hid (iX wr B (hC (CR C r H 7)) 259):=by rw[<-hbe];exact U
   have X:Hid _:=u;clear U h u hbe
   go_wp2
   first|go_end0|refine iK rfl rfl ?_
   exact⟨rfl,V.out,X.out⟩
def pT(H:Nat->HP):Nat->List HP
 |0=>[]
 |n+1=>if 0<(H n).far then pT H n++ [H n]else pT H n
theorem rm(H:Nat->HP):∀n,(pT H n).length<=n
 |0=>Nat.le_refl _
 |n+1=>by
  have:=rm H n;simp only[pT];split;{simp;omega};{omega}
def Nf(L:List HP):List dY:=L.flatMap λh=>[ι κ h.dst,ι κ h.far,ι κ h.rJ]
theorem KI(L:List HP)(h:HP):Nf (L++ [h])=Nf L++ [ι κ h.dst,ι κ h.far,ι κ h.rJ] :=by simp[Nf]
theorem Po:∀(L:List HP) (j:Nat) (h:HP),L[j]? =μ h->(Nf L)[j*3]? =μ (ι κ h.dst)/\(Nf L)[j*3+1]? =μ (ι κ h.far)/\(Nf L)[j*3+2]? =μ (ι κ h.rJ)
 |[],j,s,h=>by simp at h
 |x::l,0,s,h=>by
  have:x=s:=by simpa using h
  subst this;exact⟨rfl,rfl,rfl⟩
 |x::l,j+1,s,h=>by
  have V:l[j]? =μ s:=by simpa using h
  obtain⟨a,b,c⟩:=Po l j s V;have e:Nf (x::l)=ι κ x.dst::ι κ x.far::ι κ x.rJ::Nf l:=rfl;have Z:(j+1)*3=j*3+3:=dZ;have Y:(j+1)*3+1=j*3+1+3:=dZ;have X:(j+1)*3+2=j*3+2+3:=dZ;rw[e,Y,X,Z];simp only[List.getElem?_cons_succ];exact⟨a,b,c⟩
theorem Row.hs {v:dY} {L:List HP} (h:Row w 3 v L.length (Nf L)):∃a cap,v=σ a L.length cap/\Pk w a L.length L:=by
 rcases h.2 with⟨rfl,e⟩|⟨g,cap,rfl,_⟩
 {rw[e];exact⟨ν,0,rfl,⟨e,.inl rfl⟩⟩};{refine⟨_,cap,rfl,⟨rfl,.inr ⟨g,0,rfl,λj s e=> ?_⟩⟩⟩;obtain⟨a,b,c⟩:=Po L j s e;rw[show 0+j*3=j*3 by omega];exact⟨Row.cell h _ _ a,Row.cell h _ _ b,Row.cell h _ _ c⟩}
theorem zp(w:dX)(x y z:dY)(t:eu)(g:Nat)(Z:w.heap.size=g):∀(j:Nat) (u:dY),[x,y,z][j]? =μ u->(w.alloc (γ #[x,y,z] t)).cell? ((⟨g,0,ν⟩:dW).add j)=μ u:=by
 subst Z;intro j u Y;rw[add_plain,aq];simpa using Y
theorem Uz(x y z:Int):∀u∈ [ι .i64 x,ι .i64 y,ι .i64 z],u.oneCell'=true:=by simp[Value.oneCell']
theorem Pp:(eY.info? 98).map (λi=>(i.zero,i.size,i.bytes))=μ (μ (.agg #[ι κ 0,ι κ 0,ι κ 0]),3,24):=gS
theorem UA(H:Nat->HP)(B:Nat)(w:dX)(hB:iX w B (hC H) 259):
 eX eY 166 #[π (μ ⟨B,0,ν⟩)] w λe w'=>∃a cap,e=ρ (σ a (pT H 7).length cap)/\HsN w w' a (pT H 7).length (pT H 7)/\eB w w':=by
 obtain⟨i0,hi,og,mZ,mc⟩:=aW Pp
 go_in
 go_wp2
 go_loopw [3,8] (λs v wr=>∃n:Nat,n<=7/\v=ι κ n/\Row wr 3 s (pT H n).length (Nf (pT H n))/\(∀g,s.ownBlock=μ g->w.heap.size<=g)/\eB w wr) (λ_ v _=>7-(eZ v).toNat)
 case atStart=>exact⟨0,dZ,rfl,Row.nil _ _,λg h=>by simp[eh]at h,au _ _⟩
 case round=>
  obtain⟨n,hn,rfl,S,M,Z⟩:=hrel;have HL:Hid _:=rm H n;have Y:Hid (pT H (n+1)=if 0<(H n).far then pT H n++ [H n]else pT H n):=rfl;by_cases Yh:n<7
  ·have Uw:(n:Int)<7:=dZ;obtain⟨p0,p1,p2⟩:=AJ H n Yh;have G:=hB.below Z;have c0:=(G.cell (n*3)).trans p0;have c1:=(G.cell (n*3+1)).trans p1;have c2:=(G.cell (n*3+2)).trans p2;clear p0 p1 p2 G;obtain⟨p,hp⟩:=gg (H n);rw[hp]at c0 c1 c2 Y;clear hp;obtain⟨pd,pf,V⟩:=p;simp only at c0 c1 c2 Y;have D:=Z.alloc Z.size (γ #[ι κ pd,ι κ pf,ι κ V] 98);have u:Hid _:=D;have hws:Hid (w.heap.size<=wr.heap.size):=Z.size;have J:=S.alloc (γ #[ι κ pd,ι κ pf,ι κ V] 98);have E:Hid _:=M;by_cases hf:0<pf
   ·rw[ai hf]at Y;obtain⟨L,T⟩:=gg (pT H n);rw[T]at Y HL J;have hLl:L.length<=n:=HL.out;clear T S M Z D;go_wp2_with(at_builtin;go_must(refine iG _ rfl (.tmp 16) (.tmp 18) 94 rfl 98 i0 (.agg #[ι κ 0,ι κ 0,ι κ 0]) 3 24 underlying94 hi og mZ mc rfl ew u3 L.length (Nf L) rfl (J.alloc _) _ 1 1 [ι κ pd,ι κ pf,ι κ V] rfl rfl ew (zp _ _ _ _ _ _ gU) (Uz _ _ _) (by unfold maxLen;omega) dZ ?_));intro j jn w3 sD U sG;have y:Hid (Row w3 3 (σ (μ ⟨j,0,ν⟩) (L.length+1) jn) (L++ [(⟨pd,pf,V⟩:HP)]).length (Nf (L++ [(⟨pd,pf,V⟩:HP)]))):=by
     show Row _ _ _ _ _;rw[KI,az];exact sD
    have X:eB w ((wr.alloc (γ #[ι κ pd,ι κ pf,ι κ V] 98)).alloc (γ #[ι κ pd,ι κ pf,ι κ V] 98)):=Below.alloc u.out u.out.size _;have J9:Hid (eB w w3):=⟨U.os.trans X.os,U.tape.trans X.tape,U.output.trans X.output,Nat.le_trans X.size U.size,λi hi=>(U.block i (Nat.lt_of_lt_of_le hi X.size) (λe=>by have:=E.out i e.symm;omega)).trans (X.block i hi)⟩
    have Xu:Hid (∀g,eh (σ (μ ⟨j,0,ν⟩) (L.length+1) jn)=μ g->w.heap.size<=g):=by
     intro g h;have QD:j=g:=by simpa[eh]using h
     subst QD;rcases sG with e|e
     {exact E.out _ e};{have:=hws.out;omega}
    clear sD U sG X J c0 c1 c2
    go_wp2
    go_roundw
    case rel=>exact⟨n+1,dZ,by go_num,by rw[Y.out];exact y.out,Xu.out,J9.out⟩
    case measure=>simp[eZ];omega
   ·rw[af hf]at Y;have A:Hid _:=J;clear S M Z D J
    go_wp2
    go_roundw
    case rel=>exact⟨n+1,dZ,by go_num,by rw[Y.out];exact A.out,E.out,u.out⟩
    case measure=>simp[eZ];omega
  ·have Uw:¬(n:Int)<7:=dZ;have jt:n=7:=dZ;subst jt;obtain⟨a,cap,rfl,hR⟩:=Row.hs S;have HR:Hid (HsN w wr a (pT H 7).length (pT H 7)):=⟨hR,λx e=>by subst e;exact M _ rfl⟩
   clear hR S M
   go_wp2
   go_ret
   first|exact⟨a,cap,rfl,HR.out,Z⟩|exact⟨a,⟨cap,rfl⟩,HR.out,Z⟩
def jw(C:kQ)(r:Nat):Nat->Nat->HP
 |0=>lz C r 7
 |k+1=>CR C r (jw C r k) 7
def pY(C:kQ)(r:Nat):List HP:=pT (jw C r 6) 7
theorem BQ {C:kQ} (r:Nat)(hC:∀x y,0<=C x y/\C x y<=20):∀k,rU (jw C r k) (20+980*k)
 |0=>λn=>by
  simp only[jw,lz];have:=hC r n;split;{simp only;omega}
  ·simp[HP.zero]
 |k+1=>λn=>by
  have:=(BQ r hC k).go (r:=r) hC 7 n;simp only[jw];push_cast at this⊢;omega
theorem BS {C:kQ} (hC:∀x y,0<=C x y/\C x y<=20):∀x y,0<=kK C x y/\kK C x y<=20:=by
 intro x y;have:=hC x y;simp only[kK];split<;>omega
theorem UB(a:Option dW)(n cap:Nat)(S:Nat->SV)(E:Nat->List jJ)(r:Nat)(w:dX)(h:vT w a n S E)(hn:n<=1000)(iO:∀j,j<n->oA (S j).own (S j).seq (E j)=0)(k8:1<=r)(hr6:r<=6):
 eX eY 116 #[σ a n cap,ι κ (r:Int)] w λe w'=>∃b c,e=ρ (σ b (pY (kK (jV S E n)) r).length c)/\HsN w w' b (pY (kK (jV S E n)) r).length (pY (kK (jV S E n)) r)/\eB w w':=by
 have htl:=QR a n cap S E w h hn iO;have hz:=AK;have mc:=KF;have Hd:=BS (vX S E n iO);have y:Hid _:=Hd;have r1:¬(r:Int)<1:=dZ;have r2:¬6<(r:Int):=dZ;obtain⟨Z,hZ⟩:=gg (gC (λ_ _=>0));obtain⟨M,Xt⟩:=gg (hC (λ_=>HP.zero));have zs:Z.size=49:=by rw[<-hZ];exact pX _
 have zs2:M.size=21:=by rw[<-Xt];exact tD _
 rw[hZ]at hz;rw[Xt]at mc;clear hZ Xt Hd iO
 go_in
 go_wp2_with(fail);refine htl.mono ?_;rintro e w1 ⟨rfl,k1⟩;have AA:=Ut (jV S E n) w1;obtain⟨C,hCe⟩:=gg (kK (jV S E n));rw[hCe]at AA y;have HCe:Hid _:=hCe;clear htl hCe;go_wp2_with(fail);refine AA.mono ?_;rintro e T ⟨rfl,k2⟩;have mS:=gh k1 k2;clear AA k1 k2;have gs:(gC C).size=49:=pX _;have g1:(gC C).all (·.oneCell')=true:=Nb _;have vm:(eY.info? 256).map (·.size)=μ (gC C).size:=by rw[gs];exact xf
 have rS:Z.size=(gC C).size:=by rw[gs,zs]
 have u:iX (T.alloc (γ Z 256)) T.heap.size Z 256:=iX.new _ _ _;have CQ:iX ((T.alloc (γ Z 256)).setRow T.heap.size (gC C)) T.heap.size (gC C) 256:=u.setRow;have Hb3:Hid (eB w ((T.alloc (γ Z 256)).setRow T.heap.size (gC C))):=oM (mS.alloc mS.size _) mS.size _;have Pm:=QV C r dZ ((T.alloc (γ Z 256)).setRow T.heap.size (gC C));have Au:Hid _:=CQ;have Hs2:Hid _:=mS.size;clear mS;go_wp2_with(first
  |refine lg _ rfl (.tmp 5) 256 rfl T.heap.size (gC C) _ _ rfl CQ underlying256 vm ?_
  |refine mC _ rfl (.tmp 5) (.tmp 15) 256 rfl T.heap.size Z (gC C) rfl rfl u rS vm g1 ?_)
 refine Pm.mono ?_;rintro e V ⟨rfl,k3⟩;have yt:=iX.below Au.out k3;have sg:=gh Hb3.out k3;obtain⟨X,MD⟩:=gg (T.heap.size);have HsX:Hid (w.heap.size<=X):=by show _<=_;rw[<-MD];exact Hs2.out
 rw[MD]at yt;rw[MD];have A:Hid (X<V.heap.size):=yt.lt;clear Pm u CQ Au Hb3 k3 Hs2 MD vm rS;obtain⟨F,hF⟩:=gg (hC (lz C r 7));have fs:F.size=21:=by rw[<-hF];exact tD _
 have f1:F.all (·.oneCell')=true:=by rw[<-hF];exact Uo _
 have QW:(eY.info? 259).map (·.size)=μ F.size:=by rw[fs];exact I7
 have afr:M.size=F.size:=by rw[fs,zs2]
 rw[hF];have u:iX (V.alloc (γ M 259)) V.heap.size M 259:=iX.new _ _ _;have hY4:iX ((V.alloc (γ M 259)).setRow V.heap.size F) V.heap.size F 259:=u.setRow;have hX4:iX ((V.alloc (γ M 259)).setRow V.heap.size F) X (gC C) 256:=(yt.below (gT _ _)).Um (by have:=A.out;omega);have D:Hid (eB w ((V.alloc (γ M 259)).setRow V.heap.size F)):=oM (sg.alloc sg.size _) sg.size _;have G:Hid (iX ((V.alloc (γ M 259)).setRow V.heap.size F) V.heap.size (hC (jw C r 0)) 259):=by show iX _ _ (hC (lz C r 7)) _;rw[hF];exact hY4
 have H:Hid _:=hX4;have HS3:Hid _:=sg.size;clear sg hF yt;go_wp2_with(first
  |refine mC _ rfl (.tmp 6) (.tmp 18) 259 rfl V.heap.size M F rfl rfl u afr QW f1 ?_)
 obtain⟨Y,QT⟩:=gg (V.heap.size);rw[QT]at G H D A HS3;rw[QT];clear QT u hY4 hX4 QW afr fs f1;obtain⟨W4,uN⟩:=gg ((V.alloc (γ M 259)).setRow Y F);rw[uN]at G H D;rw[uN];clear uN;have HRF:=BQ r y.out;have ake:Hid _:=HRF;clear HRF
 go_loopw [19] (λv wr=>∃k:Nat,k<=6/\v=ι κ k/\iX wr X (gC C) 256/\iX wr Y (hC (jw C r k)) 259/\eB w wr) (λv _=>6-(eZ v).toNat)
 case atStart=>exact⟨0,dZ,rfl,H.out,G.out,D.out⟩
 case round=>
  clear H G D;obtain⟨k,hk,rfl,hX,hY,iL⟩:=hrel;by_cases hk6:k<6
  ·have akf:(k:Int)<6:=dZ;have vm:(eY.info? 256).map (·.size)=μ (gC C).size:=by rw[gs];exact xf
   have hgo:=Ux C r dZ (jw C r k) Y (20+980*k) wr hY y.out (ake.out k) dZ;have HX:Hid _:=hX;have J:Hid _:=iL;clear hY iL;go_wp2_with(first
    |refine lg _ rfl (.tmp 5) 256 rfl X (gC C) _ _ rfl hX underlying256 vm ?_)
   refine hgo.mono ?_;rintro e w5 ⟨rfl,hY5,U⟩;have hXl:=iX.lt HX.out;have HX5:Hid (iX w5 X (gC C) 256):=iX.keep HX.out (U.block X hXl (λe=>by have:=A.out;simp at e;omega));have HY5:Hid _:=hY5;have Hh:Hid (eB w w5):=⟨U.os.trans J.out.os,U.tape.trans J.out.tape,U.output.trans J.out.output,Nat.le_trans J.out.size U.size,λi hi=>(U.block i (Nat.lt_of_lt_of_le hi J.out.size) (λe=>by have:=HS3.out;simp at e;omega)).trans (J.out.block i hi)⟩
   clear hgo hY5 U hX vm
   go_wp2
   go_roundw
   case rel=>exact⟨k+1,dZ,by go_num,HX5.out,HY5.out,Hh.out⟩
   case measure=>simp[eZ];omega
  ·have akf:¬(k:Int)<6:=dZ;have hke:k=6:=dZ;have hli:=UA (jw C r k) Y wr hY;have HL:Hid (pT (jw C r k) 7=pY (kK (jV S E n)) r):=by show _=_;rw[HCe.out,hke];rfl
   rw[HL.out]at hli;clear hX hY hke HL;go_wp2_with(fail);refine hli.mono ?_;rintro e w5 ⟨ra,rc,rfl,hR,k5⟩;have HR:Hid (HsN w w5 ra (pY (kK (jV S E n)) r).length (pY (kK (jV S E n)) r)):=⟨hR.r,λx e=>Nat.le_trans iL.size (hR.nw x e)⟩
   have J:Hid _:=gh iL k5;clear hli hR k5 iL
   go_wp2
   go_ret
   first|exact⟨_,_,rfl,HR.out,J.out⟩|exact⟨_,⟨_,rfl⟩,HR.out,J.out⟩
section
variable (C:kQ) (r:Nat)
def pc:List Nat->Int
 |[] =>0
 |[n] =>C r n
 |n::m::l=>pc (m::l)+C m n
def Hj:List Nat->Prop
 |[] =>False
 |[n] =>0<C r n/\n≠r/\n<7
 |n::m::l=>Hj (m::l)/\0<C m n/\n≠r/\n<7
end
def xO:List Nat->Nat
 |[] =>0
 |[n] =>n
 |_::m::l=>xO (m::l)
def xm(a:Int×Int)(b:Int×Int):Prop:=a.1<b.1 \/(a.1=b.1/\a.2<=b.2)
theorem xm.trans {a b c:Int×Int} (h:xm a b)(k:xm b c):xm a c:=by unfold xm at*;omega
theorem xm.rfl'(a:Int×Int):xm a a:=.inr ⟨rfl,Int.le_refl _⟩
def HP.v(h:HP):Int×Int:=(h.far,h.rJ)
def zq(G' G:Nat->HP):Prop:=∀x,0<(G x).far->0<(G' x).far/\xm (G' x).v (G x).v
theorem zq.refl(G:Nat->HP):zq G G:=λ_ h=>⟨h,xm.rfl' _⟩
theorem zq.trans {A B D:Nat->HP} (h:zq A B)(k:zq B D):zq A D:=λx hx=>⟨(h x (k x hx).1).1,(h x (k x hx).1).2.trans (k x hx).2⟩
theorem zr(a b:HP):ug a b=true↔b.far=0 \/a.far<b.far \/(a.far=b.far/\a.rJ<b.rJ):=by
 unfold ug;simp[or_assoc]
section
variable {C:kQ} {r:Nat}
structure Sound(C:kQ)(r:Nat)(G:Nat->HP):Prop where
 nn:∀n,0<=(G n).far
 way:∀n,0<(G n).far->(G n).dst=n/\∃p,Hj C r p/\p.head? =μ n/\pc C r p=(G n).far/\((xO p:Nat):Int)=(G n).rJ
theorem I9(hC:∀x y,0<=C x y):∀p,Hj C r p->0<pc C r p
 |[],h=>h.elim
 |[n],h=>h.1
 |n::m::l,h=>by
  have:=I9 hC (m::l) h.1;have h2:=h.2.1;simp only[pc];omega
theorem QX(b n:Nat)(G:Nat->HP)(Z:∀x,0<=(G x).far)(hC:∀x y,0<=C x y):zq (oZ C r b n G) G:=by
 intro x hx;unfold oZ;split;{exact⟨hx,xm.rfl' _⟩}
 ·rename_i hc
  split
  ·rename_i hb
   rw[zr]at hb;simp only[rk];by_cases e:x=n;{subst e;rw[ai rfl];have h1:=Z b;have h2:=hC b x;refine⟨by simp only;omega,?_⟩;simp only[HP.v,xm]at hb⊢;omega};{rw[af e];exact⟨hx,xm.rfl' _⟩}
  ·exact⟨hx,xm.rfl' _⟩
theorem Ni(b n:Nat)(G:Nat->HP)(Z:∀x,0<=(G x).far)(h1:0<(G b).far)(h2:0<C b n)(h3:n≠r):0<(oZ C r b n G n).far/\xm (oZ C r b n G n).v ((G b).far+C b n,(G b).rJ):=by
 unfold oZ;rw[af dZ];by_cases hb:ug ⟨n,(G b).far+C b n,(G b).rJ⟩ (G n)=true;{rw[ai hb];simp only[rk,if_true];exact⟨dZ,xm.rfl' _⟩};{rw[af hb];rw[zr]at hb;have:=Z n;simp only at hb;refine⟨dZ,?_⟩;simp only[HP.v,xm];omega}
theorem Nj(b n:Nat)(V:n<7)(G:Nat->HP)(Z:Sound C r G)(hC:∀x y,0<=C x y):Sound C r (oZ C r b n G):=by
 unfold oZ;split;{exact Z}
 ·rename_i hc
  split
  ·have h1:=Z.nn b;have h2:=hC b n;refine⟨λx=> ?_,λx hx=> ?_⟩;{simp only[rk];split;{simp only;omega};{exact Z.nn x}}
   ·simp only[rk]at hx⊢;by_cases e:x=n
    ·subst e;simp only[if_true]at hx⊢;obtain⟨_,p,Y,X,p3,U⟩:=Z.way b dZ;refine⟨trivial,x::p,?_,rfl,?_,?_⟩
     ·cases p with
      |nil=>exact Y.elim
      |cons m l=>
       have:m=b:=by simpa using X
       subst this;exact⟨Y,dZ,dZ,V⟩
     ·cases p with
      |nil=>exact Y.elim
      |cons m l=>
       have:m=b:=by simpa using X
       subst this;simp only[pc,p3]
     ·cases p with
      |nil=>exact Y.elim
      |cons m l=>exact U
    ·rw[af e]at hx⊢;exact Z.way x hx
  ·exact Z
theorem xr(b:Nat)(G:Nat->HP)(Z:Sound C r G)(hC:∀x y,0<=C x y):∀n,n<=7->Sound C r (pC C r b G n)
 |0,_=>Z
 |n+1,h=>Nj b n dZ _ (xr b G Z hC n dZ) hC
theorem go_sound(G:Nat->HP)(Z:Sound C r G)(hC:∀x y,0<=C x y):∀b,Sound C r (CR C r G b)
 |0=>Z
 |b+1=>xr b _ (go_sound G Z hC b) hC 7 (Nat.le_refl _)
theorem zt(b:Nat)(G:Nat->HP)(Z:Sound C r G)(hC:∀x y,0<=C x y)(i:Nat):∀d,i+d<=7->zq (pC C r b G (i+d)) (pC C r b G i)
 |0,_=>zq.refl _
 |d+1,h=>(QX b (i+d) _ (xr b G Z hC (i+d) dZ).nn hC).trans (zt b G Z hC i d dZ)
theorem QY(b:Nat)(G:Nat->HP)(Z:Sound C r G)(hC:∀x y,0<=C x y)(m:Nat)(hm:m<7)(X:0<(G b).far)(V:0<C b m)(U:m≠r):0<(pC C r b G 7 m).far/\xm (pC C r b G 7 m).v ((G b).far+C b m,(G b).rJ):=by
 have k0:=zt b G Z hC 0 m dZ;rw[Nat.zero_add]at k0;have k1:=k0 b X;have k2:=Ni (r:=r) b m (pC C r b G m) (xr b G Z hC m dZ).nn k1.1 V U;have k3:=zt b G Z hC (m+1) (7-(m+1)) dZ;rw[show m+1+(7-(m+1))=7 by omega]at k3;have Y:=k3 m k2.1;refine⟨Y.1,Y.2.trans (xm.trans k2.2 ?_)⟩;have:=k1.2;simp only[xm,HP.v,pC]at this⊢;omega
theorem Dj(G:Nat->HP)(Z:Sound C r G)(hC:∀x y,0<=C x y)(i:Nat):∀d,zq (CR C r G (i+d)) (CR C r G i)
 |0=>zq.refl _
 |d+1=>by
  have h:=zt (i+d) _ (go_sound G Z hC (i+d)) hC 0 7 dZ;exact zq.trans h (Dj G Z hC i d)
theorem UC(G:Nat->HP)(Z:Sound C r G)(hC:∀x y,0<=C x y)(b m:Nat)(hb:b<7)(T:m<7)(X:0<(G b).far)(V:0<C b m)(U:m≠r):0<(CR C r G 7 m).far/\xm (CR C r G 7 m).v ((G b).far+C b m,(G b).rJ):=by
 have k0:=Dj G Z hC 0 b;rw[Nat.zero_add]at k0;have k1:=k0 b X;have k2:=QY b _ (go_sound G Z hC b) hC m T k1.1 V U;have k3:=Dj G Z hC (b+1) (7-(b+1));rw[show b+1+(7-(b+1))=7 by omega]at k3;have Y:=k3 m k2.1;refine⟨Y.1,Y.2.trans (xm.trans k2.2 ?_)⟩;have:=k1.2;simp only[xm,HP.v,CR]at this⊢;omega
def Dk(C:kQ)(r:Nat)(G:Nat->HP)(p:List Nat):Prop:=∀n,p.head? =μ n->0<(G n).far/\xm (G n).v (pc C r p,((xO p:Nat):Int))
theorem KJ(hC:∀x y,0<=C x y)(hd:C r r=0):Sound C r (lz C r 7):=by
 refine⟨λn=> ?_,λn Z=> ?_⟩;{simp only[lz];have:=hC r n;split;{simp only;omega};{simp[HP.zero]}};{simp only[lz]at Z⊢;by_cases h:n<7/\0<C r n;{rw[ai h]at Z⊢;refine⟨rfl,[n],⟨h.2,?_,h.1⟩,rfl,rfl,rfl⟩;rintro rfl;omega};{rw[af h]at Z;simp[HP.zero]at Z}}
theorem pZ(hC:∀x y,0<=C x y)(hd:C r r=0):∀k,Sound C r (jw C r k)
 |0=>KJ hC hd
 |k+1=>go_sound _ (pZ hC hd k) hC 7
theorem Yj:∀ {p:List Nat} {n:Nat},Hj C r p->p.head? =μ n->n<7/\n≠r
 |[],n,h,_=>h.elim
 |[m],n,h,e=>by
  have:m=n:=by simpa using e
  subst this;exact⟨h.2.2,h.2.1⟩
 |m::x::l,n,h,e=>by
  have:m=n:=by simpa using e
  subst this;exact⟨h.2.2.2,h.2.2.1⟩
theorem yz(hC:∀x y,0<=C x y)(hd:C r r=0):∀k p,Hj C r p->p.length<=k+1->Dk C r (jw C r k) p
 |0,[],h,_=>h.elim
 |0,[n],h,_=>by
  intro x hx;have:n=x:=by simpa using hx
  subst this;simp only[jw,lz,if_pos (show n<7/\0<C r n from⟨h.2.2,h.1⟩)];exact⟨h.1,xm.rfl' _⟩
 |0,n::m::l,h,hl=>by simp at hl
 |k+1,p,h,hl=>by
  by_cases hs:p.length<=k+1;{intro n V;have Z:=yz hC hd k p h hs n V;have Y:=Dj (jw C r k) (pZ hC hd k) hC 0 7 n Z.1;exact⟨Y.1,Y.2.trans Z.2⟩}
  ·match p,h,hl,hs with
   |[],h,_,_=>exact h.elim
   |[n],h,_,hs=>simp at hs
   |n::m::l,h,hl,hs=>
    intro x hx;have:n=x:=by simpa using hx
    subst this;have Z:=yz hC hd k (m::l) h.1 (by simp at hl⊢;omega) m rfl;have X:=(Yj h.1 (show(m::l).head? =μ m from rfl)).1;have Y:=UC (jw C r k) (pZ hC hd k) hC m n X h.2.2.2 Z.1 h.2.1 h.2.2.1;refine⟨Y.1,xm.trans Y.2 ?_⟩;have:=Z.2;simp only[xm,HP.v,pc,xO]at this⊢;omega
theorem KK(hC:∀x y,0<=C x y)(n:Nat):∀q:List Nat,Hj C r q->q.Nodup->n∈q->∃t,Hj C r t/\t.Nodup/\t.head? =μ n/\xO t=xO q/\pc C r t<=pc C r q/\t.length<=q.length
 |[],h,_,_=>h.elim
 |[m],h,hd,hm=>by
  have:n=m:=by simpa using hm
  subst this;exact⟨[n],h,hd,rfl,rfl,Int.le_refl _,Nat.le_refl _⟩
 |m::x::l,h,hd,hm=>by
  by_cases e:m=n;{subst e;exact⟨_,h,hd,rfl,rfl,Int.le_refl _,Nat.le_refl _⟩}
  ·have Y:n∈x::l:=by
    rcases aO.1 hm with Z|Z
    {exact absurd Z.symm e};{exact Z}
   obtain⟨t,t1,t2,X,V,t5,U⟩:=KK hC n (x::l) h.1 (bq.1 hd).2 Y;refine⟨t,t1,t2,X,V,?_,by simp at U⊢;omega⟩;have:=h.2.1;simp only[pc];omega
theorem AX(hC:∀x y,0<=C x y):∀p:List Nat,Hj C r p->∃q,Hj C r q/\q.Nodup/\q.head? =p.head? /\xO q=xO p/\pc C r q<=pc C r p
 |[],h=>h.elim
 |[n],h=>⟨[n],h,gU,rfl,rfl,Int.le_refl _⟩
 |n::m::l,h=>by
  obtain⟨q,q1,q2,V,Y,q5⟩:=AX hC (m::l) h.1;have X:=h.2.1;by_cases Z:n∈q;{obtain⟨t,t1,t2,U,T,t5,_⟩:=KK hC n q q1 q2 Z;refine⟨t,t1,t2,U,by rw[T,Y];rfl,?_⟩;simp only[pc];omega}
  ·cases q with
   |nil=>exact q1.elim
   |cons x t=>
    have:x=m:=by simpa using V
    subst this;refine⟨n::x::t,⟨q1,X,h.2.2.1,h.2.2.2⟩,bq.2 ⟨Z,q2⟩,rfl,?_,?_⟩;{exact Y};{simp only[pc];omega}
theorem KL:∀ {p:List Nat},Hj C r p->∀x∈p,x<7/\x≠r
 |[],h,_,_=>h.elim
 |[n],h,x,hx=>by
  have:x=n:=by simpa using hx
  subst this;exact⟨h.2.2,h.2.1⟩
 |n::m::l,h,x,hx=>by
  rcases aO.1 hx with e|e
  {subst e;exact⟨h.2.2.2,h.2.2.1⟩};{exact KL h.1 x e}
theorem Ja:∀(l m:List Nat),l.Nodup->(∀x∈l,x∈m)->l.length<=m.length
 |[],_,_,_=>Nat.zero_le _
 |x::l,m,hp,hs=>by
  obtain⟨Z,Y⟩:=bq.1 hp;have hx:=hs x gU;have:=Ja l (m.erase x) Y (λy hy=>(dg (λe=>Z (by rw[<-e];exact hy))).2 (hs y (cO _ hy)));rw[cY hx]at this;have hm:0<m.length:=dM hx;simp only[List.length_cons];omega
theorem D9(hC:∀x y,0<=C x y)(hd:C r r=0)(p:List Nat)(Y:Hj C r p):Dk C r (jw C r 6) p:=by
 obtain⟨q,q1,q2,X,V,q5⟩:=AX hC p Y;have hl:=Ja q (List.range 7) q2 (λx hx=>aP.2 (KL q1 x hx).1);rw[dc]at hl;intro n Z;have:=yz hC hd 6 q q1 hl n (by rw[X];exact Z);refine⟨this.1,xm.trans this.2 ?_⟩;simp only[xm,V];omega
theorem KM(hC:∀x y,0<=C x y)(hd:C r r=0)(n:Nat)(U:0<(jw C r 6 n).far):(jw C r 6 n).dst=n/\∃q,Hj C r q/\q.Nodup/\q.head? =μ n/\pc C r q=(jw C r 6 n).far/\((xO q:Nat):Int)=(jw C r 6 n).rJ:=by
 obtain⟨V,p,T,Z,p3,S⟩:=(pZ hC hd 6).way n U;obtain⟨q,q1,q2,Y,M,q5⟩:=AX hC p T;have X:=D9 hC hd q q1 n (by rw[Y];exact Z);have:pc C r q=(jw C r 6 n).far:=by
  have:=X.2;simp only[xm,HP.v]at this;omega
 exact⟨V,q,q1,q2,by rw[Y];exact Z,this,by rw[M];exact S⟩
end
section
variable {C:kQ}
def CU(C:kQ)(r n:Nat):Int:=(jw C r 6 n).far
theorem Nk(hC:∀x y,0<=C x y)(hd:C r r=0)(n:Nat):0<=CU C r n:=(pZ hC hd 6).nn n
theorem KN {r:Nat}:∀q:List Nat,Hj C r q->0<C r (xO q)/\xO q≠r/\xO q<7
 |[],h=>h.elim
 |[_],h=>h
 |_::m::l,h=>KN (m::l) h.1
def wc(C:kQ):List Nat->Int
 |[] =>0
 |[_] =>0
 |n::m::l=>wc C (m::l)+C m n
end
theorem zu(a b:Option dW)(n ca S:Nat)(L:List HP)(w:dX)(U:Pk w a n L)(J:Pk w b n L)(hn:n<=1000):
 eX eY 46 #[σ a n ca,σ b n S] w λe w'=>e=ρ (.bool true)/\eB w w':=by
 have hl:=U.len
 go_in
 go_wp2
 go_loopw [5] (λi wr=>∃k:Nat,k<=n/\i=ι κ k/\eB w wr) (λi _=>n-(eZ i).toNat)
 case atStart=>exact⟨0,Nat.zero_le _,rfl,au _ _⟩
 case round=>
  obtain⟨k,hk,rfl,Y⟩:=hrel;by_cases kA:k<n
  ·have nL:(k:Int)<(n:Int):=dZ;have r1:=(U.below Y).row;have H:=(J.below Y).row;rcases r1 with M|⟨b1,o1,rfl,Z⟩
   ·omega
   rcases H with M|⟨b2,o2,rfl,V⟩
   {omega};have X:L[k]? =μ (L[k]'(by omega)):=ay dZ;obtain⟨c0,c1,c2⟩:=Z k _ X;obtain⟨d0,d1,d2⟩:=V k _ X;generalize L[k]'(by omega)=p at c0 c1 c2 d0 d1 d2 X;obtain⟨pd,pf,px⟩:=p;simp only at c0 c1 c2 d0 d1 d2;clear Z V X;have T:Hid _:=Y;clear Y
   go_wp2
   go_quiet(fail)
   go_wp2
   go_roundw
   case rel=>exact⟨k+1,dZ,by go_num,below_drewN T.out _⟩
   case measure=>simp[eZ];omega
  ·have xL:¬(k:Int)<(n:Int):=dZ
   go_wp2
   go_ret;exact⟨rfl,Y⟩
theorem Hk(S:Nat->SV)(E:Nat->List jJ):∀n,(∀j,j<n->oA (S j).own (S j).seq (E j)=0)->∀x,jV S E n x x=0
 |0,_,x=>rfl
 |n+1,h,x=>by
  have ih:=Hk S E n (λj hj=>h j dZ) x;have V:=h n dZ;have ho:=(ju V).1;have Z:=(ju V).2.2.2;simp only[jV,ni];generalize E n=es at Z;generalize jV S E n=C at ih;have Y:∃X:Int,qv (S n).own X es=0:=⟨0,Z⟩
  clear Z
  induction es generalizing C with
  |nil=>exact ih
  |cons e es ihs=>
   rw[bF];obtain⟨X,Z⟩:=Y;simp only[qv]at Z;split at Z;{cases Z}
   ·rename_i h1
    split at Z;{cases Z}
    ·rename_i h2
     refine ihs _ ?_ ⟨_,Z⟩;simp only[tN];rw[af dZ];exact ih
theorem Pr(S:Nat->SV)(E:Nat->List jJ):∀n,(∀j,j<n->oA (S j).own (S j).seq (E j)=0)->∀x y,0<jV S E n x y->(1<=x/\x<=6)/\1<=y/\y<=6
 |0,_,x,y,h=>by simp[jV]at h
 |n+1,h,x,y,hp=>by
  have ih:=Pr S E n (λj hj=>h j dZ);have X:=h n dZ;have ho:=(ju X).1;have Y:=pV _ (E n) 0 (ju X).2.2.2;simp only[jV,ni]at hp;generalize E n=es at Y hp;generalize jV S E n=C at ih hp
  induction es generalizing C with
  |nil=>exact ih x y hp
  |cons e es ihs=>
   rw[bF]at hp;refine ihs (λq V=>Y q (by simp[V])) _ (λu v Z=> ?_) hp;have h1:=Y e gU;simp only[tN]at Z;split at Z
   ·rename_i h2
    omega
   ·exact ih u v Z
theorem QZ(S:Nat->SV)(E:Nat->List jJ)(n:Nat)(h:∀j,j<n->oA (S j).own (S j).seq (E j)=0)(x:Nat):kK (jV S E n) x x=0:=by
 simp only[kK,Hk S E n h x];rfl
theorem Yk(S:Nat->SV)(E:Nat->List jJ)(n:Nat)(h:∀j,j<n->oA (S j).own (S j).seq (E j)=0)(x y:Nat)(Z:0<kK (jV S E n) x y):(1<=x/\x<=6)/\1<=y/\y<=6:=by
 simp only[kK]at Z;split at Z;{exact Pr S E n h x y Z};{omega}
def bC(b:Nat->Bool):Array dY:=(fU 7).map λi=>.bool (b i)
theorem Jb(b:Nat->Bool):(bC b).size=7:=by simp[bC]
theorem Jc(b:Nat->Bool)(i:Nat)(h:i<7):(bC b)[i]? =μ (.bool (b i)):=by simp[bC,h]
def qb(b:Nat->Bool)(n:Nat):Nat->Bool:=λx=>if x=n then true else b x
theorem abY(b:Nat->Bool)(n:Nat):(bC b).setIfInBounds n (.bool true)=bC (qb b n):=by
 apply bQ;intro i;rw[bk];by_cases hi:i<7;{rw[Jc _ i hi,Jc _ i hi];by_cases e:n=i;{subst e;simp[qb,bC,hi]};{have Z:¬i=n:=λh=>e h.symm;simp[qb,e,Z]}};{have hs:∀D:Nat->Bool,(bC D)[i]? =ν:=λD=>a9 (by simp[bC];omega);rw[hs,hs];split;{simp[bC];omega};{rfl}}
theorem aat:(eY.info? 205).map (λi=>(i.zero,i.size))=μ (μ (.agg (bC λ_=>false)),7):=gS
theorem afs(w:dX):(zeroValue 205).run eY w=.ok (.agg (bC λ_=>false)) w:=(bT aat).1 w
theorem UE:(eY.info? 205).map (·.size)=μ 7:=(bT aat).2
theorem Ym:(eY.info? 204).map (λi=>(i.zero,i.size))=μ (μ (.agg (hC λ_=>HP.zero)),21):=gS
theorem Yn(w:dX):(zeroValue 204).run eY w=.ok (.agg (hC λ_=>HP.zero)) w:=(bT Ym).1 w
section
variable {C:kQ} {r:Nat}
def abZ(G:Nat->HP):Prop:=∀n,(G n).far=0->G n=HP.zero
structure RS(C:kQ)(r:Nat)(G:Nat->HP):Prop where
 s:Sound C r G
 z:abZ G
theorem ab0 {G:Nat->HP} (h:RS C r G)(n:Nat)(p:List Nat)(Z:Hj C r p)(hh:p.head? =μ n)(hC:∀x y,0<=C x y):RS C r (rk G n ⟨n,pc C r p,(xO p:Nat)⟩):=by
 have qu:=I9 hC p Z;refine⟨⟨λx=> ?_,λx hx=> ?_⟩,λx hx=> ?_⟩;{simp only[rk];split;{simp only;omega};{exact h.s.nn x}};{simp only[rk]at hx⊢;by_cases e:x=n;{subst e;simp only[if_true];exact⟨trivial,p,Z,hh,rfl,rfl⟩};{rw[af e]at hx⊢;exact h.s.way x hx}};{simp only[rk]at hx⊢;by_cases e:x=n;{subst e;simp only[if_true]at hx;omega};{rw[af e]at hx⊢;exact h.z x hx}}
theorem UF {G:Nat->HP} (n:Nat)(q:HP)(Z:0<q.far)(hb:ug q (G n)=true):zq (rk G n q) G:=by
 intro x hx;rw[zr]at hb;simp only[rk];by_cases e:x=n;{subst e;rw[ai rfl];refine⟨Z,?_⟩;simp only[xm,HP.v];omega};{rw[af e];exact⟨hx,xm.rfl' _⟩}
theorem Dk.mono {G G':Nat->HP} (h:Dk C r G p)(X:zq G' G):Dk C r G' p:=by
 intro n V;have Z:=h n V;have Y:=X n Z.1;exact⟨Y.1,Y.2.trans Z.2⟩
def Ext(C:kQ)(r:Nat)(p:List Nat)(x:Nat)(q:List Nat):Prop:=Hj C r q/\q.Nodup/\∃e,q=e++x::p
theorem Q5(hC:∀x y,0<=C x y)(hd:C r r=0)(G:Nat->HP)(T:RS C r G)(U:∀q,Hj C r q->q.Nodup->Dk C r G q)(n:Nat):(G n).far=CU C r n/\(0<CU C r n->G n=jw C r 6 n):=by
 have h0:=Nk hC hd n;have g0:=T.s.nn n;by_cases h:0<CU C r n;{obtain⟨k1,q,q1,q2,j,q4,q5⟩:=KM hC hd n h;have d1:=U q q1 q2 n j;obtain⟨s1,p,M,J,p3,u⟩:=T.s.way n d1.1;have d2:=D9 hC hd p M n J;have H:=d1.2;have E:=d2.2;have S:CU C r n=(jw C r 6 n).far:=rfl;simp only[xm,HP.v]at H E;have Z:(G n).far=(jw C r 6 n).far:=dZ;have V:(G n).rJ=(jw C r 6 n).rJ:=dZ;refine⟨by rw[S];exact Z,λ_=> ?_⟩;generalize jw C r 6 n=X at k1 Z V;generalize G n=Y at s1 Z V;obtain⟨x1,x2,x3⟩:=X;obtain⟨y1,y2,y3⟩:=Y;simp only at k1 s1 Z V;rw[Z,V,k1,s1]};{refine⟨?_,λD=>absurd D h⟩;by_cases A:0<(G n).far;{obtain⟨s1,p,M,J,p3,u⟩:=T.s.way n A;exact absurd (D9 hC hd p M n J).1 h};{omega}}
end
structure UG(C:kQ)(r:Nat)(p:List Nat)(oL:Nat)(far by':Int)(bn:Nat->Bool):Prop where
 way:(p=[] /\oL=r/\far=0/\by'=0) \/(Hj C r p/\p.head? =μ oL/\pc C r p=far/\((xO p:Nat):Int)=by'/\by'≠0)
 nd:p.Nodup
 been:∀x,qb bn oL x=true↔(x∈p \/x=r)
theorem UG.next {C:kQ} (h:UG C r p oL far by' bn)(n:Nat)(V:n<7)(X:0<C oL n)(hb:qb bn oL n=false):
 Hj C r (n::p)/\(n::p).Nodup/\pc C r (n::p)=far+C oL n/\((xO (n::p):Nat):Int)=(if by'=0 then(n:Int)else by'):=by
 have Z:¬(n∈p \/n=r):=λe=>by rw[(h.been n).2 e]at hb;cases hb
 rcases h.way with⟨rfl,rfl,rfl,rfl⟩|⟨Y,U,h3,T,S⟩
 ·refine⟨⟨X,λe=>Z (.inr e),V⟩,gU,?_,?_⟩;{simp[pc]};{simp[xO]}
 ·cases p with
  |nil=>exact Y.elim
  |cons m l=>
   have:m=oL:=by simpa using U
   subst this;refine⟨⟨Y,X,λe=>Z (.inr e),V⟩,bq.2 ⟨λe=>Z (.inl e),h.nd⟩,?_,?_⟩;{simp only[pc];omega};{rw[af S];exact T}
theorem UG.step {C:kQ} (h:UG C r p oL far by' bn)(n:Nat)(mO:1<=n)(T:n<7)(U:0<C oL n)(hb:qb bn oL n=false):UG C r (n::p) n (far+C oL n) (if by'=0 then(n:Int)else by') (qb bn oL):=by
 obtain⟨Z,Y,X,V⟩:=h.next n T U hb;refine⟨.inr ⟨Z,rfl,X,V,?_⟩,Y,λx=> ?_⟩;{split;{omega};{assumption}};{show(if x=n then true else qb bn oL x)=true↔_;by_cases e:x=n;{subst e;simp};{rw[af e,h.been x];simp[e]}}
theorem UG.none {C:kQ} (h:UG C r p oL far by' bn)(n:Nat)(hx:C oL n=0 \/qb bn oL n=true):∀q,¬Ext C r p n q:=by
 rintro q ⟨U,T,e,rfl⟩;have Y:∀e:List Nat,Hj C r (e++n::p)->Hj C r (n::p):=by
  intro e
  induction e with
  |nil=>exact λh=>h
  |cons a t ih=>
   intro V;refine ih ?_;cases t with
   |nil=>exact V.1
   |cons b u=>exact V.1
 have X:=Y e U;rcases hx with hx|hx
 ·rcases h.way with⟨rfl,rfl,_,_⟩|⟨k1,k2,_⟩
  ·have:=X.1;omega
  ·cases p with
   |nil=>exact k1
   |cons m l=>
    have:m=oL:=by simpa using k2
    subst this;have:=X.2.1;omega
 ·have Z:=(h.been n).1 hx;have S:=(bE.1 T).2.1;rcases Z with Z|Z
  {exact(bq.1 S).1 Z};{exact(KL X n gU).2 Z}
