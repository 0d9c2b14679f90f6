import Derived.Test.YtieklnlbljejdaaGreatDoorG00
open Go.Value renaming int → ι, slice → σ, tuple → τ, nilIface → η
open Go.IntKind renaming i64 → κ
open Go.Ending renaming returned → ρ
open Go.Obj renaming cells → γ
open Option renaming none → ν, some → μ
open Go.Proofs.Tryz renaming prog → fk, results247 → fA, results248 → fB
open Go renaming World → eB, Calls → fj, Addr → eA, Value → eD
open Go.Value renaming ownBlock → eF, cells → fD
open Go.RowKit renaming intOf → ft
open List renaming length_nil → fC
set_option maxRecDepth 100000
set_option maxHeartbeats 2000000
namespace Go.Proofs.YtieklnlbljejdaaGreatDoor
open Go.RowKit
variable {B:Nat} {C:Array Value} {a w w':World} {m s:Int}
theorem A3:(fk.info? 276).map (λi=>(i.zero,i.size,i.bytes))=μ (μ (.agg #[ι κ 0,ι κ 0]),2,16):=gT
theorem xK(w:eB):(zeroValue 252).run fk w=.ok (.agg #[ι κ 0,ι κ 0]) w:=gT
def nS(sz mg:Int):List j2:=(if 0<sz then [(1,sz)]else [])++(if 0<mg then [(5,mg)]else [])
def Hk(o:j2):Bool:= !(o.1==1)&& !(o.1==5)
def sd(l:List j2):List j2:=l.filter Hk
def vX(mg:Int)(o:j2):List j2:=
 if o.1=1/\o.2<40 then [(1,40)]else if o.1=5/\(o.2=0 \/o.2=mg)then [(5,mg%255+1)]else []
def qp(mg:Int)(l:List j2):List j2:=l.flatMap (vX mg)
def lV(mg:Int)(l:List j2):Int×List j2:=if sd l≠ []then(4,sd l)else if qp mg l≠ []then(3,qp mg l)else(2,l)
def kc(code:Int)(p:Int×Int)(o:j2):Int×Int:=
 if code=4 then(if o.1=1 then(0,p.2)else if o.1=5 then(p.1,0)else p)
 else if code=3 then(if o.1=1/\0<p.1/\40<=o.2 then(o.2,p.2)else if o.1=5/\0<p.2/\0<o.2 then(p.1,o.2)else p)
 else p
def oG(code:Int)(l:List j2)(p:Int×Int):Int×Int:=l.foldl (kc code) p
theorem XV(sz mg:Int)(w:eB)(h1:¬sz<40)(h2:¬255<sz)(h3:¬mg<1)(h4:¬255<mg):
 fj fk 170 #[ι κ sz,ι κ mg] w λe w'=>e=ρ (τ #[.agg #[ι κ sz,ι κ mg],η])/\eN w w':=by
 have hz:=xK;have hb:eN w (w.alloc (γ #[ι κ sz,ι κ mg] 252)):=iB _ _
 go_in
 go_wp2
 refine aj (v:=τ #[.agg #[ι κ sz,ι κ mg],η]) (by simp[results,Tryz.results170,go_sem]) rfl ?_;exact⟨rfl,hb⟩
theorem Hl(sz mg:Int)(w:eB):fj fk 224 #[.agg #[ι κ sz,ι κ mg]] w λe w'=>∃v,e=ρ v/\Made w w' v (nS sz mg):=by
 obtain⟨i0,hi,oz,mW,nT⟩:=aW A3;have pN:eN w (w.alloc (γ #[ι κ sz,ι κ mg] 252)):=iB _ _;have hA:=λj=>aq w #[ι κ sz,ι κ mg] 252 (0,0) j;by_cases h1:0<sz
 ·by_cases h2:0<mg
  ·have hL:nS sz mg=[(1,sz)] ++ [(5,mg)] :=by simp[nS,h1,h2]
   rw[hL]
   go_in
   go_wp2_with(at_builtin;go_must(refine iX _ rfl (.tmp 7) (.tmp 11) 35 rfl 276 i0 (.agg #[ι κ 0,ι κ 0]) 2 16 a9 hi oz mW nT rfl eH (σ ν 0 0) 0 (jh []) rfl (Row.nil _ 2) _ 1 1 [ι κ 1,ι κ sz] rfl rfl eH (nA _ _ _ _ _ iC) (lM _ _ _ _) eH eH ?_));intro g1 AB w1 kU ki jD;have kt:=lJ (pN.alloc pN.size _) ki (λj hj=>mZ hj);have mM:=nE (B:=w.heap.size) jD eE (λj hj=>mZ hj);have vY:w1.cell? ⟨w.heap.size,1,ν⟩=μ (ι κ mg):=by
    exact rj ki (by simp[eF]) (((iB _ _).cell (p:=⟨w.heap.size,1,ν⟩) iC).trans (hA 1))
   have Qq:w.heap.size<w1.heap.size:=af w1 _ vY;rw[show([] :List j2)=[]from rfl]at kU;have ae6:Row w1 2 (σ (μ ⟨g1,0,ν⟩) 1 AB) 1 (jh [(1,sz)]):=kU;clear ki jD kU;go_wp2_with(at_builtin;go_must(refine iX _ rfl (.tmp 16) (.tmp 20) 35 rfl 276 i0 (.agg #[ι κ 0,ι κ 0]) 2 16 a9 hi oz mW nT rfl eH (σ (μ ⟨g1,0,ν⟩) 1 AB) 1 (jh [(1,sz)]) rfl (ae6.alloc _) _ 1 1 [ι κ 5,ι κ mg] rfl rfl eH (nA _ _ _ _ _ iC) (lM _ _ _ _) eH eH ?_));intro g2 cap2 w2 sE vZ kV;have mf:=lJ (kt.alloc kt.size _) vZ (λj hj=>kG mM hj);have xF:=nE (B:=w.heap.size) kV (by have:=kt.size;omega) (λj hj=>kG mM hj);clear vZ kV
   go_wp2
   go_ret;exact⟨_,rfl,⟨sE,λj hj=>kG xF hj,mf⟩⟩
  ·have hL:nS sz mg=[(1,sz)] :=by simp[nS,h1,h2]
   rw[hL]
   go_in
   go_wp2_with(at_builtin;go_must(refine iX _ rfl (.tmp 7) (.tmp 11) 35 rfl 276 i0 (.agg #[ι κ 0,ι κ 0]) 2 16 a9 hi oz mW nT rfl eH (σ ν 0 0) 0 (jh []) rfl (Row.nil _ 2) _ 1 1 [ι κ 1,ι κ sz] rfl rfl eH (nA _ _ _ _ _ iC) (lM _ _ _ _) eH eH ?_));intro g1 AB w1 kU ki jD;have kt:=lJ (pN.alloc pN.size _) ki (λj hj=>mZ hj);have mM:=nE (B:=w.heap.size) jD eE (λj hj=>mZ hj);have vY:w1.cell? ⟨w.heap.size,1,ν⟩=μ (ι κ mg):=by
    exact rj ki (by simp[eF]) (((iB _ _).cell (p:=⟨w.heap.size,1,ν⟩) iC).trans (hA 1))
   have Qq:w.heap.size<w1.heap.size:=af w1 _ vY;clear ki jD
   go_wp2
   go_ret;exact⟨_,rfl,⟨kU,λj hj=>kG mM hj,kt⟩⟩
 ·by_cases h2:0<mg
  ·have hL:nS sz mg=[(5,mg)] :=by simp[nS,h1,h2]
   rw[hL]
   go_in
   go_wp2_with(at_builtin;go_must(refine iX _ rfl (.tmp 16) (.tmp 20) 35 rfl 276 i0 (.agg #[ι κ 0,ι κ 0]) 2 16 a9 hi oz mW nT rfl eH (σ ν 0 0) 0 (jh []) rfl (Row.nil _ 2) _ 1 1 [ι κ 5,ι κ mg] rfl rfl eH (nA _ _ _ _ _ iC) (lM _ _ _ _) eH eH ?_));intro g1 AB w1 kU ki jD;have kt:=lJ (pN.alloc pN.size _) ki (λj hj=>mZ hj);have mM:=nE (B:=w.heap.size) jD eE (λj hj=>mZ hj);clear ki jD
   go_wp2
   go_ret;exact⟨_,rfl,⟨kU,λj hj=>kG mM hj,kt⟩⟩
  ·have hL:nS sz mg=[] :=by simp[nS,h1,h2]
   rw[hL]
   go_in
   go_wp2
   go_ret;exact⟨_,rfl,⟨Row.nil _ 2,λj hj=>mZ hj,pN⟩⟩
theorem zN(a:Option eA)(n cap:Nat)(os:List j2)(w:eB)(hn:n<=1000000)(ho:jm w a n os):
 fj fk 244 #[σ a n cap] w λe w'=>∃v,e=ρ v/\Made w w' v (sd os):=by
 obtain⟨i0,hi,oz,mW,nT⟩:=aW A3
 go_in
 go_wp2
 go_loopw [3,8] (λout i wr=>∃(k:Nat) (ao:Option eA) (m cp:Nat),k<=n/\out=σ ao m cp/\i=ι κ k/\m<=k/\Row wr 2 (σ ao m cp) m (jh (sd (os.take k)))/\(∀j,eF (σ ao m cp)=μ j->w.heap.size<=j)/\eN w wr) (λ_ i _=>n-(ft i).toNat)
 case atStart=>exact⟨0,ν,0,0,Nat.zero_le _,rfl,rfl,Nat.le_refl _,by simpa[sd,jh]using Row.nil w 2,λj hj=>mZ hj,au _ _⟩
 case round=>
  obtain⟨k,ao,m,cp,hk,rfl,rfl,T6,ji,jw,ja⟩:=hrel;by_cases kH:k<n
  ·have Dz:=ho.below ja;rcases Dz.2 with h0|⟨b,off,rfl,hc⟩
   ·omega
   have pK:k<os.length:=by rw[ho.1];exact kH
   obtain⟨c1,c2⟩:=hc k pK;have HT:Hid (os.take (k+1)=os.take k++ [os[k]]):=ax pK;generalize os[k] =o at c1 c2 HT;clear hc;have nG:(k:Int)<(n:Int):=eE;cases q1:(o.1==1)
   ·cases q5:(o.1==5)
    ·have p1:(o.1 !=1)=true:=by simp[bne,q1]
     have p5:(o.1 !=5)=true:=by simp[bne,q5]
     have HU:Hid (sd (os.take (k+1))=sd (os.take k)++ [o]):=by
      show _=_;rw[HT.out,sd,cA];simp[Hk,q1,q5];rfl
     go_wp2_with(at_builtin;go_must(refine iX _ rfl (.tmp 20) (.tmp 22) 35 rfl 276 i0 (.agg #[ι κ 0,ι κ 0]) 2 16 a9 hi oz mW nT rfl eH (σ ao m cp) m (jh (sd (os.take k))) rfl ((ji.alloc _).alloc _) _ 1 1 [ι κ o.1,ι κ o.2] rfl rfl eH (nA _ _ _ _ _ iC) (lM _ _ _ _) (by unfold maxLen;omega) eE ?_));intro g' jL w1 kU ki jD;have kt:=lJ ((ja.alloc ja.size _).alloc (by simp;have:=ja.size;omega) _) ki jw;have mM:=nE (B:=w.heap.size) jD (by have:=ja.size;omega) jw;rw[<-mS,<-HU.out]at kU;clear ki jD
     go_wp2
     go_roundw
     case rel=>exact⟨k+1,_,m+1,jL,eE,rfl,by go_num,eE,kU,λj hj=>kG mM hj,kt⟩
     case measure=>simp[ft];omega
    ·have p1:(o.1 !=1)=true:=by simp[bne,q1]
     have p5:(o.1 !=5)=false:=by simp[bne,q5]
     have HU:Hid (sd (os.take (k+1))=sd (os.take k)):=by
      show _=_;rw[HT.out,sd,cA];simp[Hk,q1,q5];rfl
     have kt:=ja.alloc ja.size (γ #[ι κ o.1,ι κ o.2] 276)
     go_wp2
     go_roundw
     case rel=>exact⟨k+1,_,m,cp,eE,rfl,by go_num,eE,by rw[HU.out];exact ji.alloc _,jw,kt⟩
     case measure=>simp[ft];omega
   ·have p1:(o.1 !=1)=false:=by simp[bne,q1]
    have HU:Hid (sd (os.take (k+1))=sd (os.take k)):=by
     show _=_;rw[HT.out,sd,cA];simp[Hk,q1];rfl
    have kt:=ja.alloc ja.size (γ #[ι κ o.1,ι κ o.2] 276)
    go_wp2
    go_roundw
    case rel=>exact⟨k+1,_,m,cp,eE,rfl,by go_num,eE,by rw[HU.out];exact ji.alloc _,jw,kt⟩
    case measure=>simp[ft];omega
  ·have wa:os.take k=os:=aK (by rw[ho.1];omega);rw[wa]at ji;have Mg:m=(sd os).length:=by have:=ji.1;rw[lI]at this;omega
   go_wp2
   go_ret;exact⟨_,rfl,⟨by rw[<-Mg];exact ji,jw,ja⟩⟩
theorem Qr:(fk.info? 37).map (λi=>(i.zero,i.size,i.bytes))=μ (μ (.agg #[ι κ 0,ι κ 0,σ ν 0 0]),3,40):=gT
def Qs(fs fm ns nm qs qm st sz lf wt ow:Int)(v:eD):Array eD:= #[ι κ fs,ι κ fm,ι κ ns,ι κ nm,ι κ qs,ι κ qm,ι κ st,ι κ sz,ι κ lf,ι κ wt,ι κ ow,v]
def Lk(w:eB)(B:Nat)(C:Array eD):Prop:=w.heap[B]? =μ (γ C 254 (0,0))
theorem Lk.lt(h:Lk w B C):B<w.heap.size:=(aw.1 h).1
theorem Lk.cell {w:eB} {B:Nat} {C:Array eD} (h:Lk w B C)(j:Nat):w.cell? ⟨B,j,ν⟩=C[j]? :=av w B j C _ (0,0) h
theorem Lk.frozen {w:eB} {B:Nat} {C:Array eD} (h:Lk w B C)(j:Nat):w.frozen? ⟨B,j,ν⟩=false:=bw w B j C _ h
theorem Lk.set(h:Lk w B C)(j:Nat)(x:eD):Lk (w.setCell ⟨B,j,ν⟩ x) B (C.setIfInBounds j x):=by
 unfold Lk;rw[bF w B j C _ (0,0) x h];exact cD w B C _ _ (0,0) h
theorem Lk.keep(h:Lk w B C)(hb:w'.heap[B]? =w.heap[B]?):Lk w' B C:=hb.trans h
theorem Lk.below(h:Lk w B C)(hb:eN w w'):Lk w' B C:=h.keep (hb.block B h.lt)
theorem Lk.drew {w:eB} {B:Nat} {C:Array eD} (h:Lk w B C):Lk w.drew B C:=h
theorem xL(w:eB)(x y z:eD)(t:TypeId)(g:Nat)(hg:w.heap.size=g):∀(j:Nat) (u:eD),[x,y,z][j]? =μ u->(w.alloc (γ #[x,y,z] t)).drew.cell? ((⟨g,0,ν⟩:eA).add j)=μ u:=by
 subst hg;intro j u hu;show(w.alloc (γ #[x,y,z] t)).cell? _=_;rw[add_plain,aq];simpa using hu
theorem Qt(x y:Int)(a:Option eA)(n c:Nat):∀u∈ [Value.int .i64 x,Value.int .i64 y,Value.slice a n c],u.oneCell'=true:=by simp[Value.oneCell']
theorem oL {b:Nat} (h:a.grownBy w (μ b))(j:Nat)(v:eD):a.grownBy (w.setCell ⟨b,j,ν⟩ v) (μ b):=by
 have b1:Below 0 w (w.setCell ⟨b,j,ν⟩ v):=(au 0 w).setCell (Nat.zero_le _) _;exact⟨b1.os.trans h.os,b1.tape.trans h.tape,b1.output.trans h.output,Nat.le_trans h.size b1.size,λi hi jV=>(ak _ _ _ i (λe=>jV (by rw[e]))).trans (h.block i hi jV)⟩
theorem rm {x:eB} (B:Nat)(h:eN w x):w.grownBy x (μ B):=⟨h.os,h.tape,h.output,h.size,λi hi _=>h.block i hi⟩
theorem zO {b c:eB} (h:a.grownBy b (μ B))(k:b.grownBy c (μ B)):a.grownBy c (μ B):=
 ⟨k.os.trans h.os,k.tape.trans h.tape,k.output.trans h.output,Nat.le_trans h.size k.size,λi hi jV=>(k.block i (Nat.lt_of_lt_of_le hi h.size) jV).trans (h.block i hi jV)⟩
theorem Hm(sz mg k:Int)(w:eB):fj fk 247 #[.agg #[ι κ sz,ι κ mg],ι κ k] w λe w'=>
 e=ρ (.agg #[ι κ (kc 4 (sz,mg) (k,0)).1,ι κ (kc 4 (sz,mg) (k,0)).2])/\eN w w':=by
 have hz:=xK;have hb:∀A B:Array eD,eN w ((w.alloc (γ A 252)).alloc (γ B 252)):=λA B=>(iB _ _).alloc iC _;cases q1:(k==1)
 ·cases q5:(k==5)
  ·have hv:kc 4 (sz,mg) (k,0)=(sz,mg):=by simp at q1 q5;simp[kc,q1,q5]
   rw[hv];clear hv
   go_in
   go_wp2
   refine aj (v:=.agg #[ι κ sz,ι κ mg]) (by simp[results,fA,go_sem]) rfl ?_;exact⟨rfl,hb _ _⟩
  ·have hv:kc 4 (sz,mg) (k,0)=(sz,0):=by simp at q1 q5;simp[kc,q5]
   rw[hv];clear hv
   go_in
   go_wp2
   refine aj (v:=.agg #[ι κ sz,ι κ 0]) (by simp[results,fA,go_sem]) rfl ?_;exact⟨rfl,hb _ _⟩
 ·have hv:kc 4 (sz,mg) (k,0)=(0,mg):=by simp at q1;simp[kc,q1]
  rw[hv];clear hv
  go_in
  go_wp2
  refine aj (v:=.agg #[ι κ 0,ι κ mg]) (by simp[results,fA,go_sem]) rfl ?_;exact⟨rfl,hb _ _⟩
theorem Qu(sz mg k n:Int)(w:eB):fj fk 248 #[.agg #[ι κ sz,ι κ mg],.agg #[ι κ k,ι κ n]] w λe w'=>
 e=ρ (.agg #[ι κ (kc 3 (sz,mg) (k,n)).1,ι κ (kc 3 (sz,mg) (k,n)).2])/\eN w w':=by
 have hz:=xK;have hb:∀(A B C:Array eD) (t u v:TypeId),eN w (((w.alloc (γ A t)).alloc (γ B u)).alloc (γ C v)):=λA B C t u v=>((iB _ _).alloc iC _).alloc (by simp;omega) _;have fin:∀(s m:Int),kc 3 (sz,mg) (k,n)=(s,m)->((kc 3 (sz,mg) (k,n)).1=s/\(kc 3 (sz,mg) (k,n)).2=m):=λs m h=>by rw[h];exact⟨rfl,rfl⟩
 cases q1:(k==1)
 ·cases q5:(k==5)
  ·have hv:kc 3 (sz,mg) (k,n)=(sz,mg):=by simp at q1 q5;simp[kc,q1,q5]
   rw[hv];clear hv fin
   go_in
   go_wp2
   refine aj (v:=.agg #[ι κ sz,ι κ mg]) (by simp[results,fB,go_sem]) rfl ?_;exact⟨rfl,hb _ _ _ _ _ _⟩
  ·by_cases h1:0<mg
   ·by_cases h2:0<n
    ·have hv:kc 3 (sz,mg) (k,n)=(sz,n):=by simp at q1 q5;simp[kc,q5,h1,h2]
     rw[hv];clear hv fin
     go_in
     go_wp2
     refine aj (v:=.agg #[ι κ sz,ι κ n]) (by simp[results,fB,go_sem]) rfl ?_;exact⟨rfl,hb _ _ _ _ _ _⟩
    ·have hv:kc 3 (sz,mg) (k,n)=(sz,mg):=by simp at q1 q5;simp[kc,q5,h2]
     rw[hv];clear hv fin
     go_in
     go_wp2
     refine aj (v:=.agg #[ι κ sz,ι κ mg]) (by simp[results,fB,go_sem]) rfl ?_;exact⟨rfl,hb _ _ _ _ _ _⟩
   ·have hv:kc 3 (sz,mg) (k,n)=(sz,mg):=by simp at q1 q5;simp[kc,q5,h1]
    rw[hv];clear hv fin
    go_in
    go_wp2
    refine aj (v:=.agg #[ι κ sz,ι κ mg]) (by simp[results,fB,go_sem]) rfl ?_;exact⟨rfl,hb _ _ _ _ _ _⟩
 ·have q5:(k==5)=false:=by simp at q1⊢;omega
  by_cases h1:0<sz
  ·by_cases h2:40<=n
   ·have hv:kc 3 (sz,mg) (k,n)=(n,mg):=by simp at q1;simp[kc,q1,h1,h2]
    rw[hv];clear hv fin
    go_in
    go_wp2
    refine aj (v:=.agg #[ι κ n,ι κ mg]) (by simp[results,fB,go_sem]) rfl ?_;exact⟨rfl,hb _ _ _ _ _ _⟩
   ·have hv:kc 3 (sz,mg) (k,n)=(sz,mg):=by simp at q1;simp[kc,q1,h2]
    rw[hv];clear hv fin
    go_in
    go_wp2
    refine aj (v:=.agg #[ι κ sz,ι κ mg]) (by simp[results,fB,go_sem]) rfl ?_;exact⟨rfl,hb _ _ _ _ _ _⟩
  ·have hv:kc 3 (sz,mg) (k,n)=(sz,mg):=by simp at q1;simp[kc,q1,h1]
   rw[hv];clear hv fin
   go_in
   go_wp2
   refine aj (v:=.agg #[ι κ sz,ι κ mg]) (by simp[results,fB,go_sem]) rfl ?_;exact⟨rfl,hb _ _ _ _ _ _⟩
theorem Bz(sz mg:Int)(a:Option eA)(n cap:Nat)(os:List j2)(w:eB)(JQ:0<=mg)(XW:mg<=255)(hn:n<=1000000)(ho:jm w a n os):
 fj fk 245 #[.agg #[ι κ sz,ι κ mg],σ a n cap] w λe w'=>∃v,e=ρ v/\Made w w' v (qp mg os):=by
 obtain⟨i0,hi,oz,mW,nT⟩:=aW A3;have pN:eN w (w.alloc (γ #[ι κ sz,ι κ mg] 252)):=iB _ _;have hA:=λj=>aq w #[ι κ sz,ι κ mg] 252 (0,0) j
 go_in
 go_wp2
 go_loopw [5,10] (λout i wr=>∃(k:Nat) (ao:Option eA) (m cp:Nat),k<=n/\out=σ ao m cp/\i=ι κ k/\m<=k/\Row wr 2 (σ ao m cp) m (jh (qp mg (os.take k)))/\(∀j,eF (σ ao m cp)=μ j->w.heap.size+1<=j)/\wr.cell? ⟨w.heap.size,1,ν⟩=μ (ι κ mg)/\eN w wr) (λ_ i _=>n-(ft i).toNat)
 case atStart=>exact⟨0,ν,0,0,Nat.zero_le _,rfl,rfl,Nat.le_refl _,by simpa[qp,jh]using Row.nil _ 2,λj hj=>mZ hj,hA 1,pN⟩
 case round=>
  obtain⟨k,ao,m,cp,hk,rfl,rfl,T6,ji,jw,hmc,ja⟩:=hrel;have Qq:w.heap.size<wr.heap.size:=af wr _ hmc;by_cases kH:k<n
  ·have Dz:=ho.below ja;rcases Dz.2 with h0|⟨b,off,rfl,hc⟩
   ·omega
   have pK:k<os.length:=by rw[ho.1];exact kH
   obtain⟨c1,c2⟩:=hc k pK;have HT:Hid (qp mg (os.take (k+1))=qp mg (os.take k)++vX mg os[k]):=by
    show _=_;rw[ax pK,qp,dq,cV,List.flatMap_nil,aM];rfl
   generalize os[k] =o at c1 c2 HT;clear hc;have nG:(k:Int)<(n:Int):=eE;have kt:=ja.alloc ja.size (γ #[ι κ o.1,ι κ o.2] 276);have NC:(wr.alloc (γ #[ι κ o.1,ι κ o.2] 276)).cell? ⟨w.heap.size,1,ν⟩=μ (ι κ mg):=((iB _ _).cell (p:=⟨w.heap.size,1,ν⟩) Qq).trans hmc;have keep:vX mg o=[]->Hid (Row (wr.alloc (γ #[ι κ o.1,ι κ o.2] 276)) 2 (σ ao m cp) m (jh (qp mg (os.take (k+1))))):=λhe=>by
    show Row _ _ _ _ _;rw[HT.out,he,aM];exact ji.alloc _
   cases q1:(o.1==1)
   ·cases q5:(o.1==5)
    ·have kU:=keep (by simp at q1 q5;simp[vX,q1,q5])
     go_wp2
     go_roundw
     case rel=>exact⟨k+1,_,m,cp,eE,rfl,by go_num,eE,kU.out,jw,NC,kt⟩
     case measure=>simp[ft];omega
    ·cases q6:(o.2==0)
     ·cases q7:(o.2==mg)
      ·have kU:=keep (by simp at q1 q5 q6 q7;simp[vX,q5,q6,q7])
       go_wp2
       go_roundw
       case rel=>exact⟨k+1,_,m,cp,eE,rfl,by go_num,eE,kU.out,jw,NC,kt⟩
       case measure=>simp[ft];omega
      ·have HU:Hid (vX mg o=[(5,(mg%255+1))]):=by
        show _=_;simp at q1 q5 q6 q7;simp[vX,q5,q7]
       go_wp2_with(at_builtin;go_must(refine iX _ rfl (.tmp 41) (.tmp 47) 35 rfl 276 i0 (.agg #[ι κ 0,ι κ 0]) 2 16 a9 hi oz mW nT rfl eH (σ ao m cp) m (jh (qp mg (os.take k))) rfl ((ji.alloc _).alloc _) _ 1 1 [ι κ 5,ι κ (mg%255+1)] rfl rfl eH (nA _ _ _ _ _ iC) (lM _ _ _ _) (by unfold maxLen;omega) eE ?_));intro g' jL w1 kU ki jD;have mf:=lJ (kt.alloc kt.size _) ki (λj hj=>by have:=jw j hj;omega);have mM:=nE (B:=w.heap.size+1) jD eE jw;have Hn:w1.cell? ⟨w.heap.size,1,ν⟩=μ (ι κ mg):=rj ki (λe=>by have:=jw _ e;omega) (((iB _ _).cell (p:=⟨w.heap.size,1,ν⟩) (by simp;omega)).trans NC);have FC:w.heap.size<w1.heap.size:=af w1 _ Hn;have hcs:∀j,j<2->w1.cell? ⟨wr.heap.size,j,ν⟩=(wr.alloc (γ #[ι κ o.1,ι κ o.2] 276)).cell? ⟨wr.heap.size,j,ν⟩:=λj _=>by
        have e1:=ai (a:=⟨wr.heap.size,j,ν⟩) (ki.block wr.heap.size (by simp;omega) (λe=>by have:=ji.lt _ e.symm;omega));exact e1.trans ((iB _ _).cell (p:=⟨wr.heap.size,j,ν⟩) iC)
       have d0:=(hcs 0 eH).trans (aq wr #[ι κ o.1,ι κ o.2] 276 (0,0) 0);have d1:=(hcs 1 eH).trans (aq wr #[ι κ o.1,ι κ o.2] 276 (0,0) 1);have Mh:wr.heap.size<w1.heap.size:=af w1 _ d0;have sE:Row w1 2 (σ (μ ⟨g',0,ν⟩) (m+1) jL) (m+1) (jh (qp mg (os.take (k+1)))):=by
        rw[HT.out,HU.out,mS];exact kU
       clear ki jD kU hcs keep
       go_wp2
       go_roundw
       case rel=>exact⟨k+1,_,m+1,jL,eE,rfl,by go_num,eE,sE,λj hj=>kG mM hj,Hn,mf⟩
       case measure=>simp[ft];omega
     ·have HU:Hid (vX mg o=[(5,(mg%255+1))]):=by
       show _=_;simp at q1 q5 q6;simp[vX,q5,q6]
      go_wp2_with(at_builtin;go_must(refine iX _ rfl (.tmp 41) (.tmp 47) 35 rfl 276 i0 (.agg #[ι κ 0,ι κ 0]) 2 16 a9 hi oz mW nT rfl eH (σ ao m cp) m (jh (qp mg (os.take k))) rfl ((ji.alloc _).alloc _) _ 1 1 [ι κ 5,ι κ (mg%255+1)] rfl rfl eH (nA _ _ _ _ _ iC) (lM _ _ _ _) (by unfold maxLen;omega) eE ?_));intro g' jL w1 kU ki jD;have mf:=lJ (kt.alloc kt.size _) ki (λj hj=>by have:=jw j hj;omega);have mM:=nE (B:=w.heap.size+1) jD eE jw;have Hn:w1.cell? ⟨w.heap.size,1,ν⟩=μ (ι κ mg):=rj ki (λe=>by have:=jw _ e;omega) (((iB _ _).cell (p:=⟨w.heap.size,1,ν⟩) (by simp;omega)).trans NC);have FC:w.heap.size<w1.heap.size:=af w1 _ Hn;have hcs:∀j,j<2->w1.cell? ⟨wr.heap.size,j,ν⟩=(wr.alloc (γ #[ι κ o.1,ι κ o.2] 276)).cell? ⟨wr.heap.size,j,ν⟩:=λj _=>by
       have e1:=ai (a:=⟨wr.heap.size,j,ν⟩) (ki.block wr.heap.size (by simp;omega) (λe=>by have:=ji.lt _ e.symm;omega));exact e1.trans ((iB _ _).cell (p:=⟨wr.heap.size,j,ν⟩) iC)
      have d0:=(hcs 0 eH).trans (aq wr #[ι κ o.1,ι κ o.2] 276 (0,0) 0);have d1:=(hcs 1 eH).trans (aq wr #[ι κ o.1,ι κ o.2] 276 (0,0) 1);have Mh:wr.heap.size<w1.heap.size:=af w1 _ d0;have sE:Row w1 2 (σ (μ ⟨g',0,ν⟩) (m+1) jL) (m+1) (jh (qp mg (os.take (k+1)))):=by
       rw[HT.out,HU.out,mS];exact kU
      clear ki jD kU hcs keep
      go_wp2
      go_roundw
      case rel=>exact⟨k+1,_,m+1,jL,eE,rfl,by go_num,eE,sE,λj hj=>kG mM hj,Hn,mf⟩
      case measure=>simp[ft];omega
   ·have q5:(o.1==5)=false:=by simp at q1⊢;omega
    by_cases q2:o.2<40
    ·have HU:Hid (vX mg o=[(1,40)]):=by
      show _=_;simp at q1;simp[vX,q1,q2]
     go_wp2_with(at_builtin;go_must(refine iX _ rfl (.tmp 22) (.tmp 24) 35 rfl 276 i0 (.agg #[ι κ 0,ι κ 0]) 2 16 a9 hi oz mW nT rfl eH (σ ao m cp) m (jh (qp mg (os.take k))) rfl ((ji.alloc _).alloc _) _ 1 1 [ι κ 1,ι κ 40] rfl rfl eH (nA _ _ _ _ _ iC) (lM _ _ _ _) (by unfold maxLen;omega) eE ?_));intro g' jL w1 kU ki jD;have mf:=lJ (kt.alloc kt.size _) ki (λj hj=>by have:=jw j hj;omega);have mM:=nE (B:=w.heap.size+1) jD eE jw;have Hn:w1.cell? ⟨w.heap.size,1,ν⟩=μ (ι κ mg):=rj ki (λe=>by have:=jw _ e;omega) (((iB _ _).cell (p:=⟨w.heap.size,1,ν⟩) (by simp;omega)).trans NC);have FC:w.heap.size<w1.heap.size:=af w1 _ Hn;have hcs:∀j,j<2->w1.cell? ⟨wr.heap.size,j,ν⟩=(wr.alloc (γ #[ι κ o.1,ι κ o.2] 276)).cell? ⟨wr.heap.size,j,ν⟩:=λj _=>by
      have e1:=ai (a:=⟨wr.heap.size,j,ν⟩) (ki.block wr.heap.size (by simp;omega) (λe=>by have:=ji.lt _ e.symm;omega));exact e1.trans ((iB _ _).cell (p:=⟨wr.heap.size,j,ν⟩) iC)
     have d0:=(hcs 0 eH).trans (aq wr #[ι κ o.1,ι κ o.2] 276 (0,0) 0);have d1:=(hcs 1 eH).trans (aq wr #[ι κ o.1,ι κ o.2] 276 (0,0) 1);have Mh:wr.heap.size<w1.heap.size:=af w1 _ d0;have sE:Row w1 2 (σ (μ ⟨g',0,ν⟩) (m+1) jL) (m+1) (jh (qp mg (os.take (k+1)))):=by
      rw[HT.out,HU.out,mS];exact kU
     clear ki jD kU hcs keep
     go_wp2
     go_roundw
     case rel=>exact⟨k+1,_,m+1,jL,eE,rfl,by go_num,eE,sE,λj hj=>kG mM hj,Hn,mf⟩
     case measure=>simp[ft];omega
    ·have kU:=keep (by simp at q1;simp[vX,q1,q2])
     go_wp2
     go_roundw
     case rel=>exact⟨k+1,_,m,cp,eE,rfl,by go_num,eE,kU.out,jw,NC,kt⟩
     case measure=>simp[ft];omega
  ·have wa:os.take k=os:=aK (by rw[ho.1];omega);rw[wa]at ji;have Mg:m=(qp mg os).length:=by have:=ji.1;rw[lI]at this;omega
   go_wp2
   go_ret;exact⟨_,rfl,⟨by rw[<-Mg];exact ji,λj hj=>by have:=jw j hj;omega,ja⟩⟩
theorem not_nil(a:eA)(n cap:Nat)(w:eB):(binOp .eql 35 (σ (μ a) n cap) (σ ν 0 0)).run fk w=.ok (.bool false) w:=gT
theorem XX(w:eB):(binOp .eql 35 (σ ν 0 0) (σ ν 0 0)).run fk w=.ok (.bool true) w:=gT
theorem BA(a:eA)(cap:Nat)(w:eB):
 fj fk 246 #[σ (μ a) 0 cap] w λe w'=>∃(v:eD),e=ρ v/\Made w w' v [] :=by
 have hq:=not_nil
 go_in
 go_wp2
 go_ret;exact⟨_,rfl,⟨Row.made w 2 _ #[] (0,0) 0 0 [] rfl rfl (Nat.le_refl _) eH (.inl rfl) iC,λj hj=>kG (Nat.le_refl _) hj,iB _ _⟩⟩
theorem ND(w:eB):
 fj fk 246 #[σ ν 0 0] w λe w'=>∃(v:eD),e=ρ v/\Made w w' v [] :=by
 have hq:=XX
 go_in
 go_wp2
 go_ret;exact⟨_,rfl,⟨Row.nil w 2,λj hj=>mZ hj,au _ _⟩⟩
theorem J9(b off n cap:Nat)(os:List j2)(w:eB)(hn:n<=1000000)(sJ:0<n)(ho:jm w (μ ⟨b,off,ν⟩) n os):
 fj fk 246 #[σ (μ ⟨b,off,ν⟩) n cap] w λe w'=>∃(v:eD),e=ρ v/\Made w w' v os:=by
 obtain⟨i0,hi,oz,mW,nT⟩:=aW A3;have hq:=not_nil;have pN:eN w (w.alloc (γ #[] 276)):=iB _ _;have hl:=ho.1;have ji:Row (w.alloc (γ #[] 276)) 2 (σ (μ ⟨w.heap.size,0,ν⟩) 0 0) 0 [] :=Row.made w 2 _ #[] (0,0) 0 0 [] rfl rfl (Nat.le_refl _) eH (.inl rfl) iC
 go_in
 go_wp2_with(at_builtin;go_must(refine iX _ rfl (.tmp 5) (.tmp 6) 35 rfl 276 i0 (.agg #[ι κ 0,ι κ 0]) 2 16 a9 hi oz mW nT rfl eH (σ (μ ⟨w.heap.size,0,ν⟩) 0 0) 0 [] rfl ji _ n cap (jh os) rfl (by rw[lI];omega) sJ ((ho.below pN).cells sJ) (He _) (by unfold maxLen;omega) eE ?_));intro g1 AB w1 kU ki jD;have kt:=lJ pN ki (λj hj=>kG (Nat.le_refl _) hj);have mM:=nE (B:=w.heap.size) jD eE (λj hj=>kG (Nat.le_refl _) hj);clear ki jD
 go_wp2
 go_ret;refine⟨_,rfl,⟨?_,λj hj=>kG mM hj,kt⟩⟩;rw[hl];exact kU
theorem NF(a:Option eA)(n cap:Nat)(os:List j2)(w:eB)(hn:n<=1000000)(kj:kM a cap)(ho:jm w a n os):
 fj fk 246 #[σ a n cap] w λe w'=>∃(v:eD),e=ρ v/\Made w w' v os:=by
 rcases ho.2 with h0|⟨b,off,rfl,hc⟩
 ·subst h0;have DA:os=[] :=aG ho.1;subst DA;cases a with
  |none=>
   obtain rfl:=kj rfl;exact ND w
  |some a=>exact BA a cap w
 ·by_cases sJ:0<n
  ·exact J9 b off n cap os w hn sJ ho
  ·have h0:n=0:=eE;subst h0;have DA:os=[] :=aG ho.1;subst DA;exact BA _ cap w
theorem Eg {w1:eB} {t:TypeId} {x y:eD} (hb:Below (w.alloc (γ #[x,y] t)).heap.size (w.alloc (γ #[x,y] t)) w1):
 w1.cell? ⟨w.heap.size,0,ν⟩=μ x/\w1.cell? ⟨w.heap.size,1,ν⟩=μ y/\w.heap.size<w1.heap.size:=by
 have hz:w.heap.size<(w.alloc (γ #[x,y] t)).heap.size:=iC;have hA:=λj=>aq w #[x,y] t (0,0) j;exact⟨(hb.cell (p:=⟨w.heap.size,0,ν⟩) hz).trans (hA 0),(hb.cell (p:=⟨w.heap.size,1,ν⟩) hz).trans (hA 1),Nat.lt_of_lt_of_le hz hb.size⟩
theorem Eh(sz mg:Int)(a:Option eA)(n cap:Nat)(os:List j2)(w:eB)(JQ:0<=mg)(XW:mg<=255)(hn:n<=1000000)(kj:kM a cap)(ho:jm w a n os):
 fj fk 228 #[.agg #[ι κ sz,ι κ mg],σ a n cap] w λe w'=>∃v,e=ρ (τ #[ι κ (lV mg os).1,v])/\Made w w' v (lV mg os).2:=by
 have pN:eN w (w.alloc (γ #[ι κ sz,ι κ mg] 252)):=iB _ _;have hA:=λj=>aq w #[ι κ sz,ι κ mg] 252 (0,0) j;by_cases hu:sd os=[]
 ·have Ho:=zN a n cap os _ hn (ho.below pN);rw[hu]at Ho;by_cases hb:qp mg os=[]
  ·have hJ:lV mg os=(2,os):=by simp[lV,hu,hb]
   rw[hJ];clear hJ
   go_in
   go_wp2_with(fail);refine Ho.mono ?_;rintro e w1 ⟨v,rfl,hM⟩;obtain⟨a1,Mi,rfl,_,_⟩:=hM.shape;obtain⟨c0,c1,hl⟩:=Eg hM.below;have kt:=iA pN hM.below;have NG:=Bz sz mg a n cap os w1 JQ XW hn (ho.below kt);rw[hb]at NG;simp only[fC];clear Ho hM;go_wp2_with(fail);refine NG.mono ?_;rintro e w2 ⟨v,rfl,hM⟩;obtain⟨a2,cp2,rfl,_,_⟩:=hM.shape;have mf:=iA kt hM.below;simp only[fC];clear NG hM;go_wp2_with(fail);refine(NF a n cap os w2 hn kj (ho.below mf)).mono ?_;rintro e w3 ⟨v,rfl,hM⟩
   go_wp2
   go_ret2
   exact⟨_,rfl,hM.from mf⟩
  ·have hJ:lV mg os=(3,qp mg os):=by simp[lV,hu,hb]
   rw[hJ];clear hJ
   go_in
   go_wp2_with(fail);refine Ho.mono ?_;rintro e w1 ⟨v,rfl,hM⟩;obtain⟨a1,Mi,rfl,_,_⟩:=hM.shape;obtain⟨c0,c1,hl⟩:=Eg hM.below;have kt:=iA pN hM.below;have NG:=Bz sz mg a n cap os w1 JQ XW hn (ho.below kt);simp only[fC];clear Ho hM;go_wp2_with(fail);refine NG.mono ?_;rintro e w2 ⟨v,rfl,hM⟩;obtain⟨a2,cp2,rfl,_,_⟩:=hM.shape;have qq:=hM.from kt;have sJ:(0:Int)<((qp mg os).length:Int):=by
    have:(qp mg os).length≠0:=λh=>hb (aG h);omega
   clear NG hM
   go_wp2
   go_ret2
   exact⟨_,rfl,qq⟩
 ·have Ho:=zN a n cap os _ hn (ho.below pN);have hJ:lV mg os=(4,sd os):=by simp[lV,hu]
  rw[hJ];clear hJ
  go_in
  go_wp2_with(fail);refine Ho.mono ?_;rintro e w1 ⟨v,rfl,hM⟩;obtain⟨a1,Mi,rfl,_,_⟩:=hM.shape;have qq:=hM.from pN;have sJ:(0:Int)<((sd os).length:Int):=by
   have:(sd os).length≠0:=λh=>hu (aG h);omega
  clear Ho hM
  go_wp2
  go_ret2
  exact⟨_,rfl,qq⟩
structure JR(w:eB)(B:Nat)(s m:Int):Prop where
 c0:w.cell? ⟨B,0,ν⟩=μ (ι κ s)
 c1:w.cell? ⟨B,1,ν⟩=μ (ι κ m)
 f0:w.frozen? ⟨B,0,ν⟩=false
 f1:w.frozen? ⟨B,1,ν⟩=false
theorem JR.lt(h:JR w B s m):B<w.heap.size:=af w _ h.c0
theorem JR.below(h:JR w B s m)(hb:eN w w'):JR w' B s m:=
 ⟨(hb.cell (p:=⟨B,0,ν⟩) h.lt).trans h.c0,(hb.cell (p:=⟨B,1,ν⟩) h.lt).trans h.c1,
   (aN (a:=⟨B,0,ν⟩) (hb.block B h.lt)).trans h.f0,(aN (a:=⟨B,1,ν⟩) (hb.block B h.lt)).trans h.f1⟩
open Go.ChangeShapes Go.WideShapes Go.ChangeAt
theorem NH {H:Type} {enc:TypeId×eD->H} {W:eB} {a:Option eA} {n cap:Nat} {d:DataW H} {ps:List MemPlace}
 (h:DataW.Trod enc fk W 0 (λ_=>true) true 35 (σ a n cap) d ps):
 ∃os:List j2,jm W a n os/\kM a cap/\n<=maxLen:=by
 obtain⟨fuel,hf⟩:=h;rcases dM a9 Tryz.underlying276 gT rfl rfl gT gT hf with⟨hcs,_⟩|⟨x,len,cp,m',n',V0,V1,D0,D1,P0,P1,hcs,_,hl,hm,Hp,_,hx⟩
 ·simp[fD]at hcs;obtain⟨rfl,rfl,rfl⟩:=hcs;exact⟨[],⟨rfl,.inl rfl⟩,λ_=>rfl,eH⟩
 ·simp[fD]at hcs;obtain⟨rfl,rfl,rfl⟩:=hcs;simp at Hp;have each:∀i,i<n->W.cell? (x.add (i*2))=μ (ι κ (ft (V0 i)))/\W.cell? (x.add (i*2+1))=μ (ι κ (ft (V1 i))):=by
   intro i hi;obtain⟨q1,q2,q3,q4⟩:=hx i eE;obtain⟨k,f0,_,_⟩:=a6 aJ q3;obtain⟨n,f1,_,_⟩:=a6 aJ q4;simp at f0 f1;exact⟨by rw[q1,f0];rfl,by rw[q2,f1];rfl⟩
  refine⟨(List.range n).map (λi=>(ft (V0 i),ft (V1 i))),⟨iC,?_⟩,λh=>by simp at h,eE⟩;by_cases h0:n=0
  ·exact .inl h0
  ·obtain⟨b,off,spot⟩:=x;have hc:=(each 0 eE).1;have BD:spot=ν:=by simpa[Addr.add]using da hc
   subst BD;refine .inr ⟨b,off,rfl,λj hj=> ?_⟩;have Hd:j<n:=by simpa using hj
   have hq:=each j Hd;rw[mR,mR]at hq;simpa[Nat.add_assoc]using hq
end Go.Proofs.YtieklnlbljejdaaGreatDoor
