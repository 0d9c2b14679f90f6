import Derived.Test.YtieklnlbljejdaaGreatDoorT00
open Go.Value renaming int → ι, slice → σ, pointer → π, tuple → τ, nilIface → η
open Go.IntKind renaming i64 → κ
open Go.Ending renaming returned → ρ
open Go.Obj renaming cells → γ
open Option renaming none → ν, some → μ
open Go.Proofs.Tryz renaming prog → eN
open Go renaming World → dN, Calls → eM, Addr → dM, Value → dO
open Go.Value renaming ownBlock → dQ
open Go.RowKit renaming intOf → eP
open List renaming length_nil → eQ
set_option maxRecDepth 100000
set_option maxHeartbeats 4000000
open Go.Proofs.Tryz
namespace Go.Proofs.YtieklnlbljejdaaGreatDoor
open Go.RowKit
variable {B:Nat} {C:Array Value} {X:Nat->Prop} {a w w' x:World} {m s:Int} {o:Obj} {v:Value}
theorem Ah:(eN.info? 276).map (λi=>(i.zero,i.size,i.bytes))=μ (μ (.agg #[ι κ 0,ι κ 0]),2,16):=gJ
theorem wW(w:dN):(zeroValue 252).run eN w=.ok (.agg #[ι κ 0,ι κ 0]) w:=gJ
def nk(sz mg:Int):List jv:=(if 0<sz then [(1,sz)]else [])++(if 0<mg then [(5,mg)]else [])
def Gc(o:jv):Bool:= !(o.1==1)&& !(o.1==5)
def rC(l:List jv):List jv:=l.filter Gc
def vh(mg:Int)(o:jv):List jv:=
 if o.1=1/\o.2<40 then [(1,40)]else if o.1=5/\(o.2=0 \/o.2=mg)then [(5,mg%255+1)]else []
def pJ(mg:Int)(l:List jv):List jv:=l.flatMap (vh mg)
def lb(mg:Int)(l:List jv):Int×List jv:=if rC l≠ []then(4,rC l)else if pJ mg l≠ []then(3,pJ mg l)else(2,l)
def jL(code:Int)(p:Int×Int)(o:jv):Int×Int:=
 if code=4 then(if o.1=1 then(0,p.2)else if o.1=5 then(p.1,0)else p)
 else if code=3 then(if o.1=1/\0<p.1/\40<=o.2 then(o.2,p.2)else if o.1=5/\0<p.2/\0<o.2 then(p.1,o.2)else p)
 else p
def nX(code:Int)(l:List jv)(p:Int×Int):Int×Int:=l.foldl (jL code) p
theorem WB(sz mg:Int)(w:dN)(h1:¬sz<40)(h2:¬255<sz)(h3:¬mg<1)(h4:¬255<mg):
 eM eN 170 #[ι κ sz,ι κ mg] w λe w'=>e=ρ (τ #[.agg #[ι κ sz,ι κ mg],η])/\dV w w':=by
 have hz:=wW;have hb:dV w (w.alloc (γ #[ι κ sz,ι κ mg] 252)):=gM _ _
 go_in
 go_wp2
 refine aA (v:=τ #[.agg #[ι κ sz,ι κ mg],η]) (by simp[results,results170,go_sem]) rfl ?_;exact⟨rfl,hb⟩
theorem Gd(sz mg:Int)(w:dN):eM eN 224 #[.agg #[ι κ sz,ι κ mg]] w λe w'=>∃v,e=ρ v/\Made w w' v (nk sz mg):=by
 obtain⟨E,hi,y,D,A⟩:=aT Ah;have M:dV w (w.alloc (γ #[ι κ sz,ι κ mg] 252)):=gM _ _;have hA:=λj=>aj w #[ι κ sz,ι κ mg] 252 (0,0) j;by_cases G:0<sz
 ·by_cases H:0<mg
  ·have T:nk sz mg=[(1,sz)] ++ [(5,mg)] :=by simp[nk,G,H]
   rw[T]
   go_in
   go_wp2_with(at_builtin;go_must(refine iu _ rfl (.tmp 7) (.tmp 11) 35 rfl 276 E (.agg #[ι κ 0,ι κ 0]) 2 16 underlying35 hi y D A rfl dS (σ ν 0 0) 0 (iG []) rfl (Row.nil _ 2) _ 1 1 [ι κ 1,ι κ sz] rfl rfl dS (mP _ _ _ _ _ gN) (kX _ _ _ _) dS dS ?_));intro g1 u V Q Y U;have S:=kS (M.alloc M.size _) Y (λj Z=>mB Z);have J:=mT (B:=w.heap.size) U dP (λj Z=>mB Z);have h:V.cell? ⟨w.heap.size,1,ν⟩=μ (ι κ mg):=by
    exact qC Y (by simp[dQ]) (((gM _ _).cell (p:=⟨w.heap.size,1,ν⟩) gN).trans (hA 1))
   have Pn:w.heap.size<V.heap.size:=af V _ h;rw[show([] :List jv)=[]from rfl]at Q;have t:Row V 2 (σ (μ ⟨g1,0,ν⟩) 1 u) 1 (iG [(1,sz)]):=Q;clear Y U Q;go_wp2_with(at_builtin;go_must(refine iu _ rfl (.tmp 16) (.tmp 20) 35 rfl 276 E (.agg #[ι κ 0,ι κ 0]) 2 16 underlying35 hi y D A rfl dS (σ (μ ⟨g1,0,ν⟩) 1 u) 1 (iG [(1,sz)]) rfl (t.alloc _) _ 1 1 [ι κ 5,ι κ mg] rfl rfl dS (mP _ _ _ _ _ gN) (kX _ _ _ _) dS dS ?_));intro g2 cap2 w2 sv y8 kj;have lR:=kS (S.alloc S.size _) y8 (λj Z=>j7 J Z);have wP:=mT (B:=w.heap.size) kj (by have:=S.size;omega) (λj Z=>j7 J Z);clear y8 kj
   go_wp2
   go_ret;exact⟨_,rfl,⟨sv,λj Z=>j7 wP Z,lR⟩⟩
  ·have T:nk sz mg=[(1,sz)] :=by simp[nk,G,H]
   rw[T]
   go_in
   go_wp2_with(at_builtin;go_must(refine iu _ rfl (.tmp 7) (.tmp 11) 35 rfl 276 E (.agg #[ι κ 0,ι κ 0]) 2 16 underlying35 hi y D A rfl dS (σ ν 0 0) 0 (iG []) rfl (Row.nil _ 2) _ 1 1 [ι κ 1,ι κ sz] rfl rfl dS (mP _ _ _ _ _ gN) (kX _ _ _ _) dS dS ?_));intro g1 u V Q Y U;have S:=kS (M.alloc M.size _) Y (λj Z=>mB Z);have J:=mT (B:=w.heap.size) U dP (λj Z=>mB Z);have h:V.cell? ⟨w.heap.size,1,ν⟩=μ (ι κ mg):=by
    exact qC Y (by simp[dQ]) (((gM _ _).cell (p:=⟨w.heap.size,1,ν⟩) gN).trans (hA 1))
   have Pn:w.heap.size<V.heap.size:=af V _ h;clear Y U
   go_wp2
   go_ret;exact⟨_,rfl,⟨Q,λj Z=>j7 J Z,S⟩⟩
 ·by_cases H:0<mg
  ·have T:nk sz mg=[(5,mg)] :=by simp[nk,G,H]
   rw[T]
   go_in
   go_wp2_with(at_builtin;go_must(refine iu _ rfl (.tmp 16) (.tmp 20) 35 rfl 276 E (.agg #[ι κ 0,ι κ 0]) 2 16 underlying35 hi y D A rfl dS (σ ν 0 0) 0 (iG []) rfl (Row.nil _ 2) _ 1 1 [ι κ 5,ι κ mg] rfl rfl dS (mP _ _ _ _ _ gN) (kX _ _ _ _) dS dS ?_));intro g1 u V Q Y U;have S:=kS (M.alloc M.size _) Y (λj Z=>mB Z);have J:=mT (B:=w.heap.size) U dP (λj Z=>mB Z);clear Y U
   go_wp2
   go_ret;exact⟨_,rfl,⟨Q,λj Z=>j7 J Z,S⟩⟩
  ·have T:nk sz mg=[] :=by simp[nk,G,H]
   rw[T]
   go_in
   go_wp2
   go_ret;exact⟨_,rfl,⟨Row.nil _ 2,λj Z=>mB Z,M⟩⟩
theorem za(a:Option dM)(n cap:Nat)(os:List jv)(w:dN)(hn:n<=1000000)(J:iK w a n os):
 eM eN 244 #[σ a n cap] w λe w'=>∃v,e=ρ v/\Made w w' v (rC os):=by
 obtain⟨t,hi,nH,l8,mZ⟩:=aT Ah
 go_in
 go_wp2
 go_loopw [3,8] (λout i wr=>∃(k:Nat) (ao:Option dM) (m cp:Nat),k<=n/\out=σ ao m cp/\i=ι κ k/\m<=k/\Row wr 2 (σ ao m cp) m (iG (rC (os.take k)))/\(∀j,dQ (σ ao m cp)=μ j->w.heap.size<=j)/\dV w wr) (λ_ i _=>n-(eP i).toNat)
 case atStart=>exact⟨0,ν,0,0,Nat.zero_le _,rfl,rfl,Nat.le_refl _,by simpa[rC,iG]using Row.nil w 2,λj M=>mB M,aq _ _⟩
 case round=>
  obtain⟨k,ao,m,cp,hk,rfl,rfl,OX,Y,U,Z⟩:=hrel;by_cases kc:k<n
  ·have y:=J.below Z;rcases y.2 with h0|⟨b,off,rfl,hc⟩
   ·omega
   have A:k<os.length:=by rw[J.1];exact kc
   obtain⟨c1,c2⟩:=hc k A;have S:Hid (os.take (k+1)=os.take k++ [os[k]]):=aw A;generalize os[k] =o at c1 c2 S;clear hc;have nh:(k:Int)<(n:Int):=dP;cases q1:(o.1==1)
   ·cases Q:(o.1==5)
    ·have D:(o.1 !=1)=true:=by simp[bne,q1]
     have p5:(o.1 !=5)=true:=by simp[bne,Q]
     have V:Hid (rC (os.take (k+1))=rC (os.take k)++ [o]):=by
      show _=_;rw[S.out,rC,bX];simp[Gc,q1,Q];rfl
     go_wp2_with(at_builtin;go_must(refine iu _ rfl (.tmp 20) (.tmp 22) 35 rfl 276 t (.agg #[ι κ 0,ι κ 0]) 2 16 underlying35 hi nH l8 mZ rfl dS (σ ao m cp) m (iG (rC (os.take k))) rfl ((Y.alloc _).alloc _) _ 1 1 [ι κ o.1,ι κ o.2] rfl rfl dS (mP _ _ _ _ _ gN) (kX _ _ _ _) (by unfold maxLen;omega) dP ?_));intro g' h w1 E H G;have T:=kS ((Z.alloc Z.size _).alloc (by simp;have:=Z.size;omega) _) H U;have lT:=mT (B:=w.heap.size) G (by have:=Z.size;omega) U;rw[<-lZ,<-V.out]at E;clear H G
     go_wp2
     go_roundw
     case rel=>exact⟨k+1,_,m+1,h,dP,rfl,by go_num,dP,E,λj M=>j7 lT M,T⟩
     case measure=>simp[eP];omega
    ·have D:(o.1 !=1)=true:=by simp[bne,q1]
     have p5:(o.1 !=5)=false:=by simp[bne,Q]
     have V:Hid (rC (os.take (k+1))=rC (os.take k)):=by
      show _=_;rw[S.out,rC,bX];simp[Gc,q1,Q];rfl
     have T:=Z.alloc Z.size (γ #[ι κ o.1,ι κ o.2] 276)
     go_wp2
     go_roundw
     case rel=>exact⟨k+1,_,m,cp,dP,rfl,by go_num,dP,by rw[V.out];exact Y.alloc _,U,T⟩
     case measure=>simp[eP];omega
   ·have D:(o.1 !=1)=false:=by simp[bne,q1]
    have V:Hid (rC (os.take (k+1))=rC (os.take k)):=by
     show _=_;rw[S.out,rC,bX];simp[Gc,q1];rfl
    have T:=Z.alloc Z.size (γ #[ι κ o.1,ι κ o.2] 276)
    go_wp2
    go_roundw
    case rel=>exact⟨k+1,_,m,cp,dP,rfl,by go_num,dP,by rw[V.out];exact Y.alloc _,U,T⟩
    case measure=>simp[eP];omega
  ·have wX:os.take k=os:=aC (by rw[J.1];omega);rw[wX]at Y;have u:m=(rC os).length:=by have:=Y.1;rw[kR]at this;omega
   go_wp2
   go_ret;exact⟨_,rfl,⟨by rw[<-u];exact Y,U,Z⟩⟩
theorem Po:(eN.info? 37).map (λi=>(i.zero,i.size,i.bytes))=μ (μ (.agg #[ι κ 0,ι κ 0,σ ν 0 0]),3,40):=gJ
def Pp(fs fm ns nm qs qm st sz lf wt ow:Int)(v:dO):Array dO:= #[ι κ fs,ι κ fm,ι κ ns,ι κ nm,ι κ qs,ι κ qm,ι κ st,ι κ sz,ι κ lf,ι κ wt,ι κ ow,v]
def Lk(w:dN)(B:Nat)(C:Array dO):Prop:=w.heap[B]? =μ (γ C 254 (0,0))
theorem Lk.lt(h:Lk w B C):B<w.heap.size:=(au.1 h).1
theorem Lk.cell {w:dN} {B:Nat} {C:Array dO} (h:Lk w B C)(j:Nat):w.cell? ⟨B,j,ν⟩=C[j]? :=ar w B j C _ (0,0) h
theorem Lk.frozen {w:dN} {B:Nat} {C:Array dO} (h:Lk w B C)(j:Nat):w.frozen? ⟨B,j,ν⟩=false:=bh w B j C _ h
theorem Lk.set(h:Lk w B C)(j:Nat)(x:dO):Lk (w.setCell ⟨B,j,ν⟩ x) B (C.setIfInBounds j x):=by
 unfold Lk;rw[bB w B j C _ (0,0) x h];exact ch w B C _ _ (0,0) h
theorem Lk.keep(h:Lk w B C)(hb:w'.heap[B]? =w.heap[B]?):Lk w' B C:=hb.trans h
theorem Lk.below(h:Lk w B C)(hb:dV w w'):Lk w' B C:=h.keep (hb.block B h.lt)
theorem Lk.drew {w:dN} {B:Nat} {C:Array dO} (h:Lk w B C):Lk w.drew B C:=h
theorem wY(w:dN)(x y z:dO)(t:TypeId)(g:Nat)(Z:w.heap.size=g):∀(j:Nat) (u:dO),[x,y,z][j]? =μ u->(w.alloc (γ #[x,y,z] t)).drew.cell? ((⟨g,0,ν⟩:dM).add j)=μ u:=by
 subst Z;intro j u Y;show(w.alloc (γ #[x,y,z] t)).cell? _=_;rw[add_plain,aj];simpa using Y
theorem Pq(x y:Int)(a:Option dM)(n c:Nat):∀u∈ [Value.int .i64 x,Value.int .i64 y,Value.slice a n c],u.oneCell'=true:=by simp[Value.oneCell']
theorem oc {b:Nat} (h:a.grownBy w (μ b))(j:Nat)(v:dO):a.grownBy (w.setCell ⟨b,j,ν⟩ v) (μ b):=by
 have b1:Below 0 w (w.setCell ⟨b,j,ν⟩ v):=(aq 0 w).setCell (Nat.zero_le _) _;exact⟨b1.os.trans h.os,b1.tape.trans h.tape,b1.output.trans h.output,Nat.le_trans h.size b1.size,λi hi Z=>(ak _ _ _ i (λe=>Z (by rw[e]))).trans (h.block i hi Z)⟩
theorem qE(B:Nat)(h:dV w x):w.grownBy x (μ B):=⟨h.os,h.tape,h.output,h.size,λi hi _=>h.block i hi⟩
theorem zb {b c:dN} (h:a.grownBy b (μ B))(k:b.grownBy c (μ B)):a.grownBy c (μ B):=
 ⟨k.os.trans h.os,k.tape.trans h.tape,k.output.trans h.output,Nat.le_trans h.size k.size,λi hi Z=>(k.block i (Nat.lt_of_lt_of_le hi h.size) Z).trans (h.block i hi Z)⟩
theorem Ge(sz mg k:Int)(w:dN):eM eN 247 #[.agg #[ι κ sz,ι κ mg],ι κ k] w λe w'=>
 e=ρ (.agg #[ι κ (jL 4 (sz,mg) (k,0)).1,ι κ (jL 4 (sz,mg) (k,0)).2])/\dV w w':=by
 have hz:=wW;have hb:∀A B:Array dO,dV w ((w.alloc (γ A 252)).alloc (γ B 252)):=λA B=>(gM _ _).alloc gN _;cases q1:(k==1)
 ·cases Z:(k==5)
  ·have hv:jL 4 (sz,mg) (k,0)=(sz,mg):=by simp at q1 Z;simp[jL,q1,Z]
   rw[hv];clear hv
   go_in
   go_wp2
   refine aA (v:=.agg #[ι κ sz,ι κ mg]) (by simp[results,results247,go_sem]) rfl ?_;exact⟨rfl,hb _ _⟩
  ·have hv:jL 4 (sz,mg) (k,0)=(sz,0):=by simp at q1 Z;simp[jL,Z]
   rw[hv];clear hv
   go_in
   go_wp2
   refine aA (v:=.agg #[ι κ sz,ι κ 0]) (by simp[results,results247,go_sem]) rfl ?_;exact⟨rfl,hb _ _⟩
 ·have hv:jL 4 (sz,mg) (k,0)=(0,mg):=by simp at q1;simp[jL,q1]
  rw[hv];clear hv
  go_in
  go_wp2
  refine aA (v:=.agg #[ι κ 0,ι κ mg]) (by simp[results,results247,go_sem]) rfl ?_;exact⟨rfl,hb _ _⟩
theorem Pr(sz mg k n:Int)(w:dN):eM eN 248 #[.agg #[ι κ sz,ι κ mg],.agg #[ι κ k,ι κ n]] w λe w'=>
 e=ρ (.agg #[ι κ (jL 3 (sz,mg) (k,n)).1,ι κ (jL 3 (sz,mg) (k,n)).2])/\dV w w':=by
 have hz:=wW;have hb:∀(A B C:Array dO) (t u v:TypeId),dV w (((w.alloc (γ A t)).alloc (γ B u)).alloc (γ C v)):=λA B C t u v=>((gM _ _).alloc gN _).alloc (by simp;omega) _;have fin:∀(s m:Int),jL 3 (sz,mg) (k,n)=(s,m)->((jL 3 (sz,mg) (k,n)).1=s/\(jL 3 (sz,mg) (k,n)).2=m):=λs m h=>by rw[h];exact⟨rfl,rfl⟩
 cases q1:(k==1)
 ·cases Z:(k==5)
  ·have hv:jL 3 (sz,mg) (k,n)=(sz,mg):=by simp at q1 Z;simp[jL,q1,Z]
   rw[hv];clear hv fin
   go_in
   go_wp2
   refine aA (v:=.agg #[ι κ sz,ι κ mg]) (by simp[results,results248,go_sem]) rfl ?_;exact⟨rfl,hb _ _ _ _ _ _⟩
  ·by_cases Y:0<mg
   ·by_cases V:0<n
    ·have hv:jL 3 (sz,mg) (k,n)=(sz,n):=by simp at q1 Z;simp[jL,Z,Y,V]
     rw[hv];clear hv fin
     go_in
     go_wp2
     refine aA (v:=.agg #[ι κ sz,ι κ n]) (by simp[results,results248,go_sem]) rfl ?_;exact⟨rfl,hb _ _ _ _ _ _⟩
    ·have hv:jL 3 (sz,mg) (k,n)=(sz,mg):=by simp at q1 Z;simp[jL,Z,V]
     rw[hv];clear hv fin
     go_in
     go_wp2
     refine aA (v:=.agg #[ι κ sz,ι κ mg]) (by simp[results,results248,go_sem]) rfl ?_;exact⟨rfl,hb _ _ _ _ _ _⟩
   ·have hv:jL 3 (sz,mg) (k,n)=(sz,mg):=by simp at q1 Z;simp[jL,Z,Y]
    rw[hv];clear hv fin
    go_in
    go_wp2
    refine aA (v:=.agg #[ι κ sz,ι κ mg]) (by simp[results,results248,go_sem]) rfl ?_;exact⟨rfl,hb _ _ _ _ _ _⟩
 ·have Z:(k==5)=false:=by simp at q1⊢;omega
  by_cases Y:0<sz
  ·by_cases V:40<=n
   ·have hv:jL 3 (sz,mg) (k,n)=(n,mg):=by simp at q1;simp[jL,q1,Y,V]
    rw[hv];clear hv fin
    go_in
    go_wp2
    refine aA (v:=.agg #[ι κ n,ι κ mg]) (by simp[results,results248,go_sem]) rfl ?_;exact⟨rfl,hb _ _ _ _ _ _⟩
   ·have hv:jL 3 (sz,mg) (k,n)=(sz,mg):=by simp at q1;simp[jL,q1,V]
    rw[hv];clear hv fin
    go_in
    go_wp2
    refine aA (v:=.agg #[ι κ sz,ι κ mg]) (by simp[results,results248,go_sem]) rfl ?_;exact⟨rfl,hb _ _ _ _ _ _⟩
  ·have hv:jL 3 (sz,mg) (k,n)=(sz,mg):=by simp at q1;simp[jL,q1,Y]
   rw[hv];clear hv fin
   go_in
   go_wp2
   refine aA (v:=.agg #[ι κ sz,ι κ mg]) (by simp[results,results248,go_sem]) rfl ?_;exact⟨rfl,hb _ _ _ _ _ _⟩
theorem AQ(sz mg:Int)(a:Option dM)(n cap:Nat)(os:List jv)(w:dN)(I1:0<=mg)(WC:mg<=255)(hn:n<=1000000)(ho:iK w a n os):
 eM eN 245 #[.agg #[ι κ sz,ι κ mg],σ a n cap] w λe w'=>∃v,e=ρ v/\Made w w' v (pJ mg os):=by
 obtain⟨i0,hi,nH,l8,mZ⟩:=aT Ah;have oW:dV w (w.alloc (γ #[ι κ sz,ι κ mg] 252)):=gM _ _;have hA:=λj=>aj w #[ι κ sz,ι κ mg] 252 (0,0) j
 go_in
 go_wp2
 go_loopw [5,10] (λout i wr=>∃(k:Nat) (ao:Option dM) (m cp:Nat),k<=n/\out=σ ao m cp/\i=ι κ k/\m<=k/\Row wr 2 (σ ao m cp) m (iG (pJ mg (os.take k)))/\(∀j,dQ (σ ao m cp)=μ j->w.heap.size+1<=j)/\wr.cell? ⟨w.heap.size,1,ν⟩=μ (ι κ mg)/\dV w wr) (λ_ i _=>n-(eP i).toNat)
 case atStart=>exact⟨0,ν,0,0,Nat.zero_le _,rfl,rfl,Nat.le_refl _,by simpa[pJ,iG]using Row.nil _ 2,λj Y=>mB Y,hA 1,oW⟩
 case round=>
  obtain⟨k,ao,m,cp,hk,rfl,rfl,OX,S,T,t,iA⟩:=hrel;have Pn:w.heap.size<wr.heap.size:=af wr _ t;by_cases kc:k<n
  ·have CJ:=ho.below iA;rcases CJ.2 with h0|⟨b,off,rfl,hc⟩
   ·omega
   have ph:k<os.length:=by rw[ho.1];exact kc
   obtain⟨c1,c2⟩:=hc k ph;have D:Hid (pJ mg (os.take (k+1))=pJ mg (os.take k)++vh mg os[k]):=by
    show _=_;rw[aw ph,pJ,cF,cM,List.flatMap_nil,aL];rfl
   generalize os[k] =o at c1 c2 D;clear hc;have nh:(k:Int)<(n:Int):=dP;have Q:=iA.alloc iA.size (γ #[ι κ o.1,ι κ o.2] 276);have E:(wr.alloc (γ #[ι κ o.1,ι κ o.2] 276)).cell? ⟨w.heap.size,1,ν⟩=μ (ι κ mg):=((gM _ _).cell (p:=⟨w.heap.size,1,ν⟩) Pn).trans t;have keep:vh mg o=[]->Hid (Row (wr.alloc (γ #[ι κ o.1,ι κ o.2] 276)) 2 (σ ao m cp) m (iG (pJ mg (os.take (k+1))))):=λhe=>by
    show Row _ _ _ _ _;rw[D.out,he,aL];exact S.alloc _
   cases q1:(o.1==1)
   ·cases M:(o.1==5)
    ·have U:=keep (by simp at q1 M;simp[vh,q1,M])
     go_wp2
     go_roundw
     case rel=>exact⟨k+1,_,m,cp,dP,rfl,by go_num,dP,U.out,T,E,Q⟩
     case measure=>simp[eP];omega
    ·cases q6:(o.2==0)
     ·cases q7:(o.2==mg)
      ·have U:=keep (by simp at q1 M q6 q7;simp[vh,M,q6,q7])
       go_wp2
       go_roundw
       case rel=>exact⟨k+1,_,m,cp,dP,rfl,by go_num,dP,U.out,T,E,Q⟩
       case measure=>simp[eP];omega
      ·have A:Hid (vh mg o=[(5,(mg%255+1))]):=by
        show _=_;simp at q1 M q6 q7;simp[vh,M,q7]
       go_wp2_with(at_builtin;go_must(refine iu _ rfl (.tmp 41) (.tmp 47) 35 rfl 276 i0 (.agg #[ι κ 0,ι κ 0]) 2 16 underlying35 hi nH l8 mZ rfl dS (σ ao m cp) m (iG (pJ mg (os.take k))) rfl ((S.alloc _).alloc _) _ 1 1 [ι κ 5,ι κ (mg%255+1)] rfl rfl dS (mP _ _ _ _ _ gN) (kX _ _ _ _) (by unfold maxLen;omega) dP ?_));intro u H Z U V G;have h:=kS (Q.alloc Q.size _) V (λj Y=>by have:=T j Y;omega);have lT:=mT (B:=w.heap.size+1) G dP T;have J:Z.cell? ⟨w.heap.size,1,ν⟩=μ (ι κ mg):=qC V (λe=>by have:=T _ e;omega) (((gM _ _).cell (p:=⟨w.heap.size,1,ν⟩) (by simp;omega)).trans E);have ED:w.heap.size<Z.heap.size:=af Z _ J;have hcs:∀j,j<2->Z.cell? ⟨wr.heap.size,j,ν⟩=(wr.alloc (γ #[ι κ o.1,ι κ o.2] 276)).cell? ⟨wr.heap.size,j,ν⟩:=λj _=>by
        have y:=ai (a:=⟨wr.heap.size,j,ν⟩) (V.block wr.heap.size (by simp;omega) (λe=>by have:=S.lt _ e.symm;omega));exact y.trans ((gM _ _).cell (p:=⟨wr.heap.size,j,ν⟩) gN)
       have d0:=(hcs 0 dS).trans (aj wr #[ι κ o.1,ι κ o.2] 276 (0,0) 0);have d1:=(hcs 1 dS).trans (aj wr #[ι κ o.1,ι κ o.2] 276 (0,0) 1);have K9:wr.heap.size<Z.heap.size:=af Z _ d0;have sv:Row Z 2 (σ (μ ⟨u,0,ν⟩) (m+1) H) (m+1) (iG (pJ mg (os.take (k+1)))):=by
        rw[D.out,A.out,lZ];exact U
       clear V G U hcs keep
       go_wp2
       go_roundw
       case rel=>exact⟨k+1,_,m+1,H,dP,rfl,by go_num,dP,sv,λj Y=>j7 lT Y,J,h⟩
       case measure=>simp[eP];omega
     ·have A:Hid (vh mg o=[(5,(mg%255+1))]):=by
       show _=_;simp at q1 M q6;simp[vh,M,q6]
      go_wp2_with(at_builtin;go_must(refine iu _ rfl (.tmp 41) (.tmp 47) 35 rfl 276 i0 (.agg #[ι κ 0,ι κ 0]) 2 16 underlying35 hi nH l8 mZ rfl dS (σ ao m cp) m (iG (pJ mg (os.take k))) rfl ((S.alloc _).alloc _) _ 1 1 [ι κ 5,ι κ (mg%255+1)] rfl rfl dS (mP _ _ _ _ _ gN) (kX _ _ _ _) (by unfold maxLen;omega) dP ?_));intro u H Z U V G;have h:=kS (Q.alloc Q.size _) V (λj Y=>by have:=T j Y;omega);have lT:=mT (B:=w.heap.size+1) G dP T;have J:Z.cell? ⟨w.heap.size,1,ν⟩=μ (ι κ mg):=qC V (λe=>by have:=T _ e;omega) (((gM _ _).cell (p:=⟨w.heap.size,1,ν⟩) (by simp;omega)).trans E);have ED:w.heap.size<Z.heap.size:=af Z _ J;have hcs:∀j,j<2->Z.cell? ⟨wr.heap.size,j,ν⟩=(wr.alloc (γ #[ι κ o.1,ι κ o.2] 276)).cell? ⟨wr.heap.size,j,ν⟩:=λj _=>by
       have y:=ai (a:=⟨wr.heap.size,j,ν⟩) (V.block wr.heap.size (by simp;omega) (λe=>by have:=S.lt _ e.symm;omega));exact y.trans ((gM _ _).cell (p:=⟨wr.heap.size,j,ν⟩) gN)
      have d0:=(hcs 0 dS).trans (aj wr #[ι κ o.1,ι κ o.2] 276 (0,0) 0);have d1:=(hcs 1 dS).trans (aj wr #[ι κ o.1,ι κ o.2] 276 (0,0) 1);have K9:wr.heap.size<Z.heap.size:=af Z _ d0;have sv:Row Z 2 (σ (μ ⟨u,0,ν⟩) (m+1) H) (m+1) (iG (pJ mg (os.take (k+1)))):=by
       rw[D.out,A.out,lZ];exact U
      clear V G U hcs keep
      go_wp2
      go_roundw
      case rel=>exact⟨k+1,_,m+1,H,dP,rfl,by go_num,dP,sv,λj Y=>j7 lT Y,J,h⟩
      case measure=>simp[eP];omega
   ·have M:(o.1==5)=false:=by simp at q1⊢;omega
    by_cases q2:o.2<40
    ·have A:Hid (vh mg o=[(1,40)]):=by
      show _=_;simp at q1;simp[vh,q1,q2]
     go_wp2_with(at_builtin;go_must(refine iu _ rfl (.tmp 22) (.tmp 24) 35 rfl 276 i0 (.agg #[ι κ 0,ι κ 0]) 2 16 underlying35 hi nH l8 mZ rfl dS (σ ao m cp) m (iG (pJ mg (os.take k))) rfl ((S.alloc _).alloc _) _ 1 1 [ι κ 1,ι κ 40] rfl rfl dS (mP _ _ _ _ _ gN) (kX _ _ _ _) (by unfold maxLen;omega) dP ?_));intro u H Z U V G;have h:=kS (Q.alloc Q.size _) V (λj Y=>by have:=T j Y;omega);have lT:=mT (B:=w.heap.size+1) G dP T;have J:Z.cell? ⟨w.heap.size,1,ν⟩=μ (ι κ mg):=qC V (λe=>by have:=T _ e;omega) (((gM _ _).cell (p:=⟨w.heap.size,1,ν⟩) (by simp;omega)).trans E);have ED:w.heap.size<Z.heap.size:=af Z _ J;have hcs:∀j,j<2->Z.cell? ⟨wr.heap.size,j,ν⟩=(wr.alloc (γ #[ι κ o.1,ι κ o.2] 276)).cell? ⟨wr.heap.size,j,ν⟩:=λj _=>by
      have y:=ai (a:=⟨wr.heap.size,j,ν⟩) (V.block wr.heap.size (by simp;omega) (λe=>by have:=S.lt _ e.symm;omega));exact y.trans ((gM _ _).cell (p:=⟨wr.heap.size,j,ν⟩) gN)
     have d0:=(hcs 0 dS).trans (aj wr #[ι κ o.1,ι κ o.2] 276 (0,0) 0);have d1:=(hcs 1 dS).trans (aj wr #[ι κ o.1,ι κ o.2] 276 (0,0) 1);have K9:wr.heap.size<Z.heap.size:=af Z _ d0;have sv:Row Z 2 (σ (μ ⟨u,0,ν⟩) (m+1) H) (m+1) (iG (pJ mg (os.take (k+1)))):=by
      rw[D.out,A.out,lZ];exact U
     clear V G U hcs keep
     go_wp2
     go_roundw
     case rel=>exact⟨k+1,_,m+1,H,dP,rfl,by go_num,dP,sv,λj Y=>j7 lT Y,J,h⟩
     case measure=>simp[eP];omega
    ·have U:=keep (by simp at q1;simp[vh,q1,q2])
     go_wp2
     go_roundw
     case rel=>exact⟨k+1,_,m,cp,dP,rfl,by go_num,dP,U.out,T,E,Q⟩
     case measure=>simp[eP];omega
  ·have wX:os.take k=os:=aC (by rw[ho.1];omega);rw[wX]at S;have MD:m=(pJ mg os).length:=by have:=S.1;rw[kR]at this;omega
   go_wp2
   go_ret;exact⟨_,rfl,⟨by rw[<-MD];exact S,λj Y=>by have:=T j Y;omega,iA⟩⟩
theorem not_nil(a:dM)(n cap:Nat)(w:dN):(binOp .eql 35 (σ (μ a) n cap) (σ ν 0 0)).run eN w=.ok (.bool false) w:=gJ
theorem WD(w:dN):(binOp .eql 35 (σ ν 0 0) (σ ν 0 0)).run eN w=.ok (.bool true) w:=gJ
theorem AR(a:dM)(cap:Nat)(w:dN):
 eM eN 246 #[σ (μ a) 0 cap] w λe w'=>∃(v:dO),e=ρ v/\Made w w' v [] :=by
 have hq:=not_nil
 go_in
 go_wp2
 go_ret;exact⟨_,rfl,⟨Row.made w 2 _ #[] (0,0) 0 0 [] rfl rfl (Nat.le_refl _) dS (.inl rfl) gN,λj Z=>j7 (Nat.le_refl _) Z,gM _ _⟩⟩
theorem MF(w:dN):
 eM eN 246 #[σ ν 0 0] w λe w'=>∃(v:dO),e=ρ v/\Made w w' v [] :=by
 have hq:=WD
 go_in
 go_wp2
 go_ret;exact⟨_,rfl,⟨Row.nil w 2,λj Z=>mB Z,aq _ _⟩⟩
theorem Jk(b off n cap:Nat)(os:List jv)(w:dN)(hn:n<=1000000)(S:0<n)(Y:iK w (μ ⟨b,off,ν⟩) n os):
 eM eN 246 #[σ (μ ⟨b,off,ν⟩) n cap] w λe w'=>∃(v:dO),e=ρ v/\Made w w' v os:=by
 obtain⟨Q,hi,A,G,D⟩:=aT Ah;have hq:=not_nil;have T:dV w (w.alloc (γ #[] 276)):=gM _ _;have hl:=Y.1;have M:Row (w.alloc (γ #[] 276)) 2 (σ (μ ⟨w.heap.size,0,ν⟩) 0 0) 0 [] :=Row.made w 2 _ #[] (0,0) 0 0 [] rfl rfl (Nat.le_refl _) dS (.inl rfl) gN
 go_in
 go_wp2_with(at_builtin;go_must(refine iu _ rfl (.tmp 5) (.tmp 6) 35 rfl 276 Q (.agg #[ι κ 0,ι κ 0]) 2 16 underlying35 hi A G D rfl dS (σ (μ ⟨w.heap.size,0,ν⟩) 0 0) 0 [] rfl M _ n cap (iG os) rfl (by rw[kR];omega) S ((Y.below T).cells S) (FZ _) (by unfold maxLen;omega) dP ?_));intro g1 zQ w1 H V U;have J:=kS T V (λj Z=>j7 (Nat.le_refl _) Z);have E:=mT (B:=w.heap.size) U dP (λj Z=>j7 (Nat.le_refl _) Z);clear V U
 go_wp2
 go_ret;refine⟨_,rfl,⟨?_,λj Z=>j7 E Z,J⟩⟩;rw[hl];exact H
theorem MG(a:Option dM)(n cap:Nat)(os:List jv)(w:dN)(U:n<=1000000)(T:kd a cap)(Z:iK w a n os):
 eM eN 246 #[σ a n cap] w λe w'=>∃(v:dO),e=ρ v/\Made w w' v os:=by
 rcases Z.2 with V|⟨b,off,rfl,hc⟩
 ·subst V;have Y:os=[] :=aE Z.1;subst Y;cases a with
  |none=>
   obtain rfl:=T rfl;exact MF w
  |some a=>exact AR a cap w
 ·by_cases S:0<n
  ·exact Jk b off n cap os w U S Z
  ·have V:n=0:=dP;subst V;have Y:os=[] :=aE Z.1;subst Y;exact AR _ cap w
theorem Dm {w1:dN} {t:TypeId} {x y:dO} (hb:Below (w.alloc (γ #[x,y] t)).heap.size (w.alloc (γ #[x,y] t)) w1):
 w1.cell? ⟨w.heap.size,0,ν⟩=μ x/\w1.cell? ⟨w.heap.size,1,ν⟩=μ y/\w.heap.size<w1.heap.size:=by
 have Z:w.heap.size<(w.alloc (γ #[x,y] t)).heap.size:=gN;have hA:=λj=>aj w #[x,y] t (0,0) j;exact⟨(hb.cell (p:=⟨w.heap.size,0,ν⟩) Z).trans (hA 0),(hb.cell (p:=⟨w.heap.size,1,ν⟩) Z).trans (hA 1),Nat.lt_of_lt_of_le Z hb.size⟩
theorem Dn(sz mg:Int)(a:Option dM)(n cap:Nat)(os:List jv)(w:dN)(D:0<=mg)(y:mg<=255)(T:n<=1000000)(jS:kd a cap)(S:iK w a n os):
 eM eN 228 #[.agg #[ι κ sz,ι κ mg],σ a n cap] w λe w'=>∃v,e=ρ (τ #[ι κ (lb mg os).1,v])/\Made w w' v (lb mg os).2:=by
 have J:dV w (w.alloc (γ #[ι κ sz,ι κ mg] 252)):=gM _ _;have hA:=λj=>aj w #[ι κ sz,ι κ mg] 252 (0,0) j;by_cases Q:rC os=[]
 ·have Y:=za a n cap os _ T (S.below J);rw[Q]at Y;by_cases hb:pJ mg os=[]
  ·have V:lb mg os=(2,os):=by simp[lb,Q,hb]
   rw[V];clear V
   go_in
   go_wp2_with(fail);refine Y.mono ?_;rintro e H ⟨v,rfl,Z⟩;obtain⟨u,A,rfl,_,_⟩:=Z.shape;obtain⟨c0,c1,hl⟩:=Dm Z.below;have M:=gD J Z.below;have U:=AQ sz mg a n cap os H D y T (S.below M);rw[hb]at U;simp only[eQ];clear Y Z;go_wp2_with(fail);refine U.mono ?_;rintro e w2 ⟨v,rfl,Z⟩;obtain⟨a2,G,rfl,_,_⟩:=Z.shape;have t:=gD M Z.below;simp only[eQ];clear U Z;go_wp2_with(fail);refine(MG a n cap os w2 T jS (S.below t)).mono ?_;rintro e w3 ⟨v,rfl,Z⟩
   go_wp2
   go_ret2
   exact⟨_,rfl,Z.from t⟩
  ·have V:lb mg os=(3,pJ mg os):=by simp[lb,Q,hb]
   rw[V];clear V
   go_in
   go_wp2_with(fail);refine Y.mono ?_;rintro e H ⟨v,rfl,Z⟩;obtain⟨u,A,rfl,_,_⟩:=Z.shape;obtain⟨c0,c1,hl⟩:=Dm Z.below;have M:=gD J Z.below;have U:=AQ sz mg a n cap os H D y T (S.below M);simp only[eQ];clear Y Z;go_wp2_with(fail);refine U.mono ?_;rintro e w2 ⟨v,rfl,Z⟩;obtain⟨a2,G,rfl,_,_⟩:=Z.shape;have E:=Z.from M;have rK:(0:Int)<((pJ mg os).length:Int):=by
    have:(pJ mg os).length≠0:=λh=>hb (aE h);omega
   clear U Z
   go_wp2
   go_ret2
   exact⟨_,rfl,E⟩
 ·have Y:=za a n cap os _ T (S.below J);have V:lb mg os=(4,rC os):=by simp[lb,Q]
  rw[V];clear V
  go_in
  go_wp2_with(fail);refine Y.mono ?_;rintro e H ⟨v,rfl,Z⟩;obtain⟨u,A,rfl,_,_⟩:=Z.shape;have E:=Z.from J;have rK:(0:Int)<((rC os).length:Int):=by
   have:(rC os).length≠0:=λh=>Q (aE h);omega
  clear Y Z
  go_wp2
  go_ret2
  exact⟨_,rfl,E⟩
structure I2(w:dN)(B:Nat)(s m:Int):Prop where
 c0:w.cell? ⟨B,0,ν⟩=μ (ι κ s)
 c1:w.cell? ⟨B,1,ν⟩=μ (ι κ m)
 f0:w.frozen? ⟨B,0,ν⟩=false
 f1:w.frozen? ⟨B,1,ν⟩=false
theorem I2.lt(h:I2 w B s m):B<w.heap.size:=af w _ h.c0
theorem I2.below(h:I2 w B s m)(hb:dV w w'):I2 w' B s m:=
 ⟨(hb.cell (p:=⟨B,0,ν⟩) h.lt).trans h.c0,(hb.cell (p:=⟨B,1,ν⟩) h.lt).trans h.c1,
   (aH (a:=⟨B,0,ν⟩) (hb.block B h.lt)).trans h.f0,(aH (a:=⟨B,1,ν⟩) (hb.block B h.lt)).trans h.f1⟩
structure PV where
 code:Int
 id:Int
 a:Option dM
 n:Nat
 cap:Nat
 os:List jv
def PV.val(p:PV):dO:=σ p.a p.n p.cap
def PV.cells(p:PV):List dO:=[ι κ p.code,ι κ p.id,p.val]
def MI(ps:List PV):List dO:=ps.flatMap PV.cells
theorem Ps(ps:List PV)(p:PV):MI (ps++ [p])=MI ps++ [ι κ p.code,ι κ p.id,p.val] :=by simp[MI,PV.cells]
structure tD(w:dN)(X:Nat->Prop)(v:dO)(p:PV):Prop where
 opt:iK w p.a p.n p.os
 nil:kd p.a p.cap
 le:p.n<=p.cap
 few:p.n<=1000
 far:∀k,sE p.a p.n=μ k->¬X k/\v.ownBlock≠μ k/\k<w.heap.size
structure LS where
 fs:Int
 fm:Int
 ns:Int
 nm:Int
 qs:Int
 qm:Int
 st:Int
 sz:Int
 lf:Int
 wt:Int
 ow:Int
def LS.c(s:LS)(v:dO):Array dO:=Pp s.fs s.fm s.ns s.nm s.qs s.qm s.st s.sz s.lf s.wt s.ow v
structure pK(w:dN)(B:Nat)(X:Nat->Prop)(s:LS)(v:dO)(ps:List PV):Prop where
 lk:Lk w B (s.c v)
 row:Row w 3 v ps.length (MI ps)
 own:∀g,v.ownBlock=μ g->¬X g
 self:X B
 old:∀k,X k->k<w.heap.size
 pk:∀p∈ps,tD w X v p
structure Kept(w w':dN)(B:Nat)(o:Option Nat):Prop where
 os:w'.os=w.os
 tape:w'.tape=w.tape
 output:w'.output=w.output
 size:w.heap.size<=w'.heap.size
 block:∀i,i<w.heap.size->i≠B->o≠μ i->w'.heap[i]? =w.heap[i]?
theorem Kept.refl(w:dN)(B:Nat)(o:Option Nat):Kept w w B o:=⟨rfl,rfl,rfl,Nat.le_refl _,λ_ _ _ _=>rfl⟩
theorem Kept.iD(B:Nat)(o:Option Nat)(h:dV w w'):Kept w w' B o:=⟨h.os,h.tape,h.output,h.size,λi hi _ _=>h.block i hi⟩
theorem Kept.trans {a b c:dN} {B:Nat} {o o':Option Nat} (h:Kept a b B o)(k:Kept b c B o')(Z:∀i,o'=μ i->o=μ i \/a.heap.size<=i):Kept a c B o:=
 ⟨k.os.trans h.os,k.tape.trans h.tape,k.output.trans h.output,Nat.le_trans h.size k.size,λi hi U V=>by
  rw[k.block i (Nat.lt_of_lt_of_le hi h.size) U (λe=>by
   rcases Z i e with Y|Y
   ·exact V Y
   ·omega)]
  exact h.block i hi U V⟩
theorem tD.kept {v':dO} {p:PV} (h:tD w X v p)(S:X B)(k:Kept w w' B v.ownBlock)(hv:∀g,v'.ownBlock=μ g->v.ownBlock=μ g \/w.heap.size<=g):tD w' X v' p:=
 ⟨h.opt.K7 (λj U=>by obtain⟨Z,Y,V⟩:=h.far j U;exact k.block j V (λe=>Z (by rw[e];exact S)) Y),h.nil,h.le,h.few,λj U=>by
  obtain⟨Z,Y,V⟩:=h.far j U;refine⟨Z,λe=> ?_,Nat.lt_of_lt_of_le V k.size⟩;rcases hv j e with T|T
  ·exact Y T
  ·omega⟩
theorem pK.below {w w':dN} {B:Nat} {X:Nat->Prop} {s:LS} {v:dO} {ps:List PV} (h:pK w B X s v ps)(hb:dV w w'):pK w' B X s v ps:=
 ⟨h.lk.below hb,h.row.below hb,h.own,h.self,λk Z=>Nat.lt_of_lt_of_le (h.old k Z) hb.size,λp Y=>(h.pk p Y).kept h.self (Kept.iD B _ hb) (λ_ e=>.inl e)⟩
theorem pK.ne {s:LS} {ps:List PV} (h:pK w B X s v ps):v.ownBlock≠μ B:=λe=>h.own B e h.self
theorem Tq(h:Lk w B C)(Z:(w.alloc o).drew.grownBy x v.ownBlock)(hv:v.ownBlock≠μ B):Lk x B C:=by
 refine h.keep ?_;rw[Z.block B (by show B<(w.alloc o).heap.size;have:=h.lt;simp;omega) (λe=>hv e.symm)];exact aQ w o B h.lt
theorem MJ(Z:(w.alloc o).drew.grownBy x v.ownBlock):Kept w x B v.ownBlock:=
 ⟨Z.os,Z.tape,Z.output,Nat.le_trans (by show w.heap.size<=(w.alloc o).heap.size;simp) Z.size,λi hi _ Y=>by
  rw[Z.block i (by show i<(w.alloc o).heap.size;simp;omega) (λe=>Y e.symm)];exact aQ w o i hi⟩
theorem j8 {o:Option Nat} (h:Kept w x B o)(j:Nat)(v:dO):Kept w (x.setCell ⟨B,j,ν⟩ v) B o:=by
 have b1:Below 0 x (x.setCell ⟨B,j,ν⟩ v):=(aq 0 x).setCell (Nat.zero_le _) _;exact⟨b1.os.trans h.os,b1.tape.trans h.tape,b1.output.trans h.output,Nat.le_trans h.size b1.size,λi hi Z Y=>(ak _ _ _ i Z).trans (h.block i hi Z Y)⟩
theorem EE(B:Nat)(X:Nat->Prop)(s:LS)(v:dO)(ps:List PV)(p:PV)(w:dN)(h:pK w B X s v ps)(hp:tD w X v p)(hn:ps.length<=100):
 eM eN 225 #[π (μ ⟨B,0,ν⟩),.agg #[ι κ p.code,ι κ p.id,σ p.a p.n p.cap]] w λe w'=>e=ρ (τ #[])/\∃v',pK w' B X s v' (ps++ [p])/\Kept w w' B v.ownBlock/\(∀g,v'.ownBlock=μ g->v.ownBlock=μ g \/w.heap.size<=g):=by
 obtain⟨i0,hi,nH,l8,mZ⟩:=aT Po;have E:=gM w (γ #[ι κ p.code,ι κ p.id,σ p.a p.n p.cap] 37);have J:=h.below E;have hA:=λj=>aj w #[ι κ p.code,ι κ p.id,σ p.a p.n p.cap] 37 (0,0) j;obtain⟨C,hC⟩:=fP (s.c);have sy:∀x,(C x)[11]? =μ x:=by rw[<-hC];intro x;rfl
 have hcs:∀x y,(C x).setIfInBounds 11 y=C y:=by rw[<-hC];intro x y;rfl
 have Q:=J.lk;rw[hC]at Q;have t:=J.row;obtain⟨nn,zR⟩:=fP (ps.length);rw[zR]at t hn
 go_in
 go_wp2_with(fail);obtain⟨Z,T⟩:=fP (w.heap.size);obtain⟨Y,S⟩:=fP (w.alloc (γ #[ι κ p.code,ι κ p.id,σ p.a p.n p.cap] 37));have d0:Y.cell? ⟨Z,0,ν⟩=μ (ι κ p.code):=by rw[<-S,<-T];exact hA 0
 have d1:Y.cell? ⟨Z,1,ν⟩=μ (ι κ p.id):=by rw[<-S,<-T];exact hA 1
 have d2:Y.cell? ⟨Z,2,ν⟩=μ (σ p.a p.n p.cap):=by rw[<-S,<-T];exact hA 2
 rw[S]at J E Q t;rw[S,T];have Tr:B<Y.heap.size:=Q.lt;have FL:Z<Y.heap.size:=af Y _ d0;have Zg:Y.cell? ⟨B,11,ν⟩=μ v:=(Q.cell 11).trans (sy v);have HB:Hid _:=E;have U:Hid _:=h;have HP:Hid _:=hp;have HO:Hid (v.ownBlock≠μ B):=h.ne;have HZ:Hid _:=T;have HC:Hid _:=hC;have HN:Hid _:=zR;have HL:Hid _:=hcs;have HK:Hid _:=sy;clear hA S T h E hp J hC zR hcs sy
 go_region_law ((refine kQ (by rfl) (.tmp 8) (.tmp 10) 175 (by rfl) 37 i0 (.agg #[ι κ 0,ι κ 0,σ ν 0 0]) 3 40 underlying175 hi nH l8 mZ (by rfl) dS v nn (MI ps) (by rfl) ((t.alloc _).drew) _ 1 1 [ι κ p.code,ι κ p.id,σ p.a p.n p.cap] (by rfl) (by rfl) dS (wY _ _ _ _ _ _ rfl) (Pq _ _ _ _ _) (by unfold maxLen;omega) dP ?_;intro V G x1 kD jZ jj;have D:=Tq Q jZ HO.out;have f11:=D.frozen 11;have g11:x1.cell? ⟨B,11,ν⟩=μ v:=(D.cell 11).trans (HK.out v)))
 all_goals
  go_wp2
  first|go_end0|refine iq rfl rfl ?_
  have hgs:V≠B:=by
   rcases jj with hh|hh
   ·exact λe=>HO.out (by rw[hh,e])
   ·have:=Q.lt;have h2:Y.heap.size<=V:=Nat.le_trans (by show Y.heap.size<=(Y.alloc _).heap.size;simp) hh;omega
  have H:=j8 ((Kept.iD B v.ownBlock HB.out).trans (MJ (B:=B) jZ) (λi e=>.inl e)) 11 (σ (μ ⟨V,0,ν⟩) (nn+1) G);have hv:∀g,dQ (σ (μ ⟨V,0,ν⟩) (nn+1) G)=μ g->v.ownBlock=μ g \/w.heap.size<=g:=by
   intro g A;have Pt:V=g:=by simpa[dQ]using A
   subst Pt;rcases jj with hh|hh
   ·exact .inl hh
   ·right;have h2:Y.heap.size<=V:=Nat.le_trans (by show Y.heap.size<=(Y.alloc _).heap.size;simp) hh;have:=HB.out.size;omega
  refine⟨rfl,σ (μ ⟨V,0,ν⟩) (nn+1) G,⟨?_,?_,?_,U.out.self,λk u=>Nat.lt_of_lt_of_le (U.out.old k u) H.size,?_⟩,H,hv⟩
  ·have:=D.set 11 (σ (μ ⟨V,0,ν⟩) (nn+1) G);rw[HL.out]at this;rw[HC.out];exact this
  ·rw[Ps,ay,HN.out];refine kD.keep gN (λk u=> ?_);have wX:V=k:=by simpa[dQ]using u
   exact ak _ _ _ k (by show k≠B;omega)
  ·intro g A hx;rcases hv g A with e|e
   ·exact U.out.own g e hx
   ·have:=U.out.old g hx;omega
  ·intro q M;rcases aF.1 M with M|M
   ·exact(U.out.pk q M).kept U.out.self H hv
   ·have:q=p:=by simpa using M
    subst this;exact HP.out.kept U.out.self H hv
