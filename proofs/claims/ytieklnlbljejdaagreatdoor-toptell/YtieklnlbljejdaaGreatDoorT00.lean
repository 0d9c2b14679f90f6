import Derived.Test.YtieklnlbljejdaaGreatDoorTA
open Go.Value renaming int → ι, slice → σ, tuple → τ, nilIface → η
open Go.IntKind renaming i64 → κ
open Go.Ending renaming returned → ρ
open Go.Obj renaming cells → γ
open Option renaming none → ν, some → μ
open Go renaming Addr → dM, World → dN, Value → dO, TypeId → dR, DataW → eF, Calls → eM
open Go.Value renaming ownBlock → dQ, int → dT, oneCell' → dU, string → dW
open Go.RowKit renaming Below → dX
open Go.Oper renaming wp → dY
open Go.Result renaming andThen_ok → dZ
open List renaming map_toArray → eh, map_cons → eu, map_nil → ew, flatMap_cons → eB, length_append → eD, length_cons → eE, getElem?_map → eI
open Go.Region renaming wanted → eA
open Go.DataW renaming trod → eG
open Go.Lib renaming mapM_length → eH
open Go.Proofs.Tryz renaming prog → eN
open BitVec renaming ofInt → eO
set_option maxRecDepth 100000
set_option maxHeartbeats 1000000
namespace Go.Proofs.YtieklnlbljejdaaGreatDoor
open Go.RowKit
variable {B b base cap cp fuel g g2 j k m n off sz:Nat} {C:Array Value} {H:Type} {P:Program} {Q:Exit->Act->World->Prop} {a w w' w2 wr x:World} {ao:Option Addr} {cs xs:List Value} {e r t:TypeId} {held:Bool} {o:Obj} {ops:Array Oper} {p:List MemPlace} {row:Option Nat} {sp:Nat->Bool} {v:Value} {zs:List (List (List UInt8))}
theorem add_plain(g j:Nat):(⟨g,0,ν⟩:dM).add j=⟨g,j,ν⟩:=by unfold Addr.add;split<;>simp_all
theorem lW(g o j:Nat):(⟨g,o,ν⟩:dM).add j=⟨g,o+j,ν⟩:=by unfold Addr.add;split<;>simp_all
def Row(w:dN)(sz:Nat)(v:dO)(n:Nat)(xs:List dO):Prop:=
 xs.length=n*sz/\
 ((v=σ ν 0 0/\n=0) \/
  ∃g cap,v=σ (μ ⟨g,0,ν⟩) n cap/\g<w.heap.size/\n<=cap/\cap<=maxLen/\(∀j u,xs[j]? =μ u->w.cell? ⟨g,j,ν⟩=μ u)/\
   ∀j,j<cap*sz->(w.cell? ⟨g,j,ν⟩).isSome=true/\w.frozen? ⟨g,j,ν⟩=false)
theorem Row.nil(w:dN)(sz:Nat):Row w sz (σ ν 0 0) 0 [] :=⟨gN,.inl ⟨rfl,rfl⟩⟩
theorem Row.lt(h:Row w sz v n xs):∀k,v.ownBlock=μ k->k<w.heap.size:=by
 intro k Z;rcases h.2 with⟨rfl,_⟩|⟨g,cap,rfl,Y,_⟩
 ·simp[dQ]at Z
 ·simp[dQ]at Z;subst Z;exact Y
theorem Row.keep(h:Row w sz v n xs)(hs:w.heap.size<=w'.heap.size)(hb:∀k,v.ownBlock=μ k->w'.heap[k]? =w.heap[k]?):Row w' sz v n xs:=by
 refine⟨h.1,?_⟩;rcases h.2 with M|⟨g,cap,rfl,hg,X,V,U,T⟩
 ·exact .inl M
 ·have e:=hb g rfl;have Z:∀j,w'.cell? ⟨g,j,ν⟩=w.cell? ⟨g,j,ν⟩:=λj=>ai (a:=⟨g,j,ν⟩) e;have Y:∀j,w'.frozen? ⟨g,j,ν⟩=w.frozen? ⟨g,j,ν⟩:=λj=>aH (a:=⟨g,j,ν⟩) e;exact .inr ⟨g,cap,rfl,dP,X,V,λj u J=>by rw[Z];exact U j u J,λj S=>by rw[Z,Y];exact T j S⟩
theorem Row.kept(h:Row w sz v n xs)(Z:w.grownBy w' row)(X:∀k,v.ownBlock=μ k->row≠μ k):Row w' sz v n xs:=
 h.keep Z.size λk Y=>Z.block k (h.lt k Y) (λe=>X k Y e.symm)
theorem Row.alloc {w:dN} {sz:Nat} {v:dO} {n:Nat} {xs:List dO} (h:Row w sz v n xs)(o:Obj):Row (w.alloc o) sz v n xs:=
 h.keep gN λk Z=>aQ w o k (h.lt k Z)
theorem Row.drew {w:dN} {sz:Nat} {v:dO} {n:Nat} {xs:List dO} (h:Row w sz v n xs):Row w.drew sz v n xs:=
 h.keep (Nat.le_refl _) λ_ _=>rfl
theorem Row.below(h:Row w sz v n xs)(hb:dV w w'):Row w' sz v n xs:=
 h.keep hb.size λk Z=>hb.block k (h.lt k Z)
theorem Row.K5(h:w.ownsRow base e sz v n xs):Row w sz v n xs:=by
 refine⟨h.1,?_⟩;rcases h.2 with U|⟨g,cap,Z,rfl,hb,Y,X,V,h3,h4⟩
 ·exact .inl U
 ·refine .inr ⟨g,cap,rfl,(au.1 Y).1,X,V,λj u T=> ?_,λj hj=>⟨?_,?_⟩⟩
  ·have:=h.cells (g:=g) rfl j u T
   rwa [add_plain]at this
  ·rw[ar w g j Z e (0,0) Y];simp;omega
  ·exact bh w g j Z e Y
theorem Row.made(w:dN)(sz:Nat)(e:dR)(C:Array dO)(fr:Nat×Nat)(n cap:Nat)(xs:List dO)(hx:xs.length=n*sz)(hc:C.size=cap*sz)(V:n<=cap)(X:cap<=maxLen)(Y:fr=(0,0) \/C.size<=fr.1)
 (U:∀(j:Nat) (u:dO),xs[j]? =μ u->C[j]? =μ u):Row (w.alloc (γ C e fr)) sz (σ (μ ⟨w.heap.size,0,ν⟩) n cap) n xs:=by
 refine⟨hx,.inr ⟨w.heap.size,cap,rfl,gN,V,X,λj u T=> ?_,λj hj=>⟨?_,?_⟩⟩⟩
 ·rw[aj];exact U j u T
 ·rw[aj];simp;omega
 ·obtain⟨lo,hi⟩:=fr;rw[cJ];rcases Y with Z|Z
  ·simp only[Prod.mk.injEq]at Z;obtain⟨rfl,rfl⟩:=Z;simp
  ·simp only at Z;have:¬lo<=j:=dP;simp[this]
theorem Row.cell {w:dN} {sz:Nat} {g n n' cap:Nat} {xs:List dO} (h:Row w sz (σ (μ ⟨g,0,ν⟩) n' cap) n xs)(j:Nat)(u:dO)(Z:xs[j]? =μ u):w.cell? ⟨g,j,ν⟩=μ u:=by
 rcases h.2 with⟨e,_⟩|⟨g',jd,e,_,_,_,hc,_⟩
 ·simp at e
 ·simp at e;obtain⟨rfl,rfl,rfl⟩:=e;exact hc j u Z
theorem pg(w:dN)(x:dO)(t:dR):∀(j:Nat) (u:dO),[x][j]? =μ u->(w.alloc (γ #[x] t)).cell? ((⟨w.heap.size,0,ν⟩:dM).add j)=μ u:=by
 intro j u Z;rw[add_plain,aj];simpa using Z
theorem oq(w:dN)(x y:dO)(t:dR):∀(j:Nat) (u:dO),[x,y][j]? =μ u->(w.alloc (γ #[x,y] t)).cell? ((⟨w.heap.size,0,ν⟩:dM).add j)=μ u:=by
 intro j u Z;rw[add_plain,aj];simpa using Z
theorem uP(k:IntKind)(x:Int):∀u∈ [dT k x],u.oneCell'=true:=by simp[dU]
theorem kX(k l:IntKind)(x y:Int):∀u∈ [dT k x,dT l y],u.oneCell'=true:=by simp[dU]
theorem Jf(s:ByteArray):∀u∈ [dW s],u.oneCell'=true:=by simp[dU]
theorem tJ {g1 n':Nat} (U:(wr.alloc o).grownBy w2 (μ g))(V:μ g=μ g2 \/wr.heap.size+1<=g2)
 (Y:Row wr sz (σ (μ ⟨g1,0,ν⟩) n' cap) n xs) (FV:w.heap.size<=g) (jq:g≠g1) (X:dV w wr):
 Row w2 sz (σ (μ ⟨g1,0,ν⟩) n' cap) n xs/\w.heap.size<=g2/\g2≠g1/\dV w w2:=by
 have h1:g1<wr.heap.size:=Y.lt g1 rfl;have T:=X.size;have hs:(wr.alloc o).heap.size=wr.heap.size+1:=gN;refine⟨(Y.alloc o).kept U (λk Z=> ?_),?_,?_,?_⟩
 ·have:g1=k:=by simpa[dQ]using Z
  intro e;simp at e;omega
 ·rcases V with h|h
  ·simp at h;omega
  ·omega
 ·rcases V with h|h
  ·simp at h;omega
  ·omega
 ·refine(X.alloc T o).grown U dP (λk Z=> ?_);simp at Z;omega
theorem Dh(U:(wr.alloc o).grownBy w2 (μ g))(V:μ g=μ g2 \/wr.heap.size+1<=g2)
 (FV:w.heap.size<=g) (Z:dV w wr):w.heap.size<=g2/\dV w w2:=by
 have X:=Z.size;have hs:(wr.alloc o).heap.size=wr.heap.size+1:=gN;refine⟨?_,?_⟩
 ·rcases V with h|h
  ·simp at h;omega
  ·omega
 ·refine(Z.alloc X o).grown U dP (λk Y=> ?_);simp at Y;omega
section
variable {P:Program}
theorem qB(w:dN)(t ty e:dR)(i:TypeInfo)(z:dO)(size bytes:Nat)(ht:P.underlying t=μ (.slice e))(hi:P.info? e=μ i)(hz:i.zero=μ z)
 (pX:i.size=size) (x6:i.bytes=bytes) (Jg:z.cells.size=size) (pY:0<size)
 (v:dO) (n:Nat) (xs:List dO) (V:Row w size v n xs)
 (a:dM) (m c:Nat) (Z:List dO) (hl:Z.length=m*size) (hm:0<m) (A:∀j u,Z[j]? =μ u->w.cell? (a.add j)=μ u) (h1:∀u∈Z,u.oneCell'=true)
 (T:n+m<=maxLen) (tK:(n+m)*bytes<=140737488355328):
 ∃v' w',(Builtin.append_ #[t,t] ty #[v,σ (μ a) m c]).run P w=.ok v' w'/\Row w' size v' (n+m) (xs++Z)/\w.grownBy w' v.ownBlock/\
  (v'.ownBlock=v.ownBlock \/ ∃k,v'.ownBlock=μ k/\w.heap.size<=k):=by
 rcases V.2 with⟨rfl,rfl⟩|⟨g,cap,rfl,hg,rJ,Jh,hcell,y⟩
 ·have hx:xs=[] :=aE (by simpa using V.1);subst hx;obtain⟨v',w',M,S,hg,jS⟩:=run_append_own (P:=P) w w.heap.size t ty e i z size bytes ht hi hz pX x6 Jg pY (σ ν 0 0) 0 [] (World.ownsRow_nil _ _ _ _) a m c Z hl A h1 T tK (Nat.le_refl _);refine⟨v',w',M,Row.K5 S,hg,?_⟩;rcases S.2 with⟨U,e2⟩|⟨g,cap,cur,rfl,hb,_⟩
  ·omega
  ·exact .inr ⟨g,rfl,hb⟩
 ·by_cases M:n+m<=cap
  ·subst pX;have Tl:n*i.size+Z.length<=cap*i.size:=by rw[hl,<-Nat.add_mul];exact Nat.mul_le_mul_right _ M
   have D:∀j,j<Z.length->(w.cell? ⟨g,0+n*i.size+j,ν⟩).isSome=true/\w.frozen? ⟨g,0+n*i.size+j,ν⟩=false:=λj Y=>y _ dP;have h:=run_append_room_cells (P:=P) w t ty e i ht hi g 0 n cap a m c Z hl A h1 M (λj Y=>(D j Y).1) (λj Y=>(D j Y).2);have nj:∀(vs:List dO) (o:Nat) (w:dN),(w.setCells g o vs).heap.size=w.heap.size/\(w.setCells g o vs).os=w.os/\(w.setCells g o vs).tape=w.tape/\(w.setCells g o vs).output=w.output/\∀k,k≠g->(w.setCells g o vs).heap[k]? =w.heap[k]? :=by
    intro vs
    induction vs with
    |nil=>intro o w;exact⟨rfl,rfl,rfl,rfl,λ_ _=>rfl⟩
    |cons u r ih=>
     intro o w;have:=ih (o+1) (w.setCell ⟨g,o,ν⟩ u);have b1:dX 0 w (w.setCell ⟨g,o,ν⟩ u):=(aq 0 w).setCell (Nat.zero_le _) _;refine⟨this.1.trans gN,this.2.1.trans b1.os,this.2.2.1.trans b1.tape,this.2.2.2.1.trans b1.output,λk X=>(this.2.2.2.2 k X).trans (ak _ _ _ k X)⟩
   have B:=nj Z (0+n*i.size) w;refine⟨_,_,h,⟨by rw[ay,V.1,hl,Nat.add_mul],.inr ⟨g,cap,rfl,by rw[B.1];exact hg,M,Jh,λj u J=> ?_,λj Y=> ?_⟩⟩,⟨B.2.1,B.2.2.1,B.2.2.2.1,by rw[B.1];exact Nat.le_refl _,λk _ X=>B.2.2.2.2 k (λe=>X (by simp[dQ,e]))⟩,.inl rfl⟩
   ·rcases Nat.lt_or_ge j xs.length with Y|Y
    ·rw[bG Y]at J;rw[bg g _ _ _ _ (λ_ _=>.inl (by show j<0+n*i.size;have:=V.1;omega))];exact hcell j u J
    ·rw[bk Y]at J;have K6:j-xs.length<Z.length:=(aG.1 J).1;have:=bw g Z (0+n*i.size) w (λk X=>(D k X).1) (j-xs.length) K6;have U:0+n*i.size+(j-xs.length)=j:=by have:=V.1;omega
     rw[U]at this;rw[this,<-J,av K6]
   ·rw[bL];refine⟨?_,(y j Y).2⟩;by_cases hq:n*i.size<=j/\j<n*i.size+Z.length
    ·have:=bw g Z (0+n*i.size) w (λk X=>(D k X).1) (j-n*i.size) dP;have U:0+n*i.size+(j-n*i.size)=j:=dP;rw[U]at this;rw[this];rfl
    ·rw[bg g _ _ _ _ (λ_ _=>by show j<0+n*i.size \/0+n*i.size+Z.length<=j;omega)];exact(y j Y).1
  ·obtain⟨v',w',h,S,E⟩:=run_append_arg_grows (P:=P) w t ty e i z size bytes ht hi hz pX x6 Jg pY ⟨g,0,ν⟩ n cap xs V.1 (λj u Y=>by rw[add_plain];exact hcell j u Y) a m c Z hl A dP T tK;refine⟨v',w',h,Row.K5 S,⟨E.os,E.tape,E.output,E.size,λk X _=>E.block k X gN⟩,?_⟩;rcases S.2 with⟨U,e2⟩|⟨g',jd,cur,rfl,hb,_⟩
   ·omega
   ·exact .inr ⟨g',rfl,hb⟩
theorem iu(w:dN) {rest:List Oper} {o:Oper} {a:Act} (J:o.guard=ν)(s x:Operand)(t:dR)
 (ho:o.op=.call {callee:=.builtin .append,args:= #[s,x],argTypes:= #[t,t] })
 (e:dR) (i:TypeInfo) (z:dO) (size bytes:Nat) (ht:P.underlying t=μ (.slice e)) (hi:P.info? e=μ i) (hz:i.zero=μ z)
 (pX:i.size=size) (x6:i.bytes=bytes) (E:z.cells.size=size) (pY:0<size)
 (v:dO) (n:Nat) (xs:List dO) (hs:a.eval s=v) (iY:Row w size v n xs)
 (U:dM) (m c:Nat) (Z:List dO) (hx:a.eval x=σ (μ U) m c) (hl:Z.length=m*size) (hm:0<m) (M:∀j u,Z[j]? =μ u->w.cell? (U.add j)=μ u) (D:∀u∈Z,u.oneCell'=true)
 (T:n+m<=maxLen) (tK:(n+m)*bytes<=140737488355328)
 (h:∀Y V w',Row w' size (σ (μ ⟨Y,0,ν⟩) (n+m) V) (n+m) (xs++Z)->w.grownBy w' v.ownBlock->(v.ownBlock=μ Y \/w.heap.size<=Y)->wpList P ops Q rest (a.put o.dst (σ (μ ⟨Y,0,ν⟩) (n+m) V)) w'):wpList P ops Q (o::rest) a w:=by
 refine wpList_plain J λK y=> ?_;obtain⟨v',w',hr,S,A,X⟩:=qB (P:=P) w t o.type e i z size bytes ht hi hz pX x6 E pY v n xs iY U m c Z hl hm M D T tK;unfold dY execOp;simp only[ho,resolve,invoke,builtin,Sem.run_bind,Sem.run_pure,dZ,eh,eu,ew,hs,hx,hr];rcases S.2 with⟨_,hn⟩|⟨Y,V,rfl,_⟩
 ·omega
 ·refine y _ _ (h Y V w' S A ?_);rcases X with X|⟨k,X,hk⟩
  ·exact .inl X.symm
  ·simp[dQ]at X;subst X;exact .inr hk
def iz(l:List UInt8):List dO:=l.map λb=>dT .u8 (b.toNat:Int)
theorem pE(l:List UInt8):(iz l).length=l.length:=by simp[iz]
theorem kJ(a b:List UInt8):iz (a++b)=iz a++iz b:=by simp[iz]
theorem vM(l:List UInt8)(j:Nat)(h:j<l.length):(iz l)[j]? =μ (.int .u8 (l[j].toNat:Int)):=by simp[iz,h]
theorem CO(w:dN)(src dst e:dR)(s:ByteArray)(hs:P.underlying src=μ .string)(hd:P.underlying dst=μ (.slice e))(X:P.underlying e=μ (.int .u8))(V:s.size<=maxLen):
 ∃cap C fr,(convert src dst (.string s)).run P w=.ok (σ (μ ⟨w.heap.size,0,ν⟩) s.size cap) (w.drew.alloc (γ C e fr))/\Row (w.alloc (γ C e fr)) 1 (σ (μ ⟨w.heap.size,0,ν⟩) s.size cap) s.size (iz s.data.toList):=by
 refine⟨_,_,_,run_bytes_of_string w src dst e s hs hd X,?_⟩;have U:=grownCap_ge w s.size 0 e;refine Row.made w 1 e _ _ _ _ _ (by simp[iz]) ?_ U (da w _ _ _ V) (.inr (Nat.le_refl _)) ?_
 ·simp[bytesRow];omega
 ·intro j u Z;have Y:j<s.data.size:=by
   have:=(aG.1 Z).1;simpa[iz]using this
  rw[bytesRow_at s _ j Y];rw[vM _ j (by simpa using Y)]at Z;simpa using Z
theorem Row.back {l:List UInt8} (h:Row w 1 v n (iz l))(src dst e:dR)(hs:P.underlying src=μ (.slice e))(Z:P.underlying e=μ (.int .u8))(hd:P.underlying dst=μ .string):
 (convert src dst v).run P w=.ok (.string ⟨l.toArray⟩) w:=by
 have Y:l.length=n:=by have:=h.1;simpa[iz]using this
 rcases h.2 with⟨rfl,rfl⟩|⟨g,cap,rfl,hg,rJ,Jh,hcell,Ji⟩
 ·have:l=[] :=aE Y;subst this;rw[run_convert_bytes_string w src dst e _ _ _ hs Z hd];simp[Conv.bytesToString];rfl
 ·subst Y;exact dB w src dst e ⟨g,0,ν⟩ cap l hs Z hd λj X=>by rw[add_plain];exact hcell j _ (vM l j X)
end
theorem gD {b:dN} (h:dV w a)(k:dV a b):dV w b:=h.trans (k.mono h.size)
theorem below_drewN(h:dX B w a)(n:Nat):dX B w (a.drewN n):=⟨h.os,h.tape,h.output,h.size,h.block⟩
theorem gM(w:dN)(o:Obj):dV w (w.alloc o):=(aq _ _).alloc (Nat.le_refl _) _
def iP(k:Nat):dO:=if k=0 then η else .iface 128 (ι κ (k:Int))
abbrev jv:=Int×Int
def iK(w:dN)(a:Option dM)(n:Nat)(os:List jv):Prop:=
 os.length=n/\(n=0 \/ ∃b off,a=μ ⟨b,off,ν⟩/\∀j (h:j<os.length),w.cell? ⟨b,off+j*2,ν⟩=μ (ι κ os[j].1)/\w.cell? ⟨b,off+j*2+1,ν⟩=μ (ι κ os[j].2))
theorem iK.below {a:Option dM} {os:List jv} (h:iK w a n os)(hb:dV w w'):iK w' a n os:=by
 refine⟨h.1,?_⟩;rcases h.2 with Z|⟨b,off,rfl,Z⟩
 ·exact .inl Z
 ·refine .inr ⟨b,off,rfl,λj Y=> ?_⟩;obtain⟨c1,c2⟩:=Z j Y;exact⟨(hb.cell (af w _ c1)).trans c1,(hb.cell (af w _ c2)).trans c2⟩
theorem iK.drewN {w:dN} {a:Option dM} {n:Nat} {os:List jv} (h:iK w a n os)(m:Nat):iK (w.drewN m) a n os:=h
theorem iK.nil(w:dN)(a:Option dM):iK w a 0 [] :=⟨rfl,.inl rfl⟩
theorem iK.take {w:dN} {a:Option dM} {n:Nat} {os:List jv} (h:iK w a n os)(k:Nat)(hk:k<=n):iK w a k (os.take k):=by
 refine⟨by simp[h.1];omega,?_⟩;rcases h.2 with Z|⟨b,off,rfl,Z⟩
 ·exact .inl dP
 ·refine .inr ⟨b,off,rfl,λj X=> ?_⟩;have Y:j<os.length:=by simp at X;omega
  have:=Z j Y;simpa using this
theorem kQ {o:Oper} {a:Act} {K:Act->dN->Prop} {E:Prop}
 (J:o.guard=ν) (s x:Operand) (t:dR) (ho:o.op=.call {callee:=.builtin .append,args:= #[s,x],argTypes:= #[t,t] })
 (e:dR) (i:TypeInfo) (z:dO) (size bytes:Nat) (ht:P.underlying t=μ (.slice e)) (hi:P.info? e=μ i) (hz:i.zero=μ z)
 (pX:i.size=size) (x6:i.bytes=bytes) (D:z.cells.size=size) (pY:0<size)
 (v:dO) (n:Nat) (xs:List dO) (hs:a.eval s=v) (iY:Row w size v n xs)
 (U:dM) (m c:Nat) (Z:List dO) (hx:a.eval x=σ (μ U) m c) (hl:Z.length=m*size) (hm:0<m) (M:∀j u,Z[j]? =μ u->w.cell? (U.add j)=μ u) (A:∀u∈Z,u.oneCell'=true)
 (T:n+m<=maxLen) (tK:(n+m)*bytes<=140737488355328)
 (h:∀Y V w',Row w' size (σ (μ ⟨Y,0,ν⟩) (n+m) V) (n+m) (xs++Z)->w.grownBy w' v.ownBlock->(v.ownBlock=μ Y \/w.heap.size<=Y)->K (a.put o.dst (σ (μ ⟨Y,0,ν⟩) (n+m) V)) w'):
 if eA o (yielded ops a.tmps)=true then dY P o a w K Q else E:=by
 have hw:eA o (yielded ops a.tmps)=true:=by simp[eA,J]
 rw[ag hw];obtain⟨v',w',hr,S,y,X⟩:=qB (P:=P) w t o.type e i z size bytes ht hi hz pX x6 D pY v n xs iY U m c Z hl hm M A T tK;unfold dY execOp;simp only[ho,resolve,invoke,builtin,Sem.run_bind,Sem.run_pure,dZ,eh,eu,ew,hs,hx,hr];rcases S.2 with⟨_,hn⟩|⟨Y,V,rfl,_⟩
 ·omega
 ·refine h Y V w' S y ?_;rcases X with X|⟨k,X,hk⟩
  ·exact .inl X.symm
  ·simp[dQ]at X;subst X;exact .inr hk
def iG(os:List jv):List dO:=os.flatMap λo=>[ι κ o.1,ι κ o.2]
theorem lZ(os:List jv)(o:jv):iG (os++ [o])=iG os++ [ι κ o.1,ι κ o.2] :=by simp[iG]
theorem kR(os:List jv):(iG os).length=2*os.length:=by
 induction os with
 |nil=>rfl
 |cons o r ih=>simp only[iG,eB,eD,eE,List.length_nil]at ih⊢;omega
theorem sD:∀(os:List jv) (j:Nat) (h:j<os.length),(iG os)[j*2]? =μ (ι κ os[j].1)/\(iG os)[j*2+1]? =μ (ι κ os[j].2)
 |o::r,0,_=>by simp[iG]
 |o::r,j+1,h=>by
  have ih:=sD r j (by simpa using h);have Z:iG (o::r)=ι κ o.1::ι κ o.2::iG r:=by simp[iG]
  rw[Z,show(j+1)*2=j*2+1+1 by omega];exact ih
theorem Row.opts {os:List jv} (h:Row w 2 (σ ao k cp) k (iG os)):iK w ao k os:=by
 have hl:os.length=k:=by have:=h.1;rw[kR]at this;omega
 refine⟨hl,?_⟩;rcases h.2 with⟨_,T⟩|⟨g,cap,Z,_,_,_,hc,_⟩
 ·exact .inl T
 ·have Y:ao=μ ⟨g,0,ν⟩:=by simp at Z;exact Z.1
  refine .inr ⟨g,0,Y,λj U=> ?_⟩;obtain⟨X,V⟩:=sD os j U;rw[Nat.zero_add];exact⟨hc _ _ X,hc _ _ V⟩
theorem Row.Pc(h:Row w sz (σ ao k cp) k xs):k<=cp:=by
 rcases h.2 with⟨Z,hn⟩|⟨g,cap,Z,_,rJ,_⟩
 ·omega
 ·simp at Z;omega
theorem kS(Z:dV w x)(Y:x.grownBy w' v.ownBlock)(X:∀j,v.ownBlock=μ j->w.heap.size<=j):dV w w':=
 Z.grown Y Z.size X
theorem mT(Y:v.ownBlock=μ g \/n<=g)(hs:B<=n)(Z:∀j,v.ownBlock=μ j->B<=j):B<=g:=by
 rcases Y with h|h
 ·exact Z g h
 ·exact Nat.le_trans hs h
theorem qC {u:dO} (Z:x.grownBy w' row)(Y:row≠μ b)(hc:x.cell? ⟨b,off,ν⟩=μ u):w'.cell? ⟨b,off,ν⟩=μ u:=
 (ai (a:=⟨b,off,ν⟩) (Z.block b (af x _ hc) (λe=>Y e.symm))).trans hc
theorem j7(h:B<=g)(Z:dQ (σ (μ ⟨g,0,ν⟩) n cap)=μ j):B<=j:=by
 have:g=j:=by simpa[dQ]using Z
 omega
theorem mB(Z:dQ (σ ν 0 0)=μ j):B<=j:=by simp[dQ]at Z
theorem mP(w:dN)(x y:dO)(t:dR)(g:Nat)(Z:w.heap.size=g):∀(j:Nat) (u:dO),[x,y][j]? =μ u->(w.alloc (γ #[x,y] t)).cell? ((⟨g,0,ν⟩:dM).add j)=μ u:=by
 subst Z;exact oq w x y t
structure Made(w w':dN)(v:dO)(os:List jv):Prop where
 row:Row w' 2 v os.length (iG os)
 new:∀j,v.ownBlock=μ j->w.heap.size<=j
 below:dV w w'
theorem FZ(os:List jv):∀u∈iG os,u.oneCell'=true:=by
 intro u Z;simp[iG]at Z;obtain⟨x,y,_,h⟩:=Z;rcases h with rfl|rfl<;>rfl
theorem iK.cells {os:List jv} (h:iK w (μ ⟨b,off,ν⟩) n os)(hn:0<n):∀(j:Nat) (u:dO),(iG os)[j]? =μ u->w.cell? ((⟨b,off,ν⟩:dM).add j)=μ u:=by
 intro j u Z;rcases h.2 with h0|⟨b',WA,Y,hc⟩
 ·omega
 ·simp only[Option.some.injEq,Addr.mk.injEq]at Y;obtain⟨rfl,rfl,_⟩:=Y;have hj:j<2*os.length:=by have:=(aG.1 Z).1;rwa [kR]at this
  have X:j/2<os.length:=dP;obtain⟨g1,g2⟩:=sD os (j/2) X;obtain⟨c1,c2⟩:=hc (j/2) X;rw[lW];rcases Nat.mod_two_eq_zero_or_one j with V|V
  ·have e:j/2*2=j:=dP;rw[e]at g1 c1;rw[Z]at g1;rw[c1,g1]
  ·have e:j/2*2+1=j:=dP;rw[e]at g2;rw[Z]at g2;rw[show off+j/2*2+1=off+j by omega]at c2;rw[c2,g2]
def kd(a:Option dM)(cap:Nat):Prop:=a=ν->cap=0
theorem Made.shape {os:List jv} (h:Made w w' v os):∃a cap,v=σ a os.length cap/\kd a cap/\os.length<=cap:=by
 rcases h.row.2 with⟨rfl,Z⟩|⟨g,cap,rfl,_,Y,_⟩
 ·rw[Z];exact⟨ν,0,rfl,λ_=>rfl,Nat.le_refl _⟩
 ·exact⟨μ ⟨g,0,ν⟩,cap,rfl,λh=>by simp at h,Y⟩
theorem Made.opts {w w':dN} {a:Option dM} {n cap:Nat} {os:List jv} (h:Made w w' (σ a n cap) os):n=os.length/\iK w' a n os:=by
 have Z:n=os.length:=by
  rcases h.row.2 with⟨e,h0⟩|⟨g,cap,e,_⟩
  ·simp at e;omega
  ·simp at e;omega
 have Y:=h.row;rw[<-Z]at Y;exact⟨Z,Y.opts⟩
theorem Made.from {os:List jv} (h:Made x w' v os)(hb:dV w x):Made w w' v os:=
 ⟨h.row,λj Z=>Nat.le_trans hb.size (h.new j Z),gD hb h.below⟩
theorem iK.kept {a:Option dM} {os:List jv} (h:iK w a n os)(hb:∀k,dQ (σ a n cap)=μ k->w'.heap[k]? =w.heap[k]?):iK w' a n os:=by
 refine⟨h.1,?_⟩;rcases h.2 with Z|⟨b,off,rfl,Z⟩
 ·exact .inl Z
 ·refine .inr ⟨b,off,rfl,λj Y=> ?_⟩;have e:=hb b rfl;obtain⟨c1,c2⟩:=Z j Y;exact⟨(ai (a:=⟨b,off+j*2,ν⟩) e).trans c1,(ai (a:=⟨b,off+j*2+1,ν⟩) e).trans c2⟩
def sE(a:Option dM)(n:Nat):Option Nat:=if n=0 then ν else a.map (·.block)
theorem AK {a:Option dM} (h:sE a n=μ k):dQ (σ a n cap)=μ k:=by
 unfold sE at h;split at h
 ·cases h
 ·cases a with
  |none=>cases h
  |some x=>simpa[dQ]using h
theorem iK.K7 {a:Option dM} {os:List jv} (h:iK w a n os)(hb:∀k,sE a n=μ k->w'.heap[k]? =w.heap[k]?):iK w' a n os:=by
 by_cases Z:n=0
 ·exact⟨h.1,.inl Z⟩
 ·refine h.kept (cap:=0) (λk Y=>hb k ?_);unfold sE;rw[ae Z];cases a with
  |none=>cases Y
  |some x=>simpa[dQ]using Y
def iM(w:dN)(B:Nat)(C:Array dO)(t:dR):Prop:=w.heap[B]? =μ (γ C t (0,0))
theorem iM.lt(h:iM w B C t):B<w.heap.size:=(au.1 h).1
theorem iM.cell {w:dN} {B:Nat} {C:Array dO} {t:dR} (h:iM w B C t)(j:Nat):w.cell? ⟨B,j,ν⟩=C[j]? :=ar w B j C _ (0,0) h
theorem iM.frozen {w:dN} {B:Nat} {C:Array dO} {t:dR} (h:iM w B C t)(j:Nat):w.frozen? ⟨B,j,ν⟩=false:=bh w B j C _ h
theorem iM.set(h:iM w B C t)(j:Nat)(x:dO):iM (w.setCell ⟨B,j,ν⟩ x) B (C.setIfInBounds j x) t:=by
 unfold iM;rw[bB w B j C _ (0,0) x h];exact ch w B C _ _ (0,0) h
theorem iM.other {B':Nat} (h:iM w B C t)(Z:B≠B')(x:dO):iM (w.setCell ⟨B',j,ν⟩ x) B C t:=
 (ak _ _ _ B Z).trans h
theorem iM.keep(h:iM w B C t)(hb:w'.heap[B]? =w.heap[B]?):iM w' B C t:=hb.trans h
theorem iM.below(h:iM w B C t)(hb:dV w w'):iM w' B C t:=h.keep (hb.block B h.lt)
theorem iM.drewN {w:dN} {B:Nat} {C:Array dO} {t:dR} (h:iM w B C t)(n:Nat):iM (w.drewN n) B C t:=h
theorem iM.new(w:dN)(C:Array dO)(t:dR):iM (w.alloc (γ C t)) w.heap.size C t:=aS w _
theorem iM.F8(w:dN)(C:Array dO)(t:dR)(g:Nat)(Z:w.heap.size=g):iM (w.alloc (γ C t)) g C t:=by subst Z;exact iM.new w C t
theorem iZ(h:dX B w a):dX B w a.drew:=⟨h.os,h.tape,h.output,h.size,h.block⟩
theorem mU(s:ByteArray)(k:Nat)(h:k<s.size):s.data.toList.getD k 0=s[k] :=by
 have Z:k<s.data.toList.length:=by simpa using h
 rw[aR,av Z];rfl
theorem nJ(h:a.grownBy w (μ b))(j:Nat)(v:dO):a.grownBy (w.setCell ⟨b,j,ν⟩ v) (μ b):=by
 have b1:dX 0 w (w.setCell ⟨b,j,ν⟩ v):=(aq 0 w).setCell (Nat.zero_le _) _;exact⟨b1.os.trans h.os,b1.tape.trans h.tape,b1.output.trans h.output,Nat.le_trans h.size b1.size,λi hi Z=>(ak _ _ _ i (λe=>Z (by rw[e]))).trans (h.block i hi Z)⟩
theorem drewN_drewN(w:dN)(a b:Nat):(w.drewN a).drewN b=w.drewN (a+b):=by go_simp
def Ag {H:Type} (l:List (List UInt8)):eF H:=.agg (l.map λs=>.lit (.string s))
def AL {H:Type} (t:List (List (List UInt8))):eF H:=.agg (t.map Ag)
theorem Eu {enc:dR×dO->H} {zs:List (List UInt8)} 
 (J:P.underlying t=μ (.array n e)) (M:P.underlying e=μ .string) (T:P.cellsOf e=1) (Y:P.cellsOf t=n)
 (h:eG enc P w base sp held fuel t cs=μ (Ag zs,p)):cs=zs.map λz=>dW ⟨z.toArray⟩:=by
 cases fuel with
 |zero=>simp[eG]at h
 |succ fuel=>
  simp only[eG,J,T,Y,Nat.mul_one]at h;split at h
  ·rename_i hl
   obtain⟨xs,U,hx⟩:=Option.map_eq_some_iff.1 h;have V:xs.map (·.1)=zs.map λz=>(DataW.lit (.string z):eF H):=by
    have:=congrArg Prod.fst hx;simpa[Ag]using this
   have Mu:xs.length=n:=by simpa using eH U
   have hzl:zs.length=n:=by
    have:=congrArg List.length V;simp at this;omega
   apply List.ext_getElem?;intro i;by_cases hi:i<n
   ·obtain⟨b,hb,hf⟩:=Lib.mapM_at U i i (by simp[hi]);obtain⟨z,hc,rfl,_⟩:=dh M hf;have S:cs[i]? =μ (.string z):=by
     have:=congrArg (·[0]?) hc;simpa[List.getElem?_take,db]using this
    have Z:(xs.map (·.1))[i]? =μ (DataW.lit (.string z.data.toList):eF H):=by simp[hb]
    rw[V]at Z;simp only[eI,Option.map_eq_some_iff,DataW.lit.injEq,Lit.string.injEq]at Z;obtain⟨z',X,rfl⟩:=Z;simp[S,X]
   ·rw[dF dP,dF (by simp;omega)]
  ·cases h
theorem Ev {enc:dR×dO->H} 
 (D:P.underlying t=μ (.array m r)) (E:P.underlying r=μ (.array n e)) (J:P.underlying e=μ .string) (M:P.cellsOf e=1) (Z:P.cellsOf r=n) (V:P.cellsOf t=m*n)
 (h:eG enc P w base sp held fuel t cs=μ (AL zs,p)):zs.length=m/\∀i row,zs[i]? =μ row->(cs.drop (i*n)).take n=row.map λz=>dW ⟨z.toArray⟩:=by
 cases fuel with
 |zero=>simp[eG]at h
 |succ fuel=>
  simp only[eG,D,Z,V]at h;split at h
  ·rename_i hl
   obtain⟨xs,T,hx⟩:=Option.map_eq_some_iff.1 h;have U:xs.map (·.1)=zs.map λz=>(Ag z:eF H):=by
    have:=congrArg Prod.fst hx;simpa[AL]using this
   have Mu:xs.length=m:=by simpa using eH T
   have Y:zs.length=m:=by
    have:=congrArg List.length U;simp at this;omega
   refine⟨Y,λi row S=> ?_⟩;have hi:i<m:=by rw[<-Y];exact(aG.1 S).1
   obtain⟨b,hb,hf⟩:=Lib.mapM_at T i i (by simp[hi]);have X:(xs.map (·.1))[i]? =μ b.1:=by simp[hb]
   rw[U]at X;simp only[eI,S,Option.map_some,Option.some.injEq]at X;obtain⟨b1,b2⟩:=b;simp only at X;subst X;exact Eu E J M Z hf
  ·cases h
theorem Ew {W:dN} {name:String} {rest:List (String×eF Unit)} 
 (T:P.globalNamed name=μ g) (hty:(P.globals[g]?).map (·.type)=μ t) (u:P.underlying t=μ (.array m r)) (y:P.underlying r=μ (.array n e)) (D:P.underlying e=μ .string) (S:P.cellsOf e=1) (Y:P.cellsOf r=n) (X:P.cellsOf t=m*n)
 (h:laidMet P ((name,AL zs)::rest) W):∀i row j z,zs[i]? =μ row->row[j]? =μ z->j<n->W.cell? ⟨g,i*n+j,ν⟩=μ (.string ⟨z.toArray⟩):=by
 obtain⟨ps,⟨g',t',cs,fuel,p,q,M,V,Z,hd,_,_⟩,_⟩:=h;obtain rfl:=Option.some.inj (T.symm.trans M);obtain rfl:=Option.some.inj (hty.symm.trans V);intro i row j z hi A J;have E:=(Ev u y D S Y X hd).2 i row hi;rw[World.var?_cell T Z];have U:((cs.toList.drop (i*n)).take n)[j]? =μ (dW ⟨z.toArray⟩):=by rw[E];simp[A]
 rw[List.getElem?_take_of_lt J,db]at U;simpa using U
def zO:List (List (List UInt8)):=[
 [[50],[105,114,54],[45],[45],[45],[45],[45],[45],[45],[45]],
 [[45],[45],[48],[115,49],[48],[49],[49],[49],[49],[100,49]],
 [[115,49],[49],[105,114,54],[51],[53],[53],[54],[55],[56],[57]],
 [[48],[102,48],[50],[50],[52],[52],[105,116,52],[105,116,52],[105,116,52],[100,105,116,52]],
 [[45],[45],[45],[45],[116,52],[116,53],[114,54],[114,54],[114,56],[45]],
 [[45],[45],[45],[45],[102,50],[102,51],[102,51],[102,51],[102,51],[45]],
 [[45],[45],[107,50],[105,114,97,56],[52],[53],[97,56],[97,117,57],[97,56],[100,114,97,56]],
 [[45],[45],[107,50],[105,114,110,54],[52],[53],[110,54],[110,55],[110,54],[100,114,110,54]],
 [[45],[45],[107,50],[107,51],[52],[53],[105,55],[114,54],[105,117,57],[100,114,54]],
 [[45],[45],[107,50],[107,51],[52],[53],[105,114,54],[114,54],[105,114,56],[100,114,54]],
 [[45],[45],[107,50],[107,51],[107,52],[107,53],[107,54],[107,54],[107,54],[100,122,107,53]],
 [[45],[45],[50],[51],[102,50],[102,51],[54],[54],[56],[100,114,54]]]
def nP(s e:Nat):List UInt8:=(zO.getD e []).getD s []
def kF(s e:Nat):List UInt8×Int×Nat:=
 if nP s e=[45]then([],0,7)else((nP s e).dropLast,(((nP s e).getLastD 0).toNat:Int)-48,0)
def iN(s e:Int):List UInt8×Int×Nat:=
 if s<0 \/10<=s \/e<0 \/12<=e then([],0,1)else kF s.toNat e.toNat
def iQ(w:dN):Prop:=∀e s,e<12->s<10->w.cell? ⟨0,e*10+s,ν⟩=μ (.string ⟨(nP s e).toArray⟩)
theorem iQ.below(h:iQ w)(hb:dV w w'):iQ w':=λe s Z hs=>
 (hb.cell (af w _ (h e s Z hs))).trans (h e s Z hs)
theorem iQ.lt(h:iQ w):0<w.heap.size:=af w _ (h 0 0 dS dS)
theorem mC(s e:Nat)(hs:s<10)(he:e<12):iN s e=kF s e:=by
 unfold iN;rw[ae dP];rfl
theorem Pf:∀e,e<12->∀s,s<10->1<=(nP s e).length/\(nP s e).length<=5/\(48<=((nP s e).getLastD 0).toNat/\((nP s e).getLastD 0).toNat<=57 \/nP s e=[45]):=by decide+kernel
theorem Mv(s:Int)(w:dN):eM eN 195 #[ι κ s] w λe w'=>e=ρ (.bool (decide (4<=s)&&decide (s<=8)))/\w=w':=by
 by_cases Y:4<=s
 ·have Z:decide (4<=s)=true:=by simp[Y]
  rw[Z,Bool.true_and];clear Z
  go_in
  go_wp2
  go_ret;exact⟨rfl,rfl⟩
 ·have Z:decide (4<=s)=false:=by simp[Y]
  rw[Z,Bool.false_and];clear Z
  go_in
  go_wp2
  go_ret;exact⟨rfl,rfl⟩
theorem Pg(s e:Int)(w:dN)(h:s<0 \/10<=s \/e<0 \/12<=e):eM eN 207 #[ι κ s,ι κ e] w λx w'=>x=ρ (τ #[.string ⟨#[]⟩,ι κ 0,iP 1])/\w=w':=by
 have Z:iP 1=.iface 128 (ι κ 1):=rfl;rw[Z];clear Z;by_cases h0:s<0
 ·clear h
  go_in
  go_wp2
  go_ret3
  exact⟨rfl,rfl⟩
 ·by_cases h1:10<=s
  ·clear h
   go_in
   go_wp2
   go_ret3
   exact⟨rfl,rfl⟩
  ·by_cases h2:e<0
   ·clear h
    go_in
    go_wp2
    go_ret3
    exact⟨rfl,rfl⟩
   ·have h3:12<=e:=dP;clear h
    go_in
    go_wp2
    go_ret3
    exact⟨rfl,rfl⟩
theorem Mw(s e:Nat)(S:ByteArray)(w:dN)(hs:s<10)(he:e<12)(hc:w.cell? ⟨0,e*10+s,ν⟩=μ (.string S))(hS:(S.toList==[45])=true):
 eM eN 207 #[ι κ s,ι κ e] w λx w'=>x=ρ (τ #[.string ⟨#[]⟩,ι κ 0,iP 7])/\w=w':=by
 have Z:iP 7=.iface 128 (ι κ 7):=rfl;have h0:¬(s:Int)<0:=dP;have h1:¬(10:Int)<=s:=dP;have h2:¬(e:Int)<0:=dP;have h3:¬(12:Int)<=e:=dP;have h4:(s:Int)<10:=dP;have h5:(e:Int)<12:=dP;have h6:0<w.heap.size:=af w _ hc;rw[Z];clear Z
 go_in
 go_wp2
 go_ret3
 exact⟨rfl,rfl⟩
theorem Mx(s e:Nat)(S:ByteArray)(w:dN)(hs:s<10)(he:e<12)(hc:w.cell? ⟨0,e*10+s,ν⟩=μ (.string S))(hS:(S.toList==[45])=false)(n:Nat)(hl:S.size=n+1)(hn:n<=4)(d:Nat)(hd:(S[n]).toNat=48+d)(hd9:d<=9):
 eM eN 207 #[ι κ s,ι κ e] w λx w'=>x=ρ (τ #[.string (S.extract 0 n),ι κ (d:Int),η])/\∃m,w'=w.drewN m:=by
 have h0:¬(s:Int)<0:=dP;have h1:¬(10:Int)<=s:=dP;have h2:¬(e:Int)<0:=dP;have h3:¬(12:Int)<=e:=dP;have h4:(s:Int)<10:=dP;have h5:(e:Int)<12:=dP;have h6:0<w.heap.size:=af w _ hc;have h7:wrap64 ((S.size:Int)-1)=n:=by unfold wrap64;omega
 have h8:((0:Int)<=(n:Int)):=dP;have h9:((n:Int)<=(S.size:Int)):=dP;have h10:((n:Int)<(S.size:Int)):=dP
 go_in
 go_wp2
 go_quiet(fail)
 go_wp2
 go_ret3
 refine⟨?_,_,rfl⟩;rw[show(48:Int)+(d:Int)-48=d by omega];rfl
theorem My:∀e,e<12->∀s,s<10->nP s e≠ [45]->((⟨(nP s e).toArray⟩:ByteArray).extract 0 ((nP s e).length-1)=⟨(nP s e).dropLast.toArray⟩)/\((nP s e).getD ((nP s e).length-1) 0=(nP s e).getLastD 0):=by decide+kernel
theorem Ph(s e:Int)(w:dN)(h:iQ w):eM eN 207 #[ι κ s,ι κ e] w λx w'=>
 x=ρ (τ #[.string ⟨(iN s e).1.toArray⟩,ι κ (iN s e).2.1,iP (iN s e).2.2])/\∃m,w'=w.drewN m:=by
 by_cases X:s<0 \/10<=s \/e<0 \/12<=e
 ·refine(Pg s e w X).mono ?_;rintro x w' ⟨rfl,rfl⟩;have hv:iN s e=([],0,1):=by unfold iN;rw[ag X]
  rw[hv];exact⟨rfl,0,rfl⟩
 ·obtain⟨s',rfl⟩:∃s':Nat,s=s':=⟨s.toNat,dP⟩
  obtain⟨e',rfl⟩:∃e':Nat,e=e':=⟨e.toNat,dP⟩
  have hs:s'<10:=dP;have Z:e'<12:=dP;rw[mC s' e' hs Z];have hc:=h e' s' Z hs;obtain⟨l1,l2,U⟩:=Pf e' Z s' hs;by_cases Y:nP s' e'=[45]
  ·refine(Mw s' e' _ w hs Z hc (by rw[Y];decide+kernel)).mono ?_;rintro x w' ⟨rfl,rfl⟩;have hv:kF s' e'=([],0,7):=by unfold kF;rw[ag Y]
   rw[hv];exact⟨rfl,0,rfl⟩
  ·obtain⟨c1,c2⟩:=My e' Z s' hs Y;have l4:=U.resolve_right Y;have hv:kF s' e'=((nP s' e').dropLast,(((nP s' e').getLastD 0).toNat:Int)-48,0):=by unfold kF;rw[ae Y]
   rw[hv];clear hv;generalize nP s' e'=L at*;have T:(⟨L.toArray⟩:ByteArray).size=(L.length-1)+1:=by show L.toArray.size=_;simp;omega
   refine(Mx s' e' ⟨L.toArray⟩ w hs Z hc ?_ (L.length-1) T dP ((L.getLastD 0).toNat-48) ?_ dP).mono ?_
   ·rw[cE];intro hb;apply Y;rw[<-hb];simp[ByteArray.toList_eq]
   ·rw[<-c2];show(L.toArray[L.length-1]'_).toNat=_;rw[List.getElem_toArray,aR,av dP];rw[aR,av dP]at c2;simp only[Option.getD_some]at c2⊢;rw[c2];omega
   ·rintro x w' ⟨rfl,m,rfl⟩;refine⟨?_,m,rfl⟩;rw[c1];have V:(((L.getLastD 0).toNat-48:Nat):Int)=((L.getLastD 0).toNat:Int)-48:=dP;rw[V];rfl
theorem Ey(s e:Int)(D:List UInt8)(nx:Int)(f:Nat)(Z:iN s e=(D,nx,f))(w:dN)(h:iQ w):
 eM eN 207 #[ι κ s,ι κ e] w λx w'=>x=ρ (τ #[.string ⟨D.toArray⟩,ι κ nx,iP f])/\∃m,w'=w.drewN m:=by
 have:=Ph s e w h;rw[Z]at this;exact this
end Go.Proofs.YtieklnlbljejdaaGreatDoor
namespace Go.Proofs.YtieklnlbljejdaaGreatDoor.Plain
open Go.RowKit
theorem tL(a b:Nat)(Z:a<65536)(hb:b<65536):bits .xor .i64 (a:Int) (b:Int)=((a^^^b:Nat):Int):=by
 have h:a^^^b<65536:=Nat.xor_lt_two_pow (n:=16) Z hb;have e:∀n:Nat,n<65536->(eO 64 (n:Int)).toNat=n:=by
  intro n hn;rw[BitVec.toNat_ofInt];simp;omega
 have Y:(eO 64 (a:Int) ^^^eO 64 (b:Int)).toNat=a^^^b:=by
  rw[BitVec.toNat_xor,e a Z,e b hb]
 show IntKind.i64.wrap ((eO 64 (a:Int) ^^^eO 64 (b:Int)).toNat:Int)=_;rw[Y,IntKind.wrap_i64];omega
def turn(x:Nat):Nat:=if x%2=1 then x/2^^^33800 else x/2
def turns:Nat->Nat->Nat
 |0,x=>x
 |n+1,x=>turns n (turn x)
def Ez(x:Nat)(c:UInt8):Nat:=turns 8 (x^^^c.toNat)
def reg(l:List UInt8):Nat:=l.foldl Ez 65535
def sum(l:List UInt8):Nat:=reg l^^^65535
theorem EA(a b:Nat)(Z:a<65536)(hb:b<65536):a^^^b<65536:=Nat.xor_lt_two_pow (n:=16) Z hb
theorem Pj(c:UInt8):c.toNat<65536:=by have:=c.toNat_lt;omega
theorem Tm(x:Nat)(h:x<65536):turn x<65536:=by
 unfold turn;split
 ·exact EA _ _ dP dP
 ·omega
theorem AO:∀n x,x<65536->turns n x<65536
 |0,_,h=>h
 |n+1,x,h=>AO n _ (Tm x h)
theorem AP:∀n x,turns (n+1) x=turn (turns n x)
 |0,_=>rfl
 |n+1,x=>by rw[turns,AP n (turn x)];rfl
theorem Mz(x:Nat)(c:UInt8)(h:x<65536):Ez x c<65536:=AO 8 _ (EA _ _ h (Pj c))
theorem F9:∀(l:List UInt8) x,x<65536->l.foldl Ez x<65536
 |[],_,h=>h
 |c::l,x,h=>F9 l _ (Mz x c h)
theorem EB(l:List UInt8):reg l<65536:=F9 l _ dP
theorem Jj(l:List UInt8):sum l<65536:=EA _ _ (EB l) dP
theorem Pk(l:List UInt8)(c:UInt8):reg (l++ [c])=Ez (reg l) c:=by simp[reg]
end Go.Proofs.YtieklnlbljejdaaGreatDoor.Plain
namespace Go.Proofs.YtieklnlbljejdaaGreatDoor
open Go.RowKit Plain
theorem Tn {k:IntKind} {a b:Int} (h:a=b):Ending.returned (.int k a)=ρ (.int k b):=by rw[h]
theorem Di(s:ByteArray)(k:Nat)(h:k<s.size):s.data.toList.take (k+1)=s.data.toList.take k++ [s[k]] :=by
 rw[aw (by simpa using h)];rfl
theorem Pm(x:Nat)(h:x<65536)(h1:(x:Int) %2=1):bits .xor .i64 ((x:Int)/2) 33800=(turn x:Int):=by
 have e:=tL (x/2) 33800 dP dP;have:x%2=1:=dP;simp only[turn,this,if_true];rw[<-e];simp
theorem MA(x:Nat)(h1:¬(x:Int) %2=1):(x:Int)/2=(turn x:Int):=by
 have:¬x%2=1:=dP;simp[turn,this]
theorem K8(s:ByteArray)(w:dN)(hs:s.size<=maxLen):
 eM eN 210 #[.string s] w λe w'=>e=ρ (ι κ (Plain.sum s.data.toList:Nat))/\w=w':=by
 unfold maxLen at hs
 go_in
 go_wp2
 go_loop [3,8] (λx i=>∃k:Nat,k<=s.size/\i=ι κ k/\x=ι κ (reg (s.data.toList.take k):Nat)) (λ_ i=>s.size-(intOf i).toNat)
 case atStart=>exact⟨0,Nat.zero_le _,rfl,rfl⟩
 case round=>
  obtain⟨k,hk,rfl,rfl⟩:=hrel;by_cases D:k<s.size
  ·have U:=Di s k D;have V:Hid (reg (s.data.toList.take (k+1))=turns 8 (reg (s.data.toList.take k) ^^^s[k].toNat)):=by rw[U,Pk];rfl
   have T:bits .xor .i64 (reg (s.data.toList.take k):Nat) (wrap64 (s[k].toNat:Nat))=((reg (s.data.toList.take k) ^^^s[k].toNat:Nat):Int):=by
    have hb:=s[k].toNat_lt;rw[cr _ ⟨dP,dP⟩];exact tL _ _ (EB _) (Pj _)
   have Z:reg (s.data.toList.take k) ^^^s[k].toNat<65536:=EA _ _ (EB _) (Pj _);clear U;generalize reg (s.data.toList.take k) ^^^s[k].toNat=X at T Z V
   go_wp2
   go_loop [3,17] (λx i=>∃j:Nat,j<=8/\i=ι κ j/\x=ι κ (turns j X:Nat)) (λ_ i=>8-(intOf i).toNat)
   case atStart=>exact⟨0,Nat.zero_le _,rfl,rfl⟩
   case round=>
    obtain⟨j,hj,rfl,rfl⟩:=hrel;by_cases hj8:j<8
    ·have hl:=AO j X Z;have M:turns (j+1) X=turn (turns j X):=AP j X;have E:=Pm (turns j X) hl;have J:=MA (turns j X);generalize turns j X=Y at*
     go_wp2
     all_goals
      go_round
      case rel=>exact⟨j+1,dP,by go_num,by rw[M];first|rw[E (by simp_all)] |rw[J (by simp_all)]⟩
      case measure=>simp[intOf];omega
    ·have S:j=8:=dP;subst S
     go_wp2
     go_round
     case rel=>exact⟨k+1,dP,by go_num,by rw[V.out]⟩
     case measure=>simp[intOf];omega
  ·go_wp2
   go_ret;have e:k=s.size:=dP;exact⟨Tn (by rw[aC (by simp;omega)];exact tL _ 65535 (EB _) dS),rfl⟩
end Go.Proofs.YtieklnlbljejdaaGreatDoor
namespace Go.Proofs.YtieklnlbljejdaaGreatDoor.Plain
open Go.RowKit
def pZ(c:UInt8):Bool:=c==126||c==125||decide (c<32)
def zP(c:UInt8):List UInt8:=if pZ c then [125,c^^^32]else [c]
def qD(l:List UInt8):List UInt8:=l.flatMap zP
def Ga(l:List UInt8):UInt8:=UInt8.ofNat (sum l%256)
def Gb(l:List UInt8):UInt8:=UInt8.ofNat (sum l/256)
def la(l:List UInt8):List UInt8:=l++ [Ga l,Gb l]
def mD(l:List UInt8):List UInt8:=126::(qD (la l)++ [126])
theorem Dj(l:List UInt8):((Ga l).toNat:Int)=((sum l:Nat):Int) %256:=by
 have:=Jj l;unfold Ga;rw[UInt8.toNat_ofNat_of_lt' (by show sum l%256<256;omega)];omega
theorem Dk(l:List UInt8):((Gb l).toNat:Int)=((sum l:Nat):Int)/256:=by
 have:=Jj l;unfold Gb;rw[UInt8.toNat_ofNat_of_lt' (by show sum l/256<256;omega)];omega
theorem MB(l:List UInt8)(c:UInt8):qD (l++ [c])=qD l++zP c:=by simp[qD]
theorem Tp(c:UInt8):(zP c).length<=2:=by unfold zP;split<;>simp
theorem EC:∀l:List UInt8,(qD l).length<=2*l.length
 |[] =>by simp[qD]
 |c::l=>by
  have:=EC l;have h:=Tp c;simp only[qD,eB,eD,eE]at this⊢;omega
theorem oI(l:List UInt8):(la l).length=l.length+2:=by simp[la]
theorem MC(c:UInt8):pZ c=true↔(c.toNat:Int)=126 \/(c.toNat:Int)=125 \/(c.toNat:Int)<32:=by
 unfold pZ;simp only[Bool.or_eq_true,beq_iff_eq,decide_eq_true_eq,UInt8.lt_iff_toNat_lt];have Z:c=126↔(c.toNat:Int)=126:=by
  rw[<-UInt8.toNat_inj];show c.toNat=126↔_;omega
 have Y:c=125↔(c.toNat:Int)=125:=by
  rw[<-UInt8.toNat_inj];show c.toNat=125↔_;omega
 rw[Z,Y];show(_ \/_) \/c.toNat<32↔_;omega
theorem Vo(c:UInt8):bits .xor .u8 (c.toNat:Int) 32=((c^^^32).toNat:Int):=by
 have:=c.toNat_lt;have e:=u8_xor_nat c.toNat 32 dP dP;rw[UInt8.toNat_xor];exact e
end Go.Proofs.YtieklnlbljejdaaGreatDoor.Plain
namespace Go.Proofs.YtieklnlbljejdaaGreatDoor
open Go.RowKit
variable {F G:Nat->Value} {g m o:Nat} {w w':World}
def oV(w:dN)(g o m:Nat)(F:Nat->dO):Prop:=∀j,j<m->w.cell? ⟨g,o+j,ν⟩=μ (F j)/\w.frozen? ⟨g,o+j,ν⟩=false
def qV(F:Nat->dO)(i:Nat)(v:dO):Nat->dO:=λj=>if j=i then v else F j
theorem ot(F:Nat->dO)(i:Nat)(v:dO):qV F i v i=v:=by simp[qV]
theorem jn(F:Nat->dO) {i j:Nat} (v:dO)(h:j≠i):qV F i v j=F j:=by simp[qV,h]
theorem lz(w:dN)(a x:dM)(v:dO):(w.setCell a v).frozen? x=w.frozen? x:=gN
theorem oV.cell {w:dN} {g o m:Nat} {F:Nat->dO} (h:oV w g o m F)(j:Nat)(Z:j<m):w.cell? ⟨g,o+j,ν⟩=μ (F j):=(h j Z).1
theorem oV.fz(h:oV w g o m F)(j:Nat)(Z:j<m):w.frozen? ⟨g,o+j,ν⟩=false:=(h j Z).2
theorem oV.lt(h:oV w g o m F)(Z:0<m):g<w.heap.size:=af w _ (h.cell 0 Z)
theorem oV.set(h:oV w g o m F)(i:Nat)(hi:i<m)(v:dO):oV (w.setCell ⟨g,o+i,ν⟩ v) g o m (qV F i v):=by
 intro j Z;refine⟨?_,(lz _ _ _ _).trans (h.fz j Z)⟩;by_cases e:j=i
 ·subst e;rw[ot];exact World.cell?_setCell_same _ _ _ (h.cell j Z)
 ·rw[jn F v e,aP _ _ _ _ (λe=>by have:=congrArg Addr.off e;simp at this;omega)];exact h.cell j Z
theorem oV.keep(h:oV w g o m F)(hb:w'.heap[g]? =w.heap[g]?):oV w' g o m F:=λj Z=>by
 refine⟨(ai (a:=⟨g,o+j,ν⟩) hb).trans (h.cell j Z),?_⟩;have:w'.frozen? ⟨g,o+j,ν⟩=w.frozen? ⟨g,o+j,ν⟩:=by
  simp only[World.frozen?,hb]
 exact this.trans (h.fz j Z)
theorem oV.below(h:oV w g o m F)(Z:0<m)(hb:dV w w'):oV w' g o m F:=h.keep (hb.block g (h.lt Z))
theorem oV.sub(h:oV w g o m F)(a k:Nat)(hk:a+k<=m):oV w g (o+a) k (λj=>F (a+j)):=λj hj=>by
 have:=h (a+j) dP;rw[Nat.add_assoc];exact this
theorem oV.congr(h:oV w g o m F)(e:∀j,j<m->F j=G j):oV w g o m G:=λj Z=>by rw[<-e j Z];exact h j Z
structure kB(w w':dN)(g o m:Nat):Prop where
 os:w'.os=w.os
 tape:w'.tape=w.tape
 output:w'.output=w.output
 size:w.heap.size<=w'.heap.size
 block:∀i,i<w.heap.size->i≠g->w'.heap[i]? =w.heap[i]?
 cell:∀j,j<o \/o+m<=j->w'.cell? ⟨g,j,ν⟩=w.cell? ⟨g,j,ν⟩
 fz:∀j,w'.frozen? ⟨g,j,ν⟩=w.frozen? ⟨g,j,ν⟩
theorem kB.refl(w:dN)(g o m:Nat):kB w w g o m:=⟨rfl,rfl,rfl,Nat.le_refl _,λ_ _ _=>rfl,λ_ _=>rfl,λ_=>rfl⟩
theorem kB.trans {a b c:dN} {g o m:Nat} (h:kB a b g o m)(k:kB b c g o m):kB a c g o m:=
 ⟨k.os.trans h.os,k.tape.trans h.tape,k.output.trans h.output,Nat.le_trans h.size k.size,λi hi Y=>(k.block i (Nat.lt_of_lt_of_le hi h.size) Y).trans (h.block i hi Y),λj Z=>(k.cell j Z).trans (h.cell j Z),λj=>(k.fz j).trans (h.fz j)⟩
theorem kB.set {x:dN} (h:kB w x g o m)(j:Nat)(h1:o<=j)(h2:j<o+m)(v:dO):kB w (x.setCell ⟨g,j,ν⟩ v) g o m:=by
 have b1:dX 0 x (x.setCell ⟨g,j,ν⟩ v):=(aq 0 x).setCell (Nat.zero_le _) _;exact⟨b1.os.trans h.os,b1.tape.trans h.tape,b1.output.trans h.output,Nat.le_trans h.size b1.size,λi hi Z=>(ak _ _ _ i Z).trans (h.block i hi Z),
  λi hi=>(aP _ _ _ _ (λe=>by have:=congrArg Addr.off e;simp at this;omega)).trans (h.cell i hi),λi=>(lz _ _ _ _).trans (h.fz i)⟩
theorem kB.drewN {w x:dN} {g o m:Nat} (h:kB w x g o m)(n:Nat):kB w (x.drewN n) g o m:=⟨h.os,h.tape,h.output,h.size,h.block,h.cell,h.fz⟩
theorem kB.drew {w x:dN} {g o m:Nat} (h:kB w x g o m):kB w x.drew g o m:=⟨h.os,h.tape,h.output,h.size,h.block,h.cell,h.fz⟩
theorem oV.join {a k:Nat} (h:oV w g o m F)(X:kB w w' g (o+a) k)(U:oV w' g (o+a) k G):oV w' g o m (λj=>if a<=j/\j<a+k then G (j-a)else F j):=λj Y=>by
 by_cases e:a<=j/\j<a+k
 ·have Z:=U (j-a) dP;have V:o+a+(j-a)=o+j:=dP;rw[V]at Z;simp only[if_pos e];exact Z
 ·simp only[if_neg e];exact⟨(X.cell (o+j) dP).trans (h.cell j Y),(X.fz _).trans (h.fz j Y)⟩
