import Derived.Test.YtieklnlbljejdaaGreatDoorQA
open Go.Value renaming int → ι, slice → σ, tuple → τ, nilIface → η
open Go.IntKind renaming i64 → κ
open Go.Ending renaming returned → ρ
open Go.Obj renaming cells → γ
open Option renaming none → ν, some → μ
open Go renaming Addr → dQ, World → dR, Value → dT, TypeId → dW, DataW → eO, Calls → eT
open Go.Value renaming ownBlock → dV, int → dY, oneCell' → dZ, string → eu
open Go.RowKit renaming Below → ew, intOf → eV
open Go.Oper renaming wp → eA
open Go.Result renaming andThen_ok → eB
open List renaming map_toArray → eD, map_cons → eE, map_nil → eF, flatMap_cons → eH, length_append → eI, length_cons → eM, length_nil → eN, getElem?_map → eR
open Go.Region renaming wanted → eG
open Go.DataW renaming trod → eP
open Go.Lib renaming mapM_length → eQ
open Go.Proofs.Tryz renaming prog → eU
open BitVec renaming ofInt → eW
set_option maxRecDepth 100000
set_option maxHeartbeats 2000000
open Go.Proofs.Tryz
namespace Go.Proofs.YtieklnlbljejdaaGreatDoor
open Go.RowKit
variable {B b base cap cp fuel g g2 j k m n off sz:Nat} {C:Array Value} {H:Type} {P:Program} {Q:Exit->Act->World->Prop} {a w w' w2 wr x:World} {ao:Option Addr} {cs xs:List Value} {e r t:TypeId} {held:Bool} {o:Obj} {ops:Array Oper} {p:List MemPlace} {row:Option Nat} {s:Int} {sp:Nat->Bool} {v:Value} {zs:List (List (List UInt8))}
theorem add_plain(g j:Nat):(⟨g,0,ν⟩:dQ).add j=⟨g,j,ν⟩:=by unfold Addr.add;split<;>simp_all
theorem mG(g o j:Nat):(⟨g,o,ν⟩:dQ).add j=⟨g,o+j,ν⟩:=by unfold Addr.add;split<;>simp_all
def Row(w:dR)(sz:Nat)(v:dT)(n:Nat)(xs:List dT):Prop:=
 xs.length=n*sz/\
 ((v=σ ν 0 0/\n=0) \/
  ∃g cap,v=σ (μ ⟨g,0,ν⟩) n cap/\g<w.heap.size/\n<=cap/\cap<=maxLen/\(∀j u,xs[j]? =μ u->w.cell? ⟨g,j,ν⟩=μ u)/\
   ∀j,j<cap*sz->(w.cell? ⟨g,j,ν⟩).isSome=true/\w.frozen? ⟨g,j,ν⟩=false)
theorem Row.nil(w:dR)(sz:Nat):Row w sz (σ ν 0 0) 0 [] :=⟨gO,.inl ⟨rfl,rfl⟩⟩
theorem Row.lt(h:Row w sz v n xs):∀k,v.ownBlock=μ k->k<w.heap.size:=by
 intro k Z;rcases h.2 with⟨rfl,_⟩|⟨g,cap,rfl,Y,_⟩
 ·simp[dV]at Z
 ·simp[dV]at Z;subst Z;exact Y
theorem Row.keep(h:Row w sz v n xs)(hs:w.heap.size<=w'.heap.size)(hb:∀k,v.ownBlock=μ k->w'.heap[k]? =w.heap[k]?):Row w' sz v n xs:=by
 refine⟨h.1,?_⟩;rcases h.2 with G|⟨g,cap,rfl,hg,X,Y,U,V⟩
 ·exact .inl G
 ·have e:=hb g rfl;have Z:∀j,w'.cell? ⟨g,j,ν⟩=w.cell? ⟨g,j,ν⟩:=λj=>ai (a:=⟨g,j,ν⟩) e;have M:∀j,w'.frozen? ⟨g,j,ν⟩=w.frozen? ⟨g,j,ν⟩:=λj=>aJ (a:=⟨g,j,ν⟩) e;exact .inr ⟨g,cap,rfl,dU,X,Y,λj u J=>by rw[Z];exact U j u J,λj T=>by rw[Z,M];exact V j T⟩
theorem Row.kept(h:Row w sz v n xs)(Y:w.grownBy w' row)(X:∀k,v.ownBlock=μ k->row≠μ k):Row w' sz v n xs:=
 h.keep Y.size λk Z=>Y.block k (h.lt k Z) (λe=>X k Z e.symm)
theorem Row.alloc {w:dR} {sz:Nat} {v:dT} {n:Nat} {xs:List dT} (h:Row w sz v n xs)(o:Obj):Row (w.alloc o) sz v n xs:=
 h.keep gO λk Z=>aT w o k (h.lt k Z)
theorem Row.drew {w:dR} {sz:Nat} {v:dT} {n:Nat} {xs:List dT} (h:Row w sz v n xs):Row w.drew sz v n xs:=
 h.keep (Nat.le_refl _) λ_ _=>rfl
theorem Row.below(h:Row w sz v n xs)(hb:eh w w'):Row w' sz v n xs:=
 h.keep hb.size λk Z=>hb.block k (h.lt k Z)
theorem Row.M7(h:w.ownsRow base e sz v n xs):Row w sz v n xs:=by
 refine⟨h.1,?_⟩;rcases h.2 with T|⟨g,cap,Z,rfl,hb,Y,V,X,h3,h4⟩
 ·exact .inl T
 ·refine .inr ⟨g,cap,rfl,(aw.1 Y).1,V,X,λj u U=> ?_,λj hj=>⟨?_,?_⟩⟩
  ·have:=h.cells (g:=g) rfl j u U
   rwa [add_plain]at this
  ·rw[ax w g j Z e (0,0) Y];simp;omega
  ·exact bu w g j Z e Y
theorem Row.made(w:dR)(sz:Nat)(e:dW)(C:Array dT)(fr:Nat×Nat)(n cap:Nat)(xs:List dT)(hx:xs.length=n*sz)(hc:C.size=cap*sz)(U:n<=cap)(T:cap<=maxLen)(Y:fr=(0,0) \/C.size<=fr.1)
 (V:∀(j:Nat) (u:dT),xs[j]? =μ u->C[j]? =μ u):Row (w.alloc (γ C e fr)) sz (σ (μ ⟨w.heap.size,0,ν⟩) n cap) n xs:=by
 refine⟨hx,.inr ⟨w.heap.size,cap,rfl,gO,U,T,λj u X=> ?_,λj hj=>⟨?_,?_⟩⟩⟩
 ·rw[aj];exact V j u X
 ·rw[aj];simp;omega
 ·obtain⟨lo,hi⟩:=fr;rw[cN];rcases Y with Z|Z
  ·simp only[Prod.mk.injEq]at Z;obtain⟨rfl,rfl⟩:=Z;simp
  ·simp only at Z;have:¬lo<=j:=dU;simp[this]
theorem Row.cell {w:dR} {sz:Nat} {g n n' cap:Nat} {xs:List dT} (h:Row w sz (σ (μ ⟨g,0,ν⟩) n' cap) n xs)(j:Nat)(u:dT)(Z:xs[j]? =μ u):w.cell? ⟨g,j,ν⟩=μ u:=by
 rcases h.2 with⟨e,_⟩|⟨g',jn,e,_,_,_,hc,_⟩
 ·simp at e
 ·simp at e;obtain⟨rfl,rfl,rfl⟩:=e;exact hc j u Z
theorem oX(w:dR)(x:dT)(t:dW):∀(j:Nat) (u:dT),[x][j]? =μ u->(w.alloc (γ #[x] t)).cell? ((⟨w.heap.size,0,ν⟩:dQ).add j)=μ u:=by
 intro j u Z;rw[add_plain,aj];simpa using Z
theorem oY(w:dR)(x y:dT)(t:dW):∀(j:Nat) (u:dT),[x,y][j]? =μ u->(w.alloc (γ #[x,y] t)).cell? ((⟨w.heap.size,0,ν⟩:dQ).add j)=μ u:=by
 intro j u Z;rw[add_plain,aj];simpa using Z
theorem wu(k:IntKind)(x:Int):∀u∈ [dY k x],u.oneCell'=true:=by simp[dZ]
theorem lF(k l:IntKind)(x y:Int):∀u∈ [dY k x,dY l y],u.oneCell'=true:=by simp[dZ]
theorem K9(s:ByteArray):∀u∈ [eu s],u.oneCell'=true:=by simp[dZ]
theorem uX {g1 n':Nat} (V:(wr.alloc o).grownBy w2 (μ g))(X:μ g=μ g2 \/wr.heap.size+1<=g2)
 (Y:Row wr sz (σ (μ ⟨g1,0,ν⟩) n' cap) n xs) (II:w.heap.size<=g) (jm:g≠g1) (U:eh w wr):
 Row w2 sz (σ (μ ⟨g1,0,ν⟩) n' cap) n xs/\w.heap.size<=g2/\g2≠g1/\eh w w2:=by
 have h1:g1<wr.heap.size:=Y.lt g1 rfl;have T:=U.size;have hs:(wr.alloc o).heap.size=wr.heap.size+1:=gO;refine⟨(Y.alloc o).kept V (λk Z=> ?_),?_,?_,?_⟩
 ·have:g1=k:=by simpa[dV]using Z
  intro e;simp at e;omega
 ·rcases X with h|h
  ·simp at h;omega
  ·omega
 ·rcases X with h|h
  ·simp at h;omega
  ·omega
 ·refine(U.alloc T o).grown V dU (λk Z=> ?_);simp at Z;omega
theorem Fe(X:(wr.alloc o).grownBy w2 (μ g))(Y:μ g=μ g2 \/wr.heap.size+1<=g2)
 (II:w.heap.size<=g) (Z:eh w wr):w.heap.size<=g2/\eh w w2:=by
 have V:=Z.size;have hs:(wr.alloc o).heap.size=wr.heap.size+1:=gO;refine⟨?_,?_⟩
 ·rcases Y with h|h
  ·simp at h;omega
  ·omega
 ·refine(Z.alloc V o).grown X dU (λk U=> ?_);simp at U;omega
section
variable {P:Program}
theorem rF(w:dR)(t ty e:dW)(i:TypeInfo)(z:dT)(size bytes:Nat)(h:P.underlying t=μ (.slice e))(hi:P.info? e=μ i)(hz:i.zero=μ z)
 (qW:i.size=size) (zA:i.bytes=bytes) (La:z.cells.size=size) (qX:0<size)
 (v:dT) (n:Nat) (xs:List dT) (X:Row w size v n xs)
 (a:dQ) (m c:Nat) (news:List dT) (hl:news.length=m*size) (hm:0<m) (CF:∀j u,news[j]? =μ u->w.cell? (a.add j)=μ u) (h1:∀u∈news,u.oneCell'=true)
 (T:n+m<=maxLen) (uY:(n+m)*bytes<=140737488355328):
 ∃v' w',(Builtin.append_ #[t,t] ty #[v,σ (μ a) m c]).run P w=.ok v' w'/\Row w' size v' (n+m) (xs++news)/\w.grownBy w' v.ownBlock/\
  (v'.ownBlock=v.ownBlock \/ ∃k,v'.ownBlock=μ k/\w.heap.size<=k):=by
 rcases X.2 with⟨rfl,rfl⟩|⟨g,cap,rfl,y,rA,Lb,hcell,BD⟩
 ·have hx:xs=[] :=aH (by simpa using X.1);subst hx;obtain⟨v',w',J,G,y,j5⟩:=run_append_own (P:=P) w w.heap.size t ty e i z size bytes h hi hz qW zA La qX (σ ν 0 0) 0 [] (World.ownsRow_nil _ _ _ _) a m c news hl CF h1 T uY (Nat.le_refl _);refine⟨v',w',J,Row.M7 G,y,?_⟩;rcases G.2 with⟨M,e2⟩|⟨g,cap,A,rfl,hb,_⟩
  ·omega
  ·exact .inr ⟨g,rfl,hb⟩
 ·by_cases J:n+m<=cap
  ·subst qW;have VD:n*i.size+news.length<=cap*i.size:=by rw[hl,<-Nat.add_mul];exact Nat.mul_le_mul_right _ J
   have D:∀j,j<news.length->(w.cell? ⟨g,0+n*i.size+j,ν⟩).isSome=true/\w.frozen? ⟨g,0+n*i.size+j,ν⟩=false:=λj Z=>BD _ dU;have Y0:=run_append_room_cells (P:=P) w t ty e i h hi g 0 n cap a m c news hl CF h1 J (λj Z=>(D j Z).1) (λj Z=>(D j Z).2);have nS:∀(vs:List dT) (o:Nat) (w:dR),(w.setCells g o vs).heap.size=w.heap.size/\(w.setCells g o vs).os=w.os/\(w.setCells g o vs).tape=w.tape/\(w.setCells g o vs).output=w.output/\∀k,k≠g->(w.setCells g o vs).heap[k]? =w.heap[k]? :=by
    intro vs
    induction vs with
    |nil=>intro o w;exact⟨rfl,rfl,rfl,rfl,λ_ _=>rfl⟩
    |cons u r ih=>
     intro o w;have:=ih (o+1) (w.setCell ⟨g,o,ν⟩ u);have b1:ew 0 w (w.setCell ⟨g,o,ν⟩ u):=(au 0 w).setCell (Nat.zero_le _) _;refine⟨this.1.trans gO,this.2.1.trans b1.os,this.2.2.1.trans b1.tape,this.2.2.2.1.trans b1.output,λk Y=>(this.2.2.2.2 k Y).trans (aq _ _ _ k Y)⟩
   have B:=nS news (0+n*i.size) w;refine⟨_,_,Y0,⟨by rw[az,X.1,hl,Nat.add_mul],.inr ⟨g,cap,rfl,by rw[B.1];exact y,J,Lb,λj u V=> ?_,λj Z=> ?_⟩⟩,⟨B.2.1,B.2.2.1,B.2.2.2.1,by rw[B.1];exact Nat.le_refl _,λk _ Y=>B.2.2.2.2 k (λe=>Y (by simp[dV,e]))⟩,.inl rfl⟩
   ·rcases Nat.lt_or_ge j xs.length with Z|Z
    ·rw[bJ Z]at V;rw[br g _ _ _ _ (λ_ _=>.inl (by show j<0+n*i.size;have:=X.1;omega))];exact hcell j u V
    ·rw[bw Z]at V;have M8:j-xs.length<news.length:=(aI.1 V).1;have:=bC g news (0+n*i.size) w (λk Y=>(D k Y).1) (j-xs.length) M8;have M:0+n*i.size+(j-xs.length)=j:=by have:=X.1;omega
     rw[M]at this;rw[this,<-V,aA M8]
   ·rw[bR];refine⟨?_,(BD j Z).2⟩;by_cases hq:n*i.size<=j/\j<n*i.size+news.length
    ·have:=bC g news (0+n*i.size) w (λk Y=>(D k Y).1) (j-n*i.size) dU;have M:0+n*i.size+(j-n*i.size)=j:=dU;rw[M]at this;rw[this];rfl
    ·rw[br g _ _ _ _ (λ_ _=>by show j<0+n*i.size \/0+n*i.size+news.length<=j;omega)];exact(BD j Z).1
  ·obtain⟨v',w',Y0,G,U⟩:=run_append_arg_grows (P:=P) w t ty e i z size bytes h hi hz qW zA La qX ⟨g,0,ν⟩ n cap xs X.1 (λj u Z=>by rw[add_plain];exact hcell j u Z) a m c news hl CF dU T uY;refine⟨v',w',Y0,Row.M7 G,⟨U.os,U.tape,U.output,U.size,λk Y _=>U.block k Y gO⟩,?_⟩;rcases G.2 with⟨M,e2⟩|⟨g',jn,A,rfl,hb,_⟩
   ·omega
   ·exact .inr ⟨g',rfl,hb⟩
theorem iB(w:dR) {rest:List Oper} {o:Oper} {a:Act} (M:o.guard=ν)(s x:Operand)(t:dW)
 (ho:o.op=.call {callee:=.builtin .append,args:= #[s,x],argTypes:= #[t,t] })
 (e:dW) (i:TypeInfo) (z:dT) (size bytes:Nat) (J:P.underlying t=μ (.slice e)) (hi:P.info? e=μ i) (y:i.zero=μ z)
 (qW:i.size=size) (zA:i.bytes=bytes) (La:z.cells.size=size) (qX:0<size)
 (v:dT) (n:Nat) (xs:List dT) (hs:a.eval s=v) (A:Row w size v n xs)
 (U:dQ) (m c:Nat) (news:List dT) (hx:a.eval x=σ (μ U) m c) (hl:news.length=m*size) (G:0<m) (CF:∀j u,news[j]? =μ u->w.cell? (U.add j)=μ u) (h1:∀u∈news,u.oneCell'=true)
 (V:n+m<=maxLen) (uY:(n+m)*bytes<=140737488355328)
 (h:∀Z X w',Row w' size (σ (μ ⟨Z,0,ν⟩) (n+m) X) (n+m) (xs++news)->w.grownBy w' v.ownBlock->(v.ownBlock=μ Z \/w.heap.size<=Z)->wpList P ops Q rest (a.put o.dst (σ (μ ⟨Z,0,ν⟩) (n+m) X)) w'):wpList P ops Q (o::rest) a w:=by
 refine wpList_plain M λK D=> ?_;obtain⟨v',w',hr,T,h3,Y⟩:=rF (P:=P) w t o.type e i z size bytes J hi y qW zA La qX v n xs A U m c news hl G CF h1 V uY;unfold eA execOp;simp only[ho,resolve,invoke,builtin,Sem.run_bind,Sem.run_pure,eB,eD,eE,eF,hs,hx,hr];rcases T.2 with⟨_,hn⟩|⟨Z,X,rfl,_⟩
 ·omega
 ·refine D _ _ (h Z X w' T h3 ?_);rcases Y with Y|⟨k,Y,hk⟩
  ·exact .inl Y.symm
  ·simp[dV]at Y;subst Y;exact .inr hk
def iH(l:List UInt8):List dT:=l.map λb=>dY .u8 (b.toNat:Int)
theorem qo(l:List UInt8):(iH l).length=l.length:=by simp[iH]
theorem la(a b:List UInt8):iH (a++b)=iH a++iH b:=by simp[iH]
theorem xy(l:List UInt8)(j:Nat)(h:j<l.length):(iH l)[j]? =μ (.int .u8 (l[j].toNat:Int)):=by simp[iH,h]
theorem EJ(w:dR)(src dst e:dW)(s:ByteArray)(hs:P.underlying src=μ .string)(hd:P.underlying dst=μ (.slice e))(X:P.underlying e=μ (.int .u8))(U:s.size<=maxLen):
 ∃cap C fr,(convert src dst (.string s)).run P w=.ok (σ (μ ⟨w.heap.size,0,ν⟩) s.size cap) (w.drew.alloc (γ C e fr))/\Row (w.alloc (γ C e fr)) 1 (σ (μ ⟨w.heap.size,0,ν⟩) s.size cap) s.size (iH s.data.toList):=by
 refine⟨_,_,_,run_bytes_of_string w src dst e s hs hd X,?_⟩;have V:=grownCap_ge w s.size 0 e;refine Row.made w 1 e _ _ _ _ _ (by simp[iH]) ?_ V (cZ w _ _ _ U) (.inr (Nat.le_refl _)) ?_
 ·simp[bytesRow];omega
 ·intro j u Z;have Y:j<s.data.size:=by
   have:=(aI.1 Z).1;simpa[iH]using this
  rw[bytesRow_at s _ j Y];rw[xy _ j (by simpa using Y)]at Z;simpa using Z
theorem Row.back {l:List UInt8} (h:Row w 1 v n (iH l))(src dst e:dW)(hs:P.underlying src=μ (.slice e))(Z:P.underlying e=μ (.int .u8))(hd:P.underlying dst=μ .string):
 (convert src dst v).run P w=.ok (.string ⟨l.toArray⟩) w:=by
 have Y:l.length=n:=by have:=h.1;simpa[iH]using this
 rcases h.2 with⟨rfl,rfl⟩|⟨g,cap,rfl,hg,rA,Lb,hcell,BD⟩
 ·have:l=[] :=aH Y;subst this;rw[run_convert_bytes_string w src dst e _ _ _ hs Z hd];simp[Conv.bytesToString];rfl
 ·subst Y;exact dC w src dst e ⟨g,0,ν⟩ cap l hs Z hd λj X=>by rw[add_plain];exact hcell j _ (xy l j X)
end
theorem fY {b:dR} (h:eh w a)(k:eh a b):eh w b:=h.trans (k.mono h.size)
theorem below_drewN(h:ew B w a)(n:Nat):ew B w (a.drewN n):=⟨h.os,h.tape,h.output,h.size,h.block⟩
theorem gN(w:dR)(o:Obj):eh w (w.alloc o):=(au _ _).alloc (Nat.le_refl _) _
def jb(k:Nat):dT:=if k=0 then η else .iface 128 (ι κ (k:Int))
abbrev jG:=Int×Int
def iU(w:dR)(a:Option dQ)(n:Nat)(os:List jG):Prop:=
 os.length=n/\(n=0 \/ ∃b off,a=μ ⟨b,off,ν⟩/\∀j (h:j<os.length),w.cell? ⟨b,off+j*2,ν⟩=μ (ι κ os[j].1)/\w.cell? ⟨b,off+j*2+1,ν⟩=μ (ι κ os[j].2))
theorem iU.below {a:Option dQ} {os:List jG} (h:iU w a n os)(hb:eh w w'):iU w' a n os:=by
 refine⟨h.1,?_⟩;rcases h.2 with Z|⟨b,off,rfl,Z⟩
 ·exact .inl Z
 ·refine .inr ⟨b,off,rfl,λj Y=> ?_⟩;obtain⟨c1,c2⟩:=Z j Y;exact⟨(hb.cell (af w _ c1)).trans c1,(hb.cell (af w _ c2)).trans c2⟩
theorem iU.drewN {w:dR} {a:Option dQ} {n:Nat} {os:List jG} (h:iU w a n os)(m:Nat):iU (w.drewN m) a n os:=h
theorem iU.nil(w:dR)(a:Option dQ):iU w a 0 [] :=⟨rfl,.inl rfl⟩
theorem iU.take {w:dR} {a:Option dQ} {n:Nat} {os:List jG} (h:iU w a n os)(k:Nat)(hk:k<=n):iU w a k (os.take k):=by
 refine⟨by simp[h.1];omega,?_⟩;rcases h.2 with Z|⟨b,off,rfl,Z⟩
 ·exact .inl dU
 ·refine .inr ⟨b,off,rfl,λj X=> ?_⟩;have Y:j<os.length:=by simp at X;omega
  have:=Z j Y;simpa using this
theorem lv {o:Oper} {a:Act} {K:Act->dR->Prop} {E:Prop}
 (M:o.guard=ν) (s x:Operand) (t:dW) (ho:o.op=.call {callee:=.builtin .append,args:= #[s,x],argTypes:= #[t,t] })
 (e:dW) (i:TypeInfo) (z:dT) (size bytes:Nat) (J:P.underlying t=μ (.slice e)) (hi:P.info? e=μ i) (y:i.zero=μ z)
 (qW:i.size=size) (zA:i.bytes=bytes) (La:z.cells.size=size) (qX:0<size)
 (v:dT) (n:Nat) (xs:List dT) (hs:a.eval s=v) (D:Row w size v n xs)
 (U:dQ) (m c:Nat) (news:List dT) (hx:a.eval x=σ (μ U) m c) (hl:news.length=m*size) (G:0<m) (CF:∀j u,news[j]? =μ u->w.cell? (U.add j)=μ u) (h1:∀u∈news,u.oneCell'=true)
 (V:n+m<=maxLen) (uY:(n+m)*bytes<=140737488355328)
 (h:∀Z X w',Row w' size (σ (μ ⟨Z,0,ν⟩) (n+m) X) (n+m) (xs++news)->w.grownBy w' v.ownBlock->(v.ownBlock=μ Z \/w.heap.size<=Z)->K (a.put o.dst (σ (μ ⟨Z,0,ν⟩) (n+m) X)) w'):
 if eG o (yielded ops a.tmps)=true then eA P o a w K Q else E:=by
 have A:eG o (yielded ops a.tmps)=true:=by simp[eG,M]
 rw[ag A];obtain⟨v',w',hr,T,h3,Y⟩:=rF (P:=P) w t o.type e i z size bytes J hi y qW zA La qX v n xs D U m c news hl G CF h1 V uY;unfold eA execOp;simp only[ho,resolve,invoke,builtin,Sem.run_bind,Sem.run_pure,eB,eD,eE,eF,hs,hx,hr];rcases T.2 with⟨_,hn⟩|⟨Z,X,rfl,_⟩
 ·omega
 ·refine h Z X w' T h3 ?_;rcases Y with Y|⟨k,Y,hk⟩
  ·exact .inl Y.symm
  ·simp[dV]at Y;subst Y;exact .inr hk
def iO(os:List jG):List dT:=os.flatMap λo=>[ι κ o.1,ι κ o.2]
theorem mH(os:List jG)(o:jG):iO (os++ [o])=iO os++ [ι κ o.1,ι κ o.2] :=by simp[iO]
theorem lz(os:List jG):(iO os).length=2*os.length:=by
 induction os with
 |nil=>rfl
 |cons o r ih=>simp only[iO,eH,eI,eM,eN]at ih⊢;omega
theorem tY:∀(os:List jG) (j:Nat) (h:j<os.length),(iO os)[j*2]? =μ (ι κ os[j].1)/\(iO os)[j*2+1]? =μ (ι κ os[j].2)
 |o::r,0,_=>by simp[iO]
 |o::r,j+1,h=>by
  have ih:=tY r j (by simpa using h);have Z:iO (o::r)=ι κ o.1::ι κ o.2::iO r:=by simp[iO]
  rw[Z,show(j+1)*2=j*2+1+1 by omega];exact ih
theorem Row.opts {os:List jG} (h:Row w 2 (σ ao k cp) k (iO os)):iU w ao k os:=by
 have hl:os.length=k:=by have:=h.1;rw[lz]at this;omega
 refine⟨hl,?_⟩;rcases h.2 with⟨_,T⟩|⟨g,cap,Z,_,_,_,hc,_⟩
 ·exact .inl T
 ·have X:ao=μ ⟨g,0,ν⟩:=by simp at Z;exact Z.1
  refine .inr ⟨g,0,X,λj U=> ?_⟩;obtain⟨V,Y⟩:=tY os j U;rw[Nat.zero_add];exact⟨hc _ _ V,hc _ _ Y⟩
theorem Row.Rm(h:Row w sz (σ ao k cp) k xs):k<=cp:=by
 rcases h.2 with⟨Z,hn⟩|⟨g,cap,Z,_,rA,_⟩
 ·omega
 ·simp at Z;omega
theorem lA(Z:eh w x)(X:x.grownBy w' v.ownBlock)(Y:∀j,v.ownBlock=μ j->w.heap.size<=j):eh w w':=
 Z.grown X Z.size Y
theorem nt(Z:v.ownBlock=μ g \/n<=g)(hs:B<=n)(Y:∀j,v.ownBlock=μ j->B<=j):B<=g:=by
 rcases Z with h|h
 ·exact Y g h
 ·exact Nat.le_trans hs h
theorem rG {u:dT} (Z:x.grownBy w' row)(Y:row≠μ b)(hc:x.cell? ⟨b,off,ν⟩=μ u):w'.cell? ⟨b,off,ν⟩=μ u:=
 (ai (a:=⟨b,off,ν⟩) (Z.block b (af x _ hc) (λe=>Y e.symm))).trans hc
theorem kj(h:B<=g)(Z:dV (σ (μ ⟨g,0,ν⟩) n cap)=μ j):B<=j:=by
 have:g=j:=by simpa[dV]using Z
 omega
theorem mP(Z:dV (σ ν 0 0)=μ j):B<=j:=by simp[dV]at Z
theorem nj(w:dR)(x y:dT)(t:dW)(g:Nat)(Z:w.heap.size=g):∀(j:Nat) (u:dT),[x,y][j]? =μ u->(w.alloc (γ #[x,y] t)).cell? ((⟨g,0,ν⟩:dQ).add j)=μ u:=by
 subst Z;exact oY w x y t
structure Made(w w':dR)(v:dT)(os:List jG):Prop where
 row:Row w' 2 v os.length (iO os)
 new:∀j,v.ownBlock=μ j->w.heap.size<=j
 below:eh w w'
theorem IL(os:List jG):∀u∈iO os,u.oneCell'=true:=by
 intro u Z;simp[iO]at Z;obtain⟨x,y,_,h⟩:=Z;rcases h with rfl|rfl<;>rfl
theorem iU.cells {os:List jG} (h:iU w (μ ⟨b,off,ν⟩) n os)(hn:0<n):∀(j:Nat) (u:dT),(iO os)[j]? =μ u->w.cell? ((⟨b,off,ν⟩:dQ).add j)=μ u:=by
 intro j u Z;rcases h.2 with h0|⟨b',agE,Y,hc⟩
 ·omega
 ·simp only[Option.some.injEq,Addr.mk.injEq]at Y;obtain⟨rfl,rfl,_⟩:=Y;have hj:j<2*os.length:=by have:=(aI.1 Z).1;rwa [lz]at this
  have X:j/2<os.length:=dU;obtain⟨g1,g2⟩:=tY os (j/2) X;obtain⟨c1,c2⟩:=hc (j/2) X;rw[mG];rcases Nat.mod_two_eq_zero_or_one j with V|V
  ·have e:j/2*2=j:=dU;rw[e]at g1 c1;rw[Z]at g1;rw[c1,g1]
  ·have e:j/2*2+1=j:=dU;rw[e]at g2;rw[Z]at g2;rw[show off+j/2*2+1=off+j by omega]at c2;rw[c2,g2]
def kt(a:Option dQ)(cap:Nat):Prop:=a=ν->cap=0
theorem Made.shape {os:List jG} (h:Made w w' v os):∃a cap,v=σ a os.length cap/\kt a cap/\os.length<=cap:=by
 rcases h.row.2 with⟨rfl,Z⟩|⟨g,cap,rfl,_,Y,_⟩
 ·rw[Z];exact⟨ν,0,rfl,λ_=>rfl,Nat.le_refl _⟩
 ·exact⟨μ ⟨g,0,ν⟩,cap,rfl,λh=>by simp at h,Y⟩
theorem Made.opts {w w':dR} {a:Option dQ} {n cap:Nat} {os:List jG} (h:Made w w' (σ a n cap) os):n=os.length/\iU w' a n os:=by
 have Y:n=os.length:=by
  rcases h.row.2 with⟨e,h0⟩|⟨g,cap,e,_⟩
  ·simp at e;omega
  ·simp at e;omega
 have Z:=h.row;rw[<-Y]at Z;exact⟨Y,Z.opts⟩
theorem Made.from {os:List jG} (h:Made x w' v os)(hb:eh w x):Made w w' v os:=
 ⟨h.row,λj Z=>Nat.le_trans hb.size (h.new j Z),fY hb h.below⟩
theorem iU.kept {a:Option dQ} {os:List jG} (h:iU w a n os)(hb:∀k,dV (σ a n cap)=μ k->w'.heap[k]? =w.heap[k]?):iU w' a n os:=by
 refine⟨h.1,?_⟩;rcases h.2 with Z|⟨b,off,rfl,Z⟩
 ·exact .inl Z
 ·refine .inr ⟨b,off,rfl,λj Y=> ?_⟩;have e:=hb b rfl;obtain⟨c1,c2⟩:=Z j Y;exact⟨(ai (a:=⟨b,off+j*2,ν⟩) e).trans c1,(ai (a:=⟨b,off+j*2+1,ν⟩) e).trans c2⟩
def tZ(a:Option dQ)(n:Nat):Option Nat:=if n=0 then ν else a.map (·.block)
theorem CG {a:Option dQ} (h:tZ a n=μ k):dV (σ a n cap)=μ k:=by
 unfold tZ at h;split at h
 ·cases h
 ·cases a with
  |none=>cases h
  |some x=>simpa[dV]using h
theorem iU.M9 {a:Option dQ} {os:List jG} (h:iU w a n os)(hb:∀k,tZ a n=μ k->w'.heap[k]? =w.heap[k]?):iU w' a n os:=by
 by_cases Z:n=0
 ·exact⟨h.1,.inl Z⟩
 ·refine h.kept (cap:=0) (λk Y=>hb k ?_);unfold tZ;rw[ae Z];cases a with
  |none=>cases Y
  |some x=>simpa[dV]using Y
def jc(w:dR)(B:Nat)(C:Array dT)(t:dW):Prop:=w.heap[B]? =μ (γ C t (0,0))
theorem jc.lt(h:jc w B C t):B<w.heap.size:=(aw.1 h).1
theorem jc.cell {w:dR} {B:Nat} {C:Array dT} {t:dW} (h:jc w B C t)(j:Nat):w.cell? ⟨B,j,ν⟩=C[j]? :=ax w B j C _ (0,0) h
theorem jc.frozen {w:dR} {B:Nat} {C:Array dT} {t:dW} (h:jc w B C t)(j:Nat):w.frozen? ⟨B,j,ν⟩=false:=bu w B j C _ h
theorem jc.set(h:jc w B C t)(j:Nat)(x:dT):jc (w.setCell ⟨B,j,ν⟩ x) B (C.setIfInBounds j x) t:=by
 unfold jc;rw[bD w B j C _ (0,0) x h];exact cz w B C _ _ (0,0) h
theorem jc.other {B':Nat} (h:jc w B C t)(Z:B≠B')(x:dT):jc (w.setCell ⟨B',j,ν⟩ x) B C t:=
 (aq _ _ _ B Z).trans h
theorem jc.keep(h:jc w B C t)(hb:w'.heap[B]? =w.heap[B]?):jc w' B C t:=hb.trans h
theorem jc.below(h:jc w B C t)(hb:eh w w'):jc w' B C t:=h.keep (hb.block B h.lt)
theorem jc.drewN {w:dR} {B:Nat} {C:Array dT} {t:dW} (h:jc w B C t)(n:Nat):jc (w.drewN n) B C t:=h
theorem jc.new(w:dR)(C:Array dT)(t:dW):jc (w.alloc (γ C t)) w.heap.size C t:=aW w _
theorem jc.IP(w:dR)(C:Array dT)(t:dW)(g:Nat)(Z:w.heap.size=g):jc (w.alloc (γ C t)) g C t:=by subst Z;exact jc.new w C t
theorem jt(h:ew B w a):ew B w a.drew:=⟨h.os,h.tape,h.output,h.size,h.block⟩
theorem nu(s:ByteArray)(k:Nat)(h:k<s.size):s.data.toList.getD k 0=s[k] :=by
 have Z:k<s.data.toList.length:=by simpa using h
 rw[a6,aA Z];rfl
theorem oc(h:a.grownBy w (μ b))(j:Nat)(v:dT):a.grownBy (w.setCell ⟨b,j,ν⟩ v) (μ b):=by
 have b1:ew 0 w (w.setCell ⟨b,j,ν⟩ v):=(au 0 w).setCell (Nat.zero_le _) _;exact⟨b1.os.trans h.os,b1.tape.trans h.tape,b1.output.trans h.output,Nat.le_trans h.size b1.size,λi hi Z=>(aq _ _ _ i (λe=>Z (by rw[e]))).trans (h.block i hi Z)⟩
theorem drewN_drewN(w:dR)(a b:Nat):(w.drewN a).drewN b=w.drewN (a+b):=by go_simp
def Ca {H:Type} (l:List (List UInt8)):eO H:=.agg (l.map λs=>.lit (.string s))
def CH {H:Type} (t:List (List (List UInt8))):eO H:=.agg (t.map Ca)
theorem GJ {enc:dW×dT->H} {zs:List (List UInt8)} 
 (J:P.underlying t=μ (.array n e)) (T:P.underlying e=μ .string) (G:P.cellsOf e=1) (Y:P.cellsOf t=n)
 (h:eP enc P w base sp held fuel t cs=μ (Ca zs,p)):cs=zs.map λz=>eu ⟨z.toArray⟩:=by
 cases fuel with
 |zero=>simp[eP]at h
 |succ fuel=>
  simp only[eP,J,G,Y,Nat.mul_one]at h;split at h
  ·rename_i hl
   obtain⟨xs,U,hx⟩:=Option.map_eq_some_iff.1 h;have V:xs.map (·.1)=zs.map λz=>(DataW.lit (.string z):eO H):=by
    have:=congrArg Prod.fst hx;simpa[Ca]using this
   have Oq:xs.length=n:=by simpa using eQ U
   have hzl:zs.length=n:=by
    have:=congrArg List.length V;simp at this;omega
   apply List.ext_getElem?;intro i;by_cases hi:i<n
   ·obtain⟨b,hb,hf⟩:=Lib.mapM_at U i i (by simp[hi]);obtain⟨z,hc,rfl,_⟩:=di T hf;have M:cs[i]? =μ (.string z):=by
     have:=congrArg (·[0]?) hc;simpa[List.getElem?_take,db]using this
    have Z:(xs.map (·.1))[i]? =μ (DataW.lit (.string z.data.toList):eO H):=by simp[hb]
    rw[V]at Z;simp only[eR,Option.map_eq_some_iff,DataW.lit.injEq,Lit.string.injEq]at Z;obtain⟨z',X,rfl⟩:=Z;simp[M,X]
   ·rw[dI dU,dI (by simp;omega)]
  ·cases h
theorem GK {enc:dW×dT->H} 
 (D:P.underlying t=μ (.array m r)) (G:P.underlying r=μ (.array n e)) (J:P.underlying e=μ .string) (A:P.cellsOf e=1) (Y:P.cellsOf r=n) (V:P.cellsOf t=m*n)
 (h:eP enc P w base sp held fuel t cs=μ (CH zs,p)):zs.length=m/\∀i row,zs[i]? =μ row->(cs.drop (i*n)).take n=row.map λz=>eu ⟨z.toArray⟩:=by
 cases fuel with
 |zero=>simp[eP]at h
 |succ fuel=>
  simp only[eP,D,Y,V]at h;split at h
  ·rename_i hl
   obtain⟨xs,M,hx⟩:=Option.map_eq_some_iff.1 h;have T:xs.map (·.1)=zs.map λz=>(Ca z:eO H):=by
    have:=congrArg Prod.fst hx;simpa[CH]using this
   have Oq:xs.length=m:=by simpa using eQ M
   have Z:zs.length=m:=by
    have:=congrArg List.length T;simp at this;omega
   refine⟨Z,λi row U=> ?_⟩;have hi:i<m:=by rw[<-Z];exact(aI.1 U).1
   obtain⟨b,hb,hf⟩:=Lib.mapM_at M i i (by simp[hi]);have X:(xs.map (·.1))[i]? =μ b.1:=by simp[hb]
   rw[T]at X;simp only[eR,U,Option.map_some,Option.some.injEq]at X;obtain⟨b1,b2⟩:=b;simp only at X;subst X;exact GJ G J A Y hf
  ·cases h
theorem GL {W:dR} {name:String} {rest:List (String×eO Unit)} 
 (T:P.globalNamed name=μ g) (hty:(P.globals[g]?).map (·.type)=μ t) (A:P.underlying t=μ (.array m r)) (J:P.underlying r=μ (.array n e)) (M:P.underlying e=μ .string) (Cb:P.cellsOf e=1) (V:P.cellsOf r=n) (Y:P.cellsOf t=m*n)
 (h:laidMet P ((name,CH zs)::rest) W):∀i row j z,zs[i]? =μ row->row[j]? =μ z->j<n->W.cell? ⟨g,i*n+j,ν⟩=μ (.string ⟨z.toArray⟩):=by
 obtain⟨ps,⟨g',t',cs,fuel,p,q,u,Z,X,hd,_,_⟩,_⟩:=h;obtain rfl:=Option.some.inj (T.symm.trans u);obtain rfl:=Option.some.inj (hty.symm.trans Z);intro i row j z hi y D;have G:=(GK A J M Cb V Y hd).2 i row hi;rw[World.var?_cell T X];have U:((cs.toList.drop (i*n)).take n)[j]? =μ (eu ⟨z.toArray⟩):=by rw[G];simp[y]
 rw[List.getElem?_take_of_lt D,db]at U;simpa using U
def BF:List (List (List UInt8)):=[
 [[50],[105,114,54],[45],[45],[45],[45],[45],[45],[45],[45]],
 [[45],[45],[48],[115,49],[48],[49],[49],[49],[49],[100,49]],
 [[115,49],[49],[105,114,54],[51],[53],[53],[54],[55],[56],[57]],
 [[48],[102,48],[50],[50],[52],[52],[105,116,52],[105,116,52],[105,116,52],[100,105,116,52]],
 [[45],[45],[45],[45],[116,52],[116,53],[114,54],[114,54],[114,56],[45]],
 [[45],[45],[45],[45],[102,50],[102,51],[102,51],[102,51],[102,51],[45]],
 [[45],[45],[107,50],[105,114,97,56],[52],[53],[97,56],[97,117,57],[97,56],[100,114,97,56]],
 [[45],[45],[107,50],[105,114,110,54],[52],[53],[110,54],[110,55],[110,54],[100,114,110,54]],
 [[45],[45],[107,50],[107,51],[52],[53],[105,55],[114,54],[105,117,57],[100,114,54]],
 [[45],[45],[107,50],[107,51],[52],[53],[105,114,54],[114,54],[105,114,56],[100,114,54]],
 [[45],[45],[107,50],[107,51],[107,52],[107,53],[107,54],[107,54],[107,54],[100,122,107,53]],
 [[45],[45],[50],[51],[102,50],[102,51],[54],[54],[56],[100,114,54]]]
def oo(s e:Nat):List UInt8:=(BF.getD e []).getD s []
def kV(s e:Nat):List UInt8×Int×Nat:=
 if oo s e=[45]then([],0,7)else((oo s e).dropLast,(((oo s e).getLastD 0).toNat:Int)-48,0)
def ja(s e:Int):List UInt8×Int×Nat:=
 if s<0 \/10<=s \/e<0 \/12<=e then([],0,1)else kV s.toNat e.toNat
def iV(w:dR):Prop:=∀e s,e<12->s<10->w.cell? ⟨0,e*10+s,ν⟩=μ (.string ⟨(oo s e).toArray⟩)
theorem iV.below(h:iV w)(hb:eh w w'):iV w':=λe s Z hs=>
 (hb.cell (af w _ (h e s Z hs))).trans (h e s Z hs)
theorem iV.lt(h:iV w):0<w.heap.size:=af w _ (h 0 0 dX dX)
theorem mQ(s e:Nat)(hs:s<10)(he:e<12):ja s e=kV s e:=by
 unfold ja;rw[ae dU];rfl
theorem Ro:∀e,e<12->∀s,s<10->1<=(oo s e).length/\(oo s e).length<=5/\(48<=((oo s e).getLastD 0).toNat/\((oo s e).getLastD 0).toNat<=57 \/oo s e=[45]):=by decide+kernel
theorem Ot(s:Int)(w:dR):eT eU 195 #[ι κ s] w λe w'=>e=ρ (.bool (decide (4<=s)&&decide (s<=8)))/\w=w':=by
 by_cases Y:4<=s
 ·have Z:decide (4<=s)=true:=by simp[Y]
  rw[Z,Bool.true_and];clear Z
  go_in
  go_wp2
  go_ret;exact⟨rfl,rfl⟩
 ·have Z:decide (4<=s)=false:=by simp[Y]
  rw[Z,Bool.false_and];clear Z
  go_in
  go_wp2
  go_ret;exact⟨rfl,rfl⟩
theorem Rq(s e:Int)(w:dR)(h:s<0 \/10<=s \/e<0 \/12<=e):eT eU 207 #[ι κ s,ι κ e] w λx w'=>x=ρ (τ #[.string ⟨#[]⟩,ι κ 0,jb 1])/\w=w':=by
 have Z:jb 1=.iface 128 (ι κ 1):=rfl;rw[Z];clear Z;by_cases h0:s<0
 ·clear h
  go_in
  go_wp2
  go_ret3
  exact⟨rfl,rfl⟩
 ·by_cases h1:10<=s
  ·clear h
   go_in
   go_wp2
   go_ret3
   exact⟨rfl,rfl⟩
  ·by_cases h2:e<0
   ·clear h
    go_in
    go_wp2
    go_ret3
    exact⟨rfl,rfl⟩
   ·have h3:12<=e:=dU;clear h
    go_in
    go_wp2
    go_ret3
    exact⟨rfl,rfl⟩
theorem Ou(s e:Nat)(S:ByteArray)(w:dR)(hs:s<10)(he:e<12)(hc:w.cell? ⟨0,e*10+s,ν⟩=μ (.string S))(hS:(S.toList==[45])=true):
 eT eU 207 #[ι κ s,ι κ e] w λx w'=>x=ρ (τ #[.string ⟨#[]⟩,ι κ 0,jb 7])/\w=w':=by
 have Z:jb 7=.iface 128 (ι κ 7):=rfl;have h0:¬(s:Int)<0:=dU;have h1:¬(10:Int)<=s:=dU;have h2:¬(e:Int)<0:=dU;have h3:¬(12:Int)<=e:=dU;have h4:(s:Int)<10:=dU;have h5:(e:Int)<12:=dU;have h6:0<w.heap.size:=af w _ hc;rw[Z];clear Z
 go_in
 go_wp2
 go_ret3
 exact⟨rfl,rfl⟩
theorem Ov(s e:Nat)(S:ByteArray)(w:dR)(hs:s<10)(he:e<12)(hc:w.cell? ⟨0,e*10+s,ν⟩=μ (.string S))(hS:(S.toList==[45])=false)(n:Nat)(hl:S.size=n+1)(hn:n<=4)(d:Nat)(hd:(S[n]).toNat=48+d)(hd9:d<=9):
 eT eU 207 #[ι κ s,ι κ e] w λx w'=>x=ρ (τ #[.string (S.extract 0 n),ι κ (d:Int),η])/\∃m,w'=w.drewN m:=by
 have h0:¬(s:Int)<0:=dU;have h1:¬(10:Int)<=s:=dU;have h2:¬(e:Int)<0:=dU;have h3:¬(12:Int)<=e:=dU;have h4:(s:Int)<10:=dU;have h5:(e:Int)<12:=dU;have h6:0<w.heap.size:=af w _ hc;have h7:wrap64 ((S.size:Int)-1)=n:=by unfold wrap64;omega
 have h8:((0:Int)<=(n:Int)):=dU;have h9:((n:Int)<=(S.size:Int)):=dU;have h10:((n:Int)<(S.size:Int)):=dU
 go_in
 go_wp2
 go_quiet(fail)
 go_wp2
 go_ret3
 refine⟨?_,_,rfl⟩;rw[show(48:Int)+(d:Int)-48=d by omega];rfl
theorem Ow:∀e,e<12->∀s,s<10->oo s e≠ [45]->((⟨(oo s e).toArray⟩:ByteArray).extract 0 ((oo s e).length-1)=⟨(oo s e).dropLast.toArray⟩)/\((oo s e).getD ((oo s e).length-1) 0=(oo s e).getLastD 0):=by decide+kernel
theorem Rr(s e:Int)(w:dR)(h:iV w):eT eU 207 #[ι κ s,ι κ e] w λx w'=>
 x=ρ (τ #[.string ⟨(ja s e).1.toArray⟩,ι κ (ja s e).2.1,jb (ja s e).2.2])/\∃m,w'=w.drewN m:=by
 by_cases X:s<0 \/10<=s \/e<0 \/12<=e
 ·refine(Rq s e w X).mono ?_;rintro x w' ⟨rfl,rfl⟩;have hv:ja s e=([],0,1):=by unfold ja;rw[ag X]
  rw[hv];exact⟨rfl,0,rfl⟩
 ·obtain⟨s',rfl⟩:∃s':Nat,s=s':=⟨s.toNat,dU⟩
  obtain⟨e',rfl⟩:∃e':Nat,e=e':=⟨e.toNat,dU⟩
  have hs:s'<10:=dU;have Z:e'<12:=dU;rw[mQ s' e' hs Z];have hc:=h e' s' Z hs;obtain⟨l1,l2,V⟩:=Ro e' Z s' hs;by_cases Y:oo s' e'=[45]
  ·refine(Ou s' e' _ w hs Z hc (by rw[Y];decide+kernel)).mono ?_;rintro x w' ⟨rfl,rfl⟩;have hv:kV s' e'=([],0,7):=by unfold kV;rw[ag Y]
   rw[hv];exact⟨rfl,0,rfl⟩
  ·obtain⟨c1,c2⟩:=Ow e' Z s' hs Y;have l4:=V.resolve_right Y;have hv:kV s' e'=((oo s' e').dropLast,(((oo s' e').getLastD 0).toNat:Int)-48,0):=by unfold kV;rw[ae Y]
   rw[hv];clear hv;generalize oo s' e'=L at*;have T:(⟨L.toArray⟩:ByteArray).size=(L.length-1)+1:=by show L.toArray.size=_;simp;omega
   refine(Ov s' e' ⟨L.toArray⟩ w hs Z hc ?_ (L.length-1) T dU ((L.getLastD 0).toNat-48) ?_ dU).mono ?_
   ·rw[cL];intro hb;apply Y;rw[<-hb];simp[ByteArray.toList_eq]
   ·rw[<-c2];show(L.toArray[L.length-1]'_).toNat=_;rw[List.getElem_toArray,a6,aA dU];rw[a6,aA dU]at c2;simp only[Option.getD_some]at c2⊢;rw[c2];omega
   ·rintro x w' ⟨rfl,m,rfl⟩;refine⟨?_,m,rfl⟩;rw[c1];have U:(((L.getLastD 0).toNat-48:Nat):Int)=((L.getLastD 0).toNat:Int)-48:=dU;rw[U];rfl
theorem GM(s e:Int)(D:List UInt8)(nx:Int)(f:Nat)(Z:ja s e=(D,nx,f))(w:dR)(h:iV w):
 eT eU 207 #[ι κ s,ι κ e] w λx w'=>x=ρ (τ #[.string ⟨D.toArray⟩,ι κ nx,jb f])/\∃m,w'=w.drewN m:=by
 have:=Rr s e w h;rw[Z]at this;exact this
theorem Cc:(eU.info? 276).map (λi=>(i.zero,i.size,i.bytes))=μ (μ (.agg #[ι κ 0,ι κ 0]),2,16):=gL
theorem yu(w:dR):(zeroValue 252).run eU w=.ok (.agg #[ι κ 0,ι κ 0]) w:=gL
def nL(sz mg:Int):List jG:=(if 0<sz then [(1,sz)]else [])++(if 0<mg then [(5,mg)]else [])
def IQ(o:jG):Bool:= !(o.1==1)&& !(o.1==5)
def sK(l:List jG):List jG:=l.filter IQ
def wO(mg:Int)(o:jG):List jG:=
 if o.1=1/\o.2<40 then [(1,40)]else if o.1=5/\(o.2=0 \/o.2=mg)then [(5,mg%255+1)]else []
def qA(mg:Int)(l:List jG):List jG:=l.flatMap (wO mg)
def lM(mg:Int)(l:List jG):Int×List jG:=if sK l≠ []then(4,sK l)else if qA mg l≠ []then(3,qA mg l)else(2,l)
def jW(code:Int)(p:Int×Int)(o:jG):Int×Int:=
 if code=4 then(if o.1=1 then(0,p.2)else if o.1=5 then(p.1,0)else p)
 else if code=3 then(if o.1=1/\0<p.1/\40<=o.2 then(o.2,p.2)else if o.1=5/\0<p.2/\0<o.2 then(p.1,o.2)else p)
 else p
def oC(code:Int)(l:List jG)(p:Int×Int):Int×Int:=l.foldl (jW code) p
theorem Y1(sz mg:Int)(w:dR)(h1:¬sz<40)(h2:¬255<sz)(h3:¬mg<1)(h4:¬255<mg):
 eT eU 170 #[ι κ sz,ι κ mg] w λe w'=>e=ρ (τ #[.agg #[ι κ sz,ι κ mg],η])/\eh w w':=by
 have hz:=yu;have hb:eh w (w.alloc (γ #[ι κ sz,ι κ mg] 252)):=gN _ _
 go_in
 go_wp2
 refine aE (v:=τ #[.agg #[ι κ sz,ι κ mg],η]) (by simp[results,results170,go_sem]) rfl ?_;exact⟨rfl,hb⟩
theorem IU(sz mg:Int)(w:dR):eT eU 224 #[.agg #[ι κ sz,ι κ mg]] w λe w'=>∃v,e=ρ v/\Made w w' v (nL sz mg):=by
 obtain⟨i0,hi,u,D,A⟩:=aY Cc;have V:eh w (w.alloc (γ #[ι κ sz,ι κ mg] 252)):=gN _ _;have hA:=λj=>aj w #[ι κ sz,ι κ mg] 252 (0,0) j;by_cases h:0<sz
 ·by_cases G:0<mg
  ·have T:nL sz mg=[(1,sz)] ++ [(5,mg)] :=by simp[nL,h,G]
   rw[T]
   go_in
   go_wp2_with(at_builtin;go_must(refine iB _ rfl (.tmp 7) (.tmp 11) 35 rfl 276 i0 (.agg #[ι κ 0,ι κ 0]) 2 16 underlying35 hi u D A rfl dX (σ ν 0 0) 0 (iO []) rfl (Row.nil _ 2) _ 1 1 [ι κ 1,ι κ sz] rfl rfl dX (nj _ _ _ _ _ gO) (lF _ _ _ _) dX dX ?_));intro g1 y w1 U Y X;have M:=lA (V.alloc V.size _) Y (λj Z=>mP Z);have J:=nt (B:=w.heap.size) X dU (λj Z=>mP Z);have xA:w1.cell? ⟨w.heap.size,1,ν⟩=μ (ι κ mg):=by
    exact rG Y (by simp[dV]) (((gN _ _).cell (p:=⟨w.heap.size,1,ν⟩) gO).trans (hA 1))
   have Ox:w.heap.size<w1.heap.size:=af w1 _ xA;rw[show([] :List jG)=[]from rfl]at U;have agG:Row w1 2 (σ (μ ⟨g1,0,ν⟩) 1 y) 1 (iO [(1,sz)]):=U;clear Y X U;go_wp2_with(at_builtin;go_must(refine iB _ rfl (.tmp 16) (.tmp 20) 35 rfl 276 i0 (.agg #[ι κ 0,ι κ 0]) 2 16 underlying35 hi u D A rfl dX (σ (μ ⟨g1,0,ν⟩) 1 y) 1 (iO [(1,sz)]) rfl (agG.alloc _) _ 1 1 [ι κ 5,ι κ mg] rfl rfl dX (nj _ _ _ _ _ gO) (lF _ _ _ _) dX dX ?_));intro g2 cap2 w2 rB AH kI;have lN:=lA (M.alloc M.size _) AH (λj Z=>kj J Z);have uU:=nt (B:=w.heap.size) kI (by have:=M.size;omega) (λj Z=>kj J Z);clear AH kI
   go_wp2
   go_ret;exact⟨_,rfl,⟨rB,λj Z=>kj uU Z,lN⟩⟩
  ·have T:nL sz mg=[(1,sz)] :=by simp[nL,h,G]
   rw[T]
   go_in
   go_wp2_with(at_builtin;go_must(refine iB _ rfl (.tmp 7) (.tmp 11) 35 rfl 276 i0 (.agg #[ι κ 0,ι κ 0]) 2 16 underlying35 hi u D A rfl dX (σ ν 0 0) 0 (iO []) rfl (Row.nil _ 2) _ 1 1 [ι κ 1,ι κ sz] rfl rfl dX (nj _ _ _ _ _ gO) (lF _ _ _ _) dX dX ?_));intro g1 y w1 U Y X;have M:=lA (V.alloc V.size _) Y (λj Z=>mP Z);have J:=nt (B:=w.heap.size) X dU (λj Z=>mP Z);have xA:w1.cell? ⟨w.heap.size,1,ν⟩=μ (ι κ mg):=by
    exact rG Y (by simp[dV]) (((gN _ _).cell (p:=⟨w.heap.size,1,ν⟩) gO).trans (hA 1))
   have Ox:w.heap.size<w1.heap.size:=af w1 _ xA;clear Y X
   go_wp2
   go_ret;exact⟨_,rfl,⟨U,λj Z=>kj J Z,M⟩⟩
 ·by_cases G:0<mg
  ·have T:nL sz mg=[(5,mg)] :=by simp[nL,h,G]
   rw[T]
   go_in
   go_wp2_with(at_builtin;go_must(refine iB _ rfl (.tmp 16) (.tmp 20) 35 rfl 276 i0 (.agg #[ι κ 0,ι κ 0]) 2 16 underlying35 hi u D A rfl dX (σ ν 0 0) 0 (iO []) rfl (Row.nil _ 2) _ 1 1 [ι κ 5,ι κ mg] rfl rfl dX (nj _ _ _ _ _ gO) (lF _ _ _ _) dX dX ?_));intro g1 y w1 U Y X;have M:=lA (V.alloc V.size _) Y (λj Z=>mP Z);have J:=nt (B:=w.heap.size) X dU (λj Z=>mP Z);clear Y X
   go_wp2
   go_ret;exact⟨_,rfl,⟨U,λj Z=>kj J Z,M⟩⟩
  ·have T:nL sz mg=[] :=by simp[nL,h,G]
   rw[T]
   go_in
   go_wp2
   go_ret;exact⟨_,rfl,⟨Row.nil _ 2,λj Z=>mP Z,V⟩⟩
theorem AJ(a:Option dQ)(n cap:Nat)(os:List jG)(w:dR)(hn:n<=1000000)(G:iU w a n os):
 eT eU 244 #[σ a n cap] w λe w'=>∃v,e=ρ v/\Made w w' v (sK os):=by
 obtain⟨i0,hi,od,mK,mL⟩:=aY Cc
 go_in
 go_wp2
 go_loopw [3,8] (λout i wr=>∃(k:Nat) (ao:Option dQ) (m cp:Nat),k<=n/\out=σ ao m cp/\i=ι κ k/\m<=k/\Row wr 2 (σ ao m cp) m (iO (sK (os.take k)))/\(∀j,dV (σ ao m cp)=μ j->w.heap.size<=j)/\eh w wr) (λ_ i _=>n-(eV i).toNat)
 case atStart=>exact⟨0,ν,0,0,Nat.zero_le _,rfl,rfl,Nat.le_refl _,by simpa[sK,iO]using Row.nil w 2,λj J=>mP J,au _ _⟩
 case round=>
  obtain⟨k,ao,m,cp,hk,rfl,rfl,XM,Y,X,Z⟩:=hrel;by_cases ka:k<n
  ·have zB:=G.below Z;rcases zB.2 with h0|⟨b,off,rfl,hc⟩
   ·omega
   have h:k<os.length:=by rw[G.1];exact ka
   obtain⟨c1,c2⟩:=hc k h;have M:Hid (os.take (k+1)=os.take k++ [os[k]]):=ay h;generalize os[k] =o at c1 c2 M;clear hc;have m8:(k:Int)<(n:Int):=dU;cases q1:(o.1==1)
   ·cases T:(o.1==5)
    ·have A:(o.1 !=1)=true:=by simp[bne,q1]
     have p5:(o.1 !=5)=true:=by simp[bne,T]
     have V:Hid (sK (os.take (k+1))=sK (os.take k)++ [o]):=by
      show _=_;rw[M.out,sK,ch];simp[IQ,q1,T];rfl
     go_wp2_with(at_builtin;go_must(refine iB _ rfl (.tmp 20) (.tmp 22) 35 rfl 276 i0 (.agg #[ι κ 0,ι κ 0]) 2 16 underlying35 hi od mK mL rfl dX (σ ao m cp) m (iO (sK (os.take k))) rfl ((Y.alloc _).alloc _) _ 1 1 [ι κ o.1,ι κ o.2] rfl rfl dX (nj _ _ _ _ _ gO) (lF _ _ _ _) (by unfold maxLen;omega) dU ?_));intro g' jn w1 y D u;have U:=lA ((Z.alloc Z.size _).alloc (by simp;have:=Z.size;omega) _) D X;have l9:=nt (B:=w.heap.size) u (by have:=Z.size;omega) X;rw[<-mH,<-V.out]at y;clear D u
     go_wp2
     go_roundw
     case rel=>exact⟨k+1,_,m+1,jn,dU,rfl,by go_num,dU,y,λj J=>kj l9 J,U⟩
     case measure=>simp[eV];omega
    ·have A:(o.1 !=1)=true:=by simp[bne,q1]
     have p5:(o.1 !=5)=false:=by simp[bne,T]
     have V:Hid (sK (os.take (k+1))=sK (os.take k)):=by
      show _=_;rw[M.out,sK,ch];simp[IQ,q1,T];rfl
     have U:=Z.alloc Z.size (γ #[ι κ o.1,ι κ o.2] 276)
     go_wp2
     go_roundw
     case rel=>exact⟨k+1,_,m,cp,dU,rfl,by go_num,dU,by rw[V.out];exact Y.alloc _,X,U⟩
     case measure=>simp[eV];omega
   ·have A:(o.1 !=1)=false:=by simp[bne,q1]
    have V:Hid (sK (os.take (k+1))=sK (os.take k)):=by
     show _=_;rw[M.out,sK,ch];simp[IQ,q1];rfl
    have U:=Z.alloc Z.size (γ #[ι κ o.1,ι κ o.2] 276)
    go_wp2
    go_roundw
    case rel=>exact⟨k+1,_,m,cp,dU,rfl,by go_num,dU,by rw[V.out];exact Y.alloc _,X,U⟩
    case measure=>simp[eV];omega
  ·have yv:os.take k=os:=aG (by rw[G.1];omega);rw[yv]at Y;have Oy:m=(sK os).length:=by have:=Y.1;rw[lz]at this;omega
   go_wp2
   go_ret;exact⟨_,rfl,⟨by rw[<-Oy];exact Y,X,Z⟩⟩
theorem Rs:(eU.info? 37).map (λi=>(i.zero,i.size,i.bytes))=μ (μ (.agg #[ι κ 0,ι κ 0,σ ν 0 0]),3,40):=gL
def Ru(fs fm ns nm qs qm st sz lf wt ow:Int)(v:dT):Array dT:= #[ι κ fs,ι κ fm,ι κ ns,ι κ nm,ι κ qs,ι κ qm,ι κ st,ι κ sz,ι κ lf,ι κ wt,ι κ ow,v]
def Lk(w:dR)(B:Nat)(C:Array dT):Prop:=w.heap[B]? =μ (γ C 254 (0,0))
theorem Lk.lt(h:Lk w B C):B<w.heap.size:=(aw.1 h).1
theorem Lk.cell {w:dR} {B:Nat} {C:Array dT} (h:Lk w B C)(j:Nat):w.cell? ⟨B,j,ν⟩=C[j]? :=ax w B j C _ (0,0) h
theorem Lk.frozen {w:dR} {B:Nat} {C:Array dT} (h:Lk w B C)(j:Nat):w.frozen? ⟨B,j,ν⟩=false:=bu w B j C _ h
theorem Lk.set(h:Lk w B C)(j:Nat)(x:dT):Lk (w.setCell ⟨B,j,ν⟩ x) B (C.setIfInBounds j x):=by
 unfold Lk;rw[bD w B j C _ (0,0) x h];exact cz w B C _ _ (0,0) h
theorem Lk.keep(h:Lk w B C)(hb:w'.heap[B]? =w.heap[B]?):Lk w' B C:=hb.trans h
theorem Lk.below(h:Lk w B C)(hb:eh w w'):Lk w' B C:=h.keep (hb.block B h.lt)
theorem Lk.drew {w:dR} {B:Nat} {C:Array dT} (h:Lk w B C):Lk w.drew B C:=h
theorem yx(w:dR)(x y z:dT)(t:dW)(g:Nat)(Y:w.heap.size=g):∀(j:Nat) (u:dT),[x,y,z][j]? =μ u->(w.alloc (γ #[x,y,z] t)).drew.cell? ((⟨g,0,ν⟩:dQ).add j)=μ u:=by
 subst Y;intro j u Z;show(w.alloc (γ #[x,y,z] t)).cell? _=_;rw[add_plain,aj];simpa using Z
theorem Rv(x y:Int)(a:Option dQ)(n c:Nat):∀u∈ [dY .i64 x,dY .i64 y,Value.slice a n c],u.oneCell'=true:=by simp[dZ]
theorem oN(h:a.grownBy w (μ b))(j:Nat)(v:dT):a.grownBy (w.setCell ⟨b,j,ν⟩ v) (μ b):=by
 have b1:ew 0 w (w.setCell ⟨b,j,ν⟩ v):=(au 0 w).setCell (Nat.zero_le _) _;exact⟨b1.os.trans h.os,b1.tape.trans h.tape,b1.output.trans h.output,Nat.le_trans h.size b1.size,λi hi Z=>(aq _ _ _ i (λe=>Z (by rw[e]))).trans (h.block i hi Z)⟩
theorem rH(B:Nat)(h:eh w x):w.grownBy x (μ B):=⟨h.os,h.tape,h.output,h.size,λi hi _=>h.block i hi⟩
theorem AK {b c:dR} (h:a.grownBy b (μ B))(k:b.grownBy c (μ B)):a.grownBy c (μ B):=
 ⟨k.os.trans h.os,k.tape.trans h.tape,k.output.trans h.output,Nat.le_trans h.size k.size,λi hi Z=>(k.block i (Nat.lt_of_lt_of_le hi h.size) Z).trans (h.block i hi Z)⟩
theorem IV(sz mg k:Int)(w:dR):eT eU 247 #[.agg #[ι κ sz,ι κ mg],ι κ k] w λe w'=>
 e=ρ (.agg #[ι κ (jW 4 (sz,mg) (k,0)).1,ι κ (jW 4 (sz,mg) (k,0)).2])/\eh w w':=by
 have hz:=yu;have hb:∀A B:Array dT,eh w ((w.alloc (γ A 252)).alloc (γ B 252)):=λA B=>(gN _ _).alloc gO _;cases q1:(k==1)
 ·cases Z:(k==5)
  ·have hv:jW 4 (sz,mg) (k,0)=(sz,mg):=by simp at q1 Z;simp[jW,q1,Z]
   rw[hv];clear hv
   go_in
   go_wp2
   refine aE (v:=.agg #[ι κ sz,ι κ mg]) (by simp[results,results247,go_sem]) rfl ?_;exact⟨rfl,hb _ _⟩
  ·have hv:jW 4 (sz,mg) (k,0)=(sz,0):=by simp at q1 Z;simp[jW,Z]
   rw[hv];clear hv
   go_in
   go_wp2
   refine aE (v:=.agg #[ι κ sz,ι κ 0]) (by simp[results,results247,go_sem]) rfl ?_;exact⟨rfl,hb _ _⟩
 ·have hv:jW 4 (sz,mg) (k,0)=(0,mg):=by simp at q1;simp[jW,q1]
  rw[hv];clear hv
  go_in
  go_wp2
  refine aE (v:=.agg #[ι κ 0,ι κ mg]) (by simp[results,results247,go_sem]) rfl ?_;exact⟨rfl,hb _ _⟩
theorem Rw(sz mg k n:Int)(w:dR):eT eU 248 #[.agg #[ι κ sz,ι κ mg],.agg #[ι κ k,ι κ n]] w λe w'=>
 e=ρ (.agg #[ι κ (jW 3 (sz,mg) (k,n)).1,ι κ (jW 3 (sz,mg) (k,n)).2])/\eh w w':=by
 have hz:=yu;have hb:∀(A B C:Array dT) (t u v:dW),eh w (((w.alloc (γ A t)).alloc (γ B u)).alloc (γ C v)):=λA B C t u v=>((gN _ _).alloc gO _).alloc (by simp;omega) _;have fin:∀(s m:Int),jW 3 (sz,mg) (k,n)=(s,m)->((jW 3 (sz,mg) (k,n)).1=s/\(jW 3 (sz,mg) (k,n)).2=m):=λs m h=>by rw[h];exact⟨rfl,rfl⟩
 cases q1:(k==1)
 ·cases Z:(k==5)
  ·have hv:jW 3 (sz,mg) (k,n)=(sz,mg):=by simp at q1 Z;simp[jW,q1,Z]
   rw[hv];clear hv fin
   go_in
   go_wp2
   refine aE (v:=.agg #[ι κ sz,ι κ mg]) (by simp[results,results248,go_sem]) rfl ?_;exact⟨rfl,hb _ _ _ _ _ _⟩
  ·by_cases X:0<mg
   ·by_cases Y:0<n
    ·have hv:jW 3 (sz,mg) (k,n)=(sz,n):=by simp at q1 Z;simp[jW,Z,X,Y]
     rw[hv];clear hv fin
     go_in
     go_wp2
     refine aE (v:=.agg #[ι κ sz,ι κ n]) (by simp[results,results248,go_sem]) rfl ?_;exact⟨rfl,hb _ _ _ _ _ _⟩
    ·have hv:jW 3 (sz,mg) (k,n)=(sz,mg):=by simp at q1 Z;simp[jW,Z,Y]
     rw[hv];clear hv fin
     go_in
     go_wp2
     refine aE (v:=.agg #[ι κ sz,ι κ mg]) (by simp[results,results248,go_sem]) rfl ?_;exact⟨rfl,hb _ _ _ _ _ _⟩
   ·have hv:jW 3 (sz,mg) (k,n)=(sz,mg):=by simp at q1 Z;simp[jW,Z,X]
    rw[hv];clear hv fin
    go_in
    go_wp2
    refine aE (v:=.agg #[ι κ sz,ι κ mg]) (by simp[results,results248,go_sem]) rfl ?_;exact⟨rfl,hb _ _ _ _ _ _⟩
 ·have Z:(k==5)=false:=by simp at q1⊢;omega
  by_cases X:0<sz
  ·by_cases Y:40<=n
   ·have hv:jW 3 (sz,mg) (k,n)=(n,mg):=by simp at q1;simp[jW,q1,X,Y]
    rw[hv];clear hv fin
    go_in
    go_wp2
    refine aE (v:=.agg #[ι κ n,ι κ mg]) (by simp[results,results248,go_sem]) rfl ?_;exact⟨rfl,hb _ _ _ _ _ _⟩
   ·have hv:jW 3 (sz,mg) (k,n)=(sz,mg):=by simp at q1;simp[jW,q1,Y]
    rw[hv];clear hv fin
    go_in
    go_wp2
    refine aE (v:=.agg #[ι κ sz,ι κ mg]) (by simp[results,results248,go_sem]) rfl ?_;exact⟨rfl,hb _ _ _ _ _ _⟩
  ·have hv:jW 3 (sz,mg) (k,n)=(sz,mg):=by simp at q1;simp[jW,q1,X]
   rw[hv];clear hv fin
   go_in
   go_wp2
   refine aE (v:=.agg #[ι κ sz,ι κ mg]) (by simp[results,results248,go_sem]) rfl ?_;exact⟨rfl,hb _ _ _ _ _ _⟩
theorem CJ(sz mg:Int)(a:Option dQ)(n cap:Nat)(os:List jG)(w:dR)(KP:0<=mg)(Y2:mg<=255)(hn:n<=1000000)(ho:iU w a n os):
 eT eU 245 #[.agg #[ι κ sz,ι κ mg],σ a n cap] w λe w'=>∃v,e=ρ v/\Made w w' v (qA mg os):=by
 obtain⟨i0,hi,od,mK,mL⟩:=aY Cc;have oB:eh w (w.alloc (γ #[ι κ sz,ι κ mg] 252)):=gN _ _;have hA:=λj=>aj w #[ι κ sz,ι κ mg] 252 (0,0) j
 go_in
 go_wp2
 go_loopw [5,10] (λout i wr=>∃(k:Nat) (ao:Option dQ) (m cp:Nat),k<=n/\out=σ ao m cp/\i=ι κ k/\m<=k/\Row wr 2 (σ ao m cp) m (iO (qA mg (os.take k)))/\(∀j,dV (σ ao m cp)=μ j->w.heap.size+1<=j)/\wr.cell? ⟨w.heap.size,1,ν⟩=μ (ι κ mg)/\eh w wr) (λ_ i _=>n-(eV i).toNat)
 case atStart=>exact⟨0,ν,0,0,Nat.zero_le _,rfl,rfl,Nat.le_refl _,by simpa[qA,iO]using Row.nil _ 2,λj Z=>mP Z,hA 1,oB⟩
 case round=>
  obtain⟨k,ao,m,cp,hk,rfl,rfl,XM,U,V,hmc,iG⟩:=hrel;have Ox:w.heap.size<wr.heap.size:=af wr _ hmc;by_cases ka:k<n
  ·have zB:=ho.below iG;rcases zB.2 with h0|⟨b,off,rfl,hc⟩
   ·omega
   have pX:k<os.length:=by rw[ho.1];exact ka
   obtain⟨c1,c2⟩:=hc k pX;have HT:Hid (qA mg (os.take (k+1))=qA mg (os.take k)++wO mg os[k]):=by
    show _=_;rw[ay pX,qA,bZ,bT,List.flatMap_nil,aC];rfl
   generalize os[k] =o at c1 c2 HT;clear hc;have m8:(k:Int)<(n:Int):=dU;have M:=iG.alloc iG.size (γ #[ι κ o.1,ι κ o.2] 276);have A:(wr.alloc (γ #[ι κ o.1,ι κ o.2] 276)).cell? ⟨w.heap.size,1,ν⟩=μ (ι κ mg):=((gN _ _).cell (p:=⟨w.heap.size,1,ν⟩) Ox).trans hmc;have keep:wO mg o=[]->Hid (Row (wr.alloc (γ #[ι κ o.1,ι κ o.2] 276)) 2 (σ ao m cp) m (iO (qA mg (os.take (k+1))))):=λhe=>by
    show Row _ _ _ _ _;rw[HT.out,he,aC];exact U.alloc _
   cases q1:(o.1==1)
   ·cases T:(o.1==5)
    ·have X:=keep (by simp at q1 T;simp[wO,q1,T])
     go_wp2
     go_roundw
     case rel=>exact⟨k+1,_,m,cp,dU,rfl,by go_num,dU,X.out,V,A,M⟩
     case measure=>simp[eV];omega
    ·cases q6:(o.2==0)
     ·cases q7:(o.2==mg)
      ·have X:=keep (by simp at q1 T q6 q7;simp[wO,T,q6,q7])
       go_wp2
       go_roundw
       case rel=>exact⟨k+1,_,m,cp,dU,rfl,by go_num,dU,X.out,V,A,M⟩
       case measure=>simp[eV];omega
      ·have u:Hid (wO mg o=[(5,(mg%255+1))]):=by
        show _=_;simp at q1 T q6 q7;simp[wO,T,q7]
       go_wp2_with(at_builtin;go_must(refine iB _ rfl (.tmp 41) (.tmp 47) 35 rfl 276 i0 (.agg #[ι κ 0,ι κ 0]) 2 16 underlying35 hi od mK mL rfl dX (σ ao m cp) m (iO (qA mg (os.take k))) rfl ((U.alloc _).alloc _) _ 1 1 [ι κ 5,ι κ (mg%255+1)] rfl rfl dX (nj _ _ _ _ _ gO) (lF _ _ _ _) (by unfold maxLen;omega) dU ?_));intro g' G w1 X Y D;have lN:=lA (M.alloc M.size _) Y (λj Z=>by have:=V j Z;omega);have y:=nt (B:=w.heap.size+1) D dU V;have J:w1.cell? ⟨w.heap.size,1,ν⟩=μ (ι κ mg):=rG Y (λe=>by have:=V _ e;omega) (((gN _ _).cell (p:=⟨w.heap.size,1,ν⟩) (by simp;omega)).trans A);have GQ:w.heap.size<w1.heap.size:=af w1 _ J;have hcs:∀j,j<2->w1.cell? ⟨wr.heap.size,j,ν⟩=(wr.alloc (γ #[ι κ o.1,ι κ o.2] 276)).cell? ⟨wr.heap.size,j,ν⟩:=λj _=>by
        have e1:=ai (a:=⟨wr.heap.size,j,ν⟩) (Y.block wr.heap.size (by simp;omega) (λe=>by have:=U.lt _ e.symm;omega));exact e1.trans ((gN _ _).cell (p:=⟨wr.heap.size,j,ν⟩) gO)
       have d0:=(hcs 0 dX).trans (aj wr #[ι κ o.1,ι κ o.2] 276 (0,0) 0);have d1:=(hcs 1 dX).trans (aj wr #[ι κ o.1,ι κ o.2] 276 (0,0) 1);have Na:wr.heap.size<w1.heap.size:=af w1 _ d0;have h:Row w1 2 (σ (μ ⟨g',0,ν⟩) (m+1) G) (m+1) (iO (qA mg (os.take (k+1)))):=by
        rw[HT.out,u.out,mH];exact X
       clear Y D X hcs keep
       go_wp2
       go_roundw
       case rel=>exact⟨k+1,_,m+1,G,dU,rfl,by go_num,dU,h,λj Z=>kj y Z,J,lN⟩
       case measure=>simp[eV];omega
     ·have u:Hid (wO mg o=[(5,(mg%255+1))]):=by
       show _=_;simp at q1 T q6;simp[wO,T,q6]
      go_wp2_with(at_builtin;go_must(refine iB _ rfl (.tmp 41) (.tmp 47) 35 rfl 276 i0 (.agg #[ι κ 0,ι κ 0]) 2 16 underlying35 hi od mK mL rfl dX (σ ao m cp) m (iO (qA mg (os.take k))) rfl ((U.alloc _).alloc _) _ 1 1 [ι κ 5,ι κ (mg%255+1)] rfl rfl dX (nj _ _ _ _ _ gO) (lF _ _ _ _) (by unfold maxLen;omega) dU ?_));intro g' G w1 X Y D;have lN:=lA (M.alloc M.size _) Y (λj Z=>by have:=V j Z;omega);have y:=nt (B:=w.heap.size+1) D dU V;have J:w1.cell? ⟨w.heap.size,1,ν⟩=μ (ι κ mg):=rG Y (λe=>by have:=V _ e;omega) (((gN _ _).cell (p:=⟨w.heap.size,1,ν⟩) (by simp;omega)).trans A);have GQ:w.heap.size<w1.heap.size:=af w1 _ J;have hcs:∀j,j<2->w1.cell? ⟨wr.heap.size,j,ν⟩=(wr.alloc (γ #[ι κ o.1,ι κ o.2] 276)).cell? ⟨wr.heap.size,j,ν⟩:=λj _=>by
       have e1:=ai (a:=⟨wr.heap.size,j,ν⟩) (Y.block wr.heap.size (by simp;omega) (λe=>by have:=U.lt _ e.symm;omega));exact e1.trans ((gN _ _).cell (p:=⟨wr.heap.size,j,ν⟩) gO)
      have d0:=(hcs 0 dX).trans (aj wr #[ι κ o.1,ι κ o.2] 276 (0,0) 0);have d1:=(hcs 1 dX).trans (aj wr #[ι κ o.1,ι κ o.2] 276 (0,0) 1);have Na:wr.heap.size<w1.heap.size:=af w1 _ d0;have h:Row w1 2 (σ (μ ⟨g',0,ν⟩) (m+1) G) (m+1) (iO (qA mg (os.take (k+1)))):=by
       rw[HT.out,u.out,mH];exact X
      clear Y D X hcs keep
      go_wp2
      go_roundw
      case rel=>exact⟨k+1,_,m+1,G,dU,rfl,by go_num,dU,h,λj Z=>kj y Z,J,lN⟩
      case measure=>simp[eV];omega
   ·have T:(o.1==5)=false:=by simp at q1⊢;omega
    by_cases q2:o.2<40
    ·have u:Hid (wO mg o=[(1,40)]):=by
      show _=_;simp at q1;simp[wO,q1,q2]
     go_wp2_with(at_builtin;go_must(refine iB _ rfl (.tmp 22) (.tmp 24) 35 rfl 276 i0 (.agg #[ι κ 0,ι κ 0]) 2 16 underlying35 hi od mK mL rfl dX (σ ao m cp) m (iO (qA mg (os.take k))) rfl ((U.alloc _).alloc _) _ 1 1 [ι κ 1,ι κ 40] rfl rfl dX (nj _ _ _ _ _ gO) (lF _ _ _ _) (by unfold maxLen;omega) dU ?_));intro g' G w1 X Y D;have lN:=lA (M.alloc M.size _) Y (λj Z=>by have:=V j Z;omega);have y:=nt (B:=w.heap.size+1) D dU V;have J:w1.cell? ⟨w.heap.size,1,ν⟩=μ (ι κ mg):=rG Y (λe=>by have:=V _ e;omega) (((gN _ _).cell (p:=⟨w.heap.size,1,ν⟩) (by simp;omega)).trans A);have GQ:w.heap.size<w1.heap.size:=af w1 _ J;have hcs:∀j,j<2->w1.cell? ⟨wr.heap.size,j,ν⟩=(wr.alloc (γ #[ι κ o.1,ι κ o.2] 276)).cell? ⟨wr.heap.size,j,ν⟩:=λj _=>by
      have e1:=ai (a:=⟨wr.heap.size,j,ν⟩) (Y.block wr.heap.size (by simp;omega) (λe=>by have:=U.lt _ e.symm;omega));exact e1.trans ((gN _ _).cell (p:=⟨wr.heap.size,j,ν⟩) gO)
     have d0:=(hcs 0 dX).trans (aj wr #[ι κ o.1,ι κ o.2] 276 (0,0) 0);have d1:=(hcs 1 dX).trans (aj wr #[ι κ o.1,ι κ o.2] 276 (0,0) 1);have Na:wr.heap.size<w1.heap.size:=af w1 _ d0;have h:Row w1 2 (σ (μ ⟨g',0,ν⟩) (m+1) G) (m+1) (iO (qA mg (os.take (k+1)))):=by
      rw[HT.out,u.out,mH];exact X
     clear Y D X hcs keep
     go_wp2
     go_roundw
     case rel=>exact⟨k+1,_,m+1,G,dU,rfl,by go_num,dU,h,λj Z=>kj y Z,J,lN⟩
     case measure=>simp[eV];omega
    ·have X:=keep (by simp at q1;simp[wO,q1,q2])
     go_wp2
     go_roundw
     case rel=>exact⟨k+1,_,m,cp,dU,rfl,by go_num,dU,X.out,V,A,M⟩
     case measure=>simp[eV];omega
  ·have yv:os.take k=os:=aG (by rw[ho.1];omega);rw[yv]at U;have Oy:m=(qA mg os).length:=by have:=U.1;rw[lz]at this;omega
   go_wp2
   go_ret;exact⟨_,rfl,⟨by rw[<-Oy];exact U,λj Z=>by have:=V j Z;omega,iG⟩⟩
theorem not_nil(a:dQ)(n cap:Nat)(w:dR):(binOp .eql 35 (σ (μ a) n cap) (σ ν 0 0)).run eU w=.ok (.bool false) w:=gL
theorem Y3(w:dR):(binOp .eql 35 (σ ν 0 0) (σ ν 0 0)).run eU w=.ok (.bool true) w:=gL
theorem CK(a:dQ)(cap:Nat)(w:dR):
 eT eU 246 #[σ (μ a) 0 cap] w λe w'=>∃(v:dT),e=ρ v/\Made w w' v [] :=by
 have hq:=not_nil
 go_in
 go_wp2
 go_ret;exact⟨_,rfl,⟨Row.made w 2 _ #[] (0,0) 0 0 [] rfl rfl (Nat.le_refl _) dX (.inl rfl) gO,λj Z=>kj (Nat.le_refl _) Z,gN _ _⟩⟩
theorem OA(w:dR):
 eT eU 246 #[σ ν 0 0] w λe w'=>∃(v:dT),e=ρ v/\Made w w' v [] :=by
 have hq:=Y3
 go_in
 go_wp2
 go_ret;exact⟨_,rfl,⟨Row.nil w 2,λj Z=>mP Z,au _ _⟩⟩
theorem Lc(b off n cap:Nat)(os:List jG)(w:dR)(hn:n<=1000000)(Y:0<n)(X:iU w (μ ⟨b,off,ν⟩) n os):
 eT eU 246 #[σ (μ ⟨b,off,ν⟩) n cap] w λe w'=>∃(v:dT),e=ρ v/\Made w w' v os:=by
 obtain⟨i0,hi,D,J,A⟩:=aY Cc;have hq:=not_nil;have V:eh w (w.alloc (γ #[] 276)):=gN _ _;have hl:=X.1;have y:Row (w.alloc (γ #[] 276)) 2 (σ (μ ⟨w.heap.size,0,ν⟩) 0 0) 0 [] :=Row.made w 2 _ #[] (0,0) 0 0 [] rfl rfl (Nat.le_refl _) dX (.inl rfl) gO
 go_in
 go_wp2_with(at_builtin;go_must(refine iB _ rfl (.tmp 5) (.tmp 6) 35 rfl 276 i0 (.agg #[ι κ 0,ι κ 0]) 2 16 underlying35 hi D J A rfl dX (σ (μ ⟨w.heap.size,0,ν⟩) 0 0) 0 [] rfl y _ n cap (iO os) rfl (by rw[lz];omega) Y ((X.below V).cells Y) (IL _) (by unfold maxLen;omega) dU ?_));intro g1 BG w1 G T U;have u:=lA V T (λj Z=>kj (Nat.le_refl _) Z);have M:=nt (B:=w.heap.size) U dU (λj Z=>kj (Nat.le_refl _) Z);clear T U
 go_wp2
 go_ret;refine⟨_,rfl,⟨?_,λj Z=>kj M Z,u⟩⟩;rw[hl];exact G
theorem OB(a:Option dQ)(n cap:Nat)(os:List jG)(w:dR)(T:n<=1000000)(U:kt a cap)(Z:iU w a n os):
 eT eU 246 #[σ a n cap] w λe w'=>∃(v:dT),e=ρ v/\Made w w' v os:=by
 rcases Z.2 with X|⟨b,off,rfl,hc⟩
 ·subst X;have Y:os=[] :=aH Z.1;subst Y;cases a with
  |none=>
   obtain rfl:=U rfl;exact OA w
  |some a=>exact CK a cap w
 ·by_cases V:0<n
  ·exact Lc b off n cap os w T V Z
  ·have X:n=0:=dU;subst X;have Y:os=[] :=aH Z.1;subst Y;exact CK _ cap w
theorem Fg {w1:dR} {x y:dT} (hb:ew (w.alloc (γ #[x,y] t)).heap.size (w.alloc (γ #[x,y] t)) w1):
 w1.cell? ⟨w.heap.size,0,ν⟩=μ x/\w1.cell? ⟨w.heap.size,1,ν⟩=μ y/\w.heap.size<w1.heap.size:=by
 have Z:w.heap.size<(w.alloc (γ #[x,y] t)).heap.size:=gO;have hA:=λj=>aj w #[x,y] t (0,0) j;exact⟨(hb.cell (p:=⟨w.heap.size,0,ν⟩) Z).trans (hA 0),(hb.cell (p:=⟨w.heap.size,1,ν⟩) Z).trans (hA 1),Nat.lt_of_lt_of_le Z hb.size⟩
theorem Fh(sz mg:Int)(a:Option dQ)(n cap:Nat)(os:List jG)(w:dR)(KP:0<=mg)(y:mg<=255)(M:n<=1000000)(j5:kt a cap)(G:iU w a n os):
 eT eU 228 #[.agg #[ι κ sz,ι κ mg],σ a n cap] w λe w'=>∃v,e=ρ (τ #[ι κ (lM mg os).1,v])/\Made w w' v (lM mg os).2:=by
 have U:eh w (w.alloc (γ #[ι κ sz,ι κ mg] 252)):=gN _ _;have hA:=λj=>aj w #[ι κ sz,ι κ mg] 252 (0,0) j;by_cases T:sK os=[]
 ·have X:=AJ a n cap os _ M (G.below U);rw[T]at X;by_cases hb:qA mg os=[]
  ·have Y:lM mg os=(2,os):=by simp[lM,T,hb]
   rw[Y];clear Y
   go_in
   go_wp2_with(fail);refine X.mono ?_;rintro e w1 ⟨v,rfl,Z⟩;obtain⟨a1,u,rfl,_,_⟩:=Z.shape;obtain⟨c0,c1,hl⟩:=Fg Z.below;have J:=fY U Z.below;have V:=CJ sz mg a n cap os w1 KP y M (G.below J);rw[hb]at V;simp only[eN];clear X Z;go_wp2_with(fail);refine V.mono ?_;rintro e w2 ⟨v,rfl,Z⟩;obtain⟨a2,D,rfl,_,_⟩:=Z.shape;have lN:=fY J Z.below;simp only[eN];clear V Z;go_wp2_with(fail);refine(OB a n cap os w2 M j5 (G.below lN)).mono ?_;rintro e w3 ⟨v,rfl,Z⟩
   go_wp2
   go_ret2
   exact⟨_,rfl,Z.from lN⟩
  ·have Y:lM mg os=(3,qA mg os):=by simp[lM,T,hb]
   rw[Y];clear Y
   go_in
   go_wp2_with(fail);refine X.mono ?_;rintro e w1 ⟨v,rfl,Z⟩;obtain⟨a1,u,rfl,_,_⟩:=Z.shape;obtain⟨c0,c1,hl⟩:=Fg Z.below;have J:=fY U Z.below;have V:=CJ sz mg a n cap os w1 KP y M (G.below J);simp only[eN];clear X Z;go_wp2_with(fail);refine V.mono ?_;rintro e w2 ⟨v,rfl,Z⟩;obtain⟨a2,D,rfl,_,_⟩:=Z.shape;have A:=Z.from J;have ti:(0:Int)<((qA mg os).length:Int):=by
    have:(qA mg os).length≠0:=λh=>hb (aH h);omega
   clear V Z
   go_wp2
   go_ret2
   exact⟨_,rfl,A⟩
 ·have X:=AJ a n cap os _ M (G.below U);have Y:lM mg os=(4,sK os):=by simp[lM,T]
  rw[Y];clear Y
  go_in
  go_wp2_with(fail);refine X.mono ?_;rintro e w1 ⟨v,rfl,Z⟩;obtain⟨a1,u,rfl,_,_⟩:=Z.shape;have A:=Z.from U;have ti:(0:Int)<((sK os).length:Int):=by
   have:(sK os).length≠0:=λh=>T (aH h);omega
  clear X Z
  go_wp2
  go_ret2
  exact⟨_,rfl,A⟩
structure KQ(w:dR)(B:Nat)(s m:Int):Prop where
 c0:w.cell? ⟨B,0,ν⟩=μ (ι κ s)
 c1:w.cell? ⟨B,1,ν⟩=μ (ι κ m)
 f0:w.frozen? ⟨B,0,ν⟩=false
 f1:w.frozen? ⟨B,1,ν⟩=false
theorem KQ.lt {m:Int} (h:KQ w B s m):B<w.heap.size:=af w _ h.c0
theorem KQ.below {m:Int} (h:KQ w B s m)(hb:eh w w'):KQ w' B s m:=
 ⟨(hb.cell (p:=⟨B,0,ν⟩) h.lt).trans h.c0,(hb.cell (p:=⟨B,1,ν⟩) h.lt).trans h.c1,
   (aJ (a:=⟨B,0,ν⟩) (hb.block B h.lt)).trans h.f0,(aJ (a:=⟨B,1,ν⟩) (hb.block B h.lt)).trans h.f1⟩
end Go.Proofs.YtieklnlbljejdaaGreatDoor
namespace Go.Proofs.YtieklnlbljejdaaGreatDoor.Plain
open Go.RowKit
theorem uZ(a b:Nat)(Z:a<65536)(hb:b<65536):bits .xor .i64 (a:Int) (b:Int)=((a^^^b:Nat):Int):=by
 have h:a^^^b<65536:=Nat.xor_lt_two_pow (n:=16) Z hb;have e:∀n:Nat,n<65536->(eW 64 (n:Int)).toNat=n:=by
  intro n hn;rw[BitVec.toNat_ofInt];simp;omega
 have Y:(eW 64 (a:Int) ^^^eW 64 (b:Int)).toNat=a^^^b:=by
  rw[BitVec.toNat_xor,e a Z,e b hb]
 show IntKind.i64.wrap ((eW 64 (a:Int) ^^^eW 64 (b:Int)).toNat:Int)=_;rw[Y,IntKind.wrap_i64];omega
def turn(x:Nat):Nat:=if x%2=1 then x/2^^^33800 else x/2
def turns:Nat->Nat->Nat
 |0,x=>x
 |n+1,x=>turns n (turn x)
def GR(x:Nat)(c:UInt8):Nat:=turns 8 (x^^^c.toNat)
def reg(l:List UInt8):Nat:=l.foldl GR 65535
def sum(l:List UInt8):Nat:=reg l^^^65535
theorem GU(a b:Nat)(Z:a<65536)(hb:b<65536):a^^^b<65536:=Nat.xor_lt_two_pow (n:=16) Z hb
theorem Rx(c:UInt8):c.toNat<65536:=by have:=c.toNat_lt;omega
theorem VE(x:Nat)(h:x<65536):turn x<65536:=by
 unfold turn;split
 ·exact GU _ _ dU dU
 ·omega
theorem CL:∀n x,x<65536->turns n x<65536
 |0,_,h=>h
 |n+1,x,h=>CL n _ (VE x h)
theorem CM:∀n x,turns (n+1) x=turn (turns n x)
 |0,_=>rfl
 |n+1,x=>by rw[turns,CM n (turn x)];rfl
theorem OD(x:Nat)(c:UInt8)(h:x<65536):GR x c<65536:=CL 8 _ (GU _ _ h (Rx c))
theorem IY:∀(l:List UInt8) x,x<65536->l.foldl GR x<65536
 |[],_,h=>h
 |c::l,x,h=>IY l _ (OD x c h)
theorem GV(l:List UInt8):reg l<65536:=IY l _ dU
theorem Ld(l:List UInt8):sum l<65536:=GU _ _ (GV l) dU
theorem Ry(l:List UInt8)(c:UInt8):reg (l++ [c])=GR (reg l) c:=by simp[reg]
end Go.Proofs.YtieklnlbljejdaaGreatDoor.Plain
namespace Go.Proofs.YtieklnlbljejdaaGreatDoor
open Go.RowKit Plain
theorem VF {k:IntKind} {a b:Int} (h:a=b):Ending.returned (.int k a)=ρ (.int k b):=by rw[h]
theorem Fj(s:ByteArray)(k:Nat)(h:k<s.size):s.data.toList.take (k+1)=s.data.toList.take k++ [s[k]] :=by
 rw[ay (by simpa using h)];rfl
theorem RA(x:Nat)(h:x<65536)(h1:(x:Int) %2=1):bits .xor .i64 ((x:Int)/2) 33800=(turn x:Int):=by
 have e:=uZ (x/2) 33800 dU dU;have:x%2=1:=dU;simp only[turn,this,if_true];rw[<-e];simp
theorem OE(x:Nat)(h1:¬(x:Int) %2=1):(x:Int)/2=(turn x:Int):=by
 have:¬x%2=1:=dU;simp[turn,this]
theorem Nc(s:ByteArray)(w:dR)(hs:s.size<=maxLen):
 eT eU 210 #[.string s] w λe w'=>e=ρ (ι κ (Plain.sum s.data.toList:Nat))/\w=w':=by
 unfold maxLen at hs
 go_in
 go_wp2
 go_loop [3,8] (λx i=>∃k:Nat,k<=s.size/\i=ι κ k/\x=ι κ (reg (s.data.toList.take k):Nat)) (λ_ i=>s.size-(eV i).toNat)
 case atStart=>exact⟨0,Nat.zero_le _,rfl,rfl⟩
 case round=>
  obtain⟨k,hk,rfl,rfl⟩:=hrel;by_cases M:k<s.size
  ·have Z:=Fj s k M;have V:Hid (reg (s.data.toList.take (k+1))=turns 8 (reg (s.data.toList.take k) ^^^s[k].toNat)):=by rw[Z,Ry];rfl
   have D:bits .xor .i64 (reg (s.data.toList.take k):Nat) (wrap64 (s[k].toNat:Nat))=((reg (s.data.toList.take k) ^^^s[k].toNat:Nat):Int):=by
    have hb:=s[k].toNat_lt;rw[cA _ ⟨dU,dU⟩];exact uZ _ _ (GV _) (Rx _)
   have U:reg (s.data.toList.take k) ^^^s[k].toNat<65536:=GU _ _ (GV _) (Rx _);clear Z;generalize reg (s.data.toList.take k) ^^^s[k].toNat=X at D U V
   go_wp2
   go_loop [3,17] (λx i=>∃j:Nat,j<=8/\i=ι κ j/\x=ι κ (turns j X:Nat)) (λ_ i=>8-(eV i).toNat)
   case atStart=>exact⟨0,Nat.zero_le _,rfl,rfl⟩
   case round=>
    obtain⟨j,hj,rfl,rfl⟩:=hrel;by_cases hj8:j<8
    ·have hl:=CL j X U;have G:turns (j+1) X=turn (turns j X):=CM j X;have J:=RA (turns j X) hl;have T:=OE (turns j X);generalize turns j X=Y at*
     go_wp2
     all_goals
      go_round
      case rel=>exact⟨j+1,dU,by go_num,by rw[G];first|rw[J (by simp_all)] |rw[T (by simp_all)]⟩
      case measure=>simp[eV];omega
    ·have A:j=8:=dU;subst A
     go_wp2
     go_round
     case rel=>exact⟨k+1,dU,by go_num,by rw[V.out]⟩
     case measure=>simp[eV];omega
  ·go_wp2
   go_ret;have e:k=s.size:=dU;exact⟨VF (by rw[aG (by simp;omega)];exact uZ _ 65535 (GV _) dX),rfl⟩
end Go.Proofs.YtieklnlbljejdaaGreatDoor
namespace Go.Proofs.YtieklnlbljejdaaGreatDoor.Plain
open Go.RowKit
def qY(c:UInt8):Bool:=c==126||c==125||decide (c<32)
def BH(c:UInt8):List UInt8:=if qY c then [125,c^^^32]else [c]
def rI(l:List UInt8):List UInt8:=l.flatMap BH
def IZ(l:List UInt8):UInt8:=UInt8.ofNat (sum l%256)
def I0(l:List UInt8):UInt8:=UInt8.ofNat (sum l/256)
def ld(l:List UInt8):List UInt8:=l++ [IZ l,I0 l]
def kF(l:List UInt8):List UInt8:=126::(rI (ld l)++ [126])
theorem Fk(l:List UInt8):((IZ l).toNat:Int)=((sum l:Nat):Int) %256:=by
 have:=Ld l;unfold IZ;rw[UInt8.toNat_ofNat_of_lt' (by show sum l%256<256;omega)];omega
theorem Fm(l:List UInt8):((I0 l).toNat:Int)=((sum l:Nat):Int)/256:=by
 have:=Ld l;unfold I0;rw[UInt8.toNat_ofNat_of_lt' (by show sum l/256<256;omega)];omega
theorem OG(l:List UInt8)(c:UInt8):rI (l++ [c])=rI l++BH c:=by simp[rI]
theorem VG(c:UInt8):(BH c).length<=2:=by unfold BH;split<;>simp
theorem yy:∀l:List UInt8,(rI l).length<=2*l.length
 |[] =>by simp[rI]
 |c::l=>by
  have:=yy l;have h:=VG c;simp only[rI,eH,eI,eM]at this⊢;omega
theorem mR(l:List UInt8):(ld l).length=l.length+2:=by simp[ld]
theorem OH(c:UInt8):qY c=true↔(c.toNat:Int)=126 \/(c.toNat:Int)=125 \/(c.toNat:Int)<32:=by
 unfold qY;simp only[Bool.or_eq_true,beq_iff_eq,decide_eq_true_eq,UInt8.lt_iff_toNat_lt];have Y:c=126↔(c.toNat:Int)=126:=by
  rw[<-UInt8.toNat_inj];show c.toNat=126↔_;omega
 have Z:c=125↔(c.toNat:Int)=125:=by
  rw[<-UInt8.toNat_inj];show c.toNat=125↔_;omega
 rw[Y,Z];show(_ \/_) \/c.toNat<32↔_;omega
theorem XO(c:UInt8):bits .xor .u8 (c.toNat:Int) 32=((c^^^32).toNat:Int):=by
 have:=c.toNat_lt;have e:=u8_xor_nat c.toNat 32 dU dU;rw[UInt8.toNat_xor];exact e
