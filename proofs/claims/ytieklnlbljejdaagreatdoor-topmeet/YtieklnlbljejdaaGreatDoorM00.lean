import Derived.Test.YtieklnlbljejdaaGreatDoorMA
open Go.Value renaming int → ι, slice → σ, tuple → τ, nilIface → η
open Go.IntKind renaming i64 → κ
open Go.Ending renaming returned → ρ
open Go.Obj renaming cells → γ
open Option renaming none → ν, some → μ
open Go renaming Addr → dX, World → dY, Value → dZ, TypeId → ew, DataW → eR, Calls → eW
open Go.Value renaming ownBlock → eu, int → eB, oneCell' → eD, string → eF
open Go.RowKit renaming Below → eG, intOf → eY
open Go.Oper renaming wp → eH
open Go.Result renaming andThen_ok → eI
open List renaming map_toArray → eM, map_cons → eN, map_nil → eO, length_nil → eQ, getElem?_map → eV
open Go.Region renaming wanted → eP
open Go.DataW renaming trod → eT
open Go.Lib renaming mapM_length → eU
open Go.Proofs.Tryz renaming prog → eX
set_option maxRecDepth 100000
set_option maxHeartbeats 2000000
open Go.Proofs.Tryz
namespace Go.Proofs.YtieklnlbljejdaaGreatDoor
open Go.RowKit
variable {B B' b base cap cp fuel g g2 j k n off sz:Nat} {C:Array Value} {H:Type} {P:Program} {Q:Exit->Act->World->Prop} {a c w w' w2 wr x:World} {ao:Option Addr} {cs xs:List Value} {e r t:TypeId} {held:Bool} {m s:Int} {o:Obj} {ops:Array Oper} {p:List MemPlace} {row:Option Nat} {sp:Nat->Bool} {v:Value} {zs:List (List (List UInt8))}
theorem add_plain(g j:Nat):(⟨g,0,ν⟩:dX).add j=⟨g,j,ν⟩:=by unfold Addr.add;split<;>simp_all
theorem m9(g o j:Nat):(⟨g,o,ν⟩:dX).add j=⟨g,o+j,ν⟩:=by unfold Addr.add;split<;>simp_all
def Row(w:dY)(sz:Nat)(v:dZ)(n:Nat)(xs:List dZ):Prop:=
 xs.length=n*sz/\
 ((v=σ ν 0 0/\n=0) \/
  ∃g cap,v=σ (μ ⟨g,0,ν⟩) n cap/\g<w.heap.size/\n<=cap/\cap<=maxLen/\(∀j u,xs[j]? =μ u->w.cell? ⟨g,j,ν⟩=μ u)/\
   ∀j,j<cap*sz->(w.cell? ⟨g,j,ν⟩).isSome=true/\w.frozen? ⟨g,j,ν⟩=false)
theorem Row.nil(w:dY)(sz:Nat):Row w sz (σ ν 0 0) 0 [] :=⟨gY,.inl ⟨rfl,rfl⟩⟩
theorem Row.lt(h:Row w sz v n xs):∀k,v.ownBlock=μ k->k<w.heap.size:=by
 intro k Z;rcases h.2 with⟨rfl,_⟩|⟨g,cap,rfl,Y,_⟩
 ·simp[eu]at Z
 ·simp[eu]at Z;subst Z;exact Y
theorem Row.keep(h:Row w sz v n xs)(hs:w.heap.size<=w'.heap.size)(hb:∀k,v.ownBlock=μ k->w'.heap[k]? =w.heap[k]?):Row w' sz v n xs:=by
 refine⟨h.1,?_⟩;rcases h.2 with U|⟨g,cap,rfl,hg,X,V,Y,J⟩
 ·exact .inl U
 ·have e:=hb g rfl;have Z:∀j,w'.cell? ⟨g,j,ν⟩=w.cell? ⟨g,j,ν⟩:=λj=>aj (a:=⟨g,j,ν⟩) e;have T:∀j,w'.frozen? ⟨g,j,ν⟩=w.frozen? ⟨g,j,ν⟩:=λj=>aM (a:=⟨g,j,ν⟩) e;exact .inr ⟨g,cap,rfl,eh,X,V,λj u S=>by rw[Z];exact Y j u S,λj M=>by rw[Z,T];exact J j M⟩
theorem Row.kept(h:Row w sz v n xs)(Y:w.grownBy w' row)(X:∀k,v.ownBlock=μ k->row≠μ k):Row w' sz v n xs:=
 h.keep Y.size λk Z=>Y.block k (h.lt k Z) (λe=>X k Z e.symm)
theorem Row.alloc {w:dY} {sz:Nat} {v:dZ} {n:Nat} {xs:List dZ} (h:Row w sz v n xs)(o:Obj):Row (w.alloc o) sz v n xs:=
 h.keep gY λk Z=>aU w o k (h.lt k Z)
theorem Row.drew {w:dY} {sz:Nat} {v:dZ} {n:Nat} {xs:List dZ} (h:Row w sz v n xs):Row w.drew sz v n xs:=
 h.keep (Nat.le_refl _) λ_ _=>rfl
theorem Row.below(h:Row w sz v n xs)(hb:eE w w'):Row w' sz v n xs:=
 h.keep hb.size λk Z=>hb.block k (h.lt k Z)
theorem Row.OA(h:w.ownsRow base e sz v n xs):Row w sz v n xs:=by
 refine⟨h.1,?_⟩;rcases h.2 with U|⟨g,cap,Z,rfl,hb,Y,X,V,h3,h4⟩
 ·exact .inl U
 ·refine .inr ⟨g,cap,rfl,(ay.1 Y).1,X,V,λj u T=> ?_,λj hj=>⟨?_,?_⟩⟩
  ·have:=h.cells (g:=g) rfl j u T
   rwa [add_plain]at this
  ·rw[ax w g j Z e (0,0) Y];simp;omega
  ·exact bE w g j Z e Y
theorem Row.made(w:dY)(sz:Nat)(e:ew)(C:Array dZ)(fr:Nat×Nat)(n cap:Nat)(xs:List dZ)(hx:xs.length=n*sz)(hc:C.size=cap*sz)(V:n<=cap)(T:cap<=maxLen)(Y:fr=(0,0) \/C.size<=fr.1)
 (X:∀(j:Nat) (u:dZ),xs[j]? =μ u->C[j]? =μ u):Row (w.alloc (γ C e fr)) sz (σ (μ ⟨w.heap.size,0,ν⟩) n cap) n xs:=by
 refine⟨hx,.inr ⟨w.heap.size,cap,rfl,gY,V,T,λj u U=> ?_,λj hj=>⟨?_,?_⟩⟩⟩
 ·rw[ar];exact X j u U
 ·rw[ar];simp;omega
 ·obtain⟨lo,hi⟩:=fr;rw[cW];rcases Y with Z|Z
  ·simp only[Prod.mk.injEq]at Z;obtain⟨rfl,rfl⟩:=Z;simp
  ·simp only at Z;have:¬lo<=j:=eh;simp[this]
theorem Row.cell {w:dY} {sz:Nat} {g n n' cap:Nat} {xs:List dZ} (h:Row w sz (σ (μ ⟨g,0,ν⟩) n' cap) n xs)(j:Nat)(u:dZ)(Z:xs[j]? =μ u):w.cell? ⟨g,j,ν⟩=μ u:=by
 rcases h.2 with⟨e,_⟩|⟨g',jr,e,_,_,_,hc,_⟩
 ·simp at e
 ·simp at e;obtain⟨rfl,rfl,rfl⟩:=e;exact hc j u Z
theorem qE(w:dY)(x:dZ)(t:ew):∀(j:Nat) (u:dZ),[x][j]? =μ u->(w.alloc (γ #[x] t)).cell? ((⟨w.heap.size,0,ν⟩:dX).add j)=μ u:=by
 intro j u Z;rw[add_plain,ar];simpa using Z
theorem pI(w:dY)(x y:dZ)(t:ew):∀(j:Nat) (u:dZ),[x,y][j]? =μ u->(w.alloc (γ #[x,y] t)).cell? ((⟨w.heap.size,0,ν⟩:dX).add j)=μ u:=by
 intro j u Z;rw[add_plain,ar];simpa using Z
theorem wY(k:IntKind)(x:Int):∀u∈ [eB k x],u.oneCell'=true:=by simp[eD]
theorem lK(k l:IntKind)(x y:Int):∀u∈ [eB k x,eB l y],u.oneCell'=true:=by simp[eD]
theorem MB(s:ByteArray):∀u∈ [eF s],u.oneCell'=true:=by simp[eD]
theorem vJ {g1 n':Nat} (U:(wr.alloc o).grownBy w2 (μ g))(V:μ g=μ g2 \/wr.heap.size+1<=g2)
 (X:Row wr sz (σ (μ ⟨g1,0,ν⟩) n' cap) n xs) (J5:w.heap.size<=g) (ju:g≠g1) (Y:eE w wr):
 Row w2 sz (σ (μ ⟨g1,0,ν⟩) n' cap) n xs/\w.heap.size<=g2/\g2≠g1/\eE w w2:=by
 have h1:g1<wr.heap.size:=X.lt g1 rfl;have T:=Y.size;have hs:(wr.alloc o).heap.size=wr.heap.size+1:=gY;refine⟨(X.alloc o).kept U (λk Z=> ?_),?_,?_,?_⟩
 ·have:g1=k:=by simpa[eu]using Z
  intro e;simp at e;omega
 ·rcases V with h|h
  ·simp at h;omega
  ·omega
 ·rcases V with h|h
  ·simp at h;omega
  ·omega
 ·refine(Y.alloc T o).grown U eh (λk Z=> ?_);simp at Z;omega
theorem GD(U:(wr.alloc o).grownBy w2 (μ g))(X:μ g=μ g2 \/wr.heap.size+1<=g2)
 (J5:w.heap.size<=g) (Z:eE w wr):w.heap.size<=g2/\eE w w2:=by
 have Y:=Z.size;have hs:(wr.alloc o).heap.size=wr.heap.size+1:=gY;refine⟨?_,?_⟩
 ·rcases X with h|h
  ·simp at h;omega
  ·omega
 ·refine(Z.alloc Y o).grown U eh (λk V=> ?_);simp at V;omega
section
variable {P:Program}
theorem si(w:dY)(t ty e:ew)(i:TypeInfo)(z:dZ)(size bytes:Nat)(ht:P.underlying t=μ (.slice e))(hi:P.info? e=μ i)(hz:i.zero=μ z)
 (h:i.size=size) (vK:i.bytes=bytes) (MC:z.cells.size=size) (rQ:0<size)
 (v:dZ) (n:Nat) (xs:List dZ) (V:Row w size v n xs)
 (a:dX) (m c:Nat) (news:List dZ) (hl:news.length=m*size) (hm:0<m) (D:∀j u,news[j]? =μ u->w.cell? (a.add j)=μ u) (h1:∀u∈news,u.oneCell'=true)
 (S:n+m<=maxLen) (vL:(n+m)*bytes<=140737488355328):
 ∃v' w',(Builtin.append_ #[t,t] ty #[v,σ (μ a) m c]).run P w=.ok v' w'/\Row w' size v' (n+m) (xs++news)/\w.grownBy w' v.ownBlock/\
  (v'.ownBlock=v.ownBlock \/ ∃k,v'.ownBlock=μ k/\w.heap.size<=k):=by
 rcases V.2 with⟨rfl,rfl⟩|⟨g,cap,rfl,y,tX,FY,hcell,CA⟩
 ·have hx:xs=[] :=aI (by simpa using V.1);subst hx;obtain⟨v',w',U,G,y,kh⟩:=run_append_own (P:=P) w w.heap.size t ty e i z size bytes ht hi hz h vK MC rQ (σ ν 0 0) 0 [] (World.ownsRow_nil _ _ _ _) a m c news hl D h1 S vL (Nat.le_refl _);refine⟨v',w',U,Row.OA G,y,?_⟩;rcases G.2 with⟨M,e2⟩|⟨g,cap,A,rfl,hb,_⟩
  ·omega
  ·exact .inr ⟨g,rfl,hb⟩
 ·by_cases U:n+m<=cap
  ·subst h;have XB:n*i.size+news.length<=cap*i.size:=by rw[hl,<-Nat.add_mul];exact Nat.mul_le_mul_right _ U
   have E:∀j,j<news.length->(w.cell? ⟨g,0+n*i.size+j,ν⟩).isSome=true/\w.frozen? ⟨g,0+n*i.size+j,ν⟩=false:=λj Z=>CA _ eh;have X:=run_append_room_cells (P:=P) w t ty e i ht hi g 0 n cap a m c news hl D h1 U (λj Z=>(E j Z).1) (λj Z=>(E j Z).2);have ot:∀(vs:List dZ) (o:Nat) (w:dY),(w.setCells g o vs).heap.size=w.heap.size/\(w.setCells g o vs).os=w.os/\(w.setCells g o vs).tape=w.tape/\(w.setCells g o vs).output=w.output/\∀k,k≠g->(w.setCells g o vs).heap[k]? =w.heap[k]? :=by
    intro vs
    induction vs with
    |nil=>intro o w;exact⟨rfl,rfl,rfl,rfl,λ_ _=>rfl⟩
    |cons u r ih=>
     intro o w;have:=ih (o+1) (w.setCell ⟨g,o,ν⟩ u);have b1:eG 0 w (w.setCell ⟨g,o,ν⟩ u):=(av 0 w).setCell (Nat.zero_le _) _;refine⟨this.1.trans gY,this.2.1.trans b1.os,this.2.2.1.trans b1.tape,this.2.2.2.1.trans b1.output,λk Y=>(this.2.2.2.2 k Y).trans (aq _ _ _ k Y)⟩
   have B:=ot news (0+n*i.size) w;refine⟨_,_,X,⟨by rw[aA,V.1,hl,Nat.add_mul],.inr ⟨g,cap,rfl,by rw[B.1];exact y,U,FY,λj u T=> ?_,λj Z=> ?_⟩⟩,⟨B.2.1,B.2.2.1,B.2.2.2.1,by rw[B.1];exact Nat.le_refl _,λk _ Y=>B.2.2.2.2 k (λe=>Y (by simp[eu,e]))⟩,.inl rfl⟩
   ·rcases Nat.lt_or_ge j xs.length with Z|Z
    ·rw[bG Z]at T;rw[bD g _ _ _ _ (λ_ _=>.inl (by show j<0+n*i.size;have:=V.1;omega))];exact hcell j u T
    ·rw[bw Z]at T;have OB:j-xs.length<news.length:=(aL.1 T).1;have:=bL g news (0+n*i.size) w (λk Y=>(E k Y).1) (j-xs.length) OB;have M:0+n*i.size+(j-xs.length)=j:=by have:=V.1;omega
     rw[M]at this;rw[this,<-T,az OB]
   ·rw[bY];refine⟨?_,(CA j Z).2⟩;by_cases hq:n*i.size<=j/\j<n*i.size+news.length
    ·have:=bL g news (0+n*i.size) w (λk Y=>(E k Y).1) (j-n*i.size) eh;have M:0+n*i.size+(j-n*i.size)=j:=eh;rw[M]at this;rw[this];rfl
    ·rw[bD g _ _ _ _ (λ_ _=>by show j<0+n*i.size \/0+n*i.size+news.length<=j;omega)];exact(CA j Z).1
  ·obtain⟨v',w',X,G,J⟩:=run_append_arg_grows (P:=P) w t ty e i z size bytes ht hi hz h vK MC rQ ⟨g,0,ν⟩ n cap xs V.1 (λj u Z=>by rw[add_plain];exact hcell j u Z) a m c news hl D eh S vL;refine⟨v',w',X,Row.OA G,⟨J.os,J.tape,J.output,J.size,λk Y _=>J.block k Y gY⟩,?_⟩;rcases G.2 with⟨M,e2⟩|⟨g',jr,A,rfl,hb,_⟩
   ·omega
   ·exact .inr ⟨g',rfl,hb⟩
theorem iG(w:dY) {rest:List Oper} {o:Oper} {a:Act} (y:o.guard=ν)(s x:Operand)(t:ew)
 (ho:o.op=.call {callee:=.builtin .append,args:= #[s,x],argTypes:= #[t,t] })
 (e:ew) (i:TypeInfo) (z:dZ) (size bytes:Nat) (ht:P.underlying t=μ (.slice e)) (hi:P.info? e=μ i) (hz:i.zero=μ z)
 (rP:i.size=size) (J:i.bytes=bytes) (MC:z.cells.size=size) (rQ:0<size)
 (v:dZ) (n:Nat) (xs:List dZ) (hs:a.eval s=v) (G:Row w size v n xs)
 (U:dX) (m c:Nat) (news:List dZ) (hx:a.eval x=σ (μ U) m c) (hl:news.length=m*size) (hm:0<m) (S:∀j u,news[j]? =μ u->w.cell? (U.add j)=μ u) (h1:∀u∈news,u.oneCell'=true)
 (V:n+m<=maxLen) (M:(n+m)*bytes<=140737488355328)
 (h:∀Z X w',Row w' size (σ (μ ⟨Z,0,ν⟩) (n+m) X) (n+m) (xs++news)->w.grownBy w' v.ownBlock->(v.ownBlock=μ Z \/w.heap.size<=Z)->wpList P ops Q rest (a.put o.dst (σ (μ ⟨Z,0,ν⟩) (n+m) X)) w'):wpList P ops Q (o::rest) a w:=by
 refine wpList_plain y λK hK=> ?_;obtain⟨v',w',E,T,A,Y⟩:=si (P:=P) w t o.type e i z size bytes ht hi hz rP J MC rQ v n xs G U m c news hl hm S h1 V M;unfold eH execOp;simp only[ho,resolve,invoke,builtin,Sem.run_bind,Sem.run_pure,eI,eM,eN,eO,hs,hx,E];rcases T.2 with⟨_,hn⟩|⟨Z,X,rfl,_⟩
 ·omega
 ·refine hK _ _ (h Z X w' T A ?_);rcases Y with Y|⟨k,Y,D⟩
  ·exact .inl Y.symm
  ·simp[eu]at Y;subst Y;exact .inr D
def iO(l:List UInt8):List dZ:=l.map λb=>eB .u8 (b.toNat:Int)
theorem qQ(l:List UInt8):(iO l).length=l.length:=by simp[iO]
theorem lI(a b:List UInt8):iO (a++b)=iO a++iO b:=by simp[iO]
theorem yg(l:List UInt8)(j:Nat)(h:j<l.length):(iO l)[j]? =μ (.int .u8 (l[j].toNat:Int)):=by simp[iO,h]
theorem FZ(w:dY)(src dst e:ew)(s:ByteArray)(hs:P.underlying src=μ .string)(hd:P.underlying dst=μ (.slice e))(V:P.underlying e=μ (.int .u8))(U:s.size<=maxLen):
 ∃cap C fr,(convert src dst (.string s)).run P w=.ok (σ (μ ⟨w.heap.size,0,ν⟩) s.size cap) (w.drew.alloc (γ C e fr))/\Row (w.alloc (γ C e fr)) 1 (σ (μ ⟨w.heap.size,0,ν⟩) s.size cap) s.size (iO s.data.toList):=by
 refine⟨_,_,_,run_bytes_of_string w src dst e s hs hd V,?_⟩;have X:=grownCap_ge w s.size 0 e;refine Row.made w 1 e _ _ _ _ _ (by simp[iO]) ?_ X (dq w _ _ _ U) (.inr (Nat.le_refl _)) ?_
 ·simp[bytesRow];omega
 ·intro j u Z;have Y:j<s.data.size:=by
   have:=(aL.1 Z).1;simpa[iO]using this
  rw[bytesRow_at s _ j Y];rw[yg _ j (by simpa using Y)]at Z;simpa using Z
theorem Row.back {l:List UInt8} (h:Row w 1 v n (iO l))(src dst e:ew)(hs:P.underlying src=μ (.slice e))(Y:P.underlying e=μ (.int .u8))(hd:P.underlying dst=μ .string):
 (convert src dst v).run P w=.ok (.string ⟨l.toArray⟩) w:=by
 have Z:l.length=n:=by have:=h.1;simpa[iO]using this
 rcases h.2 with⟨rfl,rfl⟩|⟨g,cap,rfl,hg,tX,FY,hcell,CA⟩
 ·have:l=[] :=aI Z;subst this;rw[run_convert_bytes_string w src dst e _ _ _ hs Y hd];simp[Conv.bytesToString];rfl
 ·subst Z;exact dL w src dst e ⟨g,0,ν⟩ cap l hs Y hd λj X=>by rw[add_plain];exact hcell j _ (yg l j X)
end
theorem gk {b:dY} (h:eE w a)(k:eE a b):eE w b:=h.trans (k.mono h.size)
theorem below_drewN(h:eG B w a)(n:Nat):eG B w (a.drewN n):=⟨h.os,h.tape,h.output,h.size,h.block⟩
theorem gW(w:dY)(o:Obj):eE w (w.alloc o):=(av _ _).alloc (Nat.le_refl _) _
theorem ti(h:eE w a)(Z:a.grownBy c (μ b))(hb:w.heap.size<=b):eE w c:=
 h.grown Z h.size (λk Y=>by simp at Y;omega)
def jm(k:Nat):dZ:=if k=0 then η else .iface 128 (ι κ (k:Int))
abbrev jE:=Int×Int
def jc(w:dY)(a:Option dX)(n:Nat)(os:List jE):Prop:=
 os.length=n/\(n=0 \/ ∃b off,a=μ ⟨b,off,ν⟩/\∀j (h:j<os.length),w.cell? ⟨b,off+j*2,ν⟩=μ (ι κ os[j].1)/\w.cell? ⟨b,off+j*2+1,ν⟩=μ (ι κ os[j].2))
theorem jc.below {a:Option dX} {os:List jE} (h:jc w a n os)(hb:eE w w'):jc w' a n os:=by
 refine⟨h.1,?_⟩;rcases h.2 with Z|⟨b,off,rfl,Z⟩
 ·exact .inl Z
 ·refine .inr ⟨b,off,rfl,λj Y=> ?_⟩;obtain⟨c1,c2⟩:=Z j Y;exact⟨(hb.cell (ag w _ c1)).trans c1,(hb.cell (ag w _ c2)).trans c2⟩
theorem jc.drewN {w:dY} {a:Option dX} {n:Nat} {os:List jE} (h:jc w a n os)(m:Nat):jc (w.drewN m) a n os:=h
theorem jc.nil(w:dY)(a:Option dX):jc w a 0 [] :=⟨rfl,.inl rfl⟩
theorem jc.take {w:dY} {a:Option dX} {n:Nat} {os:List jE} (h:jc w a n os)(k:Nat)(hk:k<=n):jc w a k (os.take k):=by
 refine⟨by simp[h.1];omega,?_⟩;rcases h.2 with Z|⟨b,off,rfl,Z⟩
 ·exact .inl eh
 ·refine .inr ⟨b,off,rfl,λj X=> ?_⟩;have Y:j<os.length:=by simp at X;omega
  have:=Z j Y;simpa using this
theorem lU {o:Oper} {a:Act} {K:Act->dY->Prop} {E:Prop}
 (J6:o.guard=ν) (s x:Operand) (t:ew) (ho:o.op=.call {callee:=.builtin .append,args:= #[s,x],argTypes:= #[t,t] })
 (e:ew) (i:TypeInfo) (z:dZ) (size bytes:Nat) (ht:P.underlying t=μ (.slice e)) (hi:P.info? e=μ i) (hz:i.zero=μ z)
 (rP:i.size=size) (J:i.bytes=bytes) (MC:z.cells.size=size) (rQ:0<size)
 (v:dZ) (n:Nat) (xs:List dZ) (hs:a.eval s=v) (G:Row w size v n xs)
 (U:dX) (m c:Nat) (news:List dZ) (hx:a.eval x=σ (μ U) m c) (hl:news.length=m*size) (hm:0<m) (S:∀j u,news[j]? =μ u->w.cell? (U.add j)=μ u) (h1:∀u∈news,u.oneCell'=true)
 (V:n+m<=maxLen) (M:(n+m)*bytes<=140737488355328)
 (h:∀Z X w',Row w' size (σ (μ ⟨Z,0,ν⟩) (n+m) X) (n+m) (xs++news)->w.grownBy w' v.ownBlock->(v.ownBlock=μ Z \/w.heap.size<=Z)->K (a.put o.dst (σ (μ ⟨Z,0,ν⟩) (n+m) X)) w'):
 if eP o (yielded ops a.tmps)=true then eH P o a w K Q else E:=by
 have hw:eP o (yielded ops a.tmps)=true:=by simp[eP,J6]
 rw[ai hw];obtain⟨v',w',D,T,y,Y⟩:=si (P:=P) w t o.type e i z size bytes ht hi hz rP J MC rQ v n xs G U m c news hl hm S h1 V M;unfold eH execOp;simp only[ho,resolve,invoke,builtin,Sem.run_bind,Sem.run_pure,eI,eM,eN,eO,hs,hx,D];rcases T.2 with⟨_,hn⟩|⟨Z,X,rfl,_⟩
 ·omega
 ·refine h Z X w' T y ?_;rcases Y with Y|⟨k,Y,A⟩
  ·exact .inl Y.symm
  ·simp[eu]at Y;subst Y;exact .inr A
def iR(os:List jE):List dZ:=os.flatMap λo=>[ι κ o.1,ι κ o.2]
theorem mb(os:List jE)(o:jE):iR (os++ [o])=iR os++ [ι κ o.1,ι κ o.2] :=by simp[iR]
theorem ld(os:List jE):(iR os).length=2*os.length:=by
 induction os with
 |nil=>rfl
 |cons o r ih=>simp only[iR,List.flatMap_cons,List.length_append,List.length_cons,eQ]at ih⊢;omega
theorem uG:∀(os:List jE) (j:Nat) (h:j<os.length),(iR os)[j*2]? =μ (ι κ os[j].1)/\(iR os)[j*2+1]? =μ (ι κ os[j].2)
 |o::r,0,_=>by simp[iR]
 |o::r,j+1,h=>by
  have ih:=uG r j (by simpa using h);have Z:iR (o::r)=ι κ o.1::ι κ o.2::iR r:=by simp[iR]
  rw[Z,show(j+1)*2=j*2+1+1 by omega];exact ih
theorem Row.opts {os:List jE} (h:Row w 2 (σ ao k cp) k (iR os)):jc w ao k os:=by
 have hl:os.length=k:=by have:=h.1;rw[ld]at this;omega
 refine⟨hl,?_⟩;rcases h.2 with⟨_,U⟩|⟨g,cap,Z,_,_,_,hc,_⟩
 ·exact .inl U
 ·have V:ao=μ ⟨g,0,ν⟩:=by simp at Z;exact Z.1
  refine .inr ⟨g,0,V,λj T=> ?_⟩;obtain⟨Y,X⟩:=uG os j T;rw[Nat.zero_add];exact⟨hc _ _ Y,hc _ _ X⟩
theorem Row.Tq(h:Row w sz (σ ao k cp) k xs):k<=cp:=by
 rcases h.2 with⟨Z,hn⟩|⟨g,cap,Z,_,tX,_⟩
 ·omega
 ·simp at Z;omega
theorem lV(Z:eE w x)(Y:x.grownBy w' v.ownBlock)(X:∀j,v.ownBlock=μ j->w.heap.size<=j):eE w w':=
 Z.grown Y Z.size X
theorem nU(Z:v.ownBlock=μ g \/n<=g)(hs:B<=n)(Y:∀j,v.ownBlock=μ j->B<=j):B<=g:=by
 rcases Z with h|h
 ·exact Y g h
 ·exact Nat.le_trans hs h
theorem sj {u:dZ} (Z:x.grownBy w' row)(Y:row≠μ b)(hc:x.cell? ⟨b,off,ν⟩=μ u):w'.cell? ⟨b,off,ν⟩=μ u:=
 (aj (a:=⟨b,off,ν⟩) (Z.block b (ag x _ hc) (λe=>Y e.symm))).trans hc
theorem kF(h:B<=g)(Z:eu (σ (μ ⟨g,0,ν⟩) n cap)=μ j):B<=j:=by
 have:g=j:=by simpa[eu]using Z
 omega
theorem mY(Z:eu (σ ν 0 0)=μ j):B<=j:=by simp[eu]at Z
theorem ng(w:dY)(x y:dZ)(t:ew)(g:Nat)(Z:w.heap.size=g):∀(j:Nat) (u:dZ),[x,y][j]? =μ u->(w.alloc (γ #[x,y] t)).cell? ((⟨g,0,ν⟩:dX).add j)=μ u:=by
 subst Z;exact pI w x y t
structure Made(w w':dY)(v:dZ)(os:List jE):Prop where
 row:Row w' 2 v os.length (iR os)
 new:∀j,v.ownBlock=μ j->w.heap.size<=j
 below:eE w w'
theorem J8(os:List jE):∀u∈iR os,u.oneCell'=true:=by
 intro u Z;simp[iR]at Z;obtain⟨x,y,_,h⟩:=Z;rcases h with rfl|rfl<;>rfl
theorem jc.cells {os:List jE} (h:jc w (μ ⟨b,off,ν⟩) n os)(hn:0<n):∀(j:Nat) (u:dZ),(iR os)[j]? =μ u->w.cell? ((⟨b,off,ν⟩:dX).add j)=μ u:=by
 intro j u Z;rcases h.2 with h0|⟨b',ai6,X,hc⟩
 ·omega
 ·simp only[Option.some.injEq,Addr.mk.injEq]at X;obtain⟨rfl,rfl,_⟩:=X;have hj:j<2*os.length:=by have:=(aL.1 Z).1;rwa [ld]at this
  have Y:j/2<os.length:=eh;obtain⟨g1,g2⟩:=uG os (j/2) Y;obtain⟨c1,c2⟩:=hc (j/2) Y;rw[m9];rcases Nat.mod_two_eq_zero_or_one j with V|V
  ·have e:j/2*2=j:=eh;rw[e]at g1 c1;rw[Z]at g1;rw[c1,g1]
  ·have e:j/2*2+1=j:=eh;rw[e]at g2;rw[Z]at g2;rw[show off+j/2*2+1=off+j by omega]at c2;rw[c2,g2]
def kI(a:Option dX)(cap:Nat):Prop:=a=ν->cap=0
theorem Made.shape {os:List jE} (h:Made w w' v os):∃a cap,v=σ a os.length cap/\kI a cap/\os.length<=cap:=by
 rcases h.row.2 with⟨rfl,Z⟩|⟨g,cap,rfl,_,Y,_⟩
 ·rw[Z];exact⟨ν,0,rfl,λ_=>rfl,Nat.le_refl _⟩
 ·exact⟨μ ⟨g,0,ν⟩,cap,rfl,λh=>by simp at h,Y⟩
theorem Made.opts {w w':dY} {a:Option dX} {n cap:Nat} {os:List jE} (h:Made w w' (σ a n cap) os):n=os.length/\jc w' a n os:=by
 have Z:n=os.length:=by
  rcases h.row.2 with⟨e,h0⟩|⟨g,cap,e,_⟩
  ·simp at e;omega
  ·simp at e;omega
 have Y:=h.row;rw[<-Z]at Y;exact⟨Z,Y.opts⟩
theorem Made.from {os:List jE} (h:Made x w' v os)(hb:eE w x):Made w w' v os:=
 ⟨h.row,λj Z=>Nat.le_trans hb.size (h.new j Z),gk hb h.below⟩
theorem jc.kept {a:Option dX} {os:List jE} (h:jc w a n os)(hb:∀k,eu (σ a n cap)=μ k->w'.heap[k]? =w.heap[k]?):jc w' a n os:=by
 refine⟨h.1,?_⟩;rcases h.2 with Z|⟨b,off,rfl,Z⟩
 ·exact .inl Z
 ·refine .inr ⟨b,off,rfl,λj Y=> ?_⟩;have e:=hb b rfl;obtain⟨c1,c2⟩:=Z j Y;exact⟨(aj (a:=⟨b,off+j*2,ν⟩) e).trans c1,(aj (a:=⟨b,off+j*2+1,ν⟩) e).trans c2⟩
def uH(a:Option dX)(n:Nat):Option Nat:=if n=0 then ν else a.map (·.block)
theorem DC {a:Option dX} (h:uH a n=μ k):eu (σ a n cap)=μ k:=by
 unfold uH at h;split at h
 ·cases h
 ·cases a with
  |none=>cases h
  |some x=>simpa[eu]using h
theorem jc.OC {a:Option dX} {os:List jE} (h:jc w a n os)(hb:∀k,uH a n=μ k->w'.heap[k]? =w.heap[k]?):jc w' a n os:=by
 by_cases Y:n=0
 ·exact⟨h.1,.inl Y⟩
 ·refine h.kept (cap:=0) (λk Z=>hb k ?_);unfold uH;rw[af Y];cases a with
  |none=>cases Z
  |some x=>simpa[eu]using Z
def iX(w:dY)(B:Nat)(C:Array dZ)(t:ew):Prop:=w.heap[B]? =μ (γ C t (0,0))
theorem iX.lt(h:iX w B C t):B<w.heap.size:=(ay.1 h).1
theorem iX.cell {w:dY} {B:Nat} {C:Array dZ} {t:ew} (h:iX w B C t)(j:Nat):w.cell? ⟨B,j,ν⟩=C[j]? :=ax w B j C _ (0,0) h
theorem iX.frozen {w:dY} {B:Nat} {C:Array dZ} {t:ew} (h:iX w B C t)(j:Nat):w.frozen? ⟨B,j,ν⟩=false:=bE w B j C _ h
theorem iX.set(h:iX w B C t)(j:Nat)(x:dZ):iX (w.setCell ⟨B,j,ν⟩ x) B (C.setIfInBounds j x) t:=by
 unfold iX;rw[bP w B j C _ (0,0) x h];exact cE w B C _ _ (0,0) h
theorem iX.other(h:iX w B C t)(Z:B≠B')(x:dZ):iX (w.setCell ⟨B',j,ν⟩ x) B C t:=
 (aq _ _ _ B Z).trans h
theorem iX.keep(h:iX w B C t)(hb:w'.heap[B]? =w.heap[B]?):iX w' B C t:=hb.trans h
theorem iX.below(h:iX w B C t)(hb:eE w w'):iX w' B C t:=h.keep (hb.block B h.lt)
theorem iX.drewN {w:dY} {B:Nat} {C:Array dZ} {t:ew} (h:iX w B C t)(n:Nat):iX (w.drewN n) B C t:=h
theorem iX.new(w:dY)(C:Array dZ)(t:ew):iX (w.alloc (γ C t)) w.heap.size C t:=aZ w _
theorem iX.F8(w:dY)(C:Array dZ)(t:ew)(g:Nat)(Z:w.heap.size=g):iX (w.alloc (γ C t)) g C t:=by subst Z;exact iX.new w C t
theorem jD(h:eG B w a):eG B w a.drew:=⟨h.os,h.tape,h.output,h.size,h.block⟩
theorem nV(s:ByteArray)(k:Nat)(h:k<s.size):s.data.toList.getD k 0=s[k] :=by
 have Z:k<s.data.toList.length:=by simpa using h
 rw[aK,az Z];rfl
theorem kO(h:a.grownBy w (μ b))(j:Nat)(v:dZ):a.grownBy (w.setCell ⟨b,j,ν⟩ v) (μ b):=by
 have b1:eG 0 w (w.setCell ⟨b,j,ν⟩ v):=(av 0 w).setCell (Nat.zero_le _) _;exact⟨b1.os.trans h.os,b1.tape.trans h.tape,b1.output.trans h.output,Nat.le_trans h.size b1.size,λi hi Z=>(aq _ _ _ i (λe=>Z (by rw[e]))).trans (h.block i hi Z)⟩
theorem drewN_drewN(w:dY)(a b:Nat):(w.drewN a).drewN b=w.drewN (a+b):=by go_simp
def C5 {H:Type} (l:List (List UInt8)):eR H:=.agg (l.map λs=>.lit (.string s))
def DE {H:Type} (t:List (List (List UInt8))):eR H:=.agg (t.map C5)
theorem Iy {enc:ew×dZ->H} {zs:List (List UInt8)} 
 (T:P.underlying t=μ (.array n e)) (J:P.underlying e=μ .string) (U:P.cellsOf e=1) (Y:P.cellsOf t=n)
 (h:eT enc P w base sp held fuel t cs=μ (C5 zs,p)):cs=zs.map λz=>eF ⟨z.toArray⟩:=by
 cases fuel with
 |zero=>simp[eT]at h
 |succ fuel=>
  simp only[eT,T,U,Y,Nat.mul_one]at h;split at h
  ·rename_i hl
   obtain⟨xs,V,hx⟩:=Option.map_eq_some_iff.1 h;have X:xs.map (·.1)=zs.map λz=>(DataW.lit (.string z):eR H):=by
    have:=congrArg Prod.fst hx;simpa[C5]using this
   have Qb:xs.length=n:=by simpa using eU V
   have hzl:zs.length=n:=by
    have:=congrArg List.length X;simp at this;omega
   apply List.ext_getElem?;intro i;by_cases hi:i<n
   ·obtain⟨b,hb,hf⟩:=Lib.mapM_at V i i (by simp[hi]);obtain⟨z,hc,rfl,_⟩:=dw J hf;have S:cs[i]? =μ (.string z):=by
     have:=congrArg (·[0]?) hc;simpa[List.getElem?_take,dr]using this
    have Z:(xs.map (·.1))[i]? =μ (DataW.lit (.string z.data.toList):eR H):=by simp[hb]
    rw[X]at Z;simp only[eV,Option.map_eq_some_iff,DataW.lit.injEq,Lit.string.injEq]at Z;obtain⟨z',M,rfl⟩:=Z;simp[S,M]
   ·rw[dR eh,dR (by simp;omega)]
  ·cases h
theorem Iz {enc:ew×dZ->H} {m:Nat} 
 (J:P.underlying t=μ (.array m r)) (E:P.underlying r=μ (.array n e)) (G:P.underlying e=μ .string) (M:P.cellsOf e=1) (Z:P.cellsOf r=n) (V:P.cellsOf t=m*n)
 (h:eT enc P w base sp held fuel t cs=μ (DE zs,p)):zs.length=m/\∀i row,zs[i]? =μ row->(cs.drop (i*n)).take n=row.map λz=>eF ⟨z.toArray⟩:=by
 cases fuel with
 |zero=>simp[eT]at h
 |succ fuel=>
  simp only[eT,J,Z,V]at h;split at h
  ·rename_i hl
   obtain⟨xs,S,hx⟩:=Option.map_eq_some_iff.1 h;have U:xs.map (·.1)=zs.map λz=>(C5 z:eR H):=by
    have:=congrArg Prod.fst hx;simpa[DE]using this
   have Qb:xs.length=m:=by simpa using eU S
   have Y:zs.length=m:=by
    have:=congrArg List.length U;simp at this;omega
   refine⟨Y,λi row T=> ?_⟩;have hi:i<m:=by rw[<-Y];exact(aL.1 T).1
   obtain⟨b,hb,hf⟩:=Lib.mapM_at S i i (by simp[hi]);have X:(xs.map (·.1))[i]? =μ b.1:=by simp[hb]
   rw[U]at X;simp only[eV,T,Option.map_some,Option.some.injEq]at X;obtain⟨b1,b2⟩:=b;simp only at X;subst X;exact Iy E G M Z hf
  ·cases h
theorem IA {W:dY} {name:String} {rest:List (String×eR Unit)} {m:Nat}
 (T:P.globalNamed name=μ g) (hty:(P.globals[g]?).map (·.type)=μ t) (M:P.underlying t=μ (.array m r)) (A:P.underlying r=μ (.array n e)) (D:P.underlying e=μ .string) (S:P.cellsOf e=1) (X:P.cellsOf r=n) (V:P.cellsOf t=m*n)
 (h:laidMet P ((name,DE zs)::rest) W):∀i row j z,zs[i]? =μ row->row[j]? =μ z->j<n->W.cell? ⟨g,i*n+j,ν⟩=μ (.string ⟨z.toArray⟩):=by
 obtain⟨ps,⟨g',t',cs,fuel,p,q,E,Y,Z,hd,_,_⟩,_⟩:=h;obtain rfl:=Option.some.inj (T.symm.trans E);obtain rfl:=Option.some.inj (hty.symm.trans Y);intro i row j z hi y G;have J:=(Iz M A D S X V hd).2 i row hi;rw[World.var?_cell T Z];have U:((cs.toList.drop (i*n)).take n)[j]? =μ (eF ⟨z.toArray⟩):=by rw[J];simp[y]
 rw[List.getElem?_take_of_lt G,dr]at U;simpa using U
def CB:List (List (List UInt8)):=[
 [[50],[105,114,54],[45],[45],[45],[45],[45],[45],[45],[45]],
 [[45],[45],[48],[115,49],[48],[49],[49],[49],[49],[100,49]],
 [[115,49],[49],[105,114,54],[51],[53],[53],[54],[55],[56],[57]],
 [[48],[102,48],[50],[50],[52],[52],[105,116,52],[105,116,52],[105,116,52],[100,105,116,52]],
 [[45],[45],[45],[45],[116,52],[116,53],[114,54],[114,54],[114,56],[45]],
 [[45],[45],[45],[45],[102,50],[102,51],[102,51],[102,51],[102,51],[45]],
 [[45],[45],[107,50],[105,114,97,56],[52],[53],[97,56],[97,117,57],[97,56],[100,114,97,56]],
 [[45],[45],[107,50],[105,114,110,54],[52],[53],[110,54],[110,55],[110,54],[100,114,110,54]],
 [[45],[45],[107,50],[107,51],[52],[53],[105,55],[114,54],[105,117,57],[100,114,54]],
 [[45],[45],[107,50],[107,51],[52],[53],[105,114,54],[114,54],[105,114,56],[100,114,54]],
 [[45],[45],[107,50],[107,51],[107,52],[107,53],[107,54],[107,54],[107,54],[100,122,107,53]],
 [[45],[45],[50],[51],[102,50],[102,51],[54],[54],[56],[100,114,54]]]
def oO(s e:Nat):List UInt8:=(CB.getD e []).getD s []
def lp(s e:Nat):List UInt8×Int×Nat:=
 if oO s e=[45]then([],0,7)else((oO s e).dropLast,(((oO s e).getLastD 0).toNat:Int)-48,0)
def jh(s e:Int):List UInt8×Int×Nat:=
 if s<0 \/10<=s \/e<0 \/12<=e then([],0,1)else lp s.toNat e.toNat
def jf(w:dY):Prop:=∀e s,e<12->s<10->w.cell? ⟨0,e*10+s,ν⟩=μ (.string ⟨(oO s e).toArray⟩)
theorem jf.below(h:jf w)(hb:eE w w'):jf w':=λe s Z hs=>
 (hb.cell (ag w _ (h e s Z hs))).trans (h e s Z hs)
theorem jf.lt(h:jf w):0<w.heap.size:=ag w _ (h 0 0 eA eA)
theorem nA(s e:Nat)(hs:s<10)(he:e<12):jh s e=lp s e:=by
 unfold jh;rw[af eh];rfl
theorem Ts:∀e,e<12->∀s,s<10->1<=(oO s e).length/\(oO s e).length<=5/\(48<=((oO s e).getLastD 0).toNat/\((oO s e).getLastD 0).toNat<=57 \/oO s e=[45]):=by decide+kernel
theorem Qc(s:Int)(w:dY):eW eX 195 #[ι κ s] w λe w'=>e=ρ (.bool (decide (4<=s)&&decide (s<=8)))/\w=w':=by
 by_cases Y:4<=s
 ·have Z:decide (4<=s)=true:=by simp[Y]
  rw[Z,Bool.true_and];clear Z
  go_in
  go_wp2
  go_ret;exact⟨rfl,rfl⟩
 ·have Z:decide (4<=s)=false:=by simp[Y]
  rw[Z,Bool.false_and];clear Z
  go_in
  go_wp2
  go_ret;exact⟨rfl,rfl⟩
theorem Tt(s e:Int)(w:dY)(h:s<0 \/10<=s \/e<0 \/12<=e):eW eX 207 #[ι κ s,ι κ e] w λx w'=>x=ρ (τ #[.string ⟨#[]⟩,ι κ 0,jm 1])/\w=w':=by
 have Z:jm 1=.iface 128 (ι κ 1):=rfl;rw[Z];clear Z;by_cases h0:s<0
 ·clear h
  go_in
  go_wp2
  go_ret3
  exact⟨rfl,rfl⟩
 ·by_cases h1:10<=s
  ·clear h
   go_in
   go_wp2
   go_ret3
   exact⟨rfl,rfl⟩
  ·by_cases h2:e<0
   ·clear h
    go_in
    go_wp2
    go_ret3
    exact⟨rfl,rfl⟩
   ·have h3:12<=e:=eh;clear h
    go_in
    go_wp2
    go_ret3
    exact⟨rfl,rfl⟩
theorem Qd(s e:Nat)(S:ByteArray)(w:dY)(hs:s<10)(he:e<12)(hc:w.cell? ⟨0,e*10+s,ν⟩=μ (.string S))(hS:(S.toList==[45])=true):
 eW eX 207 #[ι κ s,ι κ e] w λx w'=>x=ρ (τ #[.string ⟨#[]⟩,ι κ 0,jm 7])/\w=w':=by
 have Z:jm 7=.iface 128 (ι κ 7):=rfl;have h0:¬(s:Int)<0:=eh;have h1:¬(10:Int)<=s:=eh;have h2:¬(e:Int)<0:=eh;have h3:¬(12:Int)<=e:=eh;have h4:(s:Int)<10:=eh;have h5:(e:Int)<12:=eh;have h6:0<w.heap.size:=ag w _ hc;rw[Z];clear Z
 go_in
 go_wp2
 go_ret3
 exact⟨rfl,rfl⟩
theorem Qe(s e:Nat)(S:ByteArray)(w:dY)(hs:s<10)(he:e<12)(hc:w.cell? ⟨0,e*10+s,ν⟩=μ (.string S))(hS:(S.toList==[45])=false)(n:Nat)(hl:S.size=n+1)(hn:n<=4)(d:Nat)(hd:(S[n]).toNat=48+d)(hd9:d<=9):
 eW eX 207 #[ι κ s,ι κ e] w λx w'=>x=ρ (τ #[.string (S.extract 0 n),ι κ (d:Int),η])/\∃m,w'=w.drewN m:=by
 have h0:¬(s:Int)<0:=eh;have h1:¬(10:Int)<=s:=eh;have h2:¬(e:Int)<0:=eh;have h3:¬(12:Int)<=e:=eh;have h4:(s:Int)<10:=eh;have h5:(e:Int)<12:=eh;have h6:0<w.heap.size:=ag w _ hc;have h7:wrap64 ((S.size:Int)-1)=n:=by unfold wrap64;omega
 have h8:((0:Int)<=(n:Int)):=eh;have h9:((n:Int)<=(S.size:Int)):=eh;have h10:((n:Int)<(S.size:Int)):=eh
 go_in
 go_wp2
 go_quiet(fail)
 go_wp2
 go_ret3
 refine⟨?_,_,rfl⟩;rw[show(48:Int)+(d:Int)-48=d by omega];rfl
theorem Qf:∀e,e<12->∀s,s<10->oO s e≠ [45]->((⟨(oO s e).toArray⟩:ByteArray).extract 0 ((oO s e).length-1)=⟨(oO s e).dropLast.toArray⟩)/\((oO s e).getD ((oO s e).length-1) 0=(oO s e).getLastD 0):=by decide+kernel
theorem Tv(s e:Int)(w:dY)(h:jf w):eW eX 207 #[ι κ s,ι κ e] w λx w'=>
 x=ρ (τ #[.string ⟨(jh s e).1.toArray⟩,ι κ (jh s e).2.1,jm (jh s e).2.2])/\∃m,w'=w.drewN m:=by
 by_cases X:s<0 \/10<=s \/e<0 \/12<=e
 ·refine(Tt s e w X).mono ?_;rintro x w' ⟨rfl,rfl⟩;have hv:jh s e=([],0,1):=by unfold jh;rw[ai X]
  rw[hv];exact⟨rfl,0,rfl⟩
 ·obtain⟨s',rfl⟩:∃s':Nat,s=s':=⟨s.toNat,eh⟩
  obtain⟨e',rfl⟩:∃e':Nat,e=e':=⟨e.toNat,eh⟩
  have hs:s'<10:=eh;have Y:e'<12:=eh;rw[nA s' e' hs Y];have hc:=h e' s' Y hs;obtain⟨l1,l2,U⟩:=Ts e' Y s' hs;by_cases Z:oO s' e'=[45]
  ·refine(Qd s' e' _ w hs Y hc (by rw[Z];decide+kernel)).mono ?_;rintro x w' ⟨rfl,rfl⟩;have hv:lp s' e'=([],0,7):=by unfold lp;rw[ai Z]
   rw[hv];exact⟨rfl,0,rfl⟩
  ·obtain⟨c1,c2⟩:=Qf e' Y s' hs Z;have l4:=U.resolve_right Z;have hv:lp s' e'=((oO s' e').dropLast,(((oO s' e').getLastD 0).toNat:Int)-48,0):=by unfold lp;rw[af Z]
   rw[hv];clear hv;generalize oO s' e'=L at*;have T:(⟨L.toArray⟩:ByteArray).size=(L.length-1)+1:=by show L.toArray.size=_;simp;omega
   refine(Qe s' e' ⟨L.toArray⟩ w hs Y hc ?_ (L.length-1) T eh ((L.getLastD 0).toNat-48) ?_ eh).mono ?_
   ·rw[cT];intro hb;apply Z;rw[<-hb];simp[ByteArray.toList_eq]
   ·rw[<-c2];show(L.toArray[L.length-1]'_).toNat=_;rw[List.getElem_toArray,aK,az eh];rw[aK,az eh]at c2;simp only[Option.getD_some]at c2⊢;rw[c2];omega
   ·rintro x w' ⟨rfl,m,rfl⟩;refine⟨?_,m,rfl⟩;rw[c1];have V:(((L.getLastD 0).toNat-48:Nat):Int)=((L.getLastD 0).toNat:Int)-48:=eh;rw[V];rfl
theorem IB(s e:Int)(D:List UInt8)(nx:Int)(f:Nat)(Z:jh s e=(D,nx,f))(w:dY)(h:jf w):
 eW eX 207 #[ι κ s,ι κ e] w λx w'=>x=ρ (τ #[.string ⟨D.toArray⟩,ι κ nx,jm f])/\∃m,w'=w.drewN m:=by
 have:=Tv s e w h;rw[Z]at this;exact this
theorem C8:(eX.info? 276).map (λi=>(i.zero,i.size,i.bytes))=μ (μ (.agg #[ι κ 0,ι κ 0]),2,16):=gq
theorem zd(w:dY):(zeroValue 252).run eX w=.ok (.agg #[ι κ 0,ι κ 0]) w:=gq
def od(sz mg:Int):List jE:=(if 0<sz then [(1,sz)]else [])++(if 0<mg then [(5,mg)]else [])
def J9(o:jE):Bool:= !(o.1==1)&& !(o.1==5)
def tK(l:List jE):List jE:=l.filter J9
def xH(mg:Int)(o:jE):List jE:=
 if o.1=1/\o.2<40 then [(1,40)]else if o.1=5/\(o.2=0 \/o.2=mg)then [(5,mg%255+1)]else []
def qZ(mg:Int)(l:List jE):List jE:=l.flatMap (xH mg)
def l9(mg:Int)(l:List jE):Int×List jE:=if tK l≠ []then(4,tK l)else if qZ mg l≠ []then(3,qZ mg l)else(2,l)
def j7(code:Int)(p:Int×Int)(o:jE):Int×Int:=
 if code=4 then(if o.1=1 then(0,p.2)else if o.1=5 then(p.1,0)else p)
 else if code=3 then(if o.1=1/\0<p.1/\40<=o.2 then(o.2,p.2)else if o.1=5/\0<p.2/\0<o.2 then(p.1,o.2)else p)
 else p
def oY(code:Int)(l:List jE)(p:Int×Int):Int×Int:=l.foldl (j7 code) p
theorem aa8(sz mg:Int)(w:dY)(h1:¬sz<40)(h2:¬255<sz)(h3:¬mg<1)(h4:¬255<mg):
 eW eX 170 #[ι κ sz,ι κ mg] w λe w'=>e=ρ (τ #[.agg #[ι κ sz,ι κ mg],η])/\eE w w':=by
 have hz:=zd;have hb:eE w (w.alloc (γ #[ι κ sz,ι κ mg] 252)):=gW _ _
 go_in
 go_wp2
 refine aF (v:=τ #[.agg #[ι κ sz,ι κ mg],η]) (by simp[results,results170,go_sem]) rfl ?_;exact⟨rfl,hb⟩
theorem Ka(sz mg:Int)(w:dY):eW eX 224 #[.agg #[ι κ sz,ι κ mg]] w λe w'=>∃v,e=ρ v/\Made w w' v (od sz mg):=by
 obtain⟨i0,hi,D,G,y⟩:=aY C8;have V:eE w (w.alloc (γ #[ι κ sz,ι κ mg] 252)):=gW _ _;have hA:=λj=>ar w #[ι κ sz,ι κ mg] 252 (0,0) j;by_cases A:0<sz
 ·by_cases J:0<mg
  ·have S:od sz mg=[(1,sz)] ++ [(5,mg)] :=by simp[od,A,J]
   rw[S]
   go_in
   go_wp2_with(at_builtin;go_must(refine iG _ rfl (.tmp 7) (.tmp 11) 35 rfl 276 i0 (.agg #[ι κ 0,ι κ 0]) 2 16 underlying35 hi D G y rfl eA (σ ν 0 0) 0 (iR []) rfl (Row.nil _ 2) _ 1 1 [ι κ 1,ι κ sz] rfl rfl eA (ng _ _ _ _ _ gY) (lK _ _ _ _) eA eA ?_));intro g1 E w1 U Y X;have T:=lV (V.alloc V.size _) Y (λj Z=>mY Z);have M:=nU (B:=w.heap.size) X eh (λj Z=>mY Z);have h:w1.cell? ⟨w.heap.size,1,ν⟩=μ (ι κ mg):=by
    exact sj Y (by simp[eu]) (((gW _ _).cell (p:=⟨w.heap.size,1,ν⟩) gY).trans (hA 1))
   have IC:w.heap.size<w1.heap.size:=ag w1 _ h;rw[show([] :List jE)=[]from rfl]at U;have u:Row w1 2 (σ (μ ⟨g1,0,ν⟩) 1 E) 1 (iR [(1,sz)]):=U;clear Y X U;go_wp2_with(at_builtin;go_must(refine iG _ rfl (.tmp 16) (.tmp 20) 35 rfl 276 i0 (.agg #[ι κ 0,ι κ 0]) 2 16 underlying35 hi D G y rfl eA (σ (μ ⟨g1,0,ν⟩) 1 E) 1 (iR [(1,sz)]) rfl (u.alloc _) _ 1 1 [ι κ 5,ι κ mg] rfl rfl eA (ng _ _ _ _ _ gY) (lK _ _ _ _) eA eA ?_));intro g2 cap2 w2 sT BF kU;have mR:=lV (T.alloc T.size _) BF (λj Z=>kF M Z);have vG:=nU (B:=w.heap.size) kU (by have:=T.size;omega) (λj Z=>kF M Z);clear BF kU
   go_wp2
   go_ret;exact⟨_,rfl,⟨sT,λj Z=>kF vG Z,mR⟩⟩
  ·have S:od sz mg=[(1,sz)] :=by simp[od,A,J]
   rw[S]
   go_in
   go_wp2_with(at_builtin;go_must(refine iG _ rfl (.tmp 7) (.tmp 11) 35 rfl 276 i0 (.agg #[ι κ 0,ι κ 0]) 2 16 underlying35 hi D G y rfl eA (σ ν 0 0) 0 (iR []) rfl (Row.nil _ 2) _ 1 1 [ι κ 1,ι κ sz] rfl rfl eA (ng _ _ _ _ _ gY) (lK _ _ _ _) eA eA ?_));intro g1 E w1 U Y X;have T:=lV (V.alloc V.size _) Y (λj Z=>mY Z);have M:=nU (B:=w.heap.size) X eh (λj Z=>mY Z);have h:w1.cell? ⟨w.heap.size,1,ν⟩=μ (ι κ mg):=by
    exact sj Y (by simp[eu]) (((gW _ _).cell (p:=⟨w.heap.size,1,ν⟩) gY).trans (hA 1))
   have IC:w.heap.size<w1.heap.size:=ag w1 _ h;clear Y X
   go_wp2
   go_ret;exact⟨_,rfl,⟨U,λj Z=>kF M Z,T⟩⟩
 ·by_cases J:0<mg
  ·have S:od sz mg=[(5,mg)] :=by simp[od,A,J]
   rw[S]
   go_in
   go_wp2_with(at_builtin;go_must(refine iG _ rfl (.tmp 16) (.tmp 20) 35 rfl 276 i0 (.agg #[ι κ 0,ι κ 0]) 2 16 underlying35 hi D G y rfl eA (σ ν 0 0) 0 (iR []) rfl (Row.nil _ 2) _ 1 1 [ι κ 5,ι κ mg] rfl rfl eA (ng _ _ _ _ _ gY) (lK _ _ _ _) eA eA ?_));intro g1 E w1 U Y X;have T:=lV (V.alloc V.size _) Y (λj Z=>mY Z);have M:=nU (B:=w.heap.size) X eh (λj Z=>mY Z);clear Y X
   go_wp2
   go_ret;exact⟨_,rfl,⟨U,λj Z=>kF M Z,T⟩⟩
  ·have S:od sz mg=[] :=by simp[od,A,J]
   rw[S]
   go_in
   go_wp2
   go_ret;exact⟨_,rfl,⟨Row.nil _ 2,λj Z=>mY Z,V⟩⟩
theorem BG(a:Option dX)(n cap:Nat)(os:List jE)(w:dY)(hn:n<=1000000)(M:jc w a n os):
 eW eX 244 #[σ a n cap] w λe w'=>∃v,e=ρ v/\Made w w' v (tK os):=by
 obtain⟨i0,hi,ox,nh,mO⟩:=aY C8
 go_in
 go_wp2
 go_loopw [3,8] (λout i wr=>∃(k:Nat) (ao:Option dX) (m cp:Nat),k<=n/\out=σ ao m cp/\i=ι κ k/\m<=k/\Row wr 2 (σ ao m cp) m (iR (tK (os.take k)))/\(∀j,eu (σ ao m cp)=μ j->w.heap.size<=j)/\eE w wr) (λ_ i _=>n-(eY i).toNat)
 case atStart=>exact⟨0,ν,0,0,Nat.zero_le _,rfl,rfl,Nat.le_refl _,by simpa[tK,iR]using Row.nil w 2,λj J=>mY J,av _ _⟩
 case round=>
  obtain⟨k,ao,m,cp,hk,rfl,rfl,ZK,Y,V,Z⟩:=hrel;by_cases kB:k<n
  ·have u:=M.below Z;rcases u.2 with h0|⟨b,off,rfl,hc⟩
   ·omega
   have y:k<os.length:=by rw[M.1];exact kB
   obtain⟨c1,c2⟩:=hc k y;have S:Hid (os.take (k+1)=os.take k++ [os[k]]):=aB y;generalize os[k] =o at c1 c2 S;clear hc;have nQ:(k:Int)<(n:Int):=eh;cases q1:(o.1==1)
   ·cases T:(o.1==5)
    ·have D:(o.1 !=1)=true:=by simp[bne,q1]
     have p5:(o.1 !=5)=true:=by simp[bne,T]
     have X:Hid (tK (os.take (k+1))=tK (os.take k)++ [o]):=by
      show _=_;rw[S.out,tK,cA];simp[J9,q1,T];rfl
     go_wp2_with(at_builtin;go_must(refine iG _ rfl (.tmp 20) (.tmp 22) 35 rfl 276 i0 (.agg #[ι κ 0,ι κ 0]) 2 16 underlying35 hi ox nh mO rfl eA (σ ao m cp) m (iR (tK (os.take k))) rfl ((Y.alloc _).alloc _) _ 1 1 [ι κ o.1,ι κ o.2] rfl rfl eA (ng _ _ _ _ _ gY) (lK _ _ _ _) (by unfold maxLen;omega) eh ?_));intro g' h w1 A G E;have U:=lV ((Z.alloc Z.size _).alloc (by simp;have:=Z.size;omega) _) G V;have mM:=nU (B:=w.heap.size) E (by have:=Z.size;omega) V;rw[<-mb,<-X.out]at A;clear G E
     go_wp2
     go_roundw
     case rel=>exact⟨k+1,_,m+1,h,eh,rfl,by go_num,eh,A,λj J=>kF mM J,U⟩
     case measure=>simp[eY];omega
    ·have D:(o.1 !=1)=true:=by simp[bne,q1]
     have p5:(o.1 !=5)=false:=by simp[bne,T]
     have X:Hid (tK (os.take (k+1))=tK (os.take k)):=by
      show _=_;rw[S.out,tK,cA];simp[J9,q1,T];rfl
     have U:=Z.alloc Z.size (γ #[ι κ o.1,ι κ o.2] 276)
     go_wp2
     go_roundw
     case rel=>exact⟨k+1,_,m,cp,eh,rfl,by go_num,eh,by rw[X.out];exact Y.alloc _,V,U⟩
     case measure=>simp[eY];omega
   ·have D:(o.1 !=1)=false:=by simp[bne,q1]
    have X:Hid (tK (os.take (k+1))=tK (os.take k)):=by
     show _=_;rw[S.out,tK,cA];simp[J9,q1];rfl
    have U:=Z.alloc Z.size (γ #[ι κ o.1,ι κ o.2] 276)
    go_wp2
    go_roundw
    case rel=>exact⟨k+1,_,m,cp,eh,rfl,by go_num,eh,by rw[X.out];exact Y.alloc _,V,U⟩
    case measure=>simp[eY];omega
  ·have ze:os.take k=os:=aJ (by rw[M.1];omega);rw[ze]at Y;have CD:m=(tK os).length:=by have:=Y.1;rw[ld]at this;omega
   go_wp2
   go_ret;exact⟨_,rfl,⟨by rw[<-CD];exact Y,V,Z⟩⟩
theorem Tw:(eX.info? 37).map (λi=>(i.zero,i.size,i.bytes))=μ (μ (.agg #[ι κ 0,ι κ 0,σ ν 0 0]),3,40):=gq
def Tx(fs fm ns nm qs qm st sz lf wt ow:Int)(v:dZ):Array dZ:= #[ι κ fs,ι κ fm,ι κ ns,ι κ nm,ι κ qs,ι κ qm,ι κ st,ι κ sz,ι κ lf,ι κ wt,ι κ ow,v]
def Lk(w:dY)(B:Nat)(C:Array dZ):Prop:=w.heap[B]? =μ (γ C 254 (0,0))
theorem Lk.lt(h:Lk w B C):B<w.heap.size:=(ay.1 h).1
theorem Lk.cell {w:dY} {B:Nat} {C:Array dZ} (h:Lk w B C)(j:Nat):w.cell? ⟨B,j,ν⟩=C[j]? :=ax w B j C _ (0,0) h
theorem Lk.frozen {w:dY} {B:Nat} {C:Array dZ} (h:Lk w B C)(j:Nat):w.frozen? ⟨B,j,ν⟩=false:=bE w B j C _ h
theorem Lk.set(h:Lk w B C)(j:Nat)(x:dZ):Lk (w.setCell ⟨B,j,ν⟩ x) B (C.setIfInBounds j x):=by
 unfold Lk;rw[bP w B j C _ (0,0) x h];exact cE w B C _ _ (0,0) h
theorem Lk.keep(h:Lk w B C)(hb:w'.heap[B]? =w.heap[B]?):Lk w' B C:=hb.trans h
theorem Lk.below(h:Lk w B C)(hb:eE w w'):Lk w' B C:=h.keep (hb.block B h.lt)
theorem Lk.drew {w:dY} {B:Nat} {C:Array dZ} (h:Lk w B C):Lk w.drew B C:=h
theorem zf(w:dY)(x y z:dZ)(t:ew)(g:Nat)(Z:w.heap.size=g):∀(j:Nat) (u:dZ),[x,y,z][j]? =μ u->(w.alloc (γ #[x,y,z] t)).drew.cell? ((⟨g,0,ν⟩:dX).add j)=μ u:=by
 subst Z;intro j u Y;show(w.alloc (γ #[x,y,z] t)).cell? _=_;rw[add_plain,ar];simpa using Y
theorem Ty(x y:Int)(a:Option dX)(n c:Nat):∀u∈ [eB .i64 x,eB .i64 y,Value.slice a n c],u.oneCell'=true:=by simp[eD]
theorem pw(h:a.grownBy w (μ b))(j:Nat)(v:dZ):a.grownBy (w.setCell ⟨b,j,ν⟩ v) (μ b):=by
 have b1:eG 0 w (w.setCell ⟨b,j,ν⟩ v):=(av 0 w).setCell (Nat.zero_le _) _;exact⟨b1.os.trans h.os,b1.tape.trans h.tape,b1.output.trans h.output,Nat.le_trans h.size b1.size,λi hi Z=>(aq _ _ _ i (λe=>Z (by rw[e]))).trans (h.block i hi Z)⟩
theorem su(B:Nat)(h:eE w x):w.grownBy x (μ B):=⟨h.os,h.tape,h.output,h.size,λi hi _=>h.block i hi⟩
theorem BH {b:dY} (h:a.grownBy b (μ B))(k:b.grownBy c (μ B)):a.grownBy c (μ B):=
 ⟨k.os.trans h.os,k.tape.trans h.tape,k.output.trans h.output,Nat.le_trans h.size k.size,λi hi Z=>(k.block i (Nat.lt_of_lt_of_le hi h.size) Z).trans (h.block i hi Z)⟩
theorem Kc(sz mg k:Int)(w:dY):eW eX 247 #[.agg #[ι κ sz,ι κ mg],ι κ k] w λe w'=>
 e=ρ (.agg #[ι κ (j7 4 (sz,mg) (k,0)).1,ι κ (j7 4 (sz,mg) (k,0)).2])/\eE w w':=by
 have hz:=zd;have hb:∀A B:Array dZ,eE w ((w.alloc (γ A 252)).alloc (γ B 252)):=λA B=>(gW _ _).alloc gY _;cases q1:(k==1)
 ·cases Z:(k==5)
  ·have hv:j7 4 (sz,mg) (k,0)=(sz,mg):=by simp at q1 Z;simp[j7,q1,Z]
   rw[hv];clear hv
   go_in
   go_wp2
   refine aF (v:=.agg #[ι κ sz,ι κ mg]) (by simp[results,results247,go_sem]) rfl ?_;exact⟨rfl,hb _ _⟩
  ·have hv:j7 4 (sz,mg) (k,0)=(sz,0):=by simp at q1 Z;simp[j7,Z]
   rw[hv];clear hv
   go_in
   go_wp2
   refine aF (v:=.agg #[ι κ sz,ι κ 0]) (by simp[results,results247,go_sem]) rfl ?_;exact⟨rfl,hb _ _⟩
 ·have hv:j7 4 (sz,mg) (k,0)=(0,mg):=by simp at q1;simp[j7,q1]
  rw[hv];clear hv
  go_in
  go_wp2
  refine aF (v:=.agg #[ι κ 0,ι κ mg]) (by simp[results,results247,go_sem]) rfl ?_;exact⟨rfl,hb _ _⟩
theorem Tz(sz mg k n:Int)(w:dY):eW eX 248 #[.agg #[ι κ sz,ι κ mg],.agg #[ι κ k,ι κ n]] w λe w'=>
 e=ρ (.agg #[ι κ (j7 3 (sz,mg) (k,n)).1,ι κ (j7 3 (sz,mg) (k,n)).2])/\eE w w':=by
 have hz:=zd;have hb:∀(A B C:Array dZ) (t u v:ew),eE w (((w.alloc (γ A t)).alloc (γ B u)).alloc (γ C v)):=λA B C t u v=>((gW _ _).alloc gY _).alloc (by simp;omega) _;have fin:∀(s m:Int),j7 3 (sz,mg) (k,n)=(s,m)->((j7 3 (sz,mg) (k,n)).1=s/\(j7 3 (sz,mg) (k,n)).2=m):=λs m h=>by rw[h];exact⟨rfl,rfl⟩
 cases q1:(k==1)
 ·cases Z:(k==5)
  ·have hv:j7 3 (sz,mg) (k,n)=(sz,mg):=by simp at q1 Z;simp[j7,q1,Z]
   rw[hv];clear hv fin
   go_in
   go_wp2
   refine aF (v:=.agg #[ι κ sz,ι κ mg]) (by simp[results,results248,go_sem]) rfl ?_;exact⟨rfl,hb _ _ _ _ _ _⟩
  ·by_cases Y:0<mg
   ·by_cases X:0<n
    ·have hv:j7 3 (sz,mg) (k,n)=(sz,n):=by simp at q1 Z;simp[j7,Z,Y,X]
     rw[hv];clear hv fin
     go_in
     go_wp2
     refine aF (v:=.agg #[ι κ sz,ι κ n]) (by simp[results,results248,go_sem]) rfl ?_;exact⟨rfl,hb _ _ _ _ _ _⟩
    ·have hv:j7 3 (sz,mg) (k,n)=(sz,mg):=by simp at q1 Z;simp[j7,Z,X]
     rw[hv];clear hv fin
     go_in
     go_wp2
     refine aF (v:=.agg #[ι κ sz,ι κ mg]) (by simp[results,results248,go_sem]) rfl ?_;exact⟨rfl,hb _ _ _ _ _ _⟩
   ·have hv:j7 3 (sz,mg) (k,n)=(sz,mg):=by simp at q1 Z;simp[j7,Z,Y]
    rw[hv];clear hv fin
    go_in
    go_wp2
    refine aF (v:=.agg #[ι κ sz,ι κ mg]) (by simp[results,results248,go_sem]) rfl ?_;exact⟨rfl,hb _ _ _ _ _ _⟩
 ·have Z:(k==5)=false:=by simp at q1⊢;omega
  by_cases Y:0<sz
  ·by_cases X:40<=n
   ·have hv:j7 3 (sz,mg) (k,n)=(n,mg):=by simp at q1;simp[j7,q1,Y,X]
    rw[hv];clear hv fin
    go_in
    go_wp2
    refine aF (v:=.agg #[ι κ n,ι κ mg]) (by simp[results,results248,go_sem]) rfl ?_;exact⟨rfl,hb _ _ _ _ _ _⟩
   ·have hv:j7 3 (sz,mg) (k,n)=(sz,mg):=by simp at q1;simp[j7,q1,X]
    rw[hv];clear hv fin
    go_in
    go_wp2
    refine aF (v:=.agg #[ι κ sz,ι κ mg]) (by simp[results,results248,go_sem]) rfl ?_;exact⟨rfl,hb _ _ _ _ _ _⟩
  ·have hv:j7 3 (sz,mg) (k,n)=(sz,mg):=by simp at q1;simp[j7,q1,Y]
   rw[hv];clear hv fin
   go_in
   go_wp2
   refine aF (v:=.agg #[ι κ sz,ι κ mg]) (by simp[results,results248,go_sem]) rfl ?_;exact⟨rfl,hb _ _ _ _ _ _⟩
theorem DG(sz mg:Int)(a:Option dX)(n cap:Nat)(os:List jE)(w:dY)(Mm:0<=mg)(aa9:mg<=255)(hn:n<=1000000)(ho:jc w a n os):
 eW eX 245 #[.agg #[ι κ sz,ι κ mg],σ a n cap] w λe w'=>∃v,e=ρ v/\Made w w' v (qZ mg os):=by
 obtain⟨i0,hi,ox,nh,mO⟩:=aY C8;have qv:eE w (w.alloc (γ #[ι κ sz,ι κ mg] 252)):=gW _ _;have hA:=λj=>ar w #[ι κ sz,ι κ mg] 252 (0,0) j
 go_in
 go_wp2
 go_loopw [5,10] (λout i wr=>∃(k:Nat) (ao:Option dX) (m cp:Nat),k<=n/\out=σ ao m cp/\i=ι κ k/\m<=k/\Row wr 2 (σ ao m cp) m (iR (qZ mg (os.take k)))/\(∀j,eu (σ ao m cp)=μ j->w.heap.size+1<=j)/\wr.cell? ⟨w.heap.size,1,ν⟩=μ (ι κ mg)/\eE w wr) (λ_ i _=>n-(eY i).toNat)
 case atStart=>exact⟨0,ν,0,0,Nat.zero_le _,rfl,rfl,Nat.le_refl _,by simpa[qZ,iR]using Row.nil _ 2,λj Z=>mY Z,hA 1,qv⟩
 case round=>
  obtain⟨k,ao,m,cp,hk,rfl,rfl,ZK,U,V,u,iK⟩:=hrel;have IC:w.heap.size<wr.heap.size:=ag wr _ u;by_cases kB:k<n
  ·have Am:=ho.below iK;rcases Am.2 with h0|⟨b,off,rfl,hc⟩
   ·omega
   have qF:k<os.length:=by rw[ho.1];exact kB
   obtain⟨c1,c2⟩:=hc k qF;have HT:Hid (qZ mg (os.take (k+1))=qZ mg (os.take k)++xH mg os[k]):=by
    show _=_;rw[aB qF,qZ,cu,b9,List.flatMap_nil,aC];rfl
   generalize os[k] =o at c1 c2 HT;clear hc;have nQ:(k:Int)<(n:Int):=eh;have S:=iK.alloc iK.size (γ #[ι κ o.1,ι κ o.2] 276);have E:(wr.alloc (γ #[ι κ o.1,ι κ o.2] 276)).cell? ⟨w.heap.size,1,ν⟩=μ (ι κ mg):=((gW _ _).cell (p:=⟨w.heap.size,1,ν⟩) IC).trans u;have keep:xH mg o=[]->Hid (Row (wr.alloc (γ #[ι κ o.1,ι κ o.2] 276)) 2 (σ ao m cp) m (iR (qZ mg (os.take (k+1))))):=λhe=>by
    show Row _ _ _ _ _;rw[HT.out,he,aC];exact U.alloc _
   cases q1:(o.1==1)
   ·cases T:(o.1==5)
    ·have X:=keep (by simp at q1 T;simp[xH,q1,T])
     go_wp2
     go_roundw
     case rel=>exact⟨k+1,_,m,cp,eh,rfl,by go_num,eh,X.out,V,E,S⟩
     case measure=>simp[eY];omega
    ·cases q6:(o.2==0)
     ·cases q7:(o.2==mg)
      ·have X:=keep (by simp at q1 T q6 q7;simp[xH,T,q6,q7])
       go_wp2
       go_roundw
       case rel=>exact⟨k+1,_,m,cp,eh,rfl,by go_num,eh,X.out,V,E,S⟩
       case measure=>simp[eY];omega
      ·have A:Hid (xH mg o=[(5,(mg%255+1))]):=by
        show _=_;simp at q1 T q6 q7;simp[xH,T,q7]
       go_wp2_with(at_builtin;go_must(refine iG _ rfl (.tmp 41) (.tmp 47) 35 rfl 276 i0 (.agg #[ι κ 0,ι κ 0]) 2 16 underlying35 hi ox nh mO rfl eA (σ ao m cp) m (iR (qZ mg (os.take k))) rfl ((U.alloc _).alloc _) _ 1 1 [ι κ 5,ι κ (mg%255+1)] rfl rfl eA (ng _ _ _ _ _ gY) (lK _ _ _ _) (by unfold maxLen;omega) eh ?_));intro D J w1 X Y M;have h:=lV (S.alloc S.size _) Y (λj Z=>by have:=V j Z;omega);have mM:=nU (B:=w.heap.size+1) M eh V;have G:w1.cell? ⟨w.heap.size,1,ν⟩=μ (ι κ mg):=sj Y (λe=>by have:=V _ e;omega) (((gW _ _).cell (p:=⟨w.heap.size,1,ν⟩) (by simp;omega)).trans E);have IE:w.heap.size<w1.heap.size:=ag w1 _ G;have hcs:∀j,j<2->w1.cell? ⟨wr.heap.size,j,ν⟩=(wr.alloc (γ #[ι κ o.1,ι κ o.2] 276)).cell? ⟨wr.heap.size,j,ν⟩:=λj _=>by
        have e1:=aj (a:=⟨wr.heap.size,j,ν⟩) (Y.block wr.heap.size (by simp;omega) (λe=>by have:=U.lt _ e.symm;omega));exact e1.trans ((gW _ _).cell (p:=⟨wr.heap.size,j,ν⟩) gY)
       have d0:=(hcs 0 eA).trans (ar wr #[ι κ o.1,ι κ o.2] 276 (0,0) 0);have d1:=(hcs 1 eA).trans (ar wr #[ι κ o.1,ι κ o.2] 276 (0,0) 1);have OE:wr.heap.size<w1.heap.size:=ag w1 _ d0;have y:Row w1 2 (σ (μ ⟨D,0,ν⟩) (m+1) J) (m+1) (iR (qZ mg (os.take (k+1)))):=by
        rw[HT.out,A.out,mb];exact X
       clear Y M X hcs keep
       go_wp2
       go_roundw
       case rel=>exact⟨k+1,_,m+1,J,eh,rfl,by go_num,eh,y,λj Z=>kF mM Z,G,h⟩
       case measure=>simp[eY];omega
     ·have A:Hid (xH mg o=[(5,(mg%255+1))]):=by
       show _=_;simp at q1 T q6;simp[xH,T,q6]
      go_wp2_with(at_builtin;go_must(refine iG _ rfl (.tmp 41) (.tmp 47) 35 rfl 276 i0 (.agg #[ι κ 0,ι κ 0]) 2 16 underlying35 hi ox nh mO rfl eA (σ ao m cp) m (iR (qZ mg (os.take k))) rfl ((U.alloc _).alloc _) _ 1 1 [ι κ 5,ι κ (mg%255+1)] rfl rfl eA (ng _ _ _ _ _ gY) (lK _ _ _ _) (by unfold maxLen;omega) eh ?_));intro D J w1 X Y M;have h:=lV (S.alloc S.size _) Y (λj Z=>by have:=V j Z;omega);have mM:=nU (B:=w.heap.size+1) M eh V;have G:w1.cell? ⟨w.heap.size,1,ν⟩=μ (ι κ mg):=sj Y (λe=>by have:=V _ e;omega) (((gW _ _).cell (p:=⟨w.heap.size,1,ν⟩) (by simp;omega)).trans E);have IE:w.heap.size<w1.heap.size:=ag w1 _ G;have hcs:∀j,j<2->w1.cell? ⟨wr.heap.size,j,ν⟩=(wr.alloc (γ #[ι κ o.1,ι κ o.2] 276)).cell? ⟨wr.heap.size,j,ν⟩:=λj _=>by
       have e1:=aj (a:=⟨wr.heap.size,j,ν⟩) (Y.block wr.heap.size (by simp;omega) (λe=>by have:=U.lt _ e.symm;omega));exact e1.trans ((gW _ _).cell (p:=⟨wr.heap.size,j,ν⟩) gY)
      have d0:=(hcs 0 eA).trans (ar wr #[ι κ o.1,ι κ o.2] 276 (0,0) 0);have d1:=(hcs 1 eA).trans (ar wr #[ι κ o.1,ι κ o.2] 276 (0,0) 1);have OE:wr.heap.size<w1.heap.size:=ag w1 _ d0;have y:Row w1 2 (σ (μ ⟨D,0,ν⟩) (m+1) J) (m+1) (iR (qZ mg (os.take (k+1)))):=by
       rw[HT.out,A.out,mb];exact X
      clear Y M X hcs keep
      go_wp2
      go_roundw
      case rel=>exact⟨k+1,_,m+1,J,eh,rfl,by go_num,eh,y,λj Z=>kF mM Z,G,h⟩
      case measure=>simp[eY];omega
   ·have T:(o.1==5)=false:=by simp at q1⊢;omega
    by_cases q2:o.2<40
    ·have A:Hid (xH mg o=[(1,40)]):=by
      show _=_;simp at q1;simp[xH,q1,q2]
     go_wp2_with(at_builtin;go_must(refine iG _ rfl (.tmp 22) (.tmp 24) 35 rfl 276 i0 (.agg #[ι κ 0,ι κ 0]) 2 16 underlying35 hi ox nh mO rfl eA (σ ao m cp) m (iR (qZ mg (os.take k))) rfl ((U.alloc _).alloc _) _ 1 1 [ι κ 1,ι κ 40] rfl rfl eA (ng _ _ _ _ _ gY) (lK _ _ _ _) (by unfold maxLen;omega) eh ?_));intro D J w1 X Y M;have h:=lV (S.alloc S.size _) Y (λj Z=>by have:=V j Z;omega);have mM:=nU (B:=w.heap.size+1) M eh V;have G:w1.cell? ⟨w.heap.size,1,ν⟩=μ (ι κ mg):=sj Y (λe=>by have:=V _ e;omega) (((gW _ _).cell (p:=⟨w.heap.size,1,ν⟩) (by simp;omega)).trans E);have IE:w.heap.size<w1.heap.size:=ag w1 _ G;have hcs:∀j,j<2->w1.cell? ⟨wr.heap.size,j,ν⟩=(wr.alloc (γ #[ι κ o.1,ι κ o.2] 276)).cell? ⟨wr.heap.size,j,ν⟩:=λj _=>by
      have e1:=aj (a:=⟨wr.heap.size,j,ν⟩) (Y.block wr.heap.size (by simp;omega) (λe=>by have:=U.lt _ e.symm;omega));exact e1.trans ((gW _ _).cell (p:=⟨wr.heap.size,j,ν⟩) gY)
     have d0:=(hcs 0 eA).trans (ar wr #[ι κ o.1,ι κ o.2] 276 (0,0) 0);have d1:=(hcs 1 eA).trans (ar wr #[ι κ o.1,ι κ o.2] 276 (0,0) 1);have OE:wr.heap.size<w1.heap.size:=ag w1 _ d0;have y:Row w1 2 (σ (μ ⟨D,0,ν⟩) (m+1) J) (m+1) (iR (qZ mg (os.take (k+1)))):=by
      rw[HT.out,A.out,mb];exact X
     clear Y M X hcs keep
     go_wp2
     go_roundw
     case rel=>exact⟨k+1,_,m+1,J,eh,rfl,by go_num,eh,y,λj Z=>kF mM Z,G,h⟩
     case measure=>simp[eY];omega
    ·have X:=keep (by simp at q1;simp[xH,q1,q2])
     go_wp2
     go_roundw
     case rel=>exact⟨k+1,_,m,cp,eh,rfl,by go_num,eh,X.out,V,E,S⟩
     case measure=>simp[eY];omega
  ·have ze:os.take k=os:=aJ (by rw[ho.1];omega);rw[ze]at U;have CD:m=(qZ mg os).length:=by have:=U.1;rw[ld]at this;omega
   go_wp2
   go_ret;exact⟨_,rfl,⟨by rw[<-CD];exact U,λj Z=>by have:=V j Z;omega,iK⟩⟩
theorem not_nil(a:dX)(n cap:Nat)(w:dY):(binOp .eql 35 (σ (μ a) n cap) (σ ν 0 0)).run eX w=.ok (.bool false) w:=gq
theorem abb(w:dY):(binOp .eql 35 (σ ν 0 0) (σ ν 0 0)).run eX w=.ok (.bool true) w:=gq
theorem DH(a:dX)(cap:Nat)(w:dY):
 eW eX 246 #[σ (μ a) 0 cap] w λe w'=>∃(v:dZ),e=ρ v/\Made w w' v [] :=by
 have hq:=not_nil
 go_in
 go_wp2
 go_ret;exact⟨_,rfl,⟨Row.made w 2 _ #[] (0,0) 0 0 [] rfl rfl (Nat.le_refl _) eA (.inl rfl) gY,λj Z=>kF (Nat.le_refl _) Z,gW _ _⟩⟩
theorem Qh(w:dY):
 eW eX 246 #[σ ν 0 0] w λe w'=>∃(v:dZ),e=ρ v/\Made w w' v [] :=by
 have hq:=abb
 go_in
 go_wp2
 go_ret;exact⟨_,rfl,⟨Row.nil w 2,λj Z=>mY Z,av _ _⟩⟩
theorem MD(b off n cap:Nat)(os:List jE)(w:dY)(hn:n<=1000000)(X:0<n)(T:jc w (μ ⟨b,off,ν⟩) n os):
 eW eX 246 #[σ (μ ⟨b,off,ν⟩) n cap] w λe w'=>∃(v:dZ),e=ρ v/\Made w w' v os:=by
 obtain⟨i0,hi,D,M,A⟩:=aY C8;have hq:=not_nil;have Y:eE w (w.alloc (γ #[] 276)):=gW _ _;have hl:=T.1;have J:Row (w.alloc (γ #[] 276)) 2 (σ (μ ⟨w.heap.size,0,ν⟩) 0 0) 0 [] :=Row.made w 2 _ #[] (0,0) 0 0 [] rfl rfl (Nat.le_refl _) eA (.inl rfl) gY
 go_in
 go_wp2_with(at_builtin;go_must(refine iG _ rfl (.tmp 5) (.tmp 6) 35 rfl 276 i0 (.agg #[ι κ 0,ι κ 0]) 2 16 underlying35 hi D M A rfl eA (σ (μ ⟨w.heap.size,0,ν⟩) 0 0) 0 [] rfl J _ n cap (iR os) rfl (by rw[ld];omega) X ((T.below Y).cells X) (J8 _) (by unfold maxLen;omega) eh ?_));intro g1 CC w1 E V U;have G:=lV Y V (λj Z=>kF (Nat.le_refl _) Z);have S:=nU (B:=w.heap.size) U eh (λj Z=>kF (Nat.le_refl _) Z);clear V U
 go_wp2
 go_ret;refine⟨_,rfl,⟨?_,λj Z=>kF S Z,G⟩⟩;rw[hl];exact E
theorem Qi(a:Option dX)(n cap:Nat)(os:List jE)(w:dY)(T:n<=1000000)(U:kI a cap)(Z:jc w a n os):
 eW eX 246 #[σ a n cap] w λe w'=>∃(v:dZ),e=ρ v/\Made w w' v os:=by
 rcases Z.2 with Y|⟨b,off,rfl,hc⟩
 ·subst Y;have X:os=[] :=aI Z.1;subst X;cases a with
  |none=>
   obtain rfl:=U rfl;exact Qh w
  |some a=>exact DH a cap w
 ·by_cases V:0<n
  ·exact MD b off n cap os w T V Z
  ·have Y:n=0:=eh;subst Y;have X:os=[] :=aI Z.1;subst X;exact DH _ cap w
theorem GG {w1:dY} {x y:dZ} (hb:eG (w.alloc (γ #[x,y] t)).heap.size (w.alloc (γ #[x,y] t)) w1):
 w1.cell? ⟨w.heap.size,0,ν⟩=μ x/\w1.cell? ⟨w.heap.size,1,ν⟩=μ y/\w.heap.size<w1.heap.size:=by
 have Z:w.heap.size<(w.alloc (γ #[x,y] t)).heap.size:=gY;have hA:=λj=>ar w #[x,y] t (0,0) j;exact⟨(hb.cell (p:=⟨w.heap.size,0,ν⟩) Z).trans (hA 0),(hb.cell (p:=⟨w.heap.size,1,ν⟩) Z).trans (hA 1),Nat.lt_of_lt_of_le Z hb.size⟩
theorem GH(sz mg:Int)(a:Option dX)(n cap:Nat)(os:List jE)(w:dY)(y:0<=mg)(T:mg<=255)(S:n<=1000000)(kh:kI a cap)(G:jc w a n os):
 eW eX 228 #[.agg #[ι κ sz,ι κ mg],σ a n cap] w λe w'=>∃v,e=ρ (τ #[ι κ (l9 mg os).1,v])/\Made w w' v (l9 mg os).2:=by
 have U:eE w (w.alloc (γ #[ι κ sz,ι κ mg] 252)):=gW _ _;have hA:=λj=>ar w #[ι κ sz,ι κ mg] 252 (0,0) j;by_cases M:tK os=[]
 ·have Y:=BG a n cap os _ S (G.below U);rw[M]at Y;by_cases hb:qZ mg os=[]
  ·have X:l9 mg os=(2,os):=by simp[l9,M,hb]
   rw[X];clear X
   go_in
   go_wp2_with(fail);refine Y.mono ?_;rintro e w1 ⟨v,rfl,Z⟩;obtain⟨A,OG,rfl,_,_⟩:=Z.shape;obtain⟨c0,c1,hl⟩:=GG Z.below;have J:=gk U Z.below;have V:=DG sz mg a n cap os w1 y T S (G.below J);rw[hb]at V;simp only[eQ];clear Y Z;go_wp2_with(fail);refine V.mono ?_;rintro e w2 ⟨v,rfl,Z⟩;obtain⟨a2,D,rfl,_,_⟩:=Z.shape;have u:=gk J Z.below;simp only[eQ];clear V Z;go_wp2_with(fail);refine(Qi a n cap os w2 S kh (G.below u)).mono ?_;rintro e w3 ⟨v,rfl,Z⟩
   go_wp2
   go_ret2
   exact⟨_,rfl,Z.from u⟩
  ·have X:l9 mg os=(3,qZ mg os):=by simp[l9,M,hb]
   rw[X];clear X
   go_in
   go_wp2_with(fail);refine Y.mono ?_;rintro e w1 ⟨v,rfl,Z⟩;obtain⟨A,OG,rfl,_,_⟩:=Z.shape;obtain⟨c0,c1,hl⟩:=GG Z.below;have J:=gk U Z.below;have V:=DG sz mg a n cap os w1 y T S (G.below J);simp only[eQ];clear Y Z;go_wp2_with(fail);refine V.mono ?_;rintro e w2 ⟨v,rfl,Z⟩;obtain⟨a2,D,rfl,_,_⟩:=Z.shape;have E:=Z.from J;have qq:(0:Int)<((qZ mg os).length:Int):=by
    have:(qZ mg os).length≠0:=λh=>hb (aI h);omega
   clear V Z
   go_wp2
   go_ret2
   exact⟨_,rfl,E⟩
 ·have Y:=BG a n cap os _ S (G.below U);have X:l9 mg os=(4,tK os):=by simp[l9,M]
  rw[X];clear X
  go_in
  go_wp2_with(fail);refine Y.mono ?_;rintro e w1 ⟨v,rfl,Z⟩;obtain⟨A,OG,rfl,_,_⟩:=Z.shape;have E:=Z.from U;have qq:(0:Int)<((tK os).length:Int):=by
   have:(tK os).length≠0:=λh=>M (aI h);omega
  clear Y Z
  go_wp2
  go_ret2
  exact⟨_,rfl,E⟩
structure Mn(w:dY)(B:Nat)(s m:Int):Prop where
 c0:w.cell? ⟨B,0,ν⟩=μ (ι κ s)
 c1:w.cell? ⟨B,1,ν⟩=μ (ι κ m)
 f0:w.frozen? ⟨B,0,ν⟩=false
 f1:w.frozen? ⟨B,1,ν⟩=false
theorem Mn.lt(h:Mn w B s m):B<w.heap.size:=ag w _ h.c0
theorem Mn.below(h:Mn w B s m)(hb:eE w w'):Mn w' B s m:=
 ⟨(hb.cell (p:=⟨B,0,ν⟩) h.lt).trans h.c0,(hb.cell (p:=⟨B,1,ν⟩) h.lt).trans h.c1,
   (aM (a:=⟨B,0,ν⟩) (hb.block B h.lt)).trans h.f0,(aM (a:=⟨B,1,ν⟩) (hb.block B h.lt)).trans h.f1⟩
theorem Mn.set(h:Mn w B s m)(s' m':Int):Mn ((w.setCell ⟨B,0,ν⟩ (ι κ s')).setCell ⟨B,1,ν⟩ (ι κ m')) B s' m':=by
 refine⟨?_,?_,?_,?_⟩
 ·exact(aW _ ⟨B,1,ν⟩ ⟨B,0,ν⟩ _ gY).trans (dB _ _ _ (by rw[h.c0];rfl))
 ·exact dB _ _ _ (by rw[aW _ ⟨B,0,ν⟩ ⟨B,1,ν⟩ _ gY,h.c1];rfl)
 ·simp[h.f0]
 ·simp[h.f1]
theorem Mn.other(h:Mn w B s m)(Z:B'≠B)(x y:dZ):Mn ((w.setCell ⟨B',0,ν⟩ x).setCell ⟨B',1,ν⟩ y) B s m:=by
 refine⟨?_,?_,?_,?_⟩
 ·rw[aN _ _ _ _ Z,aN _ _ _ _ Z];exact h.c0
 ·rw[aN _ _ _ _ Z,aN _ _ _ _ Z];exact h.c1
 ·simp[h.f0]
 ·simp[h.f1]
theorem TA(sz mg code:Int)(a:Option dX)(n cap:Nat)(os:List jE)(w:dY)(hn:n<=1000000)(ho:jc w a n os):
 eW eX 231 #[.agg #[ι κ sz,ι κ mg],ι κ code,σ a n cap] w λe w'=>
  e=ρ (.agg #[ι κ (oY code os (sz,mg)).1,ι κ (oY code os (sz,mg)).2])/\eE w w':=by
 have hz:=zd;have P0:Mn ((w.alloc (γ #[ι κ sz,ι κ mg] 252)).alloc (γ #[ι κ 0,ι κ 0] 252)) w.heap.size sz mg:=by
  have hA:=λj=>ar w #[ι κ sz,ι κ mg] 252 (0,0) j;have hF:=λj=>cW w #[ι κ sz,ι κ mg] 252 0 0 j;exact Mn.below ⟨hA 0,hA 1,by rw[hF];rfl,by rw[hF];rfl⟩ (gW _ _)
 have P1:Mn ((w.alloc (γ #[ι κ sz,ι κ mg] 252)).alloc (γ #[ι κ 0,ι κ 0] 252)) (w.heap.size+1) 0 0:=by
  have hA:=λj=>ar (w.alloc (γ #[ι κ sz,ι κ mg] 252)) #[ι κ 0,ι κ 0] 252 (0,0) j;have hF:=λj=>cW (w.alloc (γ #[ι κ sz,ι κ mg] 252)) #[ι κ 0,ι κ 0] 252 0 0 j;have e:(w.alloc (γ #[ι κ sz,ι κ mg] 252)).heap.size=w.heap.size+1:=gY;rw[e]at hA hF;exact⟨hA 0,hA 1,by rw[hF];rfl,by rw[hF];rfl⟩
 have qv:eE w ((w.alloc (γ #[ι κ sz,ι κ mg] 252)).alloc (γ #[ι κ 0,ι κ 0] 252)):=(gW _ _).alloc gY _
 go_in
 go_wp2
 go_loopw [11] (λi wr=>∃(k:Nat) (s m:Int),k<=n/\i=ι κ k/\oY code os (sz,mg)=oY code (os.drop k) (s,m)/\Mn wr w.heap.size s m/\Mn wr (w.heap.size+1) 0 0/\eE w wr) (λi _=>n-(eY i).toNat)
 case atStart=>exact⟨0,sz,mg,Nat.zero_le _,rfl,rfl,P0,P1,qv⟩
 case round=>
  obtain⟨k,s,m,hk,rfl,S6,hP,ZL,u⟩:=hrel;have D:Hid _:=S6;clear S6 P0 P1;have M:=hP;have Q1:=ZL;obtain⟨c0,c1,f0,f1⟩:=hP;obtain⟨d0,d1,g0,g1⟩:=ZL;have vN:w.heap.size<wr.heap.size:=ag wr _ c0;have IC:w.heap.size+1<wr.heap.size:=ag wr _ d0;by_cases kB:k<n
  ·have Am:=ho.below u;rcases Am.2 with h0|⟨b,off,rfl,hc⟩
   ·omega
   have qF:k<os.length:=by rw[ho.1];exact kB
   obtain⟨e1,e2⟩:=hc k qF;have HD:Hid (os.drop k=os[k] ::os.drop (k+1)):=aS qF;generalize os[k] =o at e1 e2 HD;clear hc;have nQ:(k:Int)<(n:Int):=eh;have X:oY code os (sz,mg)=oY code (os.drop (k+1)) (j7 code (s,m) o):=by rw[D.out,HD.out];rfl
   have Z:=gW wr (γ #[ι κ o.1,ι κ o.2] 276);have h:=gk u Z;cases E:(code==4)
   ·cases G:(code==3)
    ·have hv:j7 code (s,m) o=(s,m):=by simp at G E;simp[j7,G,E]
     rw[hv]at X;have V:Hid _:=X;clear X hv
     go_wp2
     go_roundw
     case rel=>exact⟨k+1,s,m,eh,by go_num,V.out,M.below Z,Q1.below Z,h⟩
     case measure=>simp[eY];omega
    ·have T:code=3:=by simpa using G
     have V:Hid (oY code os (sz,mg)=oY code (os.drop (k+1)) ((j7 3 (s,m) o).1,(j7 3 (s,m) o).2)):=by
      show _=_;rw[X,T]
     clear X T;go_wp2_with(fail);refine(Tz s m o.1 o.2 _).mono ?_;rintro e w1 ⟨rfl,Y⟩;have y:=gk h Y;obtain⟨c0,c1,f0,f1⟩:=(M.below Z).below Y;obtain⟨d0,d1,g0,g1⟩:=(Q1.below Z).below Y;have vN:w.heap.size<w1.heap.size:=ag w1 _ c0;have A:=(((M.below Z).below Y).set (j7 3 (s,m) (o.1,o.2)).1 (j7 3 (s,m) (o.1,o.2)).2)
     have U:=(((Q1.below Z).below Y).other (B':=w.heap.size) eh (ι κ (j7 3 (s,m) (o.1,o.2)).1) (ι κ (j7 3 (s,m) (o.1,o.2)).2))
     have S:eE w ((w1.setCell ⟨w.heap.size,0,ν⟩ (ι κ (j7 3 (s,m) (o.1,o.2)).1)).setCell ⟨w.heap.size,1,ν⟩ (ι κ (j7 3 (s,m) (o.1,o.2)).2)):=(y.setCell (Nat.le_refl _) _).setCell (Nat.le_refl _) _
     go_wp2
     go_roundw
     case rel=>exact⟨k+1,_,_,eh,by go_num,V.out,A,U,S⟩
     case measure=>simp[eY];omega
   ·have T:code=4:=by simpa using E
    have J:j7 4 (s,m) o=j7 4 (s,m) (o.1,0):=by simp[j7]
    have V:Hid (oY code os (sz,mg)=oY code (os.drop (k+1)) ((j7 4 (s,m) (o.1,0)).1,(j7 4 (s,m) (o.1,0)).2)):=by
     show _=_;rw[X,T,J]
    clear X T J;go_wp2_with(fail);refine(Kc s m o.1 _).mono ?_;rintro e w1 ⟨rfl,Y⟩;have y:=gk h Y;obtain⟨c0,c1,f0,f1⟩:=(M.below Z).below Y;obtain⟨d0,d1,g0,g1⟩:=(Q1.below Z).below Y;have vN:w.heap.size<w1.heap.size:=ag w1 _ c0;have A:=(((M.below Z).below Y).set (j7 4 (s,m) (o.1,0)).1 (j7 4 (s,m) (o.1,0)).2)
    have U:=(((Q1.below Z).below Y).other (B':=w.heap.size) eh (ι κ (j7 4 (s,m) (o.1,0)).1) (ι κ (j7 4 (s,m) (o.1,0)).2))
    have S:eE w ((w1.setCell ⟨w.heap.size,0,ν⟩ (ι κ (j7 4 (s,m) (o.1,0)).1)).setCell ⟨w.heap.size,1,ν⟩ (ι κ (j7 4 (s,m) (o.1,0)).2)):=(y.setCell (Nat.le_refl _) _).setCell (Nat.le_refl _) _
    go_wp2
    go_roundw
    case rel=>exact⟨k+1,_,_,eh,by go_num,V.out,A,U,S⟩
    case measure=>simp[eY];omega
  ·have GJ:os.drop k=[] :=a9 (by rw[ho.1];omega);have V:Hid (oY code os (sz,mg)=(s,m)):=by
    show _=_;rw[D.out,GJ];rfl
   clear D GJ;have S:eE w ((wr.setCell ⟨w.heap.size+1,0,ν⟩ (ι κ s)).setCell ⟨w.heap.size+1,1,ν⟩ (ι κ m)):=(u.setCell gY _).setCell gY _;have U:=Q1.set s m;go_wp2_with(fail);rw[V.out];obtain⟨r0,r1,_,_⟩:=U;refine aF (v:=.agg #[ι κ s,ι κ m]) (by simp[results,results231,go_sem,r0,r1]) rfl ?_;exact⟨rfl,S⟩
