import Derived.Test.YtieklnlbljejdaaGreatDoorWA
open Go.Value renaming int → ι, slice → σ, pointer → π, tuple → τ, nilIface → η
open Go.IntKind renaming i64 → κ
open Go.Ending renaming returned → ρ
open Go.Obj renaming cells → γ
open Option renaming none → ν, some → μ
open Go renaming Addr → dX, World → dY, Value → dZ, TypeId → ew, DataW → eV, Calls → eZ
open Go.Value renaming ownBlock → eu, int → eB, oneCell' → eD, string → eF
open Go.RowKit renaming Below → eG, intOf → fa
open Go.Oper renaming wp → eH
open Go.Result renaming andThen_ok → eI
open List renaming map_toArray → eM, map_cons → eN, map_nil → eO, flatMap_cons → eQ, length_append → eR, length_cons → eT, length_nil → eU, getElem?_map → eY
open Go.Region renaming wanted → eP
open Go.DataW renaming trod → eW
open Go.Lib renaming mapM_length → eX
open Go.Proofs.Tryz renaming prog → e7
open BitVec renaming ofInt → fc
set_option maxRecDepth 100000
set_option maxHeartbeats 4000000
open Go.Proofs.Tryz
namespace Go.Proofs.YtieklnlbljejdaaGreatDoor
open Go.RowKit
variable {B B' b base cap cp fuel g g2 j k n off sz:Nat} {C:Array Value} {H:Type} {P:Program} {Q:Exit->Act->World->Prop} {X:Nat->Prop} {a w w' w2 wr x:World} {ao:Option Addr} {cs xs:List Value} {e r t:TypeId} {held:Bool} {m s:Int} {o:Obj} {ops:Array Oper} {p:List MemPlace} {row:Option Nat} {sp:Nat->Bool} {u v:Value} {zs:List (List (List UInt8))}
theorem add_plain(g j:Nat):(⟨g,0,ν⟩:dX).add j=⟨g,j,ν⟩:=by unfold Addr.add;split<;>simp_all
theorem ni(g o j:Nat):(⟨g,o,ν⟩:dX).add j=⟨g,o+j,ν⟩:=by unfold Addr.add;split<;>simp_all
def Row(w:dY)(sz:Nat)(v:dZ)(n:Nat)(xs:List dZ):Prop:=
 xs.length=n*sz/\
 ((v=σ ν 0 0/\n=0) \/
  ∃g cap,v=σ (μ ⟨g,0,ν⟩) n cap/\g<w.heap.size/\n<=cap/\cap<=maxLen/\(∀j u,xs[j]? =μ u->w.cell? ⟨g,j,ν⟩=μ u)/\
   ∀j,j<cap*sz->(w.cell? ⟨g,j,ν⟩).isSome=true/\w.frozen? ⟨g,j,ν⟩=false)
theorem Row.nil(w:dY)(sz:Nat):Row w sz (σ ν 0 0) 0 [] :=⟨gZ,.inl ⟨rfl,rfl⟩⟩
theorem Row.lt(h:Row w sz v n xs):∀k,v.ownBlock=μ k->k<w.heap.size:=by
 intro k Z;rcases h.2 with⟨rfl,_⟩|⟨g,cap,rfl,Y,_⟩
 ·simp[eu]at Z
 ·simp[eu]at Z;subst Z;exact Y
theorem Row.keep(h:Row w sz v n xs)(hs:w.heap.size<=w'.heap.size)(hb:∀k,v.ownBlock=μ k->w'.heap[k]? =w.heap[k]?):Row w' sz v n xs:=by
 refine⟨h.1,?_⟩;rcases h.2 with J|⟨g,cap,rfl,hg,V,U,T,S⟩
 ·exact .inl J
 ·have e:=hb g rfl;have Z:∀j,w'.cell? ⟨g,j,ν⟩=w.cell? ⟨g,j,ν⟩:=λj=>aj (a:=⟨g,j,ν⟩) e;have Y:∀j,w'.frozen? ⟨g,j,ν⟩=w.frozen? ⟨g,j,ν⟩:=λj=>aL (a:=⟨g,j,ν⟩) e;exact .inr ⟨g,cap,rfl,eh,V,U,λj u G=>by rw[Z];exact T j u G,λj M=>by rw[Z,Y];exact S j M⟩
theorem Row.kept(h:Row w sz v n xs)(Z:w.grownBy w' row)(V:∀k,v.ownBlock=μ k->row≠μ k):Row w' sz v n xs:=
 h.keep Z.size λk Y=>Z.block k (h.lt k Y) (λe=>V k Y e.symm)
theorem Row.alloc {w:dY} {sz:Nat} {v:dZ} {n:Nat} {xs:List dZ} (h:Row w sz v n xs)(o:Obj):Row (w.alloc o) sz v n xs:=
 h.keep gZ λk Z=>aU w o k (h.lt k Z)
theorem Row.drew {w:dY} {sz:Nat} {v:dZ} {n:Nat} {xs:List dZ} (h:Row w sz v n xs):Row w.drew sz v n xs:=
 h.keep (Nat.le_refl _) λ_ _=>rfl
theorem Row.below(h:Row w sz v n xs)(hb:eE w w'):Row w' sz v n xs:=
 h.keep hb.size λk Z=>hb.block k (h.lt k Z)
theorem Row.OZ(h:w.ownsRow base e sz v n xs):Row w sz v n xs:=by
 refine⟨h.1,?_⟩;rcases h.2 with T|⟨g,cap,Z,rfl,hb,Y,V,U,h3,h4⟩
 ·exact .inl T
 ·refine .inr ⟨g,cap,rfl,(ax.1 Y).1,V,U,λj u S=> ?_,λj hj=>⟨?_,?_⟩⟩
  ·have:=h.cells (g:=g) rfl j u S
   rwa [add_plain]at this
  ·rw[aw w g j Z e (0,0) Y];simp;omega
  ·exact bB w g j Z e Y
theorem Row.made(w:dY)(sz:Nat)(e:ew)(C:Array dZ)(fr:Nat×Nat)(n cap:Nat)(xs:List dZ)(hx:xs.length=n*sz)(hc:C.size=cap*sz)(U:n<=cap)(V:cap<=maxLen)(Y:fr=(0,0) \/C.size<=fr.1)
 (T:∀(j:Nat) (u:dZ),xs[j]? =μ u->C[j]? =μ u):Row (w.alloc (γ C e fr)) sz (σ (μ ⟨w.heap.size,0,ν⟩) n cap) n xs:=by
 refine⟨hx,.inr ⟨w.heap.size,cap,rfl,gZ,U,V,λj u S=> ?_,λj hj=>⟨?_,?_⟩⟩⟩
 ·rw[aq];exact T j u S
 ·rw[aq];simp;omega
 ·obtain⟨lo,hi⟩:=fr;rw[cU];rcases Y with Z|Z
  ·simp only[Prod.mk.injEq]at Z;obtain⟨rfl,rfl⟩:=Z;simp
  ·simp only at Z;have:¬lo<=j:=eh;simp[this]
theorem Row.cell {w:dY} {sz:Nat} {g n n' cap:Nat} {xs:List dZ} (h:Row w sz (σ (μ ⟨g,0,ν⟩) n' cap) n xs)(j:Nat)(u:dZ)(Z:xs[j]? =μ u):w.cell? ⟨g,j,ν⟩=μ u:=by
 rcases h.2 with⟨e,_⟩|⟨g',jv,e,_,_,_,hc,_⟩
 ·simp at e
 ·simp at e;obtain⟨rfl,rfl,rfl⟩:=e;exact hc j u Z
theorem qJ(w:dY)(x:dZ)(t:ew):∀(j:Nat) (u:dZ),[x][j]? =μ u->(w.alloc (γ #[x] t)).cell? ((⟨w.heap.size,0,ν⟩:dX).add j)=μ u:=by
 intro j u Z;rw[add_plain,aq];simpa using Z
theorem pP(w:dY)(x y:dZ)(t:ew):∀(j:Nat) (u:dZ),[x,y][j]? =μ u->(w.alloc (γ #[x,y] t)).cell? ((⟨w.heap.size,0,ν⟩:dX).add j)=μ u:=by
 intro j u Z;rw[add_plain,aq];simpa using Z
theorem xm(k:IntKind)(x:Int):∀u∈ [eB k x],u.oneCell'=true:=by simp[eD]
theorem lR(k l:IntKind)(x y:Int):∀u∈ [eB k x,eB l y],u.oneCell'=true:=by simp[eD]
theorem MS(s:ByteArray):∀u∈ [eF s],u.oneCell'=true:=by simp[eD]
theorem vU {g1 n':Nat} (T:(wr.alloc o).grownBy w2 (μ g))(U:μ g=μ g2 \/wr.heap.size+1<=g2)
 (Y:Row wr sz (σ (μ ⟨g1,0,ν⟩) n' cap) n xs) (Kj:w.heap.size<=g) (jx:g≠g1) (V:eE w wr):
 Row w2 sz (σ (μ ⟨g1,0,ν⟩) n' cap) n xs/\w.heap.size<=g2/\g2≠g1/\eE w w2:=by
 have h1:g1<wr.heap.size:=Y.lt g1 rfl;have S:=V.size;have hs:(wr.alloc o).heap.size=wr.heap.size+1:=gZ;refine⟨(Y.alloc o).kept T (λk Z=> ?_),?_,?_,?_⟩
 ·have:g1=k:=by simpa[eu]using Z
  intro e;simp at e;omega
 ·rcases U with h|h
  ·simp at h;omega
  ·omega
 ·rcases U with h|h
  ·simp at h;omega
  ·omega
 ·refine(V.alloc S o).grown T eh (λk Z=> ?_);simp at Z;omega
theorem GZ(T:(wr.alloc o).grownBy w2 (μ g))(U:μ g=μ g2 \/wr.heap.size+1<=g2)
 (Kj:w.heap.size<=g) (Z:eE w wr):w.heap.size<=g2/\eE w w2:=by
 have V:=Z.size;have hs:(wr.alloc o).heap.size=wr.heap.size+1:=gZ;refine⟨?_,?_⟩
 ·rcases U with h|h
  ·simp at h;omega
  ·omega
 ·refine(Z.alloc V o).grown T eh (λk Y=> ?_);simp at Y;omega
section
variable {P:Program}
theorem sD(w:dY)(t ty e:ew)(i:TypeInfo)(z:dZ)(size bytes:Nat)(ht:P.underlying t=μ (.slice e))(hi:P.info? e=μ i)(hz:i.zero=μ z)
 (rU:i.size=size) (vV:i.bytes=bytes) (MT:z.cells.size=size) (rV:0<size)
 (v:dZ) (n:Nat) (xs:List dZ) (U:Row w size v n xs)
 (a:dX) (m c:Nat) (news:List dZ) (hl:news.length=m*size) (hm:0<m) (y:∀j u,news[j]? =μ u->w.cell? (a.add j)=μ u) (h1:∀u∈news,u.oneCell'=true)
 (S:n+m<=maxLen) (vW:(n+m)*bytes<=140737488355328):
 ∃v' w',(Builtin.append_ #[t,t] ty #[v,σ (μ a) m c]).run P w=.ok v' w'/\Row w' size v' (n+m) (xs++news)/\w.grownBy w' v.ownBlock/\
  (v'.ownBlock=v.ownBlock \/ ∃k,v'.ownBlock=μ k/\w.heap.size<=k):=by
 rcases U.2 with⟨rfl,rfl⟩|⟨g,cap,rfl,hg,ui,Gi,hcell,A⟩
 ·have hx:xs=[] :=aH (by simpa using U.1);subst hx;obtain⟨v',w',J,M,hg,kr⟩:=run_append_own (P:=P) w w.heap.size t ty e i z size bytes ht hi hz rU vV MT rV (σ ν 0 0) 0 [] (World.ownsRow_nil _ _ _ _) a m c news hl y h1 S vW (Nat.le_refl _);refine⟨v',w',J,Row.OZ M,hg,?_⟩;rcases M.2 with⟨T,e2⟩|⟨g,cap,h,rfl,hb,_⟩
  ·omega
  ·exact .inr ⟨g,rfl,hb⟩
 ·by_cases J:n+m<=cap
  ·subst rU;have X7:n*i.size+news.length<=cap*i.size:=by rw[hl,<-Nat.add_mul];exact Nat.mul_le_mul_right _ J
   have D:∀j,j<news.length->(w.cell? ⟨g,0+n*i.size+j,ν⟩).isSome=true/\w.frozen? ⟨g,0+n*i.size+j,ν⟩=false:=λj Z=>A _ eh;have V:=run_append_room_cells (P:=P) w t ty e i ht hi g 0 n cap a m c news hl y h1 J (λj Z=>(D j Z).1) (λj Z=>(D j Z).2);have oz:∀(vs:List dZ) (o:Nat) (w:dY),(w.setCells g o vs).heap.size=w.heap.size/\(w.setCells g o vs).os=w.os/\(w.setCells g o vs).tape=w.tape/\(w.setCells g o vs).output=w.output/\∀k,k≠g->(w.setCells g o vs).heap[k]? =w.heap[k]? :=by
    intro vs
    induction vs with
    |nil=>intro o w;exact⟨rfl,rfl,rfl,rfl,λ_ _=>rfl⟩
    |cons u r ih=>
     intro o w;have:=ih (o+1) (w.setCell ⟨g,o,ν⟩ u);have b1:eG 0 w (w.setCell ⟨g,o,ν⟩ u):=(au 0 w).setCell (Nat.zero_le _) _;refine⟨this.1.trans gZ,this.2.1.trans b1.os,this.2.2.1.trans b1.tape,this.2.2.2.1.trans b1.output,λk Y=>(this.2.2.2.2 k Y).trans (ak _ _ _ k Y)⟩
   have B:=oz news (0+n*i.size) w;refine⟨_,_,V,⟨by rw[az,U.1,hl,Nat.add_mul],.inr ⟨g,cap,rfl,by rw[B.1];exact hg,J,Gi,λj u G=> ?_,λj Z=> ?_⟩⟩,⟨B.2.1,B.2.2.1,B.2.2.2.1,by rw[B.1];exact Nat.le_refl _,λk _ Y=>B.2.2.2.2 k (λe=>Y (by simp[eu,e]))⟩,.inl rfl⟩
   ·rcases Nat.lt_or_ge j xs.length with Z|Z
    ·rw[bE Z]at G;rw[bz g _ _ _ _ (λ_ _=>.inl (by show j<0+n*i.size;have:=U.1;omega))];exact hcell j u G
    ·rw[bu Z]at G;have O0:j-xs.length<news.length:=(aK.1 G).1;have:=bJ g news (0+n*i.size) w (λk Y=>(D k Y).1) (j-xs.length) O0;have T:0+n*i.size+(j-xs.length)=j:=by have:=U.1;omega
     rw[T]at this;rw[this,<-G,ay O0]
   ·rw[bW];refine⟨?_,(A j Z).2⟩;by_cases hq:n*i.size<=j/\j<n*i.size+news.length
    ·have:=bJ g news (0+n*i.size) w (λk Y=>(D k Y).1) (j-n*i.size) eh;have T:0+n*i.size+(j-n*i.size)=j:=eh;rw[T]at this;rw[this];rfl
    ·rw[bz g _ _ _ _ (λ_ _=>by show j<0+n*i.size \/0+n*i.size+news.length<=j;omega)];exact(A j Z).1
  ·obtain⟨v',w',V,M,E⟩:=run_append_arg_grows (P:=P) w t ty e i z size bytes ht hi hz rU vV MT rV ⟨g,0,ν⟩ n cap xs U.1 (λj u Z=>by rw[add_plain];exact hcell j u Z) a m c news hl y eh S vW;refine⟨v',w',V,Row.OZ M,⟨E.os,E.tape,E.output,E.size,λk Y _=>E.block k Y gZ⟩,?_⟩;rcases M.2 with⟨T,e2⟩|⟨g',jv,h,rfl,hb,_⟩
   ·omega
   ·exact .inr ⟨g',rfl,hb⟩
theorem iI(w:dY) {rest:List Oper} {o:Oper} {a:Act} (J:o.guard=ν)(s x:Operand)(t:ew)
 (ho:o.op=.call {callee:=.builtin .append,args:= #[s,x],argTypes:= #[t,t] })
 (e:ew) (i:TypeInfo) (z:dZ) (size bytes:Nat) (ht:P.underlying t=μ (.slice e)) (hi:P.info? e=μ i) (hz:i.zero=μ z)
 (rU:i.size=size) (vV:i.bytes=bytes) (G:z.cells.size=size) (rV:0<size)
 (v:dZ) (n:Nat) (xs:List dZ) (hs:a.eval s=v) (jq:Row w size v n xs)
 (U:dX) (m c:Nat) (news:List dZ) (hx:a.eval x=σ (μ U) m c) (hl:news.length=m*size) (hm:0<m) (M:∀j u,news[j]? =μ u->w.cell? (U.add j)=μ u) (E:∀u∈news,u.oneCell'=true)
 (T:n+m<=maxLen) (vW:(n+m)*bytes<=140737488355328)
 (h:∀Z V w',Row w' size (σ (μ ⟨Z,0,ν⟩) (n+m) V) (n+m) (xs++news)->w.grownBy w' v.ownBlock->(v.ownBlock=μ Z \/w.heap.size<=Z)->wpList P ops Q rest (a.put o.dst (σ (μ ⟨Z,0,ν⟩) (n+m) V)) w'):wpList P ops Q (o::rest) a w:=by
 refine wpList_plain J λK A=> ?_;obtain⟨v',w',hr,S,D,Y⟩:=sD (P:=P) w t o.type e i z size bytes ht hi hz rU vV G rV v n xs jq U m c news hl hm M E T vW;unfold eH execOp;simp only[ho,resolve,invoke,builtin,Sem.run_bind,Sem.run_pure,eI,eM,eN,eO,hs,hx,hr];rcases S.2 with⟨_,hn⟩|⟨Z,V,rfl,_⟩
 ·omega
 ·refine A _ _ (h Z V w' S D ?_);rcases Y with Y|⟨k,Y,y⟩
  ·exact .inl Y.symm
  ·simp[eu]at Y;subst Y;exact .inr y
def iR(l:List UInt8):List dZ:=l.map λb=>eB .u8 (b.toNat:Int)
theorem qV(l:List UInt8):(iR l).length=l.length:=by simp[iR]
theorem lM(a b:List UInt8):iR (a++b)=iR a++iR b:=by simp[iR]
theorem yo(l:List UInt8)(j:Nat)(h:j<l.length):(iR l)[j]? =μ (.int .u8 (l[j].toNat:Int)):=by simp[iR,h]
theorem Gj(w:dY)(src dst e:ew)(s:ByteArray)(hs:P.underlying src=μ .string)(hd:P.underlying dst=μ (.slice e))(V:P.underlying e=μ (.int .u8))(U:s.size<=maxLen):
 ∃cap C fr,(convert src dst (.string s)).run P w=.ok (σ (μ ⟨w.heap.size,0,ν⟩) s.size cap) (w.drew.alloc (γ C e fr))/\Row (w.alloc (γ C e fr)) 1 (σ (μ ⟨w.heap.size,0,ν⟩) s.size cap) s.size (iR s.data.toList):=by
 refine⟨_,_,_,run_bytes_of_string w src dst e s hs hd V,?_⟩;have T:=grownCap_ge w s.size 0 e;refine Row.made w 1 e _ _ _ _ _ (by simp[iR]) ?_ T (dm w _ _ _ U) (.inr (Nat.le_refl _)) ?_
 ·simp[bytesRow];omega
 ·intro j u Z;have Y:j<s.data.size:=by
   have:=(aK.1 Z).1;simpa[iR]using this
  rw[bytesRow_at s _ j Y];rw[yo _ j (by simpa using Y)]at Z;simpa using Z
theorem Row.back {l:List UInt8} (h:Row w 1 v n (iR l))(src dst e:ew)(hs:P.underlying src=μ (.slice e))(Z:P.underlying e=μ (.int .u8))(hd:P.underlying dst=μ .string):
 (convert src dst v).run P w=.ok (.string ⟨l.toArray⟩) w:=by
 have Y:l.length=n:=by have:=h.1;simpa[iR]using this
 rcases h.2 with⟨rfl,rfl⟩|⟨g,cap,rfl,hg,ui,Gi,hcell,CO⟩
 ·have:l=[] :=aH Y;subst this;rw[run_convert_bytes_string w src dst e _ _ _ hs Z hd];simp[Conv.bytesToString];rfl
 ·subst Y;exact dL w src dst e ⟨g,0,ν⟩ cap l hs Z hd λj V=>by rw[add_plain];exact hcell j _ (yo l j V)
end
theorem gu {b:dY} (h:eE w a)(k:eE a b):eE w b:=h.trans (k.mono h.size)
theorem below_drewN(h:eG B w a)(n:Nat):eG B w (a.drewN n):=⟨h.os,h.tape,h.output,h.size,h.block⟩
theorem gY(w:dY)(o:Obj):eE w (w.alloc o):=(au _ _).alloc (Nat.le_refl _) _
theorem tE {c:dY} (h:eE w a)(Z:a.grownBy c (μ b))(hb:w.heap.size<=b):eE w c:=
 h.grown Z h.size (λk Y=>by simp at Y;omega)
def jk(k:Nat):dZ:=if k=0 then η else .iface 128 (ι κ (k:Int))
abbrev jH:=Int×Int
def jg(w:dY)(a:Option dX)(n:Nat)(os:List jH):Prop:=
 os.length=n/\(n=0 \/ ∃b off,a=μ ⟨b,off,ν⟩/\∀j (h:j<os.length),w.cell? ⟨b,off+j*2,ν⟩=μ (ι κ os[j].1)/\w.cell? ⟨b,off+j*2+1,ν⟩=μ (ι κ os[j].2))
theorem jg.below {a:Option dX} {os:List jH} (h:jg w a n os)(hb:eE w w'):jg w' a n os:=by
 refine⟨h.1,?_⟩;rcases h.2 with Z|⟨b,off,rfl,Z⟩
 ·exact .inl Z
 ·refine .inr ⟨b,off,rfl,λj Y=> ?_⟩;obtain⟨c1,c2⟩:=Z j Y;exact⟨(hb.cell (ag w _ c1)).trans c1,(hb.cell (ag w _ c2)).trans c2⟩
theorem jg.drewN {w:dY} {a:Option dX} {n:Nat} {os:List jH} (h:jg w a n os)(m:Nat):jg (w.drewN m) a n os:=h
theorem jg.nil(w:dY)(a:Option dX):jg w a 0 [] :=⟨rfl,.inl rfl⟩
theorem jg.take {w:dY} {a:Option dX} {n:Nat} {os:List jH} (h:jg w a n os)(k:Nat)(hk:k<=n):jg w a k (os.take k):=by
 refine⟨by simp[h.1];omega,?_⟩;rcases h.2 with Z|⟨b,off,rfl,Z⟩
 ·exact .inl eh
 ·refine .inr ⟨b,off,rfl,λj V=> ?_⟩;have Y:j<os.length:=by simp at V;omega
  have:=Z j Y;simpa using this
theorem l8 {o:Oper} {a:Act} {K:Act->dY->Prop} {E:Prop}
 (J:o.guard=ν) (s x:Operand) (t:ew) (ho:o.op=.call {callee:=.builtin .append,args:= #[s,x],argTypes:= #[t,t] })
 (e:ew) (i:TypeInfo) (z:dZ) (size bytes:Nat) (ht:P.underlying t=μ (.slice e)) (hi:P.info? e=μ i) (hz:i.zero=μ z)
 (rU:i.size=size) (vV:i.bytes=bytes) (G:z.cells.size=size) (rV:0<size)
 (v:dZ) (n:Nat) (xs:List dZ) (hs:a.eval s=v) (jq:Row w size v n xs)
 (U:dX) (m c:Nat) (news:List dZ) (hx:a.eval x=σ (μ U) m c) (hl:news.length=m*size) (hm:0<m) (M:∀j u,news[j]? =μ u->w.cell? (U.add j)=μ u) (D:∀u∈news,u.oneCell'=true)
 (T:n+m<=maxLen) (vW:(n+m)*bytes<=140737488355328)
 (h:∀Z V w',Row w' size (σ (μ ⟨Z,0,ν⟩) (n+m) V) (n+m) (xs++news)->w.grownBy w' v.ownBlock->(v.ownBlock=μ Z \/w.heap.size<=Z)->K (a.put o.dst (σ (μ ⟨Z,0,ν⟩) (n+m) V)) w'):
 if eP o (yielded ops a.tmps)=true then eH P o a w K Q else E:=by
 have hw:eP o (yielded ops a.tmps)=true:=by simp[eP,J]
 rw[ai hw];obtain⟨v',w',hr,S,A,Y⟩:=sD (P:=P) w t o.type e i z size bytes ht hi hz rU vV G rV v n xs jq U m c news hl hm M D T vW;unfold eH execOp;simp only[ho,resolve,invoke,builtin,Sem.run_bind,Sem.run_pure,eI,eM,eN,eO,hs,hx,hr];rcases S.2 with⟨_,hn⟩|⟨Z,V,rfl,_⟩
 ·omega
 ·refine h Z V w' S A ?_;rcases Y with Y|⟨k,Y,y⟩
  ·exact .inl Y.symm
  ·simp[eu]at Y;subst Y;exact .inr y
def iV(os:List jH):List dZ:=os.flatMap λo=>[ι κ o.1,ι κ o.2]
theorem mE(os:List jH)(o:jH):iV (os++ [o])=iV os++ [ι κ o.1,ι κ o.2] :=by simp[iV]
theorem ln(os:List jH):(iV os).length=2*os.length:=by
 induction os with
 |nil=>rfl
 |cons o r ih=>simp only[iV,eQ,eR,eT,eU]at ih⊢;omega
theorem uP:∀(os:List jH) (j:Nat) (h:j<os.length),(iV os)[j*2]? =μ (ι κ os[j].1)/\(iV os)[j*2+1]? =μ (ι κ os[j].2)
 |o::r,0,_=>by simp[iV]
 |o::r,j+1,h=>by
  have ih:=uP r j (by simpa using h);have Z:iV (o::r)=ι κ o.1::ι κ o.2::iV r:=by simp[iV]
  rw[Z,show(j+1)*2=j*2+1+1 by omega];exact ih
theorem Row.opts {os:List jH} (h:Row w 2 (σ ao k cp) k (iV os)):jg w ao k os:=by
 have hl:os.length=k:=by have:=h.1;rw[ln]at this;omega
 refine⟨hl,?_⟩;rcases h.2 with⟨_,S⟩|⟨g,cap,Z,_,_,_,hc,_⟩
 ·exact .inl S
 ·have Y:ao=μ ⟨g,0,ν⟩:=by simp at Z;exact Z.1
  refine .inr ⟨g,0,Y,λj T=> ?_⟩;obtain⟨V,U⟩:=uP os j T;rw[Nat.zero_add];exact⟨hc _ _ V,hc _ _ U⟩
theorem Row.TL(h:Row w sz (σ ao k cp) k xs):k<=cp:=by
 rcases h.2 with⟨Z,hn⟩|⟨g,cap,Z,_,ui,_⟩
 ·omega
 ·simp at Z;omega
theorem l9(Z:eE w x)(Y:x.grownBy w' v.ownBlock)(V:∀j,v.ownBlock=μ j->w.heap.size<=j):eE w w':=
 Z.grown Y Z.size V
theorem nW(Y:v.ownBlock=μ g \/n<=g)(hs:B<=n)(Z:∀j,v.ownBlock=μ j->B<=j):B<=g:=by
 rcases Y with h|h
 ·exact Z g h
 ·exact Nat.le_trans hs h
theorem sE(Z:x.grownBy w' row)(Y:row≠μ b)(hc:x.cell? ⟨b,off,ν⟩=μ u):w'.cell? ⟨b,off,ν⟩=μ u:=
 (aj (a:=⟨b,off,ν⟩) (Z.block b (ag x _ hc) (λe=>Y e.symm))).trans hc
theorem kH(h:B<=g)(Z:eu (σ (μ ⟨g,0,ν⟩) n cap)=μ j):B<=j:=by
 have:g=j:=by simpa[eu]using Z
 omega
theorem m9(Z:eu (σ ν 0 0)=μ j):B<=j:=by simp[eu]at Z
theorem nj(w:dY)(x y:dZ)(t:ew)(g:Nat)(Z:w.heap.size=g):∀(j:Nat) (u:dZ),[x,y][j]? =μ u->(w.alloc (γ #[x,y] t)).cell? ((⟨g,0,ν⟩:dX).add j)=μ u:=by
 subst Z;exact pP w x y t
structure Made(w w':dY)(v:dZ)(os:List jH):Prop where
 row:Row w' 2 v os.length (iV os)
 new:∀j,v.ownBlock=μ j->w.heap.size<=j
 below:eE w w'
theorem Km(os:List jH):∀u∈iV os,u.oneCell'=true:=by
 intro u Z;simp[iV]at Z;obtain⟨x,y,_,h⟩:=Z;rcases h with rfl|rfl<;>rfl
theorem jg.cells {os:List jH} (h:jg w (μ ⟨b,off,ν⟩) n os)(hn:0<n):∀(j:Nat) (u:dZ),(iV os)[j]? =μ u->w.cell? ((⟨b,off,ν⟩:dX).add j)=μ u:=by
 intro j u Z;rcases h.2 with h0|⟨b',ajO,Y,hc⟩
 ·omega
 ·simp only[Option.some.injEq,Addr.mk.injEq]at Y;obtain⟨rfl,rfl,_⟩:=Y;have hj:j<2*os.length:=by have:=(aK.1 Z).1;rwa [ln]at this
  have V:j/2<os.length:=eh;obtain⟨g1,g2⟩:=uP os (j/2) V;obtain⟨c1,c2⟩:=hc (j/2) V;rw[ni];rcases Nat.mod_two_eq_zero_or_one j with U|U
  ·have e:j/2*2=j:=eh;rw[e]at g1 c1;rw[Z]at g1;rw[c1,g1]
  ·have e:j/2*2+1=j:=eh;rw[e]at g2;rw[Z]at g2;rw[show off+j/2*2+1=off+j by omega]at c2;rw[c2,g2]
def kN(a:Option dX)(cap:Nat):Prop:=a=ν->cap=0
theorem Made.shape {os:List jH} (h:Made w w' v os):∃a cap,v=σ a os.length cap/\kN a cap/\os.length<=cap:=by
 rcases h.row.2 with⟨rfl,Z⟩|⟨g,cap,rfl,_,Y,_⟩
 ·rw[Z];exact⟨ν,0,rfl,λ_=>rfl,Nat.le_refl _⟩
 ·exact⟨μ ⟨g,0,ν⟩,cap,rfl,λh=>by simp at h,Y⟩
theorem Made.opts {w w':dY} {a:Option dX} {n cap:Nat} {os:List jH} (h:Made w w' (σ a n cap) os):n=os.length/\jg w' a n os:=by
 have Z:n=os.length:=by
  rcases h.row.2 with⟨e,h0⟩|⟨g,cap,e,_⟩
  ·simp at e;omega
  ·simp at e;omega
 have Y:=h.row;rw[<-Z]at Y;exact⟨Z,Y.opts⟩
theorem Made.from {os:List jH} (h:Made x w' v os)(hb:eE w x):Made w w' v os:=
 ⟨h.row,λj Z=>Nat.le_trans hb.size (h.new j Z),gu hb h.below⟩
theorem jg.kept {a:Option dX} {os:List jH} (h:jg w a n os)(hb:∀k,eu (σ a n cap)=μ k->w'.heap[k]? =w.heap[k]?):jg w' a n os:=by
 refine⟨h.1,?_⟩;rcases h.2 with Z|⟨b,off,rfl,Z⟩
 ·exact .inl Z
 ·refine .inr ⟨b,off,rfl,λj Y=> ?_⟩;have e:=hb b rfl;obtain⟨c1,c2⟩:=Z j Y;exact⟨(aj (a:=⟨b,off+j*2,ν⟩) e).trans c1,(aj (a:=⟨b,off+j*2+1,ν⟩) e).trans c2⟩
def uQ(a:Option dX)(n:Nat):Option Nat:=if n=0 then ν else a.map (·.block)
theorem DQ {a:Option dX} (h:uQ a n=μ k):eu (σ a n cap)=μ k:=by
 unfold uQ at h;split at h
 ·cases h
 ·cases a with
  |none=>cases h
  |some x=>simpa[eu]using h
theorem jg.O1 {a:Option dX} {os:List jH} (h:jg w a n os)(hb:∀k,uQ a n=μ k->w'.heap[k]? =w.heap[k]?):jg w' a n os:=by
 by_cases Z:n=0
 ·exact⟨h.1,.inl Z⟩
 ·refine h.kept (cap:=0) (λk Y=>hb k ?_);unfold uQ;rw[af Z];cases a with
  |none=>cases Y
  |some x=>simpa[eu]using Y
def iZ(w:dY)(B:Nat)(C:Array dZ)(t:ew):Prop:=w.heap[B]? =μ (γ C t (0,0))
theorem iZ.lt(h:iZ w B C t):B<w.heap.size:=(ax.1 h).1
theorem iZ.cell {w:dY} {B:Nat} {C:Array dZ} {t:ew} (h:iZ w B C t)(j:Nat):w.cell? ⟨B,j,ν⟩=C[j]? :=aw w B j C _ (0,0) h
theorem iZ.frozen {w:dY} {B:Nat} {C:Array dZ} {t:ew} (h:iZ w B C t)(j:Nat):w.frozen? ⟨B,j,ν⟩=false:=bB w B j C _ h
theorem iZ.set(h:iZ w B C t)(j:Nat)(x:dZ):iZ (w.setCell ⟨B,j,ν⟩ x) B (C.setIfInBounds j x) t:=by
 unfold iZ;rw[bL w B j C _ (0,0) x h];exact cC w B C _ _ (0,0) h
theorem iZ.other(h:iZ w B C t)(Z:B≠B')(x:dZ):iZ (w.setCell ⟨B',j,ν⟩ x) B C t:=
 (ak _ _ _ B Z).trans h
theorem iZ.keep(h:iZ w B C t)(hb:w'.heap[B]? =w.heap[B]?):iZ w' B C t:=hb.trans h
theorem iZ.below(h:iZ w B C t)(hb:eE w w'):iZ w' B C t:=h.keep (hb.block B h.lt)
theorem iZ.drewN {w:dY} {B:Nat} {C:Array dZ} {t:ew} (h:iZ w B C t)(n:Nat):iZ (w.drewN n) B C t:=h
theorem iZ.new(w:dY)(C:Array dZ)(t:ew):iZ (w.alloc (γ C t)) w.heap.size C t:=aY w _
theorem iZ.Gk(w:dY)(C:Array dZ)(t:ew)(g:Nat)(Z:w.heap.size=g):iZ (w.alloc (γ C t)) g C t:=by subst Z;exact iZ.new w C t
theorem jG(h:eG B w a):eG B w a.drew:=⟨h.os,h.tape,h.output,h.size,h.block⟩
theorem nX(s:ByteArray)(k:Nat)(h:k<s.size):s.data.toList.getD k 0=s[k] :=by
 have Z:k<s.data.toList.length:=by simpa using h
 rw[aJ,ay Z];rfl
theorem kQ(h:a.grownBy w (μ b))(j:Nat)(v:dZ):a.grownBy (w.setCell ⟨b,j,ν⟩ v) (μ b):=by
 have b1:eG 0 w (w.setCell ⟨b,j,ν⟩ v):=(au 0 w).setCell (Nat.zero_le _) _;exact⟨b1.os.trans h.os,b1.tape.trans h.tape,b1.output.trans h.output,Nat.le_trans h.size b1.size,λi hi Z=>(ak _ _ _ i (λe=>Z (by rw[e]))).trans (h.block i hi Z)⟩
theorem drewN_drewN(w:dY)(a b:Nat):(w.drewN a).drewN b=w.drewN (a+b):=by go_simp
def Dg {H:Type} (l:List (List UInt8)):eV H:=.agg (l.map λs=>.lit (.string s))
def DR {H:Type} (t:List (List (List UInt8))):eV H:=.agg (t.map Dg)
theorem IX {enc:ew×dZ->H} {zs:List (List UInt8)} 
 (G:P.underlying t=μ (.array n e)) (J:P.underlying e=μ .string) (T:P.cellsOf e=1) (Y:P.cellsOf t=n)
 (h:eW enc P w base sp held fuel t cs=μ (Dg zs,p)):cs=zs.map λz=>eF ⟨z.toArray⟩:=by
 cases fuel with
 |zero=>simp[eW]at h
 |succ fuel=>
  simp only[eW,G,T,Y,Nat.mul_one]at h;split at h
  ·rename_i hl
   obtain⟨xs,U,hx⟩:=Option.map_eq_some_iff.1 h;have V:xs.map (·.1)=zs.map λz=>(DataW.lit (.string z):eV H):=by
    have:=congrArg Prod.fst hx;simpa[Dg]using this
   have Qw:xs.length=n:=by simpa using eX U
   have hzl:zs.length=n:=by
    have:=congrArg List.length V;simp at this;omega
   apply List.ext_getElem?;intro i;by_cases hi:i<n
   ·obtain⟨b,hb,hf⟩:=Lib.mapM_at U i i (by simp[hi]);obtain⟨z,hc,rfl,_⟩:=dw J hf;have M:cs[i]? =μ (.string z):=by
     have:=congrArg (·[0]?) hc;simpa[List.getElem?_take,dq]using this
    have Z:(xs.map (·.1))[i]? =μ (DataW.lit (.string z.data.toList):eV H):=by simp[hb]
    rw[V]at Z;simp only[eY,Option.map_eq_some_iff,DataW.lit.injEq,Lit.string.injEq]at Z;obtain⟨z',S,rfl⟩:=Z;simp[M,S]
   ·rw[dR eh,dR (by simp;omega)]
  ·cases h
theorem IY {enc:ew×dZ->H} {m:Nat} 
 (D:P.underlying t=μ (.array m r)) (E:P.underlying r=μ (.array n e)) (G:P.underlying e=μ .string) (J:P.cellsOf e=1) (Z:P.cellsOf r=n) (U:P.cellsOf t=m*n)
 (h:eW enc P w base sp held fuel t cs=μ (DR zs,p)):zs.length=m/\∀i row,zs[i]? =μ row->(cs.drop (i*n)).take n=row.map λz=>eF ⟨z.toArray⟩:=by
 cases fuel with
 |zero=>simp[eW]at h
 |succ fuel=>
  simp only[eW,D,Z,U]at h;split at h
  ·rename_i hl
   obtain⟨xs,S,hx⟩:=Option.map_eq_some_iff.1 h;have T:xs.map (·.1)=zs.map λz=>(Dg z:eV H):=by
    have:=congrArg Prod.fst hx;simpa[DR]using this
   have Qw:xs.length=m:=by simpa using eX S
   have Y:zs.length=m:=by
    have:=congrArg List.length T;simp at this;omega
   refine⟨Y,λi row M=> ?_⟩;have hi:i<m:=by rw[<-Y];exact(aK.1 M).1
   obtain⟨b,hb,hf⟩:=Lib.mapM_at S i i (by simp[hi]);have V:(xs.map (·.1))[i]? =μ b.1:=by simp[hb]
   rw[T]at V;simp only[eY,M,Option.map_some,Option.some.injEq]at V;obtain⟨b1,b2⟩:=b;simp only at V;subst V;exact IX E G J Z hf
  ·cases h
theorem IZ {W:dY} {name:String} {rest:List (String×eV Unit)} {m:Nat}
 (S:P.globalNamed name=μ g) (hty:(P.globals[g]?).map (·.type)=μ t) (ht:P.underlying t=μ (.array m r)) (y:P.underlying r=μ (.array n e)) (D:P.underlying e=μ .string) (J:P.cellsOf e=1) (Y:P.cellsOf r=n) (V:P.cellsOf t=m*n)
 (h:laidMet P ((name,DR zs)::rest) W):∀i row j z,zs[i]? =μ row->row[j]? =μ z->j<n->W.cell? ⟨g,i*n+j,ν⟩=μ (.string ⟨z.toArray⟩):=by
 obtain⟨ps,⟨g',t',cs,fuel,p,q,M,U,Z,hd,_,_⟩,_⟩:=h;obtain rfl:=Option.some.inj (S.symm.trans M);obtain rfl:=Option.some.inj (hty.symm.trans U);intro i row j z hi A G;have E:=(IY ht y D J Y V hd).2 i row hi;rw[World.var?_cell S Z];have T:((cs.toList.drop (i*n)).take n)[j]? =μ (eF ⟨z.toArray⟩):=by rw[E];simp[A]
 rw[List.getElem?_take_of_lt G,dq]at T;simpa using T
def CP:List (List (List UInt8)):=[
 [[50],[105,114,54],[45],[45],[45],[45],[45],[45],[45],[45]],
 [[45],[45],[48],[115,49],[48],[49],[49],[49],[49],[100,49]],
 [[115,49],[49],[105,114,54],[51],[53],[53],[54],[55],[56],[57]],
 [[48],[102,48],[50],[50],[52],[52],[105,116,52],[105,116,52],[105,116,52],[100,105,116,52]],
 [[45],[45],[45],[45],[116,52],[116,53],[114,54],[114,54],[114,56],[45]],
 [[45],[45],[45],[45],[102,50],[102,51],[102,51],[102,51],[102,51],[45]],
 [[45],[45],[107,50],[105,114,97,56],[52],[53],[97,56],[97,117,57],[97,56],[100,114,97,56]],
 [[45],[45],[107,50],[105,114,110,54],[52],[53],[110,54],[110,55],[110,54],[100,114,110,54]],
 [[45],[45],[107,50],[107,51],[52],[53],[105,55],[114,54],[105,117,57],[100,114,54]],
 [[45],[45],[107,50],[107,51],[52],[53],[105,114,54],[114,54],[105,114,56],[100,114,54]],
 [[45],[45],[107,50],[107,51],[107,52],[107,53],[107,54],[107,54],[107,54],[100,122,107,53]],
 [[45],[45],[50],[51],[102,50],[102,51],[54],[54],[56],[100,114,54]]]
def oW(s e:Nat):List UInt8:=(CP.getD e []).getD s []
def lE(s e:Nat):List UInt8×Int×Nat:=
 if oW s e=[45]then([],0,7)else((oW s e).dropLast,(((oW s e).getLastD 0).toNat:Int)-48,0)
def jj(s e:Int):List UInt8×Int×Nat:=
 if s<0 \/10<=s \/e<0 \/12<=e then([],0,1)else lE s.toNat e.toNat
def jh(w:dY):Prop:=∀e s,e<12->s<10->w.cell? ⟨0,e*10+s,ν⟩=μ (.string ⟨(oW s e).toArray⟩)
theorem jh.below(h:jh w)(hb:eE w w'):jh w':=λe s Z hs=>
 (hb.cell (ag w _ (h e s Z hs))).trans (h e s Z hs)
theorem jh.lt(h:jh w):0<w.heap.size:=ag w _ (h 0 0 eA eA)
theorem nE(s e:Nat)(hs:s<10)(he:e<12):jj s e=lE s e:=by
 unfold jj;rw[af eh];rfl
theorem TN:∀e,e<12->∀s,s<10->1<=(oW s e).length/\(oW s e).length<=5/\(48<=((oW s e).getLastD 0).toNat/\((oW s e).getLastD 0).toNat<=57 \/oW s e=[45]):=by decide+kernel
theorem Qx(s:Int)(w:dY):eZ e7 195 #[ι κ s] w λe w'=>e=ρ (.bool (decide (4<=s)&&decide (s<=8)))/\w=w':=by
 by_cases Y:4<=s
 ·have Z:decide (4<=s)=true:=by simp[Y]
  rw[Z,Bool.true_and];clear Z
  go_in
  go_wp2
  go_ret;exact⟨rfl,rfl⟩
 ·have Z:decide (4<=s)=false:=by simp[Y]
  rw[Z,Bool.false_and];clear Z
  go_in
  go_wp2
  go_ret;exact⟨rfl,rfl⟩
theorem TP(s e:Int)(w:dY)(h:s<0 \/10<=s \/e<0 \/12<=e):eZ e7 207 #[ι κ s,ι κ e] w λx w'=>x=ρ (τ #[.string ⟨#[]⟩,ι κ 0,jk 1])/\w=w':=by
 have Z:jk 1=.iface 128 (ι κ 1):=rfl;rw[Z];clear Z;by_cases h0:s<0
 ·clear h
  go_in
  go_wp2
  go_ret3
  exact⟨rfl,rfl⟩
 ·by_cases h1:10<=s
  ·clear h
   go_in
   go_wp2
   go_ret3
   exact⟨rfl,rfl⟩
  ·by_cases h2:e<0
   ·clear h
    go_in
    go_wp2
    go_ret3
    exact⟨rfl,rfl⟩
   ·have h3:12<=e:=eh;clear h
    go_in
    go_wp2
    go_ret3
    exact⟨rfl,rfl⟩
theorem Qy(s e:Nat)(S:ByteArray)(w:dY)(hs:s<10)(he:e<12)(hc:w.cell? ⟨0,e*10+s,ν⟩=μ (.string S))(hS:(S.toList==[45])=true):
 eZ e7 207 #[ι κ s,ι κ e] w λx w'=>x=ρ (τ #[.string ⟨#[]⟩,ι κ 0,jk 7])/\w=w':=by
 have Z:jk 7=.iface 128 (ι κ 7):=rfl;have h0:¬(s:Int)<0:=eh;have h1:¬(10:Int)<=s:=eh;have h2:¬(e:Int)<0:=eh;have h3:¬(12:Int)<=e:=eh;have h4:(s:Int)<10:=eh;have h5:(e:Int)<12:=eh;have h6:0<w.heap.size:=ag w _ hc;rw[Z];clear Z
 go_in
 go_wp2
 go_ret3
 exact⟨rfl,rfl⟩
theorem Qz(s e:Nat)(S:ByteArray)(w:dY)(hs:s<10)(he:e<12)(hc:w.cell? ⟨0,e*10+s,ν⟩=μ (.string S))(hS:(S.toList==[45])=false)(n:Nat)(hl:S.size=n+1)(hn:n<=4)(d:Nat)(hd:(S[n]).toNat=48+d)(hd9:d<=9):
 eZ e7 207 #[ι κ s,ι κ e] w λx w'=>x=ρ (τ #[.string (S.extract 0 n),ι κ (d:Int),η])/\∃m,w'=w.drewN m:=by
 have h0:¬(s:Int)<0:=eh;have h1:¬(10:Int)<=s:=eh;have h2:¬(e:Int)<0:=eh;have h3:¬(12:Int)<=e:=eh;have h4:(s:Int)<10:=eh;have h5:(e:Int)<12:=eh;have h6:0<w.heap.size:=ag w _ hc;have h7:wrap64 ((S.size:Int)-1)=n:=by unfold wrap64;omega
 have h8:((0:Int)<=(n:Int)):=eh;have h9:((n:Int)<=(S.size:Int)):=eh;have h10:((n:Int)<(S.size:Int)):=eh
 go_in
 go_wp2
 go_quiet(fail)
 go_wp2
 go_ret3
 refine⟨?_,_,rfl⟩;rw[show(48:Int)+(d:Int)-48=d by omega];rfl
theorem QA:∀e,e<12->∀s,s<10->oW s e≠ [45]->((⟨(oW s e).toArray⟩:ByteArray).extract 0 ((oW s e).length-1)=⟨(oW s e).dropLast.toArray⟩)/\((oW s e).getD ((oW s e).length-1) 0=(oW s e).getLastD 0):=by decide+kernel
theorem TQ(s e:Int)(w:dY)(h:jh w):eZ e7 207 #[ι κ s,ι κ e] w λx w'=>
 x=ρ (τ #[.string ⟨(jj s e).1.toArray⟩,ι κ (jj s e).2.1,jk (jj s e).2.2])/\∃m,w'=w.drewN m:=by
 by_cases V:s<0 \/10<=s \/e<0 \/12<=e
 ·refine(TP s e w V).mono ?_;rintro x w' ⟨rfl,rfl⟩;have hv:jj s e=([],0,1):=by unfold jj;rw[ai V]
  rw[hv];exact⟨rfl,0,rfl⟩
 ·obtain⟨s',rfl⟩:∃s':Nat,s=s':=⟨s.toNat,eh⟩
  obtain⟨e',rfl⟩:∃e':Nat,e=e':=⟨e.toNat,eh⟩
  have hs:s'<10:=eh;have Z:e'<12:=eh;rw[nE s' e' hs Z];have hc:=h e' s' Z hs;obtain⟨l1,l2,T⟩:=TN e' Z s' hs;by_cases Y:oW s' e'=[45]
  ·refine(Qy s' e' _ w hs Z hc (by rw[Y];decide+kernel)).mono ?_;rintro x w' ⟨rfl,rfl⟩;have hv:lE s' e'=([],0,7):=by unfold lE;rw[ai Y]
   rw[hv];exact⟨rfl,0,rfl⟩
  ·obtain⟨c1,c2⟩:=QA e' Z s' hs Y;have l4:=T.resolve_right Y;have hv:lE s' e'=((oW s' e').dropLast,(((oW s' e').getLastD 0).toNat:Int)-48,0):=by unfold lE;rw[af Y]
   rw[hv];clear hv;generalize oW s' e'=L at*;have S:(⟨L.toArray⟩:ByteArray).size=(L.length-1)+1:=by show L.toArray.size=_;simp;omega
   refine(Qz s' e' ⟨L.toArray⟩ w hs Z hc ?_ (L.length-1) S eh ((L.getLastD 0).toNat-48) ?_ eh).mono ?_
   ·rw[cR];intro hb;apply Y;rw[<-hb];simp[ByteArray.toList_eq]
   ·rw[<-c2];show(L.toArray[L.length-1]'_).toNat=_;rw[List.getElem_toArray,aJ,ay eh];rw[aJ,ay eh]at c2;simp only[Option.getD_some]at c2⊢;rw[c2];omega
   ·rintro x w' ⟨rfl,m,rfl⟩;refine⟨?_,m,rfl⟩;rw[c1];have U:(((L.getLastD 0).toNat-48:Nat):Int)=((L.getLastD 0).toNat:Int)-48:=eh;rw[U];rfl
theorem I0(s e:Int)(D:List UInt8)(nx:Int)(f:Nat)(Z:jj s e=(D,nx,f))(w:dY)(h:jh w):
 eZ e7 207 #[ι κ s,ι κ e] w λx w'=>x=ρ (τ #[.string ⟨D.toArray⟩,ι κ nx,jk f])/\∃m,w'=w.drewN m:=by
 have:=TQ s e w h;rw[Z]at this;exact this
theorem Di:(e7.info? 276).map (λi=>(i.zero,i.size,i.bytes))=μ (μ (.agg #[ι κ 0,ι κ 0]),2,16):=gX
theorem zm(w:dY):(zeroValue 252).run e7 w=.ok (.agg #[ι κ 0,ι κ 0]) w:=gX
def oA(sz mg:Int):List jH:=(if 0<sz then [(1,sz)]else [])++(if 0<mg then [(5,mg)]else [])
def Kn(o:jH):Bool:= !(o.1==1)&& !(o.1==5)
def tS(l:List jH):List jH:=l.filter Kn
def xQ(mg:Int)(o:jH):List jH:=
 if o.1=1/\o.2<40 then [(1,40)]else if o.1=5/\(o.2=0 \/o.2=mg)then [(5,mg%255+1)]else []
def rm(mg:Int)(l:List jH):List jH:=l.flatMap (xQ mg)
def mB(mg:Int)(l:List jH):Int×List jH:=if tS l≠ []then(4,tS l)else if rm mg l≠ []then(3,rm mg l)else(2,l)
def kc(code:Int)(p:Int×Int)(o:jH):Int×Int:=
 if code=4 then(if o.1=1 then(0,p.2)else if o.1=5 then(p.1,0)else p)
 else if code=3 then(if o.1=1/\0<p.1/\40<=o.2 then(o.2,p.2)else if o.1=5/\0<p.2/\0<o.2 then(p.1,o.2)else p)
 else p
def pv(code:Int)(l:List jH)(p:Int×Int):Int×Int:=l.foldl (kc code) p
theorem abF(sz mg:Int)(w:dY)(h1:¬sz<40)(h2:¬255<sz)(h3:¬mg<1)(h4:¬255<mg):
 eZ e7 170 #[ι κ sz,ι κ mg] w λe w'=>e=ρ (τ #[.agg #[ι κ sz,ι κ mg],η])/\eE w w':=by
 have hz:=zm;have hb:eE w (w.alloc (γ #[ι κ sz,ι κ mg] 252)):=gY _ _
 go_in
 go_wp2
 refine aE (v:=τ #[.agg #[ι κ sz,ι κ mg],η]) (by simp[results,results170,go_sem]) rfl ?_;exact⟨rfl,hb⟩
theorem Ko(sz mg:Int)(w:dY):eZ e7 224 #[.agg #[ι κ sz,ι κ mg]] w λe w'=>∃v,e=ρ v/\Made w w' v (oA sz mg):=by
 obtain⟨i0,hi,h,y,A⟩:=aX Di;have M:eE w (w.alloc (γ #[ι κ sz,ι κ mg] 252)):=gY _ _;have hA:=λj=>aq w #[ι κ sz,ι κ mg] 252 (0,0) j;by_cases D:0<sz
 ·by_cases G:0<mg
  ·have U:oA sz mg=[(1,sz)] ++ [(5,mg)] :=by simp[oA,D,G]
   rw[U]
   go_in
   go_wp2_with(at_builtin;go_must(refine iI _ rfl (.tmp 7) (.tmp 11) 35 rfl 276 i0 (.agg #[ι κ 0,ι κ 0]) 2 16 underlying35 hi h y A rfl eA (σ ν 0 0) 0 (iV []) rfl (Row.nil _ 2) _ 1 1 [ι κ 1,ι κ sz] rfl rfl eA (nj _ _ _ _ _ gZ) (lR _ _ _ _) eA eA ?_));intro g1 E w1 S Y V;have T:=l9 (M.alloc M.size _) Y (λj Z=>m9 Z);have J:=nW (B:=w.heap.size) V eh (λj Z=>m9 Z);have vX:w1.cell? ⟨w.heap.size,1,ν⟩=μ (ι κ mg):=by
    exact sE Y (by simp[eu]) (((gY _ _).cell (p:=⟨w.heap.size,1,ν⟩) gZ).trans (hA 1))
   have I1:w.heap.size<w1.heap.size:=ag w1 _ vX;rw[show([] :List jH)=[]from rfl]at S;have ajQ:Row w1 2 (σ (μ ⟨g1,0,ν⟩) 1 E) 1 (iV [(1,sz)]):=S;clear Y V S;go_wp2_with(at_builtin;go_must(refine iI _ rfl (.tmp 16) (.tmp 20) 35 rfl 276 i0 (.agg #[ι κ 0,ι κ 0]) 2 16 underlying35 hi h y A rfl eA (σ (μ ⟨g1,0,ν⟩) 1 E) 1 (iV [(1,sz)]) rfl (ajQ.alloc _) _ 1 1 [ι κ 5,ι κ mg] rfl rfl eA (nj _ _ _ _ _ gZ) (lR _ _ _ _) eA eA ?_));intro g2 cap2 w2 tj BQ k7;have mX:=l9 (T.alloc T.size _) BQ (λj Z=>kH J Z);have vQ:=nW (B:=w.heap.size) k7 (by have:=T.size;omega) (λj Z=>kH J Z);clear BQ k7
   go_wp2
   go_ret;exact⟨_,rfl,⟨tj,λj Z=>kH vQ Z,mX⟩⟩
  ·have U:oA sz mg=[(1,sz)] :=by simp[oA,D,G]
   rw[U]
   go_in
   go_wp2_with(at_builtin;go_must(refine iI _ rfl (.tmp 7) (.tmp 11) 35 rfl 276 i0 (.agg #[ι κ 0,ι κ 0]) 2 16 underlying35 hi h y A rfl eA (σ ν 0 0) 0 (iV []) rfl (Row.nil _ 2) _ 1 1 [ι κ 1,ι κ sz] rfl rfl eA (nj _ _ _ _ _ gZ) (lR _ _ _ _) eA eA ?_));intro g1 E w1 S Y V;have T:=l9 (M.alloc M.size _) Y (λj Z=>m9 Z);have J:=nW (B:=w.heap.size) V eh (λj Z=>m9 Z);have vX:w1.cell? ⟨w.heap.size,1,ν⟩=μ (ι κ mg):=by
    exact sE Y (by simp[eu]) (((gY _ _).cell (p:=⟨w.heap.size,1,ν⟩) gZ).trans (hA 1))
   have I1:w.heap.size<w1.heap.size:=ag w1 _ vX;clear Y V
   go_wp2
   go_ret;exact⟨_,rfl,⟨S,λj Z=>kH J Z,T⟩⟩
 ·by_cases G:0<mg
  ·have U:oA sz mg=[(5,mg)] :=by simp[oA,D,G]
   rw[U]
   go_in
   go_wp2_with(at_builtin;go_must(refine iI _ rfl (.tmp 16) (.tmp 20) 35 rfl 276 i0 (.agg #[ι κ 0,ι κ 0]) 2 16 underlying35 hi h y A rfl eA (σ ν 0 0) 0 (iV []) rfl (Row.nil _ 2) _ 1 1 [ι κ 5,ι κ mg] rfl rfl eA (nj _ _ _ _ _ gZ) (lR _ _ _ _) eA eA ?_));intro g1 E w1 S Y V;have T:=l9 (M.alloc M.size _) Y (λj Z=>m9 Z);have J:=nW (B:=w.heap.size) V eh (λj Z=>m9 Z);clear Y V
   go_wp2
   go_ret;exact⟨_,rfl,⟨S,λj Z=>kH J Z,T⟩⟩
  ·have U:oA sz mg=[] :=by simp[oA,D,G]
   rw[U]
   go_in
   go_wp2
   go_ret;exact⟨_,rfl,⟨Row.nil _ 2,λj Z=>m9 Z,M⟩⟩
theorem BS(a:Option dX)(n cap:Nat)(os:List jH)(w:dY)(hn:n<=1000000)(G:jg w a n os):
 eZ e7 244 #[σ a n cap] w λe w'=>∃v,e=ρ v/\Made w w' v (tS os):=by
 obtain⟨i0,hi,oB,np,mI⟩:=aX Di
 go_in
 go_wp2
 go_loopw [3,8] (λout i wr=>∃(k:Nat) (ao:Option dX) (m cp:Nat),k<=n/\out=σ ao m cp/\i=ι κ k/\m<=k/\Row wr 2 (σ ao m cp) m (iV (tS (os.take k)))/\(∀j,eu (σ ao m cp)=μ j->w.heap.size<=j)/\eE w wr) (λ_ i _=>n-(fa i).toNat)
 case atStart=>exact⟨0,ν,0,0,Nat.zero_le _,rfl,rfl,Nat.le_refl _,by simpa[tS,iV]using Row.nil w 2,λj J=>m9 J,au _ _⟩
 case round=>
  obtain⟨k,ao,m,cp,hk,rfl,rfl,hmk,Y,U,Z⟩:=hrel;by_cases kD:k<n
  ·have Ax:=G.below Z;rcases Ax.2 with h0|⟨b,off,rfl,hc⟩
   ·omega
   have h:k<os.length:=by rw[G.1];exact kD
   obtain⟨c1,c2⟩:=hc k h;have S:Hid (os.take (k+1)=os.take k++ [os[k]]):=aA h;generalize os[k] =o at c1 c2 S;clear hc;have nS:(k:Int)<(n:Int):=eh;cases q1:(o.1==1)
   ·cases M:(o.1==5)
    ·have y:(o.1 !=1)=true:=by simp[bne,q1]
     have p5:(o.1 !=5)=true:=by simp[bne,M]
     have V:Hid (tS (os.take (k+1))=tS (os.take k)++ [o]):=by
      show _=_;rw[S.out,tS,cy];simp[Kn,q1,M];rfl
     go_wp2_with(at_builtin;go_must(refine iI _ rfl (.tmp 20) (.tmp 22) 35 rfl 276 i0 (.agg #[ι κ 0,ι κ 0]) 2 16 underlying35 hi oB np mI rfl eA (σ ao m cp) m (iV (tS (os.take k))) rfl ((Y.alloc _).alloc _) _ 1 1 [ι κ o.1,ι κ o.2] rfl rfl eA (nj _ _ _ _ _ gZ) (lR _ _ _ _) (by unfold maxLen;omega) eh ?_));intro g' jv w1 A D E;have T:=l9 ((Z.alloc Z.size _).alloc (by simp;have:=Z.size;omega) _) D U;have mT:=nW (B:=w.heap.size) E (by have:=Z.size;omega) U;rw[<-mE,<-V.out]at A;clear D E
     go_wp2
     go_roundw
     case rel=>exact⟨k+1,_,m+1,jv,eh,rfl,by go_num,eh,A,λj J=>kH mT J,T⟩
     case measure=>simp[fa];omega
    ·have y:(o.1 !=1)=true:=by simp[bne,q1]
     have p5:(o.1 !=5)=false:=by simp[bne,M]
     have V:Hid (tS (os.take (k+1))=tS (os.take k)):=by
      show _=_;rw[S.out,tS,cy];simp[Kn,q1,M];rfl
     have T:=Z.alloc Z.size (γ #[ι κ o.1,ι κ o.2] 276)
     go_wp2
     go_roundw
     case rel=>exact⟨k+1,_,m,cp,eh,rfl,by go_num,eh,by rw[V.out];exact Y.alloc _,U,T⟩
     case measure=>simp[fa];omega
   ·have y:(o.1 !=1)=false:=by simp[bne,q1]
    have V:Hid (tS (os.take (k+1))=tS (os.take k)):=by
     show _=_;rw[S.out,tS,cy];simp[Kn,q1];rfl
    have T:=Z.alloc Z.size (γ #[ι κ o.1,ι κ o.2] 276)
    go_wp2
    go_roundw
    case rel=>exact⟨k+1,_,m,cp,eh,rfl,by go_num,eh,by rw[V.out];exact Y.alloc _,U,T⟩
    case measure=>simp[fa];omega
  ·have zn:os.take k=os:=aI (by rw[G.1];omega);rw[zn]at Y;have CR:m=(tS os).length:=by have:=Y.1;rw[ln]at this;omega
   go_wp2
   go_ret;exact⟨_,rfl,⟨by rw[<-CR];exact Y,U,Z⟩⟩
theorem TR:(e7.info? 37).map (λi=>(i.zero,i.size,i.bytes))=μ (μ (.agg #[ι κ 0,ι κ 0,σ ν 0 0]),3,40):=gX
def TS(fs fm ns nm qs qm st sz lf wt ow:Int)(v:dZ):Array dZ:= #[ι κ fs,ι κ fm,ι κ ns,ι κ nm,ι κ qs,ι κ qm,ι κ st,ι κ sz,ι κ lf,ι κ wt,ι κ ow,v]
def Lk(w:dY)(B:Nat)(C:Array dZ):Prop:=w.heap[B]? =μ (γ C 254 (0,0))
theorem Lk.lt(h:Lk w B C):B<w.heap.size:=(ax.1 h).1
theorem Lk.cell {w:dY} {B:Nat} {C:Array dZ} (h:Lk w B C)(j:Nat):w.cell? ⟨B,j,ν⟩=C[j]? :=aw w B j C _ (0,0) h
theorem Lk.frozen {w:dY} {B:Nat} {C:Array dZ} (h:Lk w B C)(j:Nat):w.frozen? ⟨B,j,ν⟩=false:=bB w B j C _ h
theorem Lk.set(h:Lk w B C)(j:Nat)(x:dZ):Lk (w.setCell ⟨B,j,ν⟩ x) B (C.setIfInBounds j x):=by
 unfold Lk;rw[bL w B j C _ (0,0) x h];exact cC w B C _ _ (0,0) h
theorem Lk.keep(h:Lk w B C)(hb:w'.heap[B]? =w.heap[B]?):Lk w' B C:=hb.trans h
theorem Lk.below(h:Lk w B C)(hb:eE w w'):Lk w' B C:=h.keep (hb.block B h.lt)
theorem Lk.drew {w:dY} {B:Nat} {C:Array dZ} (h:Lk w B C):Lk w.drew B C:=h
theorem zo(w:dY)(x y z:dZ)(t:ew)(g:Nat)(Z:w.heap.size=g):∀(j:Nat) (u:dZ),[x,y,z][j]? =μ u->(w.alloc (γ #[x,y,z] t)).drew.cell? ((⟨g,0,ν⟩:dX).add j)=μ u:=by
 subst Z;intro j u Y;show(w.alloc (γ #[x,y,z] t)).cell? _=_;rw[add_plain,aq];simpa using Y
theorem TU(x y:Int)(a:Option dX)(n c:Nat):∀u∈ [eB .i64 x,eB .i64 y,Value.slice a n c],u.oneCell'=true:=by simp[eD]
theorem pF(h:a.grownBy w (μ b))(j:Nat)(v:dZ):a.grownBy (w.setCell ⟨b,j,ν⟩ v) (μ b):=by
 have b1:eG 0 w (w.setCell ⟨b,j,ν⟩ v):=(au 0 w).setCell (Nat.zero_le _) _;exact⟨b1.os.trans h.os,b1.tape.trans h.tape,b1.output.trans h.output,Nat.le_trans h.size b1.size,λi hi Z=>(ak _ _ _ i (λe=>Z (by rw[e]))).trans (h.block i hi Z)⟩
theorem sG(B:Nat)(h:eE w x):w.grownBy x (μ B):=⟨h.os,h.tape,h.output,h.size,λi hi _=>h.block i hi⟩
theorem BU {b c:dY} (h:a.grownBy b (μ B))(k:b.grownBy c (μ B)):a.grownBy c (μ B):=
 ⟨k.os.trans h.os,k.tape.trans h.tape,k.output.trans h.output,Nat.le_trans h.size k.size,λi hi Z=>(k.block i (Nat.lt_of_lt_of_le hi h.size) Z).trans (h.block i hi Z)⟩
theorem Kp(sz mg k:Int)(w:dY):eZ e7 247 #[.agg #[ι κ sz,ι κ mg],ι κ k] w λe w'=>
 e=ρ (.agg #[ι κ (kc 4 (sz,mg) (k,0)).1,ι κ (kc 4 (sz,mg) (k,0)).2])/\eE w w':=by
 have hz:=zm;have hb:∀A B:Array dZ,eE w ((w.alloc (γ A 252)).alloc (γ B 252)):=λA B=>(gY _ _).alloc gZ _;cases q1:(k==1)
 ·cases Z:(k==5)
  ·have hv:kc 4 (sz,mg) (k,0)=(sz,mg):=by simp at q1 Z;simp[kc,q1,Z]
   rw[hv];clear hv
   go_in
   go_wp2
   refine aE (v:=.agg #[ι κ sz,ι κ mg]) (by simp[results,results247,go_sem]) rfl ?_;exact⟨rfl,hb _ _⟩
  ·have hv:kc 4 (sz,mg) (k,0)=(sz,0):=by simp at q1 Z;simp[kc,Z]
   rw[hv];clear hv
   go_in
   go_wp2
   refine aE (v:=.agg #[ι κ sz,ι κ 0]) (by simp[results,results247,go_sem]) rfl ?_;exact⟨rfl,hb _ _⟩
 ·have hv:kc 4 (sz,mg) (k,0)=(0,mg):=by simp at q1;simp[kc,q1]
  rw[hv];clear hv
  go_in
  go_wp2
  refine aE (v:=.agg #[ι κ 0,ι κ mg]) (by simp[results,results247,go_sem]) rfl ?_;exact⟨rfl,hb _ _⟩
theorem TV(sz mg k n:Int)(w:dY):eZ e7 248 #[.agg #[ι κ sz,ι κ mg],.agg #[ι κ k,ι κ n]] w λe w'=>
 e=ρ (.agg #[ι κ (kc 3 (sz,mg) (k,n)).1,ι κ (kc 3 (sz,mg) (k,n)).2])/\eE w w':=by
 have hz:=zm;have hb:∀(A B C:Array dZ) (t u v:ew),eE w (((w.alloc (γ A t)).alloc (γ B u)).alloc (γ C v)):=λA B C t u v=>((gY _ _).alloc gZ _).alloc (by simp;omega) _;have fin:∀(s m:Int),kc 3 (sz,mg) (k,n)=(s,m)->((kc 3 (sz,mg) (k,n)).1=s/\(kc 3 (sz,mg) (k,n)).2=m):=λs m h=>by rw[h];exact⟨rfl,rfl⟩
 cases q1:(k==1)
 ·cases Z:(k==5)
  ·have hv:kc 3 (sz,mg) (k,n)=(sz,mg):=by simp at q1 Z;simp[kc,q1,Z]
   rw[hv];clear hv fin
   go_in
   go_wp2
   refine aE (v:=.agg #[ι κ sz,ι κ mg]) (by simp[results,results248,go_sem]) rfl ?_;exact⟨rfl,hb _ _ _ _ _ _⟩
  ·by_cases Y:0<mg
   ·by_cases V:0<n
    ·have hv:kc 3 (sz,mg) (k,n)=(sz,n):=by simp at q1 Z;simp[kc,Z,Y,V]
     rw[hv];clear hv fin
     go_in
     go_wp2
     refine aE (v:=.agg #[ι κ sz,ι κ n]) (by simp[results,results248,go_sem]) rfl ?_;exact⟨rfl,hb _ _ _ _ _ _⟩
    ·have hv:kc 3 (sz,mg) (k,n)=(sz,mg):=by simp at q1 Z;simp[kc,Z,V]
     rw[hv];clear hv fin
     go_in
     go_wp2
     refine aE (v:=.agg #[ι κ sz,ι κ mg]) (by simp[results,results248,go_sem]) rfl ?_;exact⟨rfl,hb _ _ _ _ _ _⟩
   ·have hv:kc 3 (sz,mg) (k,n)=(sz,mg):=by simp at q1 Z;simp[kc,Z,Y]
    rw[hv];clear hv fin
    go_in
    go_wp2
    refine aE (v:=.agg #[ι κ sz,ι κ mg]) (by simp[results,results248,go_sem]) rfl ?_;exact⟨rfl,hb _ _ _ _ _ _⟩
 ·have Z:(k==5)=false:=by simp at q1⊢;omega
  by_cases Y:0<sz
  ·by_cases V:40<=n
   ·have hv:kc 3 (sz,mg) (k,n)=(n,mg):=by simp at q1;simp[kc,q1,Y,V]
    rw[hv];clear hv fin
    go_in
    go_wp2
    refine aE (v:=.agg #[ι κ n,ι κ mg]) (by simp[results,results248,go_sem]) rfl ?_;exact⟨rfl,hb _ _ _ _ _ _⟩
   ·have hv:kc 3 (sz,mg) (k,n)=(sz,mg):=by simp at q1;simp[kc,q1,V]
    rw[hv];clear hv fin
    go_in
    go_wp2
    refine aE (v:=.agg #[ι κ sz,ι κ mg]) (by simp[results,results248,go_sem]) rfl ?_;exact⟨rfl,hb _ _ _ _ _ _⟩
  ·have hv:kc 3 (sz,mg) (k,n)=(sz,mg):=by simp at q1;simp[kc,q1,Y]
   rw[hv];clear hv fin
   go_in
   go_wp2
   refine aE (v:=.agg #[ι κ sz,ι κ mg]) (by simp[results,results248,go_sem]) rfl ?_;exact⟨rfl,hb _ _ _ _ _ _⟩
theorem DT(sz mg:Int)(a:Option dX)(n cap:Nat)(os:List jH)(w:dY)(MD:0<=mg)(abG:mg<=255)(hn:n<=1000000)(ho:jg w a n os):
 eZ e7 245 #[.agg #[ι κ sz,ι κ mg],σ a n cap] w λe w'=>∃v,e=ρ v/\Made w w' v (rm mg os):=by
 obtain⟨i0,hi,oB,np,mI⟩:=aX Di;have qB:eE w (w.alloc (γ #[ι κ sz,ι κ mg] 252)):=gY _ _;have hA:=λj=>aq w #[ι κ sz,ι κ mg] 252 (0,0) j
 go_in
 go_wp2
 go_loopw [5,10] (λout i wr=>∃(k:Nat) (ao:Option dX) (m cp:Nat),k<=n/\out=σ ao m cp/\i=ι κ k/\m<=k/\Row wr 2 (σ ao m cp) m (iV (rm mg (os.take k)))/\(∀j,eu (σ ao m cp)=μ j->w.heap.size+1<=j)/\wr.cell? ⟨w.heap.size,1,ν⟩=μ (ι κ mg)/\eE w wr) (λ_ i _=>n-(fa i).toNat)
 case atStart=>exact⟨0,ν,0,0,Nat.zero_le _,rfl,rfl,Nat.le_refl _,by simpa[rm,iV]using Row.nil _ 2,λj Z=>m9 Z,hA 1,qB⟩
 case round=>
  obtain⟨k,ao,m,cp,hk,rfl,rfl,hmk,T,U,hmc,iN⟩:=hrel;have I1:w.heap.size<wr.heap.size:=ag wr _ hmc;by_cases kD:k<n
  ·have Ax:=ho.below iN;rcases Ax.2 with h0|⟨b,off,rfl,hc⟩
   ·omega
   have qK:k<os.length:=by rw[ho.1];exact kD
   obtain⟨c1,c2⟩:=hc k qK;have A:Hid (rm mg (os.take (k+1))=rm mg (os.take k)++xQ mg os[k]):=by
    show _=_;rw[aA qK,rm,cr,bY,List.flatMap_nil,aB];rfl
   generalize os[k] =o at c1 c2 A;clear hc;have nS:(k:Int)<(n:Int):=eh;have S:=iN.alloc iN.size (γ #[ι κ o.1,ι κ o.2] 276);have D:(wr.alloc (γ #[ι κ o.1,ι κ o.2] 276)).cell? ⟨w.heap.size,1,ν⟩=μ (ι κ mg):=((gY _ _).cell (p:=⟨w.heap.size,1,ν⟩) I1).trans hmc;have keep:xQ mg o=[]->Hid (Row (wr.alloc (γ #[ι κ o.1,ι κ o.2] 276)) 2 (σ ao m cp) m (iV (rm mg (os.take (k+1))))):=λhe=>by
    show Row _ _ _ _ _;rw[A.out,he,aB];exact T.alloc _
   cases q1:(o.1==1)
   ·cases M:(o.1==5)
    ·have V:=keep (by simp at q1 M;simp[xQ,q1,M])
     go_wp2
     go_roundw
     case rel=>exact⟨k+1,_,m,cp,eh,rfl,by go_num,eh,V.out,U,D,S⟩
     case measure=>simp[fa];omega
    ·cases q6:(o.2==0)
     ·cases q7:(o.2==mg)
      ·have V:=keep (by simp at q1 M q6 q7;simp[xQ,M,q6,q7])
       go_wp2
       go_roundw
       case rel=>exact⟨k+1,_,m,cp,eh,rfl,by go_num,eh,V.out,U,D,S⟩
       case measure=>simp[fa];omega
      ·have y:Hid (xQ mg o=[(5,(mg%255+1))]):=by
        show _=_;simp at q1 M q6 q7;simp[xQ,M,q7]
       go_wp2_with(at_builtin;go_must(refine iI _ rfl (.tmp 41) (.tmp 47) 35 rfl 276 i0 (.agg #[ι κ 0,ι κ 0]) 2 16 underlying35 hi oB np mI rfl eA (σ ao m cp) m (iV (rm mg (os.take k))) rfl ((T.alloc _).alloc _) _ 1 1 [ι κ 5,ι κ (mg%255+1)] rfl rfl eA (nj _ _ _ _ _ gZ) (lR _ _ _ _) (by unfold maxLen;omega) eh ?_));intro g' E w1 V Y G;have mX:=l9 (S.alloc S.size _) Y (λj Z=>by have:=U j Z;omega);have mT:=nW (B:=w.heap.size+1) G eh U;have J:w1.cell? ⟨w.heap.size,1,ν⟩=μ (ι κ mg):=sE Y (λe=>by have:=U _ e;omega) (((gY _ _).cell (p:=⟨w.heap.size,1,ν⟩) (by simp;omega)).trans D);have I2:w.heap.size<w1.heap.size:=ag w1 _ J;have hcs:∀j,j<2->w1.cell? ⟨wr.heap.size,j,ν⟩=(wr.alloc (γ #[ι κ o.1,ι κ o.2] 276)).cell? ⟨wr.heap.size,j,ν⟩:=λj _=>by
        have h:=aj (a:=⟨wr.heap.size,j,ν⟩) (Y.block wr.heap.size (by simp;omega) (λe=>by have:=T.lt _ e.symm;omega));exact h.trans ((gY _ _).cell (p:=⟨wr.heap.size,j,ν⟩) gZ)
       have d0:=(hcs 0 eA).trans (aq wr #[ι κ o.1,ι κ o.2] 276 (0,0) 0);have d1:=(hcs 1 eA).trans (aq wr #[ι κ o.1,ι κ o.2] 276 (0,0) 1);have O3:wr.heap.size<w1.heap.size:=ag w1 _ d0;have tj:Row w1 2 (σ (μ ⟨g',0,ν⟩) (m+1) E) (m+1) (iV (rm mg (os.take (k+1)))):=by
        rw[A.out,y.out,mE];exact V
       clear Y G V hcs keep
       go_wp2
       go_roundw
       case rel=>exact⟨k+1,_,m+1,E,eh,rfl,by go_num,eh,tj,λj Z=>kH mT Z,J,mX⟩
       case measure=>simp[fa];omega
     ·have y:Hid (xQ mg o=[(5,(mg%255+1))]):=by
       show _=_;simp at q1 M q6;simp[xQ,M,q6]
      go_wp2_with(at_builtin;go_must(refine iI _ rfl (.tmp 41) (.tmp 47) 35 rfl 276 i0 (.agg #[ι κ 0,ι κ 0]) 2 16 underlying35 hi oB np mI rfl eA (σ ao m cp) m (iV (rm mg (os.take k))) rfl ((T.alloc _).alloc _) _ 1 1 [ι κ 5,ι κ (mg%255+1)] rfl rfl eA (nj _ _ _ _ _ gZ) (lR _ _ _ _) (by unfold maxLen;omega) eh ?_));intro g' E w1 V Y G;have mX:=l9 (S.alloc S.size _) Y (λj Z=>by have:=U j Z;omega);have mT:=nW (B:=w.heap.size+1) G eh U;have J:w1.cell? ⟨w.heap.size,1,ν⟩=μ (ι κ mg):=sE Y (λe=>by have:=U _ e;omega) (((gY _ _).cell (p:=⟨w.heap.size,1,ν⟩) (by simp;omega)).trans D);have I2:w.heap.size<w1.heap.size:=ag w1 _ J;have hcs:∀j,j<2->w1.cell? ⟨wr.heap.size,j,ν⟩=(wr.alloc (γ #[ι κ o.1,ι κ o.2] 276)).cell? ⟨wr.heap.size,j,ν⟩:=λj _=>by
       have h:=aj (a:=⟨wr.heap.size,j,ν⟩) (Y.block wr.heap.size (by simp;omega) (λe=>by have:=T.lt _ e.symm;omega));exact h.trans ((gY _ _).cell (p:=⟨wr.heap.size,j,ν⟩) gZ)
      have d0:=(hcs 0 eA).trans (aq wr #[ι κ o.1,ι κ o.2] 276 (0,0) 0);have d1:=(hcs 1 eA).trans (aq wr #[ι κ o.1,ι κ o.2] 276 (0,0) 1);have O3:wr.heap.size<w1.heap.size:=ag w1 _ d0;have tj:Row w1 2 (σ (μ ⟨g',0,ν⟩) (m+1) E) (m+1) (iV (rm mg (os.take (k+1)))):=by
       rw[A.out,y.out,mE];exact V
      clear Y G V hcs keep
      go_wp2
      go_roundw
      case rel=>exact⟨k+1,_,m+1,E,eh,rfl,by go_num,eh,tj,λj Z=>kH mT Z,J,mX⟩
      case measure=>simp[fa];omega
   ·have M:(o.1==5)=false:=by simp at q1⊢;omega
    by_cases q2:o.2<40
    ·have y:Hid (xQ mg o=[(1,40)]):=by
      show _=_;simp at q1;simp[xQ,q1,q2]
     go_wp2_with(at_builtin;go_must(refine iI _ rfl (.tmp 22) (.tmp 24) 35 rfl 276 i0 (.agg #[ι κ 0,ι κ 0]) 2 16 underlying35 hi oB np mI rfl eA (σ ao m cp) m (iV (rm mg (os.take k))) rfl ((T.alloc _).alloc _) _ 1 1 [ι κ 1,ι κ 40] rfl rfl eA (nj _ _ _ _ _ gZ) (lR _ _ _ _) (by unfold maxLen;omega) eh ?_));intro g' E w1 V Y G;have mX:=l9 (S.alloc S.size _) Y (λj Z=>by have:=U j Z;omega);have mT:=nW (B:=w.heap.size+1) G eh U;have J:w1.cell? ⟨w.heap.size,1,ν⟩=μ (ι κ mg):=sE Y (λe=>by have:=U _ e;omega) (((gY _ _).cell (p:=⟨w.heap.size,1,ν⟩) (by simp;omega)).trans D);have I2:w.heap.size<w1.heap.size:=ag w1 _ J;have hcs:∀j,j<2->w1.cell? ⟨wr.heap.size,j,ν⟩=(wr.alloc (γ #[ι κ o.1,ι κ o.2] 276)).cell? ⟨wr.heap.size,j,ν⟩:=λj _=>by
      have h:=aj (a:=⟨wr.heap.size,j,ν⟩) (Y.block wr.heap.size (by simp;omega) (λe=>by have:=T.lt _ e.symm;omega));exact h.trans ((gY _ _).cell (p:=⟨wr.heap.size,j,ν⟩) gZ)
     have d0:=(hcs 0 eA).trans (aq wr #[ι κ o.1,ι κ o.2] 276 (0,0) 0);have d1:=(hcs 1 eA).trans (aq wr #[ι κ o.1,ι κ o.2] 276 (0,0) 1);have O3:wr.heap.size<w1.heap.size:=ag w1 _ d0;have tj:Row w1 2 (σ (μ ⟨g',0,ν⟩) (m+1) E) (m+1) (iV (rm mg (os.take (k+1)))):=by
      rw[A.out,y.out,mE];exact V
     clear Y G V hcs keep
     go_wp2
     go_roundw
     case rel=>exact⟨k+1,_,m+1,E,eh,rfl,by go_num,eh,tj,λj Z=>kH mT Z,J,mX⟩
     case measure=>simp[fa];omega
    ·have V:=keep (by simp at q1;simp[xQ,q1,q2])
     go_wp2
     go_roundw
     case rel=>exact⟨k+1,_,m,cp,eh,rfl,by go_num,eh,V.out,U,D,S⟩
     case measure=>simp[fa];omega
  ·have zn:os.take k=os:=aI (by rw[ho.1];omega);rw[zn]at T;have CR:m=(rm mg os).length:=by have:=T.1;rw[ln]at this;omega
   go_wp2
   go_ret;exact⟨_,rfl,⟨by rw[<-CR];exact T,λj Z=>by have:=U j Z;omega,iN⟩⟩
theorem not_nil(a:dX)(n cap:Nat)(w:dY):(binOp .eql 35 (σ (μ a) n cap) (σ ν 0 0)).run e7 w=.ok (.bool false) w:=gX
theorem abH(w:dY):(binOp .eql 35 (σ ν 0 0) (σ ν 0 0)).run e7 w=.ok (.bool true) w:=gX
theorem DU(a:dX)(cap:Nat)(w:dY):
 eZ e7 246 #[σ (μ a) 0 cap] w λe w'=>∃(v:dZ),e=ρ v/\Made w w' v [] :=by
 have hq:=not_nil
 go_in
 go_wp2
 go_ret;exact⟨_,rfl,⟨Row.made w 2 _ #[] (0,0) 0 0 [] rfl rfl (Nat.le_refl _) eA (.inl rfl) gZ,λj Z=>kH (Nat.le_refl _) Z,gY _ _⟩⟩
theorem QC(w:dY):
 eZ e7 246 #[σ ν 0 0] w λe w'=>∃(v:dZ),e=ρ v/\Made w w' v [] :=by
 have hq:=abH
 go_in
 go_wp2
 go_ret;exact⟨_,rfl,⟨Row.nil w 2,λj Z=>m9 Z,au _ _⟩⟩
theorem MU(b off n cap:Nat)(os:List jH)(w:dY)(hn:n<=1000000)(S:0<n)(Y:jg w (μ ⟨b,off,ν⟩) n os):
 eZ e7 246 #[σ (μ ⟨b,off,ν⟩) n cap] w λe w'=>∃(v:dZ),e=ρ v/\Made w w' v os:=by
 obtain⟨i0,hi,y,A,E⟩:=aX Di;have hq:=not_nil;have T:eE w (w.alloc (γ #[] 276)):=gY _ _;have hl:=Y.1;have M:Row (w.alloc (γ #[] 276)) 2 (σ (μ ⟨w.heap.size,0,ν⟩) 0 0) 0 [] :=Row.made w 2 _ #[] (0,0) 0 0 [] rfl rfl (Nat.le_refl _) eA (.inl rfl) gZ
 go_in
 go_wp2_with(at_builtin;go_must(refine iI _ rfl (.tmp 5) (.tmp 6) 35 rfl 276 i0 (.agg #[ι κ 0,ι κ 0]) 2 16 underlying35 hi y A E rfl eA (σ (μ ⟨w.heap.size,0,ν⟩) 0 0) 0 [] rfl M _ n cap (iV os) rfl (by rw[ln];omega) S ((Y.below T).cells S) (Km _) (by unfold maxLen;omega) eh ?_));intro g1 CQ w1 G U V;have J:=l9 T U (λj Z=>kH (Nat.le_refl _) Z);have D:=nW (B:=w.heap.size) V eh (λj Z=>kH (Nat.le_refl _) Z);clear U V
 go_wp2
 go_ret;refine⟨_,rfl,⟨?_,λj Z=>kH D Z,J⟩⟩;rw[hl];exact G
theorem QD(a:Option dX)(n cap:Nat)(os:List jH)(w:dY)(U:n<=1000000)(T:kN a cap)(Z:jg w a n os):
 eZ e7 246 #[σ a n cap] w λe w'=>∃(v:dZ),e=ρ v/\Made w w' v os:=by
 rcases Z.2 with V|⟨b,off,rfl,hc⟩
 ·subst V;have Y:os=[] :=aH Z.1;subst Y;cases a with
  |none=>
   obtain rfl:=T rfl;exact QC w
  |some a=>exact DU a cap w
 ·by_cases S:0<n
  ·exact MU b off n cap os w U S Z
  ·have V:n=0:=eh;subst V;have Y:os=[] :=aH Z.1;subst Y;exact DU _ cap w
theorem G4 {w1:dY} {x y:dZ} (hb:eG (w.alloc (γ #[x,y] t)).heap.size (w.alloc (γ #[x,y] t)) w1):
 w1.cell? ⟨w.heap.size,0,ν⟩=μ x/\w1.cell? ⟨w.heap.size,1,ν⟩=μ y/\w.heap.size<w1.heap.size:=by
 have Z:w.heap.size<(w.alloc (γ #[x,y] t)).heap.size:=gZ;have hA:=λj=>aq w #[x,y] t (0,0) j;exact⟨(hb.cell (p:=⟨w.heap.size,0,ν⟩) Z).trans (hA 0),(hb.cell (p:=⟨w.heap.size,1,ν⟩) Z).trans (hA 1),Nat.lt_of_lt_of_le Z hb.size⟩
theorem G5(sz mg:Int)(a:Option dX)(n cap:Nat)(os:List jH)(w:dY)(y:0<=mg)(T:mg<=255)(S:n<=1000000)(kr:kN a cap)(M:jg w a n os):
 eZ e7 228 #[.agg #[ι κ sz,ι κ mg],σ a n cap] w λe w'=>∃v,e=ρ (τ #[ι κ (mB mg os).1,v])/\Made w w' v (mB mg os).2:=by
 have E:eE w (w.alloc (γ #[ι κ sz,ι κ mg] 252)):=gY _ _;have hA:=λj=>aq w #[ι κ sz,ι κ mg] 252 (0,0) j;by_cases J:tS os=[]
 ·have Y:=BS a n cap os _ S (M.below E);rw[J]at Y;by_cases hb:rm mg os=[]
  ·have V:mB mg os=(2,os):=by simp[mB,J,hb]
   rw[V];clear V
   go_in
   go_wp2_with(fail);refine Y.mono ?_;rintro e w1 ⟨v,rfl,Z⟩;obtain⟨a1,O4,rfl,_,_⟩:=Z.shape;obtain⟨c0,c1,hl⟩:=G4 Z.below;have G:=gu E Z.below;have U:=DT sz mg a n cap os w1 y T S (M.below G);rw[hb]at U;simp only[eU];clear Y Z;go_wp2_with(fail);refine U.mono ?_;rintro e w2 ⟨v,rfl,Z⟩;obtain⟨a2,D,rfl,_,_⟩:=Z.shape;have mX:=gu G Z.below;simp only[eU];clear U Z;go_wp2_with(fail);refine(QD a n cap os w2 S kr (M.below mX)).mono ?_;rintro e w3 ⟨v,rfl,Z⟩
   go_wp2
   go_ret2
   exact⟨_,rfl,Z.from mX⟩
  ·have V:mB mg os=(3,rm mg os):=by simp[mB,J,hb]
   rw[V];clear V
   go_in
   go_wp2_with(fail);refine Y.mono ?_;rintro e w1 ⟨v,rfl,Z⟩;obtain⟨a1,O4,rfl,_,_⟩:=Z.shape;obtain⟨c0,c1,hl⟩:=G4 Z.below;have G:=gu E Z.below;have U:=DT sz mg a n cap os w1 y T S (M.below G);simp only[eU];clear Y Z;go_wp2_with(fail);refine U.mono ?_;rintro e w2 ⟨v,rfl,Z⟩;obtain⟨a2,D,rfl,_,_⟩:=Z.shape;have A:=Z.from G;have qw:(0:Int)<((rm mg os).length:Int):=by
    have:(rm mg os).length≠0:=λh=>hb (aH h);omega
   clear U Z
   go_wp2
   go_ret2
   exact⟨_,rfl,A⟩
 ·have Y:=BS a n cap os _ S (M.below E);have V:mB mg os=(4,tS os):=by simp[mB,J]
  rw[V];clear V
  go_in
  go_wp2_with(fail);refine Y.mono ?_;rintro e w1 ⟨v,rfl,Z⟩;obtain⟨a1,O4,rfl,_,_⟩:=Z.shape;have A:=Z.from E;have qw:(0:Int)<((tS os).length:Int):=by
   have:(tS os).length≠0:=λh=>J (aH h);omega
  clear Y Z
  go_wp2
  go_ret2
  exact⟨_,rfl,A⟩
structure ME(w:dY)(B:Nat)(s m:Int):Prop where
 c0:w.cell? ⟨B,0,ν⟩=μ (ι κ s)
 c1:w.cell? ⟨B,1,ν⟩=μ (ι κ m)
 f0:w.frozen? ⟨B,0,ν⟩=false
 f1:w.frozen? ⟨B,1,ν⟩=false
theorem ME.lt(h:ME w B s m):B<w.heap.size:=ag w _ h.c0
theorem ME.below(h:ME w B s m)(hb:eE w w'):ME w' B s m:=
 ⟨(hb.cell (p:=⟨B,0,ν⟩) h.lt).trans h.c0,(hb.cell (p:=⟨B,1,ν⟩) h.lt).trans h.c1,
   (aL (a:=⟨B,0,ν⟩) (hb.block B h.lt)).trans h.f0,(aL (a:=⟨B,1,ν⟩) (hb.block B h.lt)).trans h.f1⟩
structure PV where
 code:Int
 id:Int
 a:Option dX
 n:Nat
 cap:Nat
 os:List jH
def PV.val(p:PV):dZ:=σ p.a p.n p.cap
def PV.cells(p:PV):List dZ:=[ι κ p.code,ι κ p.id,p.val]
def QF(ps:List PV):List dZ:=ps.flatMap PV.cells
theorem TW(ps:List PV)(p:PV):QF (ps++ [p])=QF ps++ [ι κ p.code,ι κ p.id,p.val] :=by simp[QF,PV.cells]
structure vK(w:dY)(X:Nat->Prop)(v:dZ)(p:PV):Prop where
 opt:jg w p.a p.n p.os
 nil:kN p.a p.cap
 le:p.n<=p.cap
 few:p.n<=1000
 far:∀k,uQ p.a p.n=μ k->¬X k/\v.ownBlock≠μ k/\k<w.heap.size
structure LS where
 fs:Int
 fm:Int
 ns:Int
 nm:Int
 qs:Int
 qm:Int
 st:Int
 sz:Int
 lf:Int
 wt:Int
 ow:Int
def LS.c(s:LS)(v:dZ):Array dZ:=TS s.fs s.fm s.ns s.nm s.qs s.qm s.st s.sz s.lf s.wt s.ow v
structure rK(w:dY)(B:Nat)(X:Nat->Prop)(s:LS)(v:dZ)(ps:List PV):Prop where
 lk:Lk w B (s.c v)
 row:Row w 3 v ps.length (QF ps)
 own:∀g,v.ownBlock=μ g->¬X g
 self:X B
 old:∀k,X k->k<w.heap.size
 pk:∀p∈ps,vK w X v p
structure Kept(w w':dY)(B:Nat)(o:Option Nat):Prop where
 os:w'.os=w.os
 tape:w'.tape=w.tape
 output:w'.output=w.output
 size:w.heap.size<=w'.heap.size
 block:∀i,i<w.heap.size->i≠B->o≠μ i->w'.heap[i]? =w.heap[i]?
theorem Kept.refl(w:dY)(B:Nat)(o:Option Nat):Kept w w B o:=⟨rfl,rfl,rfl,Nat.le_refl _,λ_ _ _ _=>rfl⟩
theorem Kept.iW(B:Nat)(o:Option Nat)(h:eE w w'):Kept w w' B o:=⟨h.os,h.tape,h.output,h.size,λi hi _ _=>h.block i hi⟩
theorem Kept.trans {a b c:dY} {B:Nat} {o o':Option Nat} (h:Kept a b B o)(k:Kept b c B o')(Z:∀i,o'=μ i->o=μ i \/a.heap.size<=i):Kept a c B o:=
 ⟨k.os.trans h.os,k.tape.trans h.tape,k.output.trans h.output,Nat.le_trans h.size k.size,λi hi U V=>by
  rw[k.block i (Nat.lt_of_lt_of_le hi h.size) U (λe=>by
   rcases Z i e with Y|Y
   ·exact V Y
   ·omega)]
  exact h.block i hi U V⟩
theorem vK.kept {v':dZ} {p:PV} (h:vK w X v p)(S:X B)(k:Kept w w' B v.ownBlock)(hv:∀g,v'.ownBlock=μ g->v.ownBlock=μ g \/w.heap.size<=g):vK w' X v' p:=
 ⟨h.opt.O1 (λj U=>by obtain⟨Z,Y,V⟩:=h.far j U;exact k.block j V (λe=>Z (by rw[e];exact S)) Y),h.nil,h.le,h.few,λj U=>by
  obtain⟨Z,Y,V⟩:=h.far j U;refine⟨Z,λe=> ?_,Nat.lt_of_lt_of_le V k.size⟩;rcases hv j e with T|T
  ·exact Y T
  ·omega⟩
theorem rK.below {w w':dY} {B:Nat} {X:Nat->Prop} {s:LS} {v:dZ} {ps:List PV} (h:rK w B X s v ps)(hb:eE w w'):rK w' B X s v ps:=
 ⟨h.lk.below hb,h.row.below hb,h.own,h.self,λk Z=>Nat.lt_of_lt_of_le (h.old k Z) hb.size,λp Y=>(h.pk p Y).kept h.self (Kept.iW B _ hb) (λ_ e=>.inl e)⟩
theorem rK.ne {s:LS} {ps:List PV} (h:rK w B X s v ps):v.ownBlock≠μ B:=λe=>h.own B e h.self
theorem X8(h:Lk w B C)(Z:(w.alloc o).drew.grownBy x v.ownBlock)(hv:v.ownBlock≠μ B):Lk x B C:=by
 refine h.keep ?_;rw[Z.block B (by show B<(w.alloc o).heap.size;have:=h.lt;simp;omega) (λe=>hv e.symm)];exact aU w o B h.lt
theorem QG(Z:(w.alloc o).drew.grownBy x v.ownBlock):Kept w x B v.ownBlock:=
 ⟨Z.os,Z.tape,Z.output,Nat.le_trans (by show w.heap.size<=(w.alloc o).heap.size;simp) Z.size,λi hi _ Y=>by
  rw[Z.block i (by show i<(w.alloc o).heap.size;simp;omega) (λe=>Y e.symm)];exact aU w o i hi⟩
theorem kO {o:Option Nat} (h:Kept w x B o)(j:Nat)(v:dZ):Kept w (x.setCell ⟨B,j,ν⟩ v) B o:=by
 have b1:eG 0 x (x.setCell ⟨B,j,ν⟩ v):=(au 0 x).setCell (Nat.zero_le _) _;exact⟨b1.os.trans h.os,b1.tape.trans h.tape,b1.output.trans h.output,Nat.le_trans h.size b1.size,λi hi Z Y=>(ak _ _ _ i Z).trans (h.block i hi Z Y)⟩
theorem I3(B:Nat)(X:Nat->Prop)(s:LS)(v:dZ)(ps:List PV)(p:PV)(w:dY)(h:rK w B X s v ps)(hp:vK w X v p)(hn:ps.length<=100):
 eZ e7 225 #[π (μ ⟨B,0,ν⟩),.agg #[ι κ p.code,ι κ p.id,σ p.a p.n p.cap]] w λe w'=>e=ρ (τ #[])/\∃v',rK w' B X s v' (ps++ [p])/\Kept w w' B v.ownBlock/\(∀g,v'.ownBlock=μ g->v.ownBlock=μ g \/w.heap.size<=g):=by
 obtain⟨i0,hi,oB,np,mI⟩:=aX TR;have A:=gY w (γ #[ι κ p.code,ι κ p.id,σ p.a p.n p.cap] 37);have G:=h.below A;have hA:=λj=>aq w #[ι κ p.code,ι κ p.id,σ p.a p.n p.cap] 37 (0,0) j;obtain⟨C,hC⟩:=gq (s.c);have qW:∀x,(C x)[11]? =μ x:=by rw[<-hC];intro x;rfl
 have hcs:∀x y,(C x).setIfInBounds 11 y=C y:=by rw[<-hC];intro x y;rfl
 have M:=G.lk;rw[hC]at M;have iX:=G.row;obtain⟨nn,Ay⟩:=gq (ps.length);rw[Ay]at iX hn
 go_in
 go_wp2_with(fail);obtain⟨Z,T⟩:=gq (w.heap.size);obtain⟨Y,S⟩:=gq (w.alloc (γ #[ι κ p.code,ι κ p.id,σ p.a p.n p.cap] 37));have d0:Y.cell? ⟨Z,0,ν⟩=μ (ι κ p.code):=by rw[<-S,<-T];exact hA 0
 have d1:Y.cell? ⟨Z,1,ν⟩=μ (ι κ p.id):=by rw[<-S,<-T];exact hA 1
 have d2:Y.cell? ⟨Z,2,ν⟩=μ (σ p.a p.n p.cap):=by rw[<-S,<-T];exact hA 2
 rw[S]at G A M iX;rw[S,T];have X9:B<Y.heap.size:=M.lt;have Ka:Z<Y.heap.size:=ag Y _ d0;have TX:Y.cell? ⟨B,11,ν⟩=μ v:=(M.cell 11).trans (qW v);have HB:Hid _:=A;have U:Hid _:=h;have HP:Hid _:=hp;have HO:Hid (v.ownBlock≠μ B):=h.ne;have HZ:Hid _:=T;have HC:Hid _:=hC;have HN:Hid _:=Ay;have HL:Hid _:=hcs;have HK:Hid _:=qW;clear hA S T h A hp G hC Ay hcs qW
 go_region_law ((refine l8 (by rfl) (.tmp 8) (.tmp 10) 175 (by rfl) 37 i0 (.agg #[ι κ 0,ι κ 0,σ ν 0 0]) 3 40 underlying175 hi oB np mI (by rfl) eA v nn (QF ps) (by rfl) ((iX.alloc _).drew) _ 1 1 [ι κ p.code,ι κ p.id,σ p.a p.n p.cap] (by rfl) (by rfl) eA (zo _ _ _ _ _ _ rfl) (TU _ _ _ _ _) (by unfold maxLen;omega) eh ?_;intro V D x1 lg kG jI;have MV:=X8 M kG HO.out;have f11:=MV.frozen 11;have g11:x1.cell? ⟨B,11,ν⟩=μ v:=(MV.cell 11).trans (HK.out v)))
 all_goals
  go_wp2
  first|go_end0|refine iM rfl rfl ?_
  have hgs:V≠B:=by
   rcases jI with hh|hh
   ·exact λe=>HO.out (by rw[hh,e])
   ·have:=M.lt;have h2:Y.heap.size<=V:=Nat.le_trans (by show Y.heap.size<=(Y.alloc _).heap.size;simp) hh;omega
  have E:=kO ((Kept.iW B v.ownBlock HB.out).trans (QG (B:=B) kG) (λi e=>.inl e)) 11 (σ (μ ⟨V,0,ν⟩) (nn+1) D);have hv:∀g,eu (σ (μ ⟨V,0,ν⟩) (nn+1) D)=μ g->v.ownBlock=μ g \/w.heap.size<=g:=by
   intro g hg;have QH:V=g:=by simpa[eu]using hg
   subst QH;rcases jI with hh|hh
   ·exact .inl hh
   ·right;have h2:Y.heap.size<=V:=Nat.le_trans (by show Y.heap.size<=(Y.alloc _).heap.size;simp) hh;have:=HB.out.size;omega
  refine⟨rfl,σ (μ ⟨V,0,ν⟩) (nn+1) D,⟨?_,?_,?_,U.out.self,λk hk=>Nat.lt_of_lt_of_le (U.out.old k hk) E.size,?_⟩,E,hv⟩
  ·have:=MV.set 11 (σ (μ ⟨V,0,ν⟩) (nn+1) D);rw[HL.out]at this;rw[HC.out];exact this
  ·rw[TW,az,HN.out];refine lg.keep gZ (λk hk=> ?_);have zn:V=k:=by simpa[eu]using hk
   exact ak _ _ _ k (by show k≠B;omega)
  ·intro g hg hx;rcases hv g hg with e|e
   ·exact U.out.own g e hx
   ·have:=U.out.old g hx;omega
  ·intro q J;rcases av.1 J with J|J
   ·exact(U.out.pk q J).kept U.out.self E hv
   ·have:q=p:=by simpa using J
    subst this;exact HP.out.kept U.out.self E hv
abbrev kP:=Int×Int×List jH
def PV.abs(p:PV):kP:=(p.code,p.id,p.os)
def LS.asked(s:LS):LS:={s with lf:=s.lf-1,wt:=3,ow:=(s.ow+1) %256}
def pY(c:UInt8)(s:LS):LS:=
 if c=105 then {s with lf:=4}else if c=122 then {s with lf:=0,wt:=3}else if c=114 then({s with qs:=s.ns,qm:=s.nm}:LS).asked else if c=116 then s.asked else s
def Gl(c:UInt8)(s:LS)(zp:kP):List kP:=
 if c=114 then [(1,(s.ow+1) %256,oA s.ns s.nm)]else if c=116 then [(5,(s.ow+1) %256,[])]else if c=97 \/c=110 then [zp]else if c=107 then [(6,zp.2.1,[])]else []
def qM:List UInt8->LS->LS
 |[],s=>s
 |c::r,s=>qM r (pY c s)
def yq:List UInt8->LS->kP->List kP
 |[],_,_=>[]
 |c::r,s,zp=>Gl c s zp++yq r (pY c s) zp
structure Bd(s:LS)(n:Int):Prop where
 o1:0<=s.ow
 o2:s.ow<=255
 l1: -n<=s.lf
 l2:s.lf<=n
theorem Bd.act {s:LS} {n:Int} (h:Bd s n)(hn:4<=n)(c:UInt8):Bd (pY c s) (n+1):=by
 obtain⟨a,b,d,e⟩:=h;unfold pY;split
 ·exact⟨a,b,by simp;omega,by simp;omega⟩
 ·split
  ·exact⟨a,b,by simp;omega,by simp;omega⟩
  ·split
   ·exact⟨by simp[LS.asked];omega,by simp[LS.asked];omega,by simp[LS.asked];omega,by simp[LS.asked];omega⟩
   ·split
    ·exact⟨by simp[LS.asked];omega,by simp[LS.asked];omega,by simp[LS.asked];omega,by simp[LS.asked];omega⟩
    ·exact⟨a,b,eh,eh⟩
structure nF(w w':dY)(B:Nat)(X:Nat->Prop)(s':LS)(v:dZ)(ps:List PV)(out:List kP):Prop where
 more:∃v' qs,rK w' B X s' v' (ps++qs)/\qs.map PV.abs=out/\(∀g,v'.ownBlock=μ g->v.ownBlock=μ g \/w.heap.size<=g)
 kept:Kept w w' B v.ownBlock
theorem rK.lz {s:LS} {ps:List PV} (h:rK w B X s v ps)(j:Nat)(x:dZ)(s':LS)(hs:(s.c v).setIfInBounds j x=s'.c v):rK (w.setCell ⟨B,j,ν⟩ x) B X s' v ps:=by
 have Z:Kept w (w.setCell ⟨B,j,ν⟩ x) B v.ownBlock:=kO (Kept.refl w B _) j x;refine⟨?_,h.row.keep Z.size (λk U=> ?_),h.own,h.self,λk Y=>Nat.lt_of_lt_of_le (h.old k Y) Z.size,λp V=>(h.pk p V).kept h.self Z (λ_ e=>.inl e)⟩
 ·have:=h.lk.set j x;rw[hs]at this;exact this
 ·exact ak _ _ _ k (λe=>h.ne (by rw[U];exact congrArg μ e))
theorem O5(B:Nat)(X:Nat->Prop)(s:LS)(v:dZ)(ps:List PV)(code:Int)(a:Option dX)(n cap:Nat)(os:List jH)(w:dY)(h:rK w B X s v ps)(hb:Bd s 1000)(Y:vK w X v ⟨code,(s.ow+1) %256,a,n,cap,os⟩)(G:ps.length<=100):
 eZ e7 223 #[π (μ ⟨B,0,ν⟩),ι κ code,σ a n cap] w λe w'=>e=ρ (τ #[])/\nF w w' B X s.asked v ps [(code,(s.ow+1) %256,os)] :=by
 obtain⟨fs,fm,ns,nm,qs,qm,st,sz,lf,wt,ow⟩:=s;obtain⟨o1,o2,l1,l2⟩:=hb;simp only at o1 o2 l1 l2 Y;have c8:w.cell? ⟨B,8,ν⟩=μ (ι κ lf):=h.lk.cell 8;have c9:w.cell? ⟨B,9,ν⟩=μ (ι κ wt):=h.lk.cell 9;have TY:w.cell? ⟨B,10,ν⟩=μ (ι κ ow):=h.lk.cell 10;have fz:∀j,w.frozen? ⟨B,j,ν⟩=false:=h.lk.frozen;have hl:=h.lk.lt;have T:rK (((w.setCell ⟨B,10,ν⟩ (ι κ ((ow+1) %256))).setCell ⟨B,8,ν⟩ (ι κ (lf-1))).setCell ⟨B,9,ν⟩ (ι κ 3)) B X ⟨fs,fm,ns,nm,qs,qm,st,sz,lf-1,3,(ow+1) %256⟩ v ps:=
  ((h.lz 10 _ ⟨fs,fm,ns,nm,qs,qm,st,sz,lf,wt,(ow+1) %256⟩ rfl).lz 8 _ ⟨fs,fm,ns,nm,qs,qm,st,sz,lf-1,wt,(ow+1) %256⟩ rfl).lz 9 _ _ rfl
 have Z:Kept w (((w.setCell ⟨B,10,ν⟩ (ι κ ((ow+1) %256))).setCell ⟨B,8,ν⟩ (ι κ (lf-1))).setCell ⟨B,9,ν⟩ (ι κ 3)) B v.ownBlock:=kO (kO (kO (Kept.refl w B _) 10 _) 8 _) 9 _;have V:=Y.kept h.self Z (λ_ e=>.inl e);have U:=I3 B X _ v ps ⟨code,(ow+1) %256,a,n,cap,os⟩ _ T V G;clear h T Y V
 go_in
 go_wp2_with(fail);refine U.mono ?_;rintro e w1 ⟨rfl,v',M,S,hv⟩;clear U
 go_wp2
 first|go_end0|refine iM rfl rfl ?_
 refine⟨rfl,⟨v',[_],M,rfl,λg J=> ?_⟩,Z.trans S (λi e=>.inl e)⟩;rcases hv g J with e|e
 ·exact .inl e
 ·exact .inr (Nat.le_trans Z.size e)
theorem nF.from {s':LS} {ps:List PV} {out:List kP} (h:nF x w' B X s' v ps out)(Z:Kept w x B v.ownBlock):nF w w' B X s' v ps out:=by
 obtain⟨⟨v',qs,V,T,hv⟩,Y⟩:=h;refine⟨⟨v',qs,V,T,λg U=> ?_⟩,Z.trans Y (λi e=>.inl e)⟩;rcases hv g U with e|e
 ·exact .inl e
 ·exact .inr (Nat.le_trans Z.size e)
theorem nF.still {s':LS} {ps:List PV} (h:rK w' B X s' v ps)(Z:Kept w w' B v.ownBlock):nF w w' B X s' v ps [] :=
 ⟨⟨v,[],by rw[aB];exact h,rfl,λ_ e=>.inl e⟩,Z⟩
theorem qX(w:dY)(X:Nat->Prop)(v:dZ)(code id:Int):vK w X v ⟨code,id,ν,0,0,[]⟩:=
 ⟨jg.nil w ν,λ_=>rfl,Nat.le_refl _,Nat.zero_le _,λk Z=>by simp[uQ]at Z⟩
theorem I4 {w0:dY} {l:List jH} (code id:Int)(Z:Made w0 w u l)(hl:l.length<=1000)(U:∀k,X k->k<w0.heap.size)(hv:∀k,v.ownBlock=μ k->k<w0.heap.size):
 ∃a n cap,u=σ a n cap/\vK w X v ⟨code,id,a,n,cap,l⟩:=by
 obtain⟨a,cap,rfl,S,Y⟩:=Z.shape;refine⟨a,l.length,cap,rfl,Z.opts.2,S,Y,hl,λk T=> ?_⟩;have V:eu (σ a l.length cap)=μ k:=DQ T;have h1:=Z.new k V;exact⟨λe=>by have:=U k e;omega,λe=>by have:=hv k e;omega,Z.row.lt k V⟩
theorem G6(a b:Int):(oA a b).length<=1000:=by
 unfold oA;split<;>split<;>simp
theorem Dj(c:UInt8)(B:Nat)(X:Nat->Prop)(s:LS)(v:dZ)(ps:List PV)(p:PV)(w:dY)(h:rK w B X s v ps)(hb:Bd s 1000)(T:vK w X v p)(hn:ps.length<=100):
 eZ e7 208 #[π (μ ⟨B,0,ν⟩),.int .u8 (c.toNat:Int),.agg #[ι κ p.code,ι κ p.id,σ p.a p.n p.cap]] w λe w'=>e=ρ (τ #[])/\nF w w' B X (pY c s) v ps (Gl c s p.abs):=by
 have Z:=gY w (γ #[ι κ p.code,ι κ p.id,σ p.a p.n p.cap] 37);have hl:=h.lk.lt;have fz:∀j,w.frozen? ⟨B,j,ν⟩=false:=h.lk.frozen;have nb:∀k:UInt8,c≠k->((c.toNat:Int)==(k.toNat:Int))=false:=λk A=>by
  rw[cR];intro e;exact A (UInt8.toNat_inj.mp eh)
 by_cases c1:c=105
 ·subst c1;have M:Hid (rK (w.setCell ⟨B,8,ν⟩ (ι κ 4)) B X {s with lf:=4} v ps):=h.lz 8 _ _ rfl;have k1:Kept w (w.setCell ⟨B,8,ν⟩ (ι κ 4)) B v.ownBlock:=kO (Kept.refl w B _) 8 _;have d8:w.cell? ⟨B,8,ν⟩=μ (ι κ s.lf):=h.lk.cell 8;have V:((105:UInt8).toNat:Int)=105:=rfl;rw[V];clear h T hb nb Z
  go_in
  go_wp2
  first|go_end0|refine iM rfl rfl ?_
  exact⟨rfl,nF.still (M.out.below (gY _ _)) (k1.trans (Kept.iW B v.ownBlock (gY _ _)) (λi e=>.inl e))⟩
 ·by_cases c2:c=122
  ·subst c2;have M:Hid (rK ((w.setCell ⟨B,8,ν⟩ (ι κ 0)).setCell ⟨B,9,ν⟩ (ι κ 3)) B X {s with lf:=0,wt:=3} v ps):=(h.lz 8 _ {s with lf:=0} rfl).lz 9 _ _ rfl;have k1:Kept w ((w.setCell ⟨B,8,ν⟩ (ι κ 0)).setCell ⟨B,9,ν⟩ (ι κ 3)) B v.ownBlock:=kO (kO (Kept.refl w B _) 8 _) 9 _;have d8:w.cell? ⟨B,8,ν⟩=μ (ι κ s.lf):=h.lk.cell 8;have d9:w.cell? ⟨B,9,ν⟩=μ (ι κ s.wt):=h.lk.cell 9;have V:((122:UInt8).toNat:Int)=122:=rfl;rw[V];clear h T hb nb Z c1
   go_in
   go_wp2
   first|go_end0|refine iM rfl rfl ?_
   exact⟨rfl,nF.still (M.out.below (gY _ _)) (k1.trans (Kept.iW B v.ownBlock (gY _ _)) (λi e=>.inl e))⟩
  ·by_cases c3:c=114
   ·subst c3;have M:Hid (rK ((w.setCell ⟨B,4,ν⟩ (ι κ s.ns)).setCell ⟨B,5,ν⟩ (ι κ s.nm)) B X {s with qs:=s.ns,qm:=s.nm} v ps):=(h.lz 4 _ {s with qs:=s.ns} rfl).lz 5 _ _ rfl;have k1:Kept w ((w.setCell ⟨B,4,ν⟩ (ι κ s.ns)).setCell ⟨B,5,ν⟩ (ι κ s.nm)) B v.ownBlock:=kO (kO (Kept.refl w B _) 4 _) 5 _;have d2:w.cell? ⟨B,2,ν⟩=μ (ι κ s.ns):=h.lk.cell 2;have d3:w.cell? ⟨B,3,ν⟩=μ (ι κ s.nm):=h.lk.cell 3;have d4:w.cell? ⟨B,4,ν⟩=μ (ι κ s.qs):=h.lk.cell 4;have d5:w.cell? ⟨B,5,ν⟩=μ (ι κ s.qm):=h.lk.cell 5;have V:((114:UInt8).toNat:Int)=114:=rfl;have Ya:=h.row.lt;have Qw:=h.old;rw[V];clear h T nb Z c1 c2
    go_in
    go_wp2_with(fail);refine(Ko s.ns s.nm _).mono ?_;rintro e w1 ⟨u,rfl,hM⟩;have DV:w.heap.size<=(((w.setCell ⟨B,4,ν⟩ (ι κ s.ns)).setCell ⟨B,5,ν⟩ (ι κ s.nm)).alloc (γ #[ι κ p.code,ι κ p.id,σ p.a p.n p.cap] 37)).heap.size:=gZ;obtain⟨a',n',jv,rfl,hP⟩:=I4 (X:=X) (v:=v) 1 ((s.ow+1) %256) hM (G6 _ _) (λk A=>Nat.lt_of_lt_of_le (Qw k A) DV) (λk A=>Nat.lt_of_lt_of_le (Ya k A) DV);have R2:=(M.out.below (gY _ _)).below hM.below;have K2:=k1.trans (Kept.iW B v.ownBlock (gu (gY _ (γ #[ι κ p.code,ι κ p.id,σ p.a p.n p.cap] 37)) hM.below)) (λi e=>.inl e);have Y:=O5 B X {s with qs:=s.ns,qm:=s.nm} v ps 1 a' n' jv (oA s.ns s.nm) w1 R2 ⟨hb.o1,hb.o2,hb.l1,hb.l2⟩ hP hn;clear M d2 d3 d4 d5 fz hM R2 hP DV;go_wp2_with(fail);refine Y.mono ?_;rintro e w2 ⟨rfl,hW⟩;clear Y
    go_wp2
    first|go_end0|refine iM rfl rfl ?_
    exact⟨rfl,hW.from K2⟩
   ·by_cases c4:c=116
    ·subst c4;have U:=h.below Z;have Y:=O5 B X s v ps 5 ν 0 0 [] _ U hb (qX _ _ _ _ _) hn;have S:=Kept.iW B v.ownBlock Z;have V:((116:UInt8).toNat:Int)=116:=rfl;rw[V];clear h T nb Z c1 c2 c3 U
     go_in
     go_wp2_with(fail);refine Y.mono ?_;rintro e w2 ⟨rfl,hW⟩;clear Y
     go_wp2
     first|go_end0|refine iM rfl rfl ?_
     exact⟨rfl,hW.from S⟩
    ·by_cases J:c=107
     ·subst J;have U:=h.below Z;have Y:=I3 B X s v ps ⟨6,p.id,ν,0,0,[]⟩ _ U (qX _ _ _ _ _) hn;have S:=Kept.iW B v.ownBlock Z;have V:((107:UInt8).toNat:Int)=107:=rfl;have hz:∀w:dY,(zeroValue 37).run e7 w=.ok (.agg #[ι κ 0,ι κ 0,σ ν 0 0]) w:=λw=>gX;rw[V];clear h T nb Z c1 c2 c3 c4 U
      go_in
      go_wp2_with(fail);refine Y.mono ?_;rintro e w2 ⟨rfl,v',D,E,hv⟩;clear Y
      go_wp2
      first|go_end0|refine iM rfl rfl ?_
      exact⟨rfl,(show nF _ w2 B X s v ps [(6,p.id,[])]from⟨⟨v',[_],D,rfl,hv⟩,E⟩).from S⟩
     ·have U:=h.below Z;have y:=T.kept h.self (Kept.iW B v.ownBlock Z) (λ_ e=>.inl e);have Y:=I3 B X s v ps p _ U y hn;have S:=Kept.iW B v.ownBlock Z;by_cases G:c=97
      ·subst G;have V:((97:UInt8).toNat:Int)=97:=rfl;rw[V];clear h T nb Z c1 c2 c3 c4 J U y
       go_in
       go_wp2_with(fail);refine Y.mono ?_;rintro e w2 ⟨rfl,v',D,E,hv⟩;clear Y
       go_wp2
       first|go_end0|refine iM rfl rfl ?_
       exact⟨rfl,(show nF _ w2 B X s v ps [p.abs]from⟨⟨v',[_],D,rfl,hv⟩,E⟩).from S⟩
      ·by_cases c7:c=110
       ·subst c7;have V:((110:UInt8).toNat:Int)=110:=rfl;rw[V];clear h T nb Z c1 c2 c3 c4 J G U y
        go_in
        go_wp2_with(fail);refine Y.mono ?_;rintro e w2 ⟨rfl,v',D,E,hv⟩;clear Y
        go_wp2
        first|go_end0|refine iM rfl rfl ?_
        exact⟨rfl,(show nF _ w2 B X s v ps [p.abs]from⟨⟨v',[_],D,rfl,hv⟩,E⟩).from S⟩
       ·have hS:pY c s=s:=by simp[pY,c1,c2,c3,c4]
        have hO:Gl c s p.abs=[] :=by simp[Gl,c3,c4,J,G,c7]
        have q1:((c.toNat:Int)==105)=false:=nb 105 c1;have q2:((c.toNat:Int)==122)=false:=nb 122 c2;have q3:((c.toNat:Int)==114)=false:=nb 114 c3;have q4:((c.toNat:Int)==116)=false:=nb 116 c4;have q5:((c.toNat:Int)==107)=false:=nb 107 J;have q6:((c.toNat:Int)==97)=false:=nb 97 G;have q7:((c.toNat:Int)==110)=false:=nb 110 c7;rw[hS,hO];have HR:Hid _:=U;clear h T nb Z c1 c2 c3 c4 J G c7 U y Y hS hO
        go_in
        go_wp2
        first|go_end0|refine iM rfl rfl ?_
        exact⟨rfl,nF.still HR.out S⟩
theorem ME.set(h:ME w B s m)(s' m':Int):ME ((w.setCell ⟨B,0,ν⟩ (ι κ s')).setCell ⟨B,1,ν⟩ (ι κ m')) B s' m':=by
 refine⟨?_,?_,?_,?_⟩
 ·exact(aW _ ⟨B,1,ν⟩ ⟨B,0,ν⟩ _ gZ).trans (dB _ _ _ (by rw[h.c0];rfl))
 ·exact dB _ _ _ (by rw[aW _ ⟨B,0,ν⟩ ⟨B,1,ν⟩ _ gZ,h.c1];rfl)
 ·simp[h.f0]
 ·simp[h.f1]
theorem ME.other(h:ME w B s m)(Z:B'≠B)(x y:dZ):ME ((w.setCell ⟨B',0,ν⟩ x).setCell ⟨B',1,ν⟩ y) B s m:=by
 refine⟨?_,?_,?_,?_⟩
 ·rw[aM _ _ _ _ Z,aM _ _ _ _ Z];exact h.c0
 ·rw[aM _ _ _ _ Z,aM _ _ _ _ Z];exact h.c1
 ·simp[h.f0]
 ·simp[h.f1]
theorem T6(sz mg code:Int)(a:Option dX)(n cap:Nat)(os:List jH)(w:dY)(hn:n<=1000000)(y:jg w a n os):
 eZ e7 231 #[.agg #[ι κ sz,ι κ mg],ι κ code,σ a n cap] w λe w'=>
  e=ρ (.agg #[ι κ (pv code os (sz,mg)).1,ι κ (pv code os (sz,mg)).2])/\eE w w':=by
 have hz:=zm;have P0:ME ((w.alloc (γ #[ι κ sz,ι κ mg] 252)).alloc (γ #[ι κ 0,ι κ 0] 252)) w.heap.size sz mg:=by
  have hA:=λj=>aq w #[ι κ sz,ι κ mg] 252 (0,0) j;have hF:=λj=>cU w #[ι κ sz,ι κ mg] 252 0 0 j;exact ME.below ⟨hA 0,hA 1,by rw[hF];rfl,by rw[hF];rfl⟩ (gY _ _)
 have P1:ME ((w.alloc (γ #[ι κ sz,ι κ mg] 252)).alloc (γ #[ι κ 0,ι κ 0] 252)) (w.heap.size+1) 0 0:=by
  have hA:=λj=>aq (w.alloc (γ #[ι κ sz,ι κ mg] 252)) #[ι κ 0,ι κ 0] 252 (0,0) j;have hF:=λj=>cU (w.alloc (γ #[ι κ sz,ι κ mg] 252)) #[ι κ 0,ι κ 0] 252 0 0 j;have e:(w.alloc (γ #[ι κ sz,ι κ mg] 252)).heap.size=w.heap.size+1:=gZ;rw[e]at hA hF;exact⟨hA 0,hA 1,by rw[hF];rfl,by rw[hF];rfl⟩
 have qB:eE w ((w.alloc (γ #[ι κ sz,ι κ mg] 252)).alloc (γ #[ι κ 0,ι κ 0] 252)):=(gY _ _).alloc gZ _
 go_in
 go_wp2
 go_loopw [11] (λi wr=>∃(k:Nat) (s m:Int),k<=n/\i=ι κ k/\pv code os (sz,mg)=pv code (os.drop k) (s,m)/\ME wr w.heap.size s m/\ME wr (w.heap.size+1) 0 0/\eE w wr) (λi _=>n-(fa i).toNat)
 case atStart=>exact⟨0,sz,mg,Nat.zero_le _,rfl,rfl,P0,P1,qB⟩
 case round=>
  obtain⟨k,s,m,hk,rfl,Tw,hP,G,h⟩:=hrel;have D:Hid _:=Tw;clear Tw P0 P1;have S:=hP;have Q1:=G;obtain⟨c0,c1,f0,f1⟩:=hP;obtain⟨d0,d1,g0,g1⟩:=G;have vY:w.heap.size<wr.heap.size:=ag wr _ c0;have I1:w.heap.size+1<wr.heap.size:=ag wr _ d0;by_cases kD:k<n
  ·have Ax:=y.below h;rcases Ax.2 with h0|⟨b,off,rfl,hc⟩
   ·omega
   have qK:k<os.length:=by rw[y.1];exact kD
   obtain⟨e1,e2⟩:=hc k qK;have HD:Hid (os.drop k=os[k] ::os.drop (k+1)):=aS qK;generalize os[k] =o at e1 e2 HD;clear hc;have nS:(k:Int)<(n:Int):=eh;have U:pv code os (sz,mg)=pv code (os.drop (k+1)) (kc code (s,m) o):=by rw[D.out,HD.out];rfl
   have Y:=gY wr (γ #[ι κ o.1,ι κ o.2] 276);have kC:=gu h Y;cases q4:(code==4)
   ·cases q3:(code==3)
    ·have hv:kc code (s,m) o=(s,m):=by simp at q3 q4;simp[kc,q3,q4]
     rw[hv]at U;have V:Hid _:=U;clear U hv
     go_wp2
     go_roundw
     case rel=>exact⟨k+1,s,m,eh,by go_num,V.out,S.below Y,Q1.below Y,kC⟩
     case measure=>simp[fa];omega
    ·have T:code=3:=by simpa using q3
     have V:Hid (pv code os (sz,mg)=pv code (os.drop (k+1)) ((kc 3 (s,m) o).1,(kc 3 (s,m) o).2)):=by
      show _=_;rw[U,T]
     clear U T;go_wp2_with(fail);refine(TV s m o.1 o.2 _).mono ?_;rintro e w1 ⟨rfl,Z⟩;have mX:=gu kC Z;obtain⟨c0,c1,f0,f1⟩:=(S.below Y).below Z;obtain⟨d0,d1,g0,g1⟩:=(Q1.below Y).below Z;have vY:w.heap.size<w1.heap.size:=ag w1 _ c0;have A:=(((S.below Y).below Z).set (kc 3 (s,m) (o.1,o.2)).1 (kc 3 (s,m) (o.1,o.2)).2)
     have M:=(((Q1.below Y).below Z).other (B':=w.heap.size) eh (ι κ (kc 3 (s,m) (o.1,o.2)).1) (ι κ (kc 3 (s,m) (o.1,o.2)).2))
     have E:eE w ((w1.setCell ⟨w.heap.size,0,ν⟩ (ι κ (kc 3 (s,m) (o.1,o.2)).1)).setCell ⟨w.heap.size,1,ν⟩ (ι κ (kc 3 (s,m) (o.1,o.2)).2)):=(mX.setCell (Nat.le_refl _) _).setCell (Nat.le_refl _) _
     go_wp2
     go_roundw
     case rel=>exact⟨k+1,_,_,eh,by go_num,V.out,A,M,E⟩
     case measure=>simp[fa];omega
   ·have T:code=4:=by simpa using q4
    have J:kc 4 (s,m) o=kc 4 (s,m) (o.1,0):=by simp[kc]
    have V:Hid (pv code os (sz,mg)=pv code (os.drop (k+1)) ((kc 4 (s,m) (o.1,0)).1,(kc 4 (s,m) (o.1,0)).2)):=by
     show _=_;rw[U,T,J]
    clear U T J;go_wp2_with(fail);refine(Kp s m o.1 _).mono ?_;rintro e w1 ⟨rfl,Z⟩;have mX:=gu kC Z;obtain⟨c0,c1,f0,f1⟩:=(S.below Y).below Z;obtain⟨d0,d1,g0,g1⟩:=(Q1.below Y).below Z;have vY:w.heap.size<w1.heap.size:=ag w1 _ c0;have A:=(((S.below Y).below Z).set (kc 4 (s,m) (o.1,0)).1 (kc 4 (s,m) (o.1,0)).2)
    have M:=(((Q1.below Y).below Z).other (B':=w.heap.size) eh (ι κ (kc 4 (s,m) (o.1,0)).1) (ι κ (kc 4 (s,m) (o.1,0)).2))
    have E:eE w ((w1.setCell ⟨w.heap.size,0,ν⟩ (ι κ (kc 4 (s,m) (o.1,0)).1)).setCell ⟨w.heap.size,1,ν⟩ (ι κ (kc 4 (s,m) (o.1,0)).2)):=(mX.setCell (Nat.le_refl _) _).setCell (Nat.le_refl _) _
    go_wp2
    go_roundw
    case rel=>exact⟨k+1,_,_,eh,by go_num,V.out,A,M,E⟩
    case measure=>simp[fa];omega
  ·have G7:os.drop k=[] :=a8 (by rw[y.1];omega);have V:Hid (pv code os (sz,mg)=(s,m)):=by
    show _=_;rw[D.out,G7];rfl
   clear D G7;have E:eE w ((wr.setCell ⟨w.heap.size+1,0,ν⟩ (ι κ s)).setCell ⟨w.heap.size+1,1,ν⟩ (ι κ m)):=(h.setCell gZ _).setCell gZ _;have M:=Q1.set s m;go_wp2_with(fail);rw[V.out];obtain⟨r0,r1,_,_⟩:=M;refine aE (v:=.agg #[ι κ s,ι κ m]) (by simp[results,results231,go_sem,r0,r1]) rfl ?_;exact⟨rfl,E⟩
end Go.Proofs.YtieklnlbljejdaaGreatDoor
namespace Go.Proofs.YtieklnlbljejdaaGreatDoor.Plain
open Go.RowKit
theorem vZ(a b:Nat)(Z:a<65536)(hb:b<65536):bits .xor .i64 (a:Int) (b:Int)=((a^^^b:Nat):Int):=by
 have h:a^^^b<65536:=Nat.xor_lt_two_pow (n:=16) Z hb;have e:∀n:Nat,n<65536->(fc 64 (n:Int)).toNat=n:=by
  intro n hn;rw[BitVec.toNat_ofInt];simp;omega
 have Y:(fc 64 (a:Int) ^^^fc 64 (b:Int)).toNat=a^^^b:=by
  rw[BitVec.toNat_xor,e a Z,e b hb]
 show IntKind.i64.wrap ((fc 64 (a:Int) ^^^fc 64 (b:Int)).toNat:Int)=_;rw[Y,dD];omega
def turn(x:Nat):Nat:=if x%2=1 then x/2^^^33800 else x/2
def turns:Nat->Nat->Nat
 |0,x=>x
 |n+1,x=>turns n (turn x)
def I5(x:Nat)(c:UInt8):Nat:=turns 8 (x^^^c.toNat)
def reg(l:List UInt8):Nat:=l.foldl I5 65535
def sum(l:List UInt8):Nat:=reg l^^^65535
theorem I6(a b:Nat)(Z:a<65536)(hb:b<65536):a^^^b<65536:=Nat.xor_lt_two_pow (n:=16) Z hb
theorem T7(c:UInt8):c.toNat<65536:=by have:=c.toNat_lt;omega
theorem Yb(x:Nat)(h:x<65536):turn x<65536:=by
 unfold turn;split
 ·exact I6 _ _ eh eh
 ·omega
theorem DW:∀n x,x<65536->turns n x<65536
 |0,_,h=>h
 |n+1,x,h=>DW n _ (Yb x h)
theorem DX:∀n x,turns (n+1) x=turn (turns n x)
 |0,_=>rfl
 |n+1,x=>by rw[turns,DX n (turn x)];rfl
theorem QI(x:Nat)(c:UInt8)(h:x<65536):I5 x c<65536:=DW 8 _ (I6 _ _ h (T7 c))
theorem Kt:∀(l:List UInt8) x,x<65536->l.foldl I5 x<65536
 |[],_,h=>h
 |c::l,x,h=>Kt l _ (QI x c h)
theorem I7(l:List UInt8):reg l<65536:=Kt l _ eh
theorem MW(l:List UInt8):sum l<65536:=I6 _ _ (I7 l) eh
theorem T8(l:List UInt8)(c:UInt8):reg (l++ [c])=I5 (reg l) c:=by simp[reg]
end Go.Proofs.YtieklnlbljejdaaGreatDoor.Plain
namespace Go.Proofs.YtieklnlbljejdaaGreatDoor
open Go.RowKit Plain
theorem Yc {k:IntKind} {a b:Int} (h:a=b):Ending.returned (.int k a)=ρ (.int k b):=by rw[h]
theorem G8(s:ByteArray)(k:Nat)(h:k<s.size):s.data.toList.take (k+1)=s.data.toList.take k++ [s[k]] :=by
 rw[aA (by simpa using h)];rfl
theorem T9(x:Nat)(h:x<65536)(h1:(x:Int) %2=1):bits .xor .i64 ((x:Int)/2) 33800=(turn x:Int):=by
 have e:=vZ (x/2) 33800 eh eh;have:x%2=1:=eh;simp only[turn,this,if_true];rw[<-e];simp
theorem QJ(x:Nat)(h1:¬(x:Int) %2=1):(x:Int)/2=(turn x:Int):=by
 have:¬x%2=1:=eh;simp[turn,this]
theorem O6(s:ByteArray)(w:dY)(hs:s.size<=maxLen):
 eZ e7 210 #[.string s] w λe w'=>e=ρ (ι κ (Plain.sum s.data.toList:Nat))/\w=w':=by
 unfold maxLen at hs
 go_in
 go_wp2
 go_loop [3,8] (λx i=>∃k:Nat,k<=s.size/\i=ι κ k/\x=ι κ (reg (s.data.toList.take k):Nat)) (λ_ i=>s.size-(fa i).toNat)
 case atStart=>exact⟨0,Nat.zero_le _,rfl,rfl⟩
 case round=>
  obtain⟨k,hk,rfl,rfl⟩:=hrel;by_cases E:k<s.size
  ·have U:=G8 s k E;have V:Hid (reg (s.data.toList.take (k+1))=turns 8 (reg (s.data.toList.take k) ^^^s[k].toNat)):=by rw[U,T8];rfl
   have T:bits .xor .i64 (reg (s.data.toList.take k):Nat) (wrap64 (s[k].toNat:Nat))=((reg (s.data.toList.take k) ^^^s[k].toNat:Nat):Int):=by
    have hb:=s[k].toNat_lt;rw[cD _ ⟨eh,eh⟩];exact vZ _ _ (I7 _) (T7 _)
   have Z:reg (s.data.toList.take k) ^^^s[k].toNat<65536:=I6 _ _ (I7 _) (T7 _);clear U;generalize reg (s.data.toList.take k) ^^^s[k].toNat=X at T Z V
   go_wp2
   go_loop [3,17] (λx i=>∃j:Nat,j<=8/\i=ι κ j/\x=ι κ (turns j X:Nat)) (λ_ i=>8-(fa i).toNat)
   case atStart=>exact⟨0,Nat.zero_le _,rfl,rfl⟩
   case round=>
    obtain⟨j,hj,rfl,rfl⟩:=hrel;by_cases hj8:j<8
    ·have hl:=DW j X Z;have M:turns (j+1) X=turn (turns j X):=DX j X;have G:=T9 (turns j X) hl;have J:=QJ (turns j X);generalize turns j X=Y at*
     go_wp2
     all_goals
      go_round
      case rel=>exact⟨j+1,eh,by go_num,by rw[M];first|rw[G (by simp_all)] |rw[J (by simp_all)]⟩
      case measure=>simp[fa];omega
    ·have S:j=8:=eh;subst S
     go_wp2
     go_round
     case rel=>exact⟨k+1,eh,by go_num,by rw[V.out]⟩
     case measure=>simp[fa];omega
  ·go_wp2
   go_ret;have e:k=s.size:=eh;exact⟨Yc (by rw[aI (by simp;omega)];exact vZ _ 65535 (I7 _) eA),rfl⟩
end Go.Proofs.YtieklnlbljejdaaGreatDoor
namespace Go.Proofs.YtieklnlbljejdaaGreatDoor.Plain
open Go.RowKit
def rW(c:UInt8):Bool:=c==126||c==125||decide (c<32)
def CT(c:UInt8):List UInt8:=if rW c then [125,c^^^32]else [c]
def sH(l:List UInt8):List UInt8:=l.flatMap CT
def Ku(l:List UInt8):UInt8:=UInt8.ofNat (sum l%256)
def Kv(l:List UInt8):UInt8:=UInt8.ofNat (sum l/256)
def l7(l:List UInt8):List UInt8:=l++ [Ku l,Kv l]
def lS(l:List UInt8):List UInt8:=126::(sH (l7 l)++ [126])
theorem G9(l:List UInt8):((Ku l).toNat:Int)=((sum l:Nat):Int) %256:=by
 have:=MW l;unfold Ku;rw[UInt8.toNat_ofNat_of_lt' (by show sum l%256<256;omega)];omega
theorem Ha(l:List UInt8):((Kv l).toNat:Int)=((sum l:Nat):Int)/256:=by
 have:=MW l;unfold Kv;rw[UInt8.toNat_ofNat_of_lt' (by show sum l/256<256;omega)];omega
theorem QK(l:List UInt8)(c:UInt8):sH (l++ [c])=sH l++CT c:=by simp[sH]
theorem Yd(c:UInt8):(CT c).length<=2:=by unfold CT;split<;>simp
theorem Dk:∀l:List UInt8,(sH l).length<=2*l.length
 |[] =>by simp[sH]
 |c::l=>by
  have:=Dk l;have h:=Yd c;simp only[sH,eQ,eR,eT]at this⊢;omega
theorem oC(l:List UInt8):(l7 l).length=l.length+2:=by simp[l7]
theorem QL(c:UInt8):rW c=true↔(c.toNat:Int)=126 \/(c.toNat:Int)=125 \/(c.toNat:Int)<32:=by
 unfold rW;simp only[Bool.or_eq_true,beq_iff_eq,decide_eq_true_eq,UInt8.lt_iff_toNat_lt];have Z:c=126↔(c.toNat:Int)=126:=by
  rw[<-UInt8.toNat_inj];show c.toNat=126↔_;omega
 have Y:c=125↔(c.toNat:Int)=125:=by
  rw[<-UInt8.toNat_inj];show c.toNat=125↔_;omega
 rw[Z,Y];show(_ \/_) \/c.toNat<32↔_;omega
theorem aai(c:UInt8):bits .xor .u8 (c.toNat:Int) 32=((c^^^32).toNat:Int):=by
 have:=c.toNat_lt;have e:=u8_xor_nat c.toNat 32 eh eh;rw[UInt8.toNat_xor];exact e
