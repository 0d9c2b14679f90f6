import Derived.Test.YtieklnlbljejdaaGreatDoorCA
open Go.Value renaming int → ι, slice → σ, pointer → π, tuple → τ, nilIface → η, ownBlock → eh, oneCell' → eA, string → eD
open Go.IntKind renaming i64 → κ
open Go.Ending renaming returned → ρ
open Go.Obj renaming cells → γ
open Option renaming none → ν, some → μ
open Go renaming Addr → dW, World → dX, Value → dY, TypeId → eu, DataW → eT, Calls → eX
open Go.RowKit renaming Below → eE, intOf → eZ
open Go.Oper renaming wp → eF
open Go.Result renaming andThen_ok → eG
open List renaming map_toArray → eH, map_cons → eI, map_nil → eM, flatMap_cons → eO, length_append → eP, length_cons → eQ, length_nil → eR, getElem?_map → eW
open Go.Region renaming wanted → eN
open Go.DataW renaming trod → eU
open Go.Lib renaming mapM_length → eV
open Go.Proofs.Tryz renaming prog → eY
open And renaming intro → e7
open BitVec renaming ofInt → fa
set_option maxRecDepth 100000
set_option maxHeartbeats 8000000
open Go.Proofs.Tryz
namespace Go.Proofs.YtieklnlbljejdaaGreatDoor
open Go.RowKit
variable {B B' b base cap cp fuel g g2 j k n off sz:Nat} {C:Array Value} {H:Type} {P:Program} {Q:Exit->Act->World->Prop} {X:Nat->Prop} {a w w' w2 wr x:World} {ao:Option Addr} {cs xs:List Value} {e r t:TypeId} {held:Bool} {m s:Int} {o:Obj} {ops:Array Oper} {p:List MemPlace} {row:Option Nat} {sp:Nat->Bool} {u v:Value} {zs:List (List (List UInt8))}
theorem add_plain(g j:Nat):(⟨g,0,ν⟩:dW).add j=⟨g,j,ν⟩:=by unfold Addr.add;split<;>simp_all
theorem ng(g o j:Nat):(⟨g,o,ν⟩:dW).add j=⟨g,o+j,ν⟩:=by unfold Addr.add;split<;>simp_all
def Row(w:dX)(sz:Nat)(v:dY)(n:Nat)(xs:List dY):Prop:=
 xs.length=n*sz/\
 ((v=σ ν 0 0/\n=0) \/
  ∃g cap,v=σ (μ ⟨g,0,ν⟩) n cap/\g<w.heap.size/\n<=cap/\cap<=maxLen/\(∀j u,xs[j]? =μ u->w.cell? ⟨g,j,ν⟩=μ u)/\
   ∀j,j<cap*sz->(w.cell? ⟨g,j,ν⟩).isSome=true/\w.frozen? ⟨g,j,ν⟩=false)
theorem Row.nil(w:dX)(sz:Nat):Row w sz (σ ν 0 0) 0 [] :=⟨gU,.inl ⟨rfl,rfl⟩⟩
theorem Row.lt(h:Row w sz v n xs):∀k,v.ownBlock=μ k->k<w.heap.size:=by
 intro k Z;rcases h.2 with⟨rfl,_⟩|⟨g,cap,rfl,Y,_⟩
 {simp[eh]at Z};{simp[eh]at Z;subst Z;exact Y}
theorem Row.keep(h:Row w sz v n xs)(hs:w.heap.size<=w'.heap.size)(hb:∀k,v.ownBlock=μ k->w'.heap[k]? =w.heap[k]?):Row w' sz v n xs:=by
 refine⟨h.1,?_⟩;rcases h.2 with J|⟨g,cap,rfl,hg,V,U,T,S⟩
 {exact .inl J};{have e:=hb g rfl;have Z:∀j,w'.cell? ⟨g,j,ν⟩=w.cell? ⟨g,j,ν⟩:=λj=>aj (a:=⟨g,j,ν⟩) e;have Y:∀j,w'.frozen? ⟨g,j,ν⟩=w.frozen? ⟨g,j,ν⟩:=λj=>aL (a:=⟨g,j,ν⟩) e;exact .inr ⟨g,cap,rfl,dZ,V,U,λj u G=>by rw[Z];exact T j u G,λj M=>by rw[Z,Y];exact S j M⟩}
theorem Row.kept(h:Row w sz v n xs)(Z:w.grownBy w' row)(V:∀k,v.ownBlock=μ k->row≠μ k):Row w' sz v n xs:=
 h.keep Z.size λk Y=>Z.block k (h.lt k Y) (λe=>V k Y e.symm)
theorem Row.alloc {w:dX} {sz:Nat} {v:dY} {n:Nat} {xs:List dY} (h:Row w sz v n xs)(o:Obj):Row (w.alloc o) sz v n xs:=
 h.keep gU λk Z=>aU w o k (h.lt k Z)
theorem Row.drew {w:dX} {sz:Nat} {v:dY} {n:Nat} {xs:List dY} (h:Row w sz v n xs):Row w.drew sz v n xs:=
 h.keep (Nat.le_refl _) λ_ _=>rfl
theorem Row.below(h:Row w sz v n xs)(hb:eB w w'):Row w' sz v n xs:=
 h.keep hb.size λk Z=>hb.block k (h.lt k Z)
theorem Row.OV(h:w.ownsRow base e sz v n xs):Row w sz v n xs:=by
 refine⟨h.1,?_⟩;rcases h.2 with T|⟨g,cap,Z,rfl,hb,Y,V,U,h3,h4⟩
 ·exact .inl T
 ·refine .inr ⟨g,cap,rfl,(ax.1 Y).1,V,U,λj u S=> ?_,λj hj=>⟨?_,?_⟩⟩
  ·have:=h.cells (g:=g) rfl j u S
   rwa [add_plain]at this
  {rw[aw w g j Z e (0,0) Y];simp;omega};{exact bD w g j Z e Y}
theorem Row.made(w:dX)(sz:Nat)(e:eu)(C:Array dY)(fr:Nat×Nat)(n cap:Nat)(xs:List dY)(hx:xs.length=n*sz)(hc:C.size=cap*sz)(U:n<=cap)(V:cap<=maxLen)(Y:fr=(0,0) \/C.size<=fr.1)
 (T:∀(j:Nat) (u:dY),xs[j]? =μ u->C[j]? =μ u):Row (w.alloc (γ C e fr)) sz (σ (μ ⟨w.heap.size,0,ν⟩) n cap) n xs:=by
 refine⟨hx,.inr ⟨w.heap.size,cap,rfl,gU,U,V,λj u S=> ?_,λj hj=>⟨?_,?_⟩⟩⟩;{rw[aq];exact T j u S};{rw[aq];simp;omega}
 ·obtain⟨lo,hi⟩:=fr;rw[cW];rcases Y with Z|Z
  {simp only[Prod.mk.injEq]at Z;obtain⟨rfl,rfl⟩:=Z;simp};{simp only at Z;have:¬lo<=j:=dZ;simp[this]}
theorem Row.cell {w:dX} {sz:Nat} {g n n' cap:Nat} {xs:List dY} (h:Row w sz (σ (μ ⟨g,0,ν⟩) n' cap) n xs)(j:Nat)(u:dY)(Z:xs[j]? =μ u):w.cell? ⟨g,j,ν⟩=μ u:=by
 rcases h.2 with⟨e,_⟩|⟨g',jn,e,_,_,_,hc,_⟩
 {simp at e};{simp at e;obtain⟨rfl,rfl,rfl⟩:=e;exact hc j u Z}
theorem qF(w:dX)(x:dY)(t:eu):∀(j:Nat) (u:dY),[x][j]? =μ u->(w.alloc (γ #[x] t)).cell? ((⟨w.heap.size,0,ν⟩:dW).add j)=μ u:=by
 intro j u Z;rw[add_plain,aq];simpa using Z
theorem pI(w:dX)(x y:dY)(t:eu):∀(j:Nat) (u:dY),[x,y][j]? =μ u->(w.alloc (γ #[x,y] t)).cell? ((⟨w.heap.size,0,ν⟩:dW).add j)=μ u:=by
 intro j u Z;rw[add_plain,aq];simpa using Z
theorem xd(k:IntKind)(x:Int):∀u∈ [ι k x],u.oneCell'=true:=by simp[eA]
theorem lL(k l:IntKind)(x y:Int):∀u∈ [ι k x,ι l y],u.oneCell'=true:=by simp[eA]
theorem MO(s:ByteArray):∀u∈ [eD s],u.oneCell'=true:=by simp[eA]
theorem vM {g1 n':Nat} (T:(wr.alloc o).grownBy w2 (μ g))(U:μ g=μ g2 \/wr.heap.size+1<=g2)
 (Y:Row wr sz (σ (μ ⟨g1,0,ν⟩) n' cap) n xs) (Kh:w.heap.size<=g) (jt:g≠g1) (V:eB w wr):
 Row w2 sz (σ (μ ⟨g1,0,ν⟩) n' cap) n xs/\w.heap.size<=g2/\g2≠g1/\eB w w2:=by
 have h1:g1<wr.heap.size:=Y.lt g1 rfl;have S:=V.size;have hs:(wr.alloc o).heap.size=wr.heap.size+1:=gU;refine⟨(Y.alloc o).kept T (λk Z=> ?_),?_,?_,?_⟩
 ·have:g1=k:=by simpa[eh]using Z
  intro e;simp at e;omega
 ·rcases U with h|h
  {simp at h;omega};{omega}
 ·rcases U with h|h
  {simp at h;omega};{omega}
 ·refine(V.alloc S o).grown T dZ (λk Z=> ?_);simp at Z;omega
theorem GU(T:(wr.alloc o).grownBy w2 (μ g))(U:μ g=μ g2 \/wr.heap.size+1<=g2)
 (Kh:w.heap.size<=g) (Z:eB w wr):w.heap.size<=g2/\eB w w2:=by
 have V:=Z.size;have hs:(wr.alloc o).heap.size=wr.heap.size+1:=gU;refine⟨?_,?_⟩
 ·rcases U with h|h
  {simp at h;omega};{omega}
 ·refine(Z.alloc V o).grown T dZ (λk Y=> ?_);simp at Y;omega
section
variable {P:Program}
theorem su(w:dX)(t ty e:eu)(i:TypeInfo)(z:dY)(size bytes:Nat)(ht:P.underlying t=μ (.slice e))(hi:P.info? e=μ i)(hz:i.zero=μ z)
 (rR:i.size=size) (vN:i.bytes=bytes) (MP:z.cells.size=size) (rS:0<size)
 (v:dY) (n:Nat) (xs:List dY) (U:Row w size v n xs)
 (a:dW) (m c:Nat) (news:List dY) (hl:news.length=m*size) (hm:0<m) (y:∀j u,news[j]? =μ u->w.cell? (a.add j)=μ u) (h1:∀u∈news,u.oneCell'=true)
 (S:n+m<=maxLen) (vO:(n+m)*bytes<=140737488355328):
 ∃v' w',(Builtin.append_ #[t,t] ty #[v,σ (μ a) m c]).run P w=.ok v' w'/\Row w' size v' (n+m) (xs++news)/\w.grownBy w' v.ownBlock/\
  (v'.ownBlock=v.ownBlock \/ ∃k,v'.ownBlock=μ k/\w.heap.size<=k):=by
 rcases U.2 with⟨rfl,rfl⟩|⟨g,cap,rfl,hg,tY,Gd,hcell,A⟩
 ·have hx:xs=[] :=aH (by simpa using U.1);subst hx;obtain⟨v',w',J,M,hg,ki⟩:=run_append_own (P:=P) w w.heap.size t ty e i z size bytes ht hi hz rR vN MP rS (σ ν 0 0) 0 [] (World.ownsRow_nil _ _ _ _) a m c news hl y h1 S vO (Nat.le_refl _);refine⟨v',w',J,Row.OV M,hg,?_⟩;rcases M.2 with⟨T,e2⟩|⟨g,cap,h,rfl,hb,_⟩
  {omega};{exact .inr ⟨g,rfl,hb⟩}
 ·by_cases J:n+m<=cap
  ·subst rR;have XW:n*i.size+news.length<=cap*i.size:=by rw[hl,<-Nat.add_mul];exact Nat.mul_le_mul_right _ J
   have D:∀j,j<news.length->(w.cell? ⟨g,0+n*i.size+j,ν⟩).isSome=true/\w.frozen? ⟨g,0+n*i.size+j,ν⟩=false:=λj Z=>A _ dZ;have V:=run_append_room_cells (P:=P) w t ty e i ht hi g 0 n cap a m c news hl y h1 J (λj Z=>(D j Z).1) (λj Z=>(D j Z).2);have ox:∀(vs:List dY) (o:Nat) (w:dX),(w.setCells g o vs).heap.size=w.heap.size/\(w.setCells g o vs).os=w.os/\(w.setCells g o vs).tape=w.tape/\(w.setCells g o vs).output=w.output/\∀k,k≠g->(w.setCells g o vs).heap[k]? =w.heap[k]? :=by
    intro vs
    induction vs with
    |nil=>intro o w;exact⟨rfl,rfl,rfl,rfl,λ_ _=>rfl⟩
    |cons u r ih=>
     intro o w;have:=ih (o+1) (w.setCell ⟨g,o,ν⟩ u);have b1:eE 0 w (w.setCell ⟨g,o,ν⟩ u):=(au 0 w).setCell (Nat.zero_le _) _;refine⟨this.1.trans gU,this.2.1.trans b1.os,this.2.2.1.trans b1.tape,this.2.2.2.1.trans b1.output,λk Y=>(this.2.2.2.2 k Y).trans (ak _ _ _ k Y)⟩
   have B:=ox news (0+n*i.size) w;refine⟨_,_,V,⟨by rw[az,U.1,hl,Nat.add_mul],.inr ⟨g,cap,rfl,by rw[B.1];exact hg,J,Gd,λj u G=> ?_,λj Z=> ?_⟩⟩,⟨B.2.1,B.2.2.1,B.2.2.2.1,by rw[B.1];exact Nat.le_refl _,λk _ Y=>B.2.2.2.2 k (λe=>Y (by simp[eh,e]))⟩,.inl rfl⟩
   ·rcases Nat.lt_or_ge j xs.length with Z|Z
    ·rw[bz Z]at G;rw[bB g _ _ _ _ (λ_ _=>.inl (by show j<0+n*i.size;have:=U.1;omega))];exact hcell j u G
    ·rw[br Z]at G;have OW:j-xs.length<news.length:=(aK.1 G).1;have:=bJ g news (0+n*i.size) w (λk Y=>(D k Y).1) (j-xs.length) OW;have T:0+n*i.size+(j-xs.length)=j:=by have:=U.1;omega
     rw[T]at this;rw[this,<-G,ay OW]
   ·rw[bZ];refine⟨?_,(A j Z).2⟩;by_cases hq:n*i.size<=j/\j<n*i.size+news.length;{have:=bJ g news (0+n*i.size) w (λk Y=>(D k Y).1) (j-n*i.size) dZ;have T:0+n*i.size+(j-n*i.size)=j:=dZ;rw[T]at this;rw[this];rfl};{rw[bB g _ _ _ _ (λ_ _=>by show j<0+n*i.size \/0+n*i.size+news.length<=j;omega)];exact(A j Z).1}
  ·obtain⟨v',w',V,M,E⟩:=run_append_arg_grows (P:=P) w t ty e i z size bytes ht hi hz rR vN MP rS ⟨g,0,ν⟩ n cap xs U.1 (λj u Z=>by rw[add_plain];exact hcell j u Z) a m c news hl y dZ S vO;refine⟨v',w',V,Row.OV M,⟨E.os,E.tape,E.output,E.size,λk Y _=>E.block k Y gU⟩,?_⟩;rcases M.2 with⟨T,e2⟩|⟨g',jn,h,rfl,hb,_⟩
   {omega};{exact .inr ⟨g',rfl,hb⟩}
theorem iG(w:dX) {rest:List Oper} {o:Oper} {a:Act} (J:o.guard=ν)(s x:Operand)(t:eu)
 (ho:o.op=.call {callee:=.builtin .append,args:= #[s,x],argTypes:= #[t,t] })
 (e:eu) (i:TypeInfo) (z:dY) (size bytes:Nat) (ht:P.underlying t=μ (.slice e)) (hi:P.info? e=μ i) (hz:i.zero=μ z)
 (rR:i.size=size) (vN:i.bytes=bytes) (G:z.cells.size=size) (rS:0<size)
 (v:dY) (n:Nat) (xs:List dY) (hs:a.eval s=v) (jm:Row w size v n xs)
 (U:dW) (m c:Nat) (news:List dY) (hx:a.eval x=σ (μ U) m c) (hl:news.length=m*size) (hm:0<m) (M:∀j u,news[j]? =μ u->w.cell? (U.add j)=μ u) (E:∀u∈news,u.oneCell'=true)
 (T:n+m<=maxLen) (vO:(n+m)*bytes<=140737488355328)
 (h:∀Z V w',Row w' size (σ (μ ⟨Z,0,ν⟩) (n+m) V) (n+m) (xs++news)->w.grownBy w' v.ownBlock->(v.ownBlock=μ Z \/w.heap.size<=Z)->wpList P ops Q rest (a.put o.dst (σ (μ ⟨Z,0,ν⟩) (n+m) V)) w'):wpList P ops Q (o::rest) a w:=by
 refine wpList_plain J λK A=> ?_;obtain⟨v',w',hr,S,D,Y⟩:=su (P:=P) w t o.type e i z size bytes ht hi hz rR vN G rS v n xs jm U m c news hl hm M E T vO;unfold eF execOp;simp only[ho,resolve,invoke,builtin,Sem.run_bind,Sem.run_pure,eG,eH,eI,eM,hs,hx,hr];rcases S.2 with⟨_,hn⟩|⟨Z,V,rfl,_⟩
 ·omega
 ·refine A _ _ (h Z V w' S D ?_);rcases Y with Y|⟨k,Y,y⟩
  {exact .inl Y.symm};{simp[eh]at Y;subst Y;exact .inr y}
def iP(l:List UInt8):List dY:=l.map λb=>ι .u8 (b.toNat:Int)
theorem qR(l:List UInt8):(iP l).length=l.length:=by simp[iP]
theorem lI(a b:List UInt8):iP (a++b)=iP a++iP b:=by simp[iP]
theorem yj(l:List UInt8)(j:Nat)(h:j<l.length):(iP l)[j]? =μ (.int .u8 (l[j].toNat:Int)):=by simp[iP,h]
theorem Ge(w:dX)(src dst e:eu)(s:ByteArray)(hs:P.underlying src=μ .string)(hd:P.underlying dst=μ (.slice e))(V:P.underlying e=μ (.int .u8))(U:s.size<=maxLen):
 ∃cap C fr,(convert src dst (.string s)).run P w=.ok (σ (μ ⟨w.heap.size,0,ν⟩) s.size cap) (w.drew.alloc (γ C e fr))/\Row (w.alloc (γ C e fr)) 1 (σ (μ ⟨w.heap.size,0,ν⟩) s.size cap) s.size (iP s.data.toList):=by
 refine⟨_,_,_,run_bytes_of_string w src dst e s hs hd V,?_⟩;have T:=grownCap_ge w s.size 0 e;refine Row.made w 1 e _ _ _ _ _ (by simp[iP]) ?_ T (dq w _ _ _ U) (.inr (Nat.le_refl _)) ?_;{simp[bytesRow];omega}
 ·intro j u Z;have Y:j<s.data.size:=by
   have:=(aK.1 Z).1;simpa[iP]using this
  rw[bytesRow_at s _ j Y];rw[yj _ j (by simpa using Y)]at Z;simpa using Z
theorem Row.back {l:List UInt8} (h:Row w 1 v n (iP l))(src dst e:eu)(hs:P.underlying src=μ (.slice e))(Z:P.underlying e=μ (.int .u8))(hd:P.underlying dst=μ .string):
 (convert src dst v).run P w=.ok (.string ⟨l.toArray⟩) w:=by
 have Y:l.length=n:=by have:=h.1;simpa[iP]using this
 rcases h.2 with⟨rfl,rfl⟩|⟨g,cap,rfl,hg,tY,Gd,hcell,CI⟩
 {have:l=[] :=aH Y;subst this;rw[run_convert_bytes_string w src dst e _ _ _ hs Z hd];simp[Conv.bytesToString];rfl};{subst Y;exact dK w src dst e ⟨g,0,ν⟩ cap l hs Z hd λj V=>by rw[add_plain];exact hcell j _ (yj l j V)}
end
theorem gh {b:dX} (h:eB w a)(k:eB a b):eB w b:=h.trans (k.mono h.size)
theorem below_drewN(h:eE B w a)(n:Nat):eE B w (a.drewN n):=⟨h.os,h.tape,h.output,h.size,h.block⟩
theorem gT(w:dX)(o:Obj):eB w (w.alloc o):=(au _ _).alloc (Nat.le_refl _) _
theorem tj {c:dX} (h:eB w a)(Z:a.grownBy c (μ b))(hb:w.heap.size<=b):eB w c:=
 h.grown Z h.size (λk Y=>by simp at Y;omega)
def ji(k:Nat):dY:=if k=0 then η else .iface 128 (ι κ (k:Int))
abbrev jJ:=Int×Int
def jc(w:dX)(a:Option dW)(n:Nat)(os:List jJ):Prop:=
 os.length=n/\(n=0 \/ ∃b off,a=μ ⟨b,off,ν⟩/\∀j (h:j<os.length),w.cell? ⟨b,off+j*2,ν⟩=μ (ι κ os[j].1)/\w.cell? ⟨b,off+j*2+1,ν⟩=μ (ι κ os[j].2))
theorem jc.below {a:Option dW} {os:List jJ} (h:jc w a n os)(hb:eB w w'):jc w' a n os:=by
 refine⟨h.1,?_⟩;rcases h.2 with Z|⟨b,off,rfl,Z⟩
 {exact .inl Z};{refine .inr ⟨b,off,rfl,λj Y=> ?_⟩;obtain⟨c1,c2⟩:=Z j Y;exact⟨(hb.cell (ag w _ c1)).trans c1,(hb.cell (ag w _ c2)).trans c2⟩}
theorem jc.drewN {w:dX} {a:Option dW} {n:Nat} {os:List jJ} (h:jc w a n os)(m:Nat):jc (w.drewN m) a n os:=h
theorem jc.nil(w:dX)(a:Option dW):jc w a 0 [] :=⟨rfl,.inl rfl⟩
theorem jc.take {w:dX} {a:Option dW} {n:Nat} {os:List jJ} (h:jc w a n os)(k:Nat)(hk:k<=n):jc w a k (os.take k):=by
 refine⟨by simp[h.1];omega,?_⟩;rcases h.2 with Z|⟨b,off,rfl,Z⟩
 ·exact .inl dZ
 ·refine .inr ⟨b,off,rfl,λj V=> ?_⟩;have Y:j<os.length:=by simp at V;omega
  have:=Z j Y;simpa using this
theorem lV {o:Oper} {a:Act} {K:Act->dX->Prop} {E:Prop}
 (J:o.guard=ν) (s x:Operand) (t:eu) (ho:o.op=.call {callee:=.builtin .append,args:= #[s,x],argTypes:= #[t,t] })
 (e:eu) (i:TypeInfo) (z:dY) (size bytes:Nat) (ht:P.underlying t=μ (.slice e)) (hi:P.info? e=μ i) (hz:i.zero=μ z)
 (rR:i.size=size) (vN:i.bytes=bytes) (G:z.cells.size=size) (rS:0<size)
 (v:dY) (n:Nat) (xs:List dY) (hs:a.eval s=v) (jm:Row w size v n xs)
 (U:dW) (m c:Nat) (news:List dY) (hx:a.eval x=σ (μ U) m c) (hl:news.length=m*size) (hm:0<m) (M:∀j u,news[j]? =μ u->w.cell? (U.add j)=μ u) (D:∀u∈news,u.oneCell'=true)
 (T:n+m<=maxLen) (vO:(n+m)*bytes<=140737488355328)
 (h:∀Z V w',Row w' size (σ (μ ⟨Z,0,ν⟩) (n+m) V) (n+m) (xs++news)->w.grownBy w' v.ownBlock->(v.ownBlock=μ Z \/w.heap.size<=Z)->K (a.put o.dst (σ (μ ⟨Z,0,ν⟩) (n+m) V)) w'):
 if eN o (yielded ops a.tmps)=true then eF P o a w K Q else E:=by
 have hw:eN o (yielded ops a.tmps)=true:=by simp[eN,J]
 rw[ai hw];obtain⟨v',w',hr,S,A,Y⟩:=su (P:=P) w t o.type e i z size bytes ht hi hz rR vN G rS v n xs jm U m c news hl hm M D T vO;unfold eF execOp;simp only[ho,resolve,invoke,builtin,Sem.run_bind,Sem.run_pure,eG,eH,eI,eM,hs,hx,hr];rcases S.2 with⟨_,hn⟩|⟨Z,V,rfl,_⟩
 ·omega
 ·refine h Z V w' S A ?_;rcases Y with Y|⟨k,Y,y⟩
  {exact .inl Y.symm};{simp[eh]at Y;subst Y;exact .inr y}
def iR(os:List jJ):List dY:=os.flatMap λo=>[ι κ o.1,ι κ o.2]
theorem mb(os:List jJ)(o:jJ):iR (os++ [o])=iR os++ [ι κ o.1,ι κ o.2] :=by simp[iR]
theorem ld(os:List jJ):(iR os).length=2*os.length:=by
 induction os with
 |nil=>rfl
 |cons o r ih=>simp only[iR,eO,eP,eQ,eR]at ih⊢;omega
theorem uG:∀(os:List jJ) (j:Nat) (h:j<os.length),(iR os)[j*2]? =μ (ι κ os[j].1)/\(iR os)[j*2+1]? =μ (ι κ os[j].2)
 |o::r,0,_=>by simp[iR]
 |o::r,j+1,h=>by
  have ih:=uG r j (by simpa using h);have Z:iR (o::r)=ι κ o.1::ι κ o.2::iR r:=by simp[iR]
  rw[Z,show(j+1)*2=j*2+1+1 by omega];exact ih
theorem Row.opts {os:List jJ} (h:Row w 2 (σ ao k cp) k (iR os)):jc w ao k os:=by
 have hl:os.length=k:=by have:=h.1;rw[ld]at this;omega
 refine⟨hl,?_⟩;rcases h.2 with⟨_,S⟩|⟨g,cap,Z,_,_,_,hc,_⟩
 ·exact .inl S
 ·have Y:ao=μ ⟨g,0,ν⟩:=by simp at Z;exact Z.1
  refine .inr ⟨g,0,Y,λj T=> ?_⟩;obtain⟨V,U⟩:=uG os j T;rw[Nat.zero_add];exact⟨hc _ _ V,hc _ _ U⟩
theorem Row.TG(h:Row w sz (σ ao k cp) k xs):k<=cp:=by
 rcases h.2 with⟨Z,hn⟩|⟨g,cap,Z,_,tY,_⟩
 {omega};{simp at Z;omega}
theorem lW(Z:eB w x)(Y:x.grownBy w' v.ownBlock)(V:∀j,v.ownBlock=μ j->w.heap.size<=j):eB w w':=
 Z.grown Y Z.size V
theorem nU(Y:v.ownBlock=μ g \/n<=g)(hs:B<=n)(Z:∀j,v.ownBlock=μ j->B<=j):B<=g:=by
 rcases Y with h|h
 {exact Z g h};{exact Nat.le_trans hs h}
theorem sv(Z:x.grownBy w' row)(Y:row≠μ b)(hc:x.cell? ⟨b,off,ν⟩=μ u):w'.cell? ⟨b,off,ν⟩=μ u:=
 (aj (a:=⟨b,off,ν⟩) (Z.block b (ag x _ hc) (λe=>Y e.symm))).trans hc
theorem kF(h:B<=g)(Z:eh (σ (μ ⟨g,0,ν⟩) n cap)=μ j):B<=j:=by
 have:g=j:=by simpa[eh]using Z
 omega
theorem mY(Z:eh (σ ν 0 0)=μ j):B<=j:=by simp[eh]at Z
theorem nh(w:dX)(x y:dY)(t:eu)(g:Nat)(Z:w.heap.size=g):∀(j:Nat) (u:dY),[x,y][j]? =μ u->(w.alloc (γ #[x,y] t)).cell? ((⟨g,0,ν⟩:dW).add j)=μ u:=by
 subst Z;exact pI w x y t
structure Made(w w':dX)(v:dY)(os:List jJ):Prop where
 row:Row w' 2 v os.length (iR os)
 new:∀j,v.ownBlock=μ j->w.heap.size<=j
 below:eB w w'
theorem Kk(os:List jJ):∀u∈iR os,u.oneCell'=true:=by
 intro u Z;simp[iR]at Z;obtain⟨x,y,_,h⟩:=Z;rcases h with rfl|rfl<;>rfl
theorem jc.cells {os:List jJ} (h:jc w (μ ⟨b,off,ν⟩) n os)(hn:0<n):∀(j:Nat) (u:dY),(iR os)[j]? =μ u->w.cell? ((⟨b,off,ν⟩:dW).add j)=μ u:=by
 intro j u Z;rcases h.2 with h0|⟨b',ajF,Y,hc⟩
 ·omega
 ·simp only[Option.some.injEq,Addr.mk.injEq]at Y;obtain⟨rfl,rfl,_⟩:=Y;have hj:j<2*os.length:=by have:=(aK.1 Z).1;rwa [ld]at this
  have V:j/2<os.length:=dZ;obtain⟨g1,g2⟩:=uG os (j/2) V;obtain⟨c1,c2⟩:=hc (j/2) V;rw[ng];rcases Nat.mod_two_eq_zero_or_one j with U|U
  {have e:j/2*2=j:=dZ;rw[e]at g1 c1;rw[Z]at g1;rw[c1,g1]};{have e:j/2*2+1=j:=dZ;rw[e]at g2;rw[Z]at g2;rw[show off+j/2*2+1=off+j by omega]at c2;rw[c2,g2]}
def kJ(a:Option dW)(cap:Nat):Prop:=a=ν->cap=0
theorem Made.shape {os:List jJ} (h:Made w w' v os):∃a cap,v=σ a os.length cap/\kJ a cap/\os.length<=cap:=by
 rcases h.row.2 with⟨rfl,Z⟩|⟨g,cap,rfl,_,Y,_⟩
 {rw[Z];exact⟨ν,0,rfl,λ_=>rfl,Nat.le_refl _⟩};{exact⟨μ ⟨g,0,ν⟩,cap,rfl,λh=>by simp at h,Y⟩}
theorem Made.opts {w w':dX} {a:Option dW} {n cap:Nat} {os:List jJ} (h:Made w w' (σ a n cap) os):n=os.length/\jc w' a n os:=by
 have Z:n=os.length:=by
  rcases h.row.2 with⟨e,h0⟩|⟨g,cap,e,_⟩
  {simp at e;omega};{simp at e;omega}
 have Y:=h.row;rw[<-Z]at Y;exact⟨Z,Y.opts⟩
theorem Made.from {os:List jJ} (h:Made x w' v os)(hb:eB w x):Made w w' v os:=
 ⟨h.row,λj Z=>Nat.le_trans hb.size (h.new j Z),gh hb h.below⟩
theorem jc.kept {a:Option dW} {os:List jJ} (h:jc w a n os)(hb:∀k,eh (σ a n cap)=μ k->w'.heap[k]? =w.heap[k]?):jc w' a n os:=by
 refine⟨h.1,?_⟩;rcases h.2 with Z|⟨b,off,rfl,Z⟩
 {exact .inl Z};{refine .inr ⟨b,off,rfl,λj Y=> ?_⟩;have e:=hb b rfl;obtain⟨c1,c2⟩:=Z j Y;exact⟨(aj (a:=⟨b,off+j*2,ν⟩) e).trans c1,(aj (a:=⟨b,off+j*2+1,ν⟩) e).trans c2⟩}
def uH(a:Option dW)(n:Nat):Option Nat:=if n=0 then ν else a.map (·.block)
theorem DK {a:Option dW} (h:uH a n=μ k):eh (σ a n cap)=μ k:=by
 unfold uH at h;split at h;{cases h}
 ·cases a with
  |none=>cases h
  |some x=>simpa[eh]using h
theorem jc.OX {a:Option dW} {os:List jJ} (h:jc w a n os)(hb:∀k,uH a n=μ k->w'.heap[k]? =w.heap[k]?):jc w' a n os:=by
 by_cases Z:n=0;{exact⟨h.1,.inl Z⟩}
 ·refine h.kept (cap:=0) (λk Y=>hb k ?_);unfold uH;rw[af Z];cases a with
  |none=>cases Y
  |some x=>simpa[eh]using Y
def iX(w:dX)(B:Nat)(C:Array dY)(t:eu):Prop:=w.heap[B]? =μ (γ C t (0,0))
theorem iX.lt(h:iX w B C t):B<w.heap.size:=(ax.1 h).1
theorem iX.cell {w:dX} {B:Nat} {C:Array dY} {t:eu} (h:iX w B C t)(j:Nat):w.cell? ⟨B,j,ν⟩=C[j]? :=aw w B j C _ (0,0) h
theorem iX.frozen {w:dX} {B:Nat} {C:Array dY} {t:eu} (h:iX w B C t)(j:Nat):w.frozen? ⟨B,j,ν⟩=false:=bD w B j C _ h
theorem iX.set(h:iX w B C t)(j:Nat)(x:dY):iX (w.setCell ⟨B,j,ν⟩ x) B (C.setIfInBounds j x) t:=by
 unfold iX;rw[bL w B j C _ (0,0) x h];exact cF w B C _ _ (0,0) h
theorem iX.other(h:iX w B C t)(Z:B≠B')(x:dY):iX (w.setCell ⟨B',j,ν⟩ x) B C t:=
 (ak _ _ _ B Z).trans h
theorem iX.keep(h:iX w B C t)(hb:w'.heap[B]? =w.heap[B]?):iX w' B C t:=hb.trans h
theorem iX.below(h:iX w B C t)(hb:eB w w'):iX w' B C t:=h.keep (hb.block B h.lt)
theorem iX.drewN {w:dX} {B:Nat} {C:Array dY} {t:eu} (h:iX w B C t)(n:Nat):iX (w.drewN n) B C t:=h
theorem iX.new(w:dX)(C:Array dY)(t:eu):iX (w.alloc (γ C t)) w.heap.size C t:=aY w _
theorem iX.Gf(w:dX)(C:Array dY)(t:eu)(g:Nat)(Z:w.heap.size=g):iX (w.alloc (γ C t)) g C t:=by subst Z;exact iX.new w C t
theorem jD(h:eE B w a):eE B w a.drew:=⟨h.os,h.tape,h.output,h.size,h.block⟩
theorem nV(s:ByteArray)(k:Nat)(h:k<s.size):s.data.toList.getD k 0=s[k] :=by
 have Z:k<s.data.toList.length:=by simpa using h
 rw[aJ,ay Z];rfl
theorem kP(h:a.grownBy w (μ b))(j:Nat)(v:dY):a.grownBy (w.setCell ⟨b,j,ν⟩ v) (μ b):=by
 have b1:eE 0 w (w.setCell ⟨b,j,ν⟩ v):=(au 0 w).setCell (Nat.zero_le _) _;exact⟨b1.os.trans h.os,b1.tape.trans h.tape,b1.output.trans h.output,Nat.le_trans h.size b1.size,λi hi Z=>(ak _ _ _ i (λe=>Z (by rw[e]))).trans (h.block i hi Z)⟩
theorem drewN_drewN(w:dX)(a b:Nat):(w.drewN a).drewN b=w.drewN (a+b):=by go_simp
def Dc {H:Type} (l:List (List UInt8)):eT H:=.agg (l.map λs=>.lit (.string s))
def DL {H:Type} (t:List (List (List UInt8))):eT H:=.agg (t.map Dc)
theorem IL {enc:eu×dY->H} {zs:List (List UInt8)} 
 (G:P.underlying t=μ (.array n e)) (J:P.underlying e=μ .string) (T:P.cellsOf e=1) (Y:P.cellsOf t=n)
 (h:eU enc P w base sp held fuel t cs=μ (Dc zs,p)):cs=zs.map λz=>eD ⟨z.toArray⟩:=by
 cases fuel with
 |zero=>simp[eU]at h
 |succ fuel=>
  simp only[eU,G,T,Y,Nat.mul_one]at h;split at h
  ·rename_i hl
   obtain⟨xs,U,hx⟩:=Option.map_eq_some_iff.1 h;have V:xs.map (·.1)=zs.map λz=>(DataW.lit (.string z):eT H):=by
    have:=congrArg Prod.fst hx;simpa[Dc]using this
   have Qs:xs.length=n:=by simpa using eV U
   have hzl:zs.length=n:=by
    have:=congrArg List.length V;simp at this;omega
   apply List.ext_getElem?;intro i;by_cases hi:i<n
   ·obtain⟨b,hb,hf⟩:=Lib.mapM_at U i i (by simp[hi]);obtain⟨z,hc,rfl,_⟩:=dv J hf;have M:cs[i]? =μ (.string z):=by
     have:=congrArg (·[0]?) hc;simpa[List.getElem?_take,dr]using this
    have Z:(xs.map (·.1))[i]? =μ (DataW.lit (.string z.data.toList):eT H):=by simp[hb]
    rw[V]at Z;simp only[eW,Option.map_eq_some_iff,DataW.lit.injEq,Lit.string.injEq]at Z;obtain⟨z',S,rfl⟩:=Z;simp[M,S]
   ·rw[dQ dZ,dQ (by simp;omega)]
  ·cases h
theorem IP {enc:eu×dY->H} {m:Nat} 
 (D:P.underlying t=μ (.array m r)) (E:P.underlying r=μ (.array n e)) (G:P.underlying e=μ .string) (J:P.cellsOf e=1) (Z:P.cellsOf r=n) (U:P.cellsOf t=m*n)
 (h:eU enc P w base sp held fuel t cs=μ (DL zs,p)):zs.length=m/\∀i row,zs[i]? =μ row->(cs.drop (i*n)).take n=row.map λz=>eD ⟨z.toArray⟩:=by
 cases fuel with
 |zero=>simp[eU]at h
 |succ fuel=>
  simp only[eU,D,Z,U]at h;split at h
  ·rename_i hl
   obtain⟨xs,S,hx⟩:=Option.map_eq_some_iff.1 h;have T:xs.map (·.1)=zs.map λz=>(Dc z:eT H):=by
    have:=congrArg Prod.fst hx;simpa[DL]using this
   have Qs:xs.length=m:=by simpa using eV S
   have Y:zs.length=m:=by
    have:=congrArg List.length T;simp at this;omega
   refine⟨Y,λi row M=> ?_⟩;have hi:i<m:=by rw[<-Y];exact(aK.1 M).1
   obtain⟨b,hb,hf⟩:=Lib.mapM_at S i i (by simp[hi]);have V:(xs.map (·.1))[i]? =μ b.1:=by simp[hb]
   rw[T]at V;simp only[eW,M,Option.map_some,Option.some.injEq]at V;obtain⟨b1,b2⟩:=b;simp only at V;subst V;exact IL E G J Z hf
  ·cases h
theorem IQ {W:dX} {name:String} {rest:List (String×eT Unit)} {m:Nat}
 (S:P.globalNamed name=μ g) (hty:(P.globals[g]?).map (·.type)=μ t) (ht:P.underlying t=μ (.array m r)) (y:P.underlying r=μ (.array n e)) (D:P.underlying e=μ .string) (J:P.cellsOf e=1) (Y:P.cellsOf r=n) (V:P.cellsOf t=m*n)
 (h:laidMet P ((name,DL zs)::rest) W):∀i row j z,zs[i]? =μ row->row[j]? =μ z->j<n->W.cell? ⟨g,i*n+j,ν⟩=μ (.string ⟨z.toArray⟩):=by
 obtain⟨ps,⟨g',t',cs,fuel,p,q,M,U,Z,hd,_,_⟩,_⟩:=h;obtain rfl:=Option.some.inj (S.symm.trans M);obtain rfl:=Option.some.inj (hty.symm.trans U);intro i row j z hi A G;have E:=(IP ht y D J Y V hd).2 i row hi;rw[World.var?_cell S Z];have T:((cs.toList.drop (i*n)).take n)[j]? =μ (eD ⟨z.toArray⟩):=by rw[E];simp[A]
 rw[List.getElem?_take_of_lt G,dr]at T;simpa using T
def CJ:List (List (List UInt8)):=[
 [[50],[105,114,54],[45],[45],[45],[45],[45],[45],[45],[45]],
 [[45],[45],[48],[115,49],[48],[49],[49],[49],[49],[100,49]],
 [[115,49],[49],[105,114,54],[51],[53],[53],[54],[55],[56],[57]],
 [[48],[102,48],[50],[50],[52],[52],[105,116,52],[105,116,52],[105,116,52],[100,105,116,52]],
 [[45],[45],[45],[45],[116,52],[116,53],[114,54],[114,54],[114,56],[45]],
 [[45],[45],[45],[45],[102,50],[102,51],[102,51],[102,51],[102,51],[45]],
 [[45],[45],[107,50],[105,114,97,56],[52],[53],[97,56],[97,117,57],[97,56],[100,114,97,56]],
 [[45],[45],[107,50],[105,114,110,54],[52],[53],[110,54],[110,55],[110,54],[100,114,110,54]],
 [[45],[45],[107,50],[107,51],[52],[53],[105,55],[114,54],[105,117,57],[100,114,54]],
 [[45],[45],[107,50],[107,51],[52],[53],[105,114,54],[114,54],[105,114,56],[100,114,54]],
 [[45],[45],[107,50],[107,51],[107,52],[107,53],[107,54],[107,54],[107,54],[100,122,107,53]],
 [[45],[45],[50],[51],[102,50],[102,51],[54],[54],[56],[100,114,54]]]
def oR(s e:Nat):List UInt8:=(CJ.getD e []).getD s []
def lp(s e:Nat):List UInt8×Int×Nat:=
 if oR s e=[45]then([],0,7)else((oR s e).dropLast,(((oR s e).getLastD 0).toNat:Int)-48,0)
def jh(s e:Int):List UInt8×Int×Nat:=
 if s<0 \/10<=s \/e<0 \/12<=e then([],0,1)else lp s.toNat e.toNat
def jf(w:dX):Prop:=∀e s,e<12->s<10->w.cell? ⟨0,e*10+s,ν⟩=μ (.string ⟨(oR s e).toArray⟩)
theorem jf.below(h:jf w)(hb:eB w w'):jf w':=λe s Z hs=>
 (hb.cell (ag w _ (h e s Z hs))).trans (h e s Z hs)
theorem jf.lt(h:jf w):0<w.heap.size:=ag w _ (h 0 0 ew ew)
theorem nA(s e:Nat)(hs:s<10)(he:e<12):jh s e=lp s e:=by
 unfold jh;rw[af dZ];rfl
theorem TI:∀e,e<12->∀s,s<10->1<=(oR s e).length/\(oR s e).length<=5/\(48<=((oR s e).getLastD 0).toNat/\((oR s e).getLastD 0).toNat<=57 \/oR s e=[45]):=by decide+kernel
theorem Qt(s:Int)(w:dX):eX eY 195 #[ι κ s] w λe w'=>e=ρ (.bool (decide (4<=s)&&decide (s<=8)))/\w=w':=by
 by_cases Y:4<=s
 ·have Z:decide (4<=s)=true:=by simp[Y]
  rw[Z,Bool.true_and];clear Z
  go_in
  go_wp2
  go_ret;exact⟨rfl,rfl⟩
 ·have Z:decide (4<=s)=false:=by simp[Y]
  rw[Z,Bool.false_and];clear Z
  go_in
  go_wp2
  go_ret;exact⟨rfl,rfl⟩
theorem TJ(s e:Int)(w:dX)(h:s<0 \/10<=s \/e<0 \/12<=e):eX eY 207 #[ι κ s,ι κ e] w λx w'=>x=ρ (τ #[.string ⟨#[]⟩,ι κ 0,ji 1])/\w=w':=by
 have Z:ji 1=.iface 128 (ι κ 1):=rfl;rw[Z];clear Z;by_cases h0:s<0
 ·clear h
  go_in
  go_wp2
  go_ret3
  exact⟨rfl,rfl⟩
 ·by_cases h1:10<=s
  ·clear h
   go_in
   go_wp2
   go_ret3
   exact⟨rfl,rfl⟩
  ·by_cases h2:e<0
   ·clear h
    go_in
    go_wp2
    go_ret3
    exact⟨rfl,rfl⟩
   ·have h3:12<=e:=dZ;clear h
    go_in
    go_wp2
    go_ret3
    exact⟨rfl,rfl⟩
theorem Qu(s e:Nat)(S:ByteArray)(w:dX)(hs:s<10)(he:e<12)(hc:w.cell? ⟨0,e*10+s,ν⟩=μ (.string S))(hS:(S.toList==[45])=true):
 eX eY 207 #[ι κ s,ι κ e] w λx w'=>x=ρ (τ #[.string ⟨#[]⟩,ι κ 0,ji 7])/\w=w':=by
 have Z:ji 7=.iface 128 (ι κ 7):=rfl;have h0:¬(s:Int)<0:=dZ;have h1:¬(10:Int)<=s:=dZ;have h2:¬(e:Int)<0:=dZ;have h3:¬(12:Int)<=e:=dZ;have h4:(s:Int)<10:=dZ;have h5:(e:Int)<12:=dZ;have h6:0<w.heap.size:=ag w _ hc;rw[Z];clear Z
 go_in
 go_wp2
 go_ret3
 exact⟨rfl,rfl⟩
theorem Qv(s e:Nat)(S:ByteArray)(w:dX)(hs:s<10)(he:e<12)(hc:w.cell? ⟨0,e*10+s,ν⟩=μ (.string S))(hS:(S.toList==[45])=false)(n:Nat)(hl:S.size=n+1)(hn:n<=4)(d:Nat)(hd:(S[n]).toNat=48+d)(hd9:d<=9):
 eX eY 207 #[ι κ s,ι κ e] w λx w'=>x=ρ (τ #[.string (S.extract 0 n),ι κ (d:Int),η])/\∃m,w'=w.drewN m:=by
 have h0:¬(s:Int)<0:=dZ;have h1:¬(10:Int)<=s:=dZ;have h2:¬(e:Int)<0:=dZ;have h3:¬(12:Int)<=e:=dZ;have h4:(s:Int)<10:=dZ;have h5:(e:Int)<12:=dZ;have h6:0<w.heap.size:=ag w _ hc;have h7:wrap64 ((S.size:Int)-1)=n:=by unfold wrap64;omega
 have h8:((0:Int)<=(n:Int)):=dZ;have h9:((n:Int)<=(S.size:Int)):=dZ;have h10:((n:Int)<(S.size:Int)):=dZ
 go_in
 go_wp2
 go_quiet(fail)
 go_wp2
 go_ret3
 refine⟨?_,_,rfl⟩;rw[show(48:Int)+(d:Int)-48=d by omega];rfl
theorem Qw:∀e,e<12->∀s,s<10->oR s e≠ [45]->((⟨(oR s e).toArray⟩:ByteArray).extract 0 ((oR s e).length-1)=⟨(oR s e).dropLast.toArray⟩)/\((oR s e).getD ((oR s e).length-1) 0=(oR s e).getLastD 0):=by decide+kernel
theorem TK(s e:Int)(w:dX)(h:jf w):eX eY 207 #[ι κ s,ι κ e] w λx w'=>
 x=ρ (τ #[.string ⟨(jh s e).1.toArray⟩,ι κ (jh s e).2.1,ji (jh s e).2.2])/\∃m,w'=w.drewN m:=by
 by_cases V:s<0 \/10<=s \/e<0 \/12<=e
 ·refine(TJ s e w V).mono ?_;rintro x w' ⟨rfl,rfl⟩;have hv:jh s e=([],0,1):=by unfold jh;rw[ai V]
  rw[hv];exact⟨rfl,0,rfl⟩
 ·obtain⟨s',rfl⟩:∃s':Nat,s=s':=⟨s.toNat,dZ⟩
  obtain⟨e',rfl⟩:∃e':Nat,e=e':=⟨e.toNat,dZ⟩
  have hs:s'<10:=dZ;have Z:e'<12:=dZ;rw[nA s' e' hs Z];have hc:=h e' s' Z hs;obtain⟨l1,l2,T⟩:=TI e' Z s' hs;by_cases Y:oR s' e'=[45]
  ·refine(Qu s' e' _ w hs Z hc (by rw[Y];decide+kernel)).mono ?_;rintro x w' ⟨rfl,rfl⟩;have hv:lp s' e'=([],0,7):=by unfold lp;rw[ai Y]
   rw[hv];exact⟨rfl,0,rfl⟩
  ·obtain⟨c1,c2⟩:=Qw e' Z s' hs Y;have l4:=T.resolve_right Y;have hv:lp s' e'=((oR s' e').dropLast,(((oR s' e').getLastD 0).toNat:Int)-48,0):=by unfold lp;rw[af Y]
   rw[hv];clear hv;generalize oR s' e'=L at*;have S:(⟨L.toArray⟩:ByteArray).size=(L.length-1)+1:=by show L.toArray.size=_;simp;omega
   refine(Qv s' e' ⟨L.toArray⟩ w hs Z hc ?_ (L.length-1) S dZ ((L.getLastD 0).toNat-48) ?_ dZ).mono ?_;{rw[cT];intro hb;apply Y;rw[<-hb];simp[ByteArray.toList_eq]};{rw[<-c2];show(L.toArray[L.length-1]'_).toNat=_;rw[List.getElem_toArray,aJ,ay dZ];rw[aJ,ay dZ]at c2;simp only[Option.getD_some]at c2⊢;rw[c2];omega};{rintro x w' ⟨rfl,m,rfl⟩;refine⟨?_,m,rfl⟩;rw[c1];have U:(((L.getLastD 0).toNat-48:Nat):Int)=((L.getLastD 0).toNat:Int)-48:=dZ;rw[U];rfl}
theorem IU(s e:Int)(D:List UInt8)(nx:Int)(f:Nat)(Z:jh s e=(D,nx,f))(w:dX)(h:jf w):
 eX eY 207 #[ι κ s,ι κ e] w λx w'=>x=ρ (τ #[.string ⟨D.toArray⟩,ι κ nx,ji f])/\∃m,w'=w.drewN m:=by
 have:=TK s e w h;rw[Z]at this;exact this
theorem De:(eY.info? 276).map (λi=>(i.zero,i.size,i.bytes))=μ (μ (.agg #[ι κ 0,ι κ 0]),2,16):=gS
theorem ze(w:dX):(zeroValue 252).run eY w=.ok (.agg #[ι κ 0,ι κ 0]) w:=gS
def oy(sz mg:Int):List jJ:=(if 0<sz then [(1,sz)]else [])++(if 0<mg then [(5,mg)]else [])
def Kl(o:jJ):Bool:= !(o.1==1)&& !(o.1==5)
def tL(l:List jJ):List jJ:=l.filter Kl
def xM(mg:Int)(o:jJ):List jJ:=
 if o.1=1/\o.2<40 then [(1,40)]else if o.1=5/\(o.2=0 \/o.2=mg)then [(5,mg%255+1)]else []
def rb(mg:Int)(l:List jJ):List jJ:=l.flatMap (xM mg)
def l9(mg:Int)(l:List jJ):Int×List jJ:=if tL l≠ []then(4,tL l)else if rb mg l≠ []then(3,rb mg l)else(2,l)
def j7(code:Int)(p:Int×Int)(o:jJ):Int×Int:=
 if code=4 then(if o.1=1 then(0,p.2)else if o.1=5 then(p.1,0)else p)
 else if code=3 then(if o.1=1/\0<p.1/\40<=o.2 then(o.2,p.2)else if o.1=5/\0<p.2/\0<o.2 then(p.1,o.2)else p)
 else p
def oY(code:Int)(l:List jJ)(p:Int×Int):Int×Int:=l.foldl (j7 code) p
theorem abB(sz mg:Int)(w:dX)(h1:¬sz<40)(h2:¬255<sz)(h3:¬mg<1)(h4:¬255<mg):
 eX eY 170 #[ι κ sz,ι κ mg] w λe w'=>e=ρ (τ #[.agg #[ι κ sz,ι κ mg],η])/\eB w w':=by
 have hz:=ze;have hb:eB w (w.alloc (γ #[ι κ sz,ι κ mg] 252)):=gT _ _
 go_in
 go_wp2
 refine aE (v:=τ #[.agg #[ι κ sz,ι κ mg],η]) (by simp[results,results170,go_sem]) rfl ?_;exact⟨rfl,hb⟩
theorem Km(sz mg:Int)(w:dX):eX eY 224 #[.agg #[ι κ sz,ι κ mg]] w λe w'=>∃v,e=ρ v/\Made w w' v (oy sz mg):=by
 obtain⟨i0,hi,h,A,y⟩:=aW De;have M:eB w (w.alloc (γ #[ι κ sz,ι κ mg] 252)):=gT _ _;have hA:=λj=>aq w #[ι κ sz,ι κ mg] 252 (0,0) j;by_cases D:0<sz
 ·by_cases G:0<mg
  ·have U:oy sz mg=[(1,sz)] ++ [(5,mg)] :=by simp[oy,D,G]
   rw[U]
   go_in
   go_wp2_with(at_builtin;go_must(refine iG _ rfl (.tmp 7) (.tmp 11) 35 rfl 276 i0 (.agg #[ι κ 0,ι κ 0]) 2 16 underlying35 hi h A y rfl ew (σ ν 0 0) 0 (iR []) rfl (Row.nil _ 2) _ 1 1 [ι κ 1,ι κ sz] rfl rfl ew (nh _ _ _ _ _ gU) (lL _ _ _ _) ew ew ?_));intro g1 E w1 T Y V;have S:=lW (M.alloc M.size _) Y (λj Z=>mY Z);have J:=nU (B:=w.heap.size) V dZ (λj Z=>mY Z);have vP:w1.cell? ⟨w.heap.size,1,ν⟩=μ (ι κ mg):=by
    exact sv Y (by simp[eh]) (((gT _ _).cell (p:=⟨w.heap.size,1,ν⟩) gU).trans (hA 1))
   have IV:w.heap.size<w1.heap.size:=ag w1 _ vP;rw[show([] :List jJ)=[]from rfl]at T;have ajH:Row w1 2 (σ (μ ⟨g1,0,ν⟩) 1 E) 1 (iR [(1,sz)]):=T;clear Y V T;go_wp2_with(at_builtin;go_must(refine iG _ rfl (.tmp 16) (.tmp 20) 35 rfl 276 i0 (.agg #[ι κ 0,ι κ 0]) 2 16 underlying35 hi h A y rfl ew (σ (μ ⟨g1,0,ν⟩) 1 E) 1 (iR [(1,sz)]) rfl (ajH.alloc _) _ 1 1 [ι κ 5,ι κ mg] rfl rfl ew (nh _ _ _ _ _ gU) (lL _ _ _ _) ew ew ?_));intro g2 cap2 w2 sW BL kV;have mS:=lW (S.alloc S.size _) BL (λj Z=>kF J Z);have vJ:=nU (B:=w.heap.size) kV (by have:=S.size;omega) (λj Z=>kF J Z);clear BL kV
   go_wp2
   go_ret;exact⟨_,rfl,⟨sW,λj Z=>kF vJ Z,mS⟩⟩
  ·have U:oy sz mg=[(1,sz)] :=by simp[oy,D,G]
   rw[U]
   go_in
   go_wp2_with(at_builtin;go_must(refine iG _ rfl (.tmp 7) (.tmp 11) 35 rfl 276 i0 (.agg #[ι κ 0,ι κ 0]) 2 16 underlying35 hi h A y rfl ew (σ ν 0 0) 0 (iR []) rfl (Row.nil _ 2) _ 1 1 [ι κ 1,ι κ sz] rfl rfl ew (nh _ _ _ _ _ gU) (lL _ _ _ _) ew ew ?_));intro g1 E w1 T Y V;have S:=lW (M.alloc M.size _) Y (λj Z=>mY Z);have J:=nU (B:=w.heap.size) V dZ (λj Z=>mY Z);have vP:w1.cell? ⟨w.heap.size,1,ν⟩=μ (ι κ mg):=by
    exact sv Y (by simp[eh]) (((gT _ _).cell (p:=⟨w.heap.size,1,ν⟩) gU).trans (hA 1))
   have IV:w.heap.size<w1.heap.size:=ag w1 _ vP;clear Y V
   go_wp2
   go_ret;exact⟨_,rfl,⟨T,λj Z=>kF J Z,S⟩⟩
 ·by_cases G:0<mg
  ·have U:oy sz mg=[(5,mg)] :=by simp[oy,D,G]
   rw[U]
   go_in
   go_wp2_with(at_builtin;go_must(refine iG _ rfl (.tmp 16) (.tmp 20) 35 rfl 276 i0 (.agg #[ι κ 0,ι κ 0]) 2 16 underlying35 hi h A y rfl ew (σ ν 0 0) 0 (iR []) rfl (Row.nil _ 2) _ 1 1 [ι κ 5,ι κ mg] rfl rfl ew (nh _ _ _ _ _ gU) (lL _ _ _ _) ew ew ?_));intro g1 E w1 T Y V;have S:=lW (M.alloc M.size _) Y (λj Z=>mY Z);have J:=nU (B:=w.heap.size) V dZ (λj Z=>mY Z);clear Y V
   go_wp2
   go_ret;exact⟨_,rfl,⟨T,λj Z=>kF J Z,S⟩⟩
  ·have U:oy sz mg=[] :=by simp[oy,D,G]
   rw[U]
   go_in
   go_wp2
   go_ret;exact⟨_,rfl,⟨Row.nil _ 2,λj Z=>mY Z,M⟩⟩
theorem BM(a:Option dW)(n cap:Nat)(os:List jJ)(w:dX)(hn:n<=1000000)(G:jc w a n os):
 eX eY 244 #[σ a n cap] w λe w'=>∃v,e=ρ v/\Made w w' v (tL os):=by
 obtain⟨i0,hi,og,mZ,mc⟩:=aW De
 go_in
 go_wp2
 go_loopw [3,8] (λout i wr=>∃(k:Nat) (ao:Option dW) (m cp:Nat),k<=n/\out=σ ao m cp/\i=ι κ k/\m<=k/\Row wr 2 (σ ao m cp) m (iR (tL (os.take k)))/\(∀j,eh (σ ao m cp)=μ j->w.heap.size<=j)/\eB w wr) (λ_ i _=>n-(eZ i).toNat)
 case atStart=>exact⟨0,ν,0,0,Nat.zero_le _,rfl,rfl,Nat.le_refl _,by simpa[tL,iR]using Row.nil w 2,λj J=>mY J,au _ _⟩
 case round=>
  obtain⟨k,ao,m,cp,hk,rfl,rfl,hmk,Y,U,Z⟩:=hrel;by_cases kA:k<n
  ·have Ap:=G.below Z;rcases Ap.2 with h0|⟨b,off,rfl,hc⟩
   ·omega
   have h:k<os.length:=by rw[G.1];exact kA
   obtain⟨c1,c2⟩:=hc k h;have S:Hid (os.take (k+1)=os.take k++ [os[k]]):=aA h;generalize os[k] =o at c1 c2 S;clear hc;have nL:(k:Int)<(n:Int):=dZ;cases q1:(o.1==1)
   ·cases M:(o.1==5)
    ·have y:(o.1 !=1)=true:=by simp[bne,q1]
     have p5:(o.1 !=5)=true:=by simp[bne,M]
     have V:Hid (tL (os.take (k+1))=tL (os.take k)++ [o]):=by
      show _=_;rw[S.out,tL,cB];simp[Kl,q1,M];rfl
     go_wp2_with(at_builtin;go_must(refine iG _ rfl (.tmp 20) (.tmp 22) 35 rfl 276 i0 (.agg #[ι κ 0,ι κ 0]) 2 16 underlying35 hi og mZ mc rfl ew (σ ao m cp) m (iR (tL (os.take k))) rfl ((Y.alloc _).alloc _) _ 1 1 [ι κ o.1,ι κ o.2] rfl rfl ew (nh _ _ _ _ _ gU) (lL _ _ _ _) (by unfold maxLen;omega) dZ ?_));intro g' jn w1 D A E;have T:=lW ((Z.alloc Z.size _).alloc (by simp;have:=Z.size;omega) _) A U;have mO:=nU (B:=w.heap.size) E (by have:=Z.size;omega) U;rw[<-mb,<-V.out]at D;clear A E
     go_wp2
     go_roundw
     case rel=>exact⟨k+1,_,m+1,jn,dZ,rfl,by go_num,dZ,D,λj J=>kF mO J,T⟩
     case measure=>simp[eZ];omega
    ·have y:(o.1 !=1)=true:=by simp[bne,q1]
     have p5:(o.1 !=5)=false:=by simp[bne,M]
     have V:Hid (tL (os.take (k+1))=tL (os.take k)):=by
      show _=_;rw[S.out,tL,cB];simp[Kl,q1,M];rfl
     have T:=Z.alloc Z.size (γ #[ι κ o.1,ι κ o.2] 276)
     go_wp2
     go_roundw
     case rel=>exact⟨k+1,_,m,cp,dZ,rfl,by go_num,dZ,by rw[V.out];exact Y.alloc _,U,T⟩
     case measure=>simp[eZ];omega
   ·have y:(o.1 !=1)=false:=by simp[bne,q1]
    have V:Hid (tL (os.take (k+1))=tL (os.take k)):=by
     show _=_;rw[S.out,tL,cB];simp[Kl,q1];rfl
    have T:=Z.alloc Z.size (γ #[ι κ o.1,ι κ o.2] 276)
    go_wp2
    go_roundw
    case rel=>exact⟨k+1,_,m,cp,dZ,rfl,by go_num,dZ,by rw[V.out];exact Y.alloc _,U,T⟩
    case measure=>simp[eZ];omega
  ·have zf:os.take k=os:=aI (by rw[G.1];omega);rw[zf]at Y;have CL:m=(tL os).length:=by have:=Y.1;rw[ld]at this;omega
   go_wp2
   go_ret;exact⟨_,rfl,⟨by rw[<-CL];exact Y,U,Z⟩⟩
theorem TL:(eY.info? 37).map (λi=>(i.zero,i.size,i.bytes))=μ (μ (.agg #[ι κ 0,ι κ 0,σ ν 0 0]),3,40):=gS
def TM(fs fm ns nm qs qm st sz lf wt ow:Int)(v:dY):Array dY:= #[ι κ fs,ι κ fm,ι κ ns,ι κ nm,ι κ qs,ι κ qm,ι κ st,ι κ sz,ι κ lf,ι κ wt,ι κ ow,v]
def Lk(w:dX)(B:Nat)(C:Array dY):Prop:=w.heap[B]? =μ (γ C 254 (0,0))
theorem Lk.lt(h:Lk w B C):B<w.heap.size:=(ax.1 h).1
theorem Lk.cell {w:dX} {B:Nat} {C:Array dY} (h:Lk w B C)(j:Nat):w.cell? ⟨B,j,ν⟩=C[j]? :=aw w B j C _ (0,0) h
theorem Lk.frozen {w:dX} {B:Nat} {C:Array dY} (h:Lk w B C)(j:Nat):w.frozen? ⟨B,j,ν⟩=false:=bD w B j C _ h
theorem Lk.set(h:Lk w B C)(j:Nat)(x:dY):Lk (w.setCell ⟨B,j,ν⟩ x) B (C.setIfInBounds j x):=by
 unfold Lk;rw[bL w B j C _ (0,0) x h];exact cF w B C _ _ (0,0) h
theorem Lk.keep(h:Lk w B C)(hb:w'.heap[B]? =w.heap[B]?):Lk w' B C:=hb.trans h
theorem Lk.below(h:Lk w B C)(hb:eB w w'):Lk w' B C:=h.keep (hb.block B h.lt)
theorem Lk.drew {w:dX} {B:Nat} {C:Array dY} (h:Lk w B C):Lk w.drew B C:=h
theorem zg(w:dX)(x y z:dY)(t:eu)(g:Nat)(Z:w.heap.size=g):∀(j:Nat) (u:dY),[x,y,z][j]? =μ u->(w.alloc (γ #[x,y,z] t)).drew.cell? ((⟨g,0,ν⟩:dW).add j)=μ u:=by
 subst Z;intro j u Y;show(w.alloc (γ #[x,y,z] t)).cell? _=_;rw[add_plain,aq];simpa using Y
theorem TN(x y:Int)(a:Option dW)(n c:Nat):∀u∈ [ι .i64 x,ι .i64 y,Value.slice a n c],u.oneCell'=true:=by simp[eA]
theorem pw(h:a.grownBy w (μ b))(j:Nat)(v:dY):a.grownBy (w.setCell ⟨b,j,ν⟩ v) (μ b):=by
 have b1:eE 0 w (w.setCell ⟨b,j,ν⟩ v):=(au 0 w).setCell (Nat.zero_le _) _;exact⟨b1.os.trans h.os,b1.tape.trans h.tape,b1.output.trans h.output,Nat.le_trans h.size b1.size,λi hi Z=>(ak _ _ _ i (λe=>Z (by rw[e]))).trans (h.block i hi Z)⟩
theorem sy(B:Nat)(h:eB w x):w.grownBy x (μ B):=⟨h.os,h.tape,h.output,h.size,λi hi _=>h.block i hi⟩
theorem BN {b c:dX} (h:a.grownBy b (μ B))(k:b.grownBy c (μ B)):a.grownBy c (μ B):=
 ⟨k.os.trans h.os,k.tape.trans h.tape,k.output.trans h.output,Nat.le_trans h.size k.size,λi hi Z=>(k.block i (Nat.lt_of_lt_of_le hi h.size) Z).trans (h.block i hi Z)⟩
theorem Kn(sz mg k:Int)(w:dX):eX eY 247 #[.agg #[ι κ sz,ι κ mg],ι κ k] w λe w'=>
 e=ρ (.agg #[ι κ (j7 4 (sz,mg) (k,0)).1,ι κ (j7 4 (sz,mg) (k,0)).2])/\eB w w':=by
 have hz:=ze;have hb:∀A B:Array dY,eB w ((w.alloc (γ A 252)).alloc (γ B 252)):=λA B=>(gT _ _).alloc gU _;cases q1:(k==1)
 ·cases Z:(k==5)
  ·have hv:j7 4 (sz,mg) (k,0)=(sz,mg):=by simp at q1 Z;simp[j7,q1,Z]
   rw[hv];clear hv
   go_in
   go_wp2
   refine aE (v:=.agg #[ι κ sz,ι κ mg]) (by simp[results,results247,go_sem]) rfl ?_;exact⟨rfl,hb _ _⟩
  ·have hv:j7 4 (sz,mg) (k,0)=(sz,0):=by simp at q1 Z;simp[j7,Z]
   rw[hv];clear hv
   go_in
   go_wp2
   refine aE (v:=.agg #[ι κ sz,ι κ 0]) (by simp[results,results247,go_sem]) rfl ?_;exact⟨rfl,hb _ _⟩
 ·have hv:j7 4 (sz,mg) (k,0)=(0,mg):=by simp at q1;simp[j7,q1]
  rw[hv];clear hv
  go_in
  go_wp2
  refine aE (v:=.agg #[ι κ 0,ι κ mg]) (by simp[results,results247,go_sem]) rfl ?_;exact⟨rfl,hb _ _⟩
theorem TP(sz mg k n:Int)(w:dX):eX eY 248 #[.agg #[ι κ sz,ι κ mg],.agg #[ι κ k,ι κ n]] w λe w'=>
 e=ρ (.agg #[ι κ (j7 3 (sz,mg) (k,n)).1,ι κ (j7 3 (sz,mg) (k,n)).2])/\eB w w':=by
 have hz:=ze;have hb:∀(A B C:Array dY) (t u v:eu),eB w (((w.alloc (γ A t)).alloc (γ B u)).alloc (γ C v)):=λA B C t u v=>((gT _ _).alloc gU _).alloc (by simp;omega) _;have fin:∀(s m:Int),j7 3 (sz,mg) (k,n)=(s,m)->((j7 3 (sz,mg) (k,n)).1=s/\(j7 3 (sz,mg) (k,n)).2=m):=λs m h=>by rw[h];exact⟨rfl,rfl⟩
 cases q1:(k==1)
 ·cases Z:(k==5)
  ·have hv:j7 3 (sz,mg) (k,n)=(sz,mg):=by simp at q1 Z;simp[j7,q1,Z]
   rw[hv];clear hv fin
   go_in
   go_wp2
   refine aE (v:=.agg #[ι κ sz,ι κ mg]) (by simp[results,results248,go_sem]) rfl ?_;exact⟨rfl,hb _ _ _ _ _ _⟩
  ·by_cases Y:0<mg
   ·by_cases V:0<n
    ·have hv:j7 3 (sz,mg) (k,n)=(sz,n):=by simp at q1 Z;simp[j7,Z,Y,V]
     rw[hv];clear hv fin
     go_in
     go_wp2
     refine aE (v:=.agg #[ι κ sz,ι κ n]) (by simp[results,results248,go_sem]) rfl ?_;exact⟨rfl,hb _ _ _ _ _ _⟩
    ·have hv:j7 3 (sz,mg) (k,n)=(sz,mg):=by simp at q1 Z;simp[j7,Z,V]
     rw[hv];clear hv fin
     go_in
     go_wp2
     refine aE (v:=.agg #[ι κ sz,ι κ mg]) (by simp[results,results248,go_sem]) rfl ?_;exact⟨rfl,hb _ _ _ _ _ _⟩
   ·have hv:j7 3 (sz,mg) (k,n)=(sz,mg):=by simp at q1 Z;simp[j7,Z,Y]
    rw[hv];clear hv fin
    go_in
    go_wp2
    refine aE (v:=.agg #[ι κ sz,ι κ mg]) (by simp[results,results248,go_sem]) rfl ?_;exact⟨rfl,hb _ _ _ _ _ _⟩
 ·have Z:(k==5)=false:=by simp at q1⊢;omega
  by_cases Y:0<sz
  ·by_cases V:40<=n
   ·have hv:j7 3 (sz,mg) (k,n)=(n,mg):=by simp at q1;simp[j7,q1,Y,V]
    rw[hv];clear hv fin
    go_in
    go_wp2
    refine aE (v:=.agg #[ι κ n,ι κ mg]) (by simp[results,results248,go_sem]) rfl ?_;exact⟨rfl,hb _ _ _ _ _ _⟩
   ·have hv:j7 3 (sz,mg) (k,n)=(sz,mg):=by simp at q1;simp[j7,q1,V]
    rw[hv];clear hv fin
    go_in
    go_wp2
    refine aE (v:=.agg #[ι κ sz,ι κ mg]) (by simp[results,results248,go_sem]) rfl ?_;exact⟨rfl,hb _ _ _ _ _ _⟩
  ·have hv:j7 3 (sz,mg) (k,n)=(sz,mg):=by simp at q1;simp[j7,q1,Y]
   rw[hv];clear hv fin
   go_in
   go_wp2
   refine aE (v:=.agg #[ι κ sz,ι κ mg]) (by simp[results,results248,go_sem]) rfl ?_;exact⟨rfl,hb _ _ _ _ _ _⟩
theorem DN(sz mg:Int)(a:Option dW)(n cap:Nat)(os:List jJ)(w:dX)(My:0<=mg)(abC:mg<=255)(hn:n<=1000000)(ho:jc w a n os):
 eX eY 245 #[.agg #[ι κ sz,ι κ mg],σ a n cap] w λe w'=>∃v,e=ρ v/\Made w w' v (rb mg os):=by
 obtain⟨i0,hi,og,mZ,mc⟩:=aW De;have qy:eB w (w.alloc (γ #[ι κ sz,ι κ mg] 252)):=gT _ _;have hA:=λj=>aq w #[ι κ sz,ι κ mg] 252 (0,0) j
 go_in
 go_wp2
 go_loopw [5,10] (λout i wr=>∃(k:Nat) (ao:Option dW) (m cp:Nat),k<=n/\out=σ ao m cp/\i=ι κ k/\m<=k/\Row wr 2 (σ ao m cp) m (iR (rb mg (os.take k)))/\(∀j,eh (σ ao m cp)=μ j->w.heap.size+1<=j)/\wr.cell? ⟨w.heap.size,1,ν⟩=μ (ι κ mg)/\eB w wr) (λ_ i _=>n-(eZ i).toNat)
 case atStart=>exact⟨0,ν,0,0,Nat.zero_le _,rfl,rfl,Nat.le_refl _,by simpa[rb,iR]using Row.nil _ 2,λj Z=>mY Z,hA 1,qy⟩
 case round=>
  obtain⟨k,ao,m,cp,hk,rfl,rfl,hmk,T,U,hmc,iL⟩:=hrel;have IV:w.heap.size<wr.heap.size:=ag wr _ hmc;by_cases kA:k<n
  ·have Ap:=ho.below iL;rcases Ap.2 with h0|⟨b,off,rfl,hc⟩
   ·omega
   have qG:k<os.length:=by rw[ho.1];exact kA
   obtain⟨c1,c2⟩:=hc k qG;have A:Hid (rb mg (os.take (k+1))=rb mg (os.take k)++xM mg os[k]):=by
    show _=_;rw[aA qG,rb,bW,cg,List.flatMap_nil,aB];rfl
   generalize os[k] =o at c1 c2 A;clear hc;have nL:(k:Int)<(n:Int):=dZ;have S:=iL.alloc iL.size (γ #[ι κ o.1,ι κ o.2] 276);have D:(wr.alloc (γ #[ι κ o.1,ι κ o.2] 276)).cell? ⟨w.heap.size,1,ν⟩=μ (ι κ mg):=((gT _ _).cell (p:=⟨w.heap.size,1,ν⟩) IV).trans hmc;have keep:xM mg o=[]->Hid (Row (wr.alloc (γ #[ι κ o.1,ι κ o.2] 276)) 2 (σ ao m cp) m (iR (rb mg (os.take (k+1))))):=λhe=>by
    show Row _ _ _ _ _;rw[A.out,he,aB];exact T.alloc _
   cases q1:(o.1==1)
   ·cases M:(o.1==5)
    ·have Y:=keep (by simp at q1 M;simp[xM,q1,M])
     go_wp2
     go_roundw
     case rel=>exact⟨k+1,_,m,cp,dZ,rfl,by go_num,dZ,Y.out,U,D,S⟩
     case measure=>simp[eZ];omega
    ·cases q6:(o.2==0)
     ·cases q7:(o.2==mg)
      ·have Y:=keep (by simp at q1 M q6 q7;simp[xM,M,q6,q7])
       go_wp2
       go_roundw
       case rel=>exact⟨k+1,_,m,cp,dZ,rfl,by go_num,dZ,Y.out,U,D,S⟩
       case measure=>simp[eZ];omega
      ·have y:Hid (xM mg o=[(5,(mg%255+1))]):=by
        show _=_;simp at q1 M q6 q7;simp[xM,M,q7]
       go_wp2_with(at_builtin;go_must(refine iG _ rfl (.tmp 41) (.tmp 47) 35 rfl 276 i0 (.agg #[ι κ 0,ι κ 0]) 2 16 underlying35 hi og mZ mc rfl ew (σ ao m cp) m (iR (rb mg (os.take k))) rfl ((T.alloc _).alloc _) _ 1 1 [ι κ 5,ι κ (mg%255+1)] rfl rfl ew (nh _ _ _ _ _ gU) (lL _ _ _ _) (by unfold maxLen;omega) dZ ?_));intro g' E w1 Y V G;have mS:=lW (S.alloc S.size _) V (λj Z=>by have:=U j Z;omega);have mO:=nU (B:=w.heap.size+1) G dZ U;have J:w1.cell? ⟨w.heap.size,1,ν⟩=μ (ι κ mg):=sv V (λe=>by have:=U _ e;omega) (((gT _ _).cell (p:=⟨w.heap.size,1,ν⟩) (by simp;omega)).trans D);have IW:w.heap.size<w1.heap.size:=ag w1 _ J;have hcs:∀j,j<2->w1.cell? ⟨wr.heap.size,j,ν⟩=(wr.alloc (γ #[ι κ o.1,ι κ o.2] 276)).cell? ⟨wr.heap.size,j,ν⟩:=λj _=>by
        have h:=aj (a:=⟨wr.heap.size,j,ν⟩) (V.block wr.heap.size (by simp;omega) (λe=>by have:=T.lt _ e.symm;omega));exact h.trans ((gT _ _).cell (p:=⟨wr.heap.size,j,ν⟩) gU)
       have d0:=(hcs 0 ew).trans (aq wr #[ι κ o.1,ι κ o.2] 276 (0,0) 0);have d1:=(hcs 1 ew).trans (aq wr #[ι κ o.1,ι κ o.2] 276 (0,0) 1);have OZ:wr.heap.size<w1.heap.size:=ag w1 _ d0;have sW:Row w1 2 (σ (μ ⟨g',0,ν⟩) (m+1) E) (m+1) (iR (rb mg (os.take (k+1)))):=by
        rw[A.out,y.out,mb];exact Y
       clear V G Y hcs keep
       go_wp2
       go_roundw
       case rel=>exact⟨k+1,_,m+1,E,dZ,rfl,by go_num,dZ,sW,λj Z=>kF mO Z,J,mS⟩
       case measure=>simp[eZ];omega
     ·have y:Hid (xM mg o=[(5,(mg%255+1))]):=by
       show _=_;simp at q1 M q6;simp[xM,M,q6]
      go_wp2_with(at_builtin;go_must(refine iG _ rfl (.tmp 41) (.tmp 47) 35 rfl 276 i0 (.agg #[ι κ 0,ι κ 0]) 2 16 underlying35 hi og mZ mc rfl ew (σ ao m cp) m (iR (rb mg (os.take k))) rfl ((T.alloc _).alloc _) _ 1 1 [ι κ 5,ι κ (mg%255+1)] rfl rfl ew (nh _ _ _ _ _ gU) (lL _ _ _ _) (by unfold maxLen;omega) dZ ?_));intro g' E w1 Y V G;have mS:=lW (S.alloc S.size _) V (λj Z=>by have:=U j Z;omega);have mO:=nU (B:=w.heap.size+1) G dZ U;have J:w1.cell? ⟨w.heap.size,1,ν⟩=μ (ι κ mg):=sv V (λe=>by have:=U _ e;omega) (((gT _ _).cell (p:=⟨w.heap.size,1,ν⟩) (by simp;omega)).trans D);have IW:w.heap.size<w1.heap.size:=ag w1 _ J;have hcs:∀j,j<2->w1.cell? ⟨wr.heap.size,j,ν⟩=(wr.alloc (γ #[ι κ o.1,ι κ o.2] 276)).cell? ⟨wr.heap.size,j,ν⟩:=λj _=>by
       have h:=aj (a:=⟨wr.heap.size,j,ν⟩) (V.block wr.heap.size (by simp;omega) (λe=>by have:=T.lt _ e.symm;omega));exact h.trans ((gT _ _).cell (p:=⟨wr.heap.size,j,ν⟩) gU)
      have d0:=(hcs 0 ew).trans (aq wr #[ι κ o.1,ι κ o.2] 276 (0,0) 0);have d1:=(hcs 1 ew).trans (aq wr #[ι κ o.1,ι κ o.2] 276 (0,0) 1);have OZ:wr.heap.size<w1.heap.size:=ag w1 _ d0;have sW:Row w1 2 (σ (μ ⟨g',0,ν⟩) (m+1) E) (m+1) (iR (rb mg (os.take (k+1)))):=by
       rw[A.out,y.out,mb];exact Y
      clear V G Y hcs keep
      go_wp2
      go_roundw
      case rel=>exact⟨k+1,_,m+1,E,dZ,rfl,by go_num,dZ,sW,λj Z=>kF mO Z,J,mS⟩
      case measure=>simp[eZ];omega
   ·have M:(o.1==5)=false:=by simp at q1⊢;omega
    by_cases q2:o.2<40
    ·have y:Hid (xM mg o=[(1,40)]):=by
      show _=_;simp at q1;simp[xM,q1,q2]
     go_wp2_with(at_builtin;go_must(refine iG _ rfl (.tmp 22) (.tmp 24) 35 rfl 276 i0 (.agg #[ι κ 0,ι κ 0]) 2 16 underlying35 hi og mZ mc rfl ew (σ ao m cp) m (iR (rb mg (os.take k))) rfl ((T.alloc _).alloc _) _ 1 1 [ι κ 1,ι κ 40] rfl rfl ew (nh _ _ _ _ _ gU) (lL _ _ _ _) (by unfold maxLen;omega) dZ ?_));intro g' E w1 Y V G;have mS:=lW (S.alloc S.size _) V (λj Z=>by have:=U j Z;omega);have mO:=nU (B:=w.heap.size+1) G dZ U;have J:w1.cell? ⟨w.heap.size,1,ν⟩=μ (ι κ mg):=sv V (λe=>by have:=U _ e;omega) (((gT _ _).cell (p:=⟨w.heap.size,1,ν⟩) (by simp;omega)).trans D);have IW:w.heap.size<w1.heap.size:=ag w1 _ J;have hcs:∀j,j<2->w1.cell? ⟨wr.heap.size,j,ν⟩=(wr.alloc (γ #[ι κ o.1,ι κ o.2] 276)).cell? ⟨wr.heap.size,j,ν⟩:=λj _=>by
      have h:=aj (a:=⟨wr.heap.size,j,ν⟩) (V.block wr.heap.size (by simp;omega) (λe=>by have:=T.lt _ e.symm;omega));exact h.trans ((gT _ _).cell (p:=⟨wr.heap.size,j,ν⟩) gU)
     have d0:=(hcs 0 ew).trans (aq wr #[ι κ o.1,ι κ o.2] 276 (0,0) 0);have d1:=(hcs 1 ew).trans (aq wr #[ι κ o.1,ι κ o.2] 276 (0,0) 1);have OZ:wr.heap.size<w1.heap.size:=ag w1 _ d0;have sW:Row w1 2 (σ (μ ⟨g',0,ν⟩) (m+1) E) (m+1) (iR (rb mg (os.take (k+1)))):=by
      rw[A.out,y.out,mb];exact Y
     clear V G Y hcs keep
     go_wp2
     go_roundw
     case rel=>exact⟨k+1,_,m+1,E,dZ,rfl,by go_num,dZ,sW,λj Z=>kF mO Z,J,mS⟩
     case measure=>simp[eZ];omega
    ·have Y:=keep (by simp at q1;simp[xM,q1,q2])
     go_wp2
     go_roundw
     case rel=>exact⟨k+1,_,m,cp,dZ,rfl,by go_num,dZ,Y.out,U,D,S⟩
     case measure=>simp[eZ];omega
  ·have zf:os.take k=os:=aI (by rw[ho.1];omega);rw[zf]at T;have CL:m=(rb mg os).length:=by have:=T.1;rw[ld]at this;omega
   go_wp2
   go_ret;exact⟨_,rfl,⟨by rw[<-CL];exact T,λj Z=>by have:=U j Z;omega,iL⟩⟩
theorem not_nil(a:dW)(n cap:Nat)(w:dX):(binOp .eql 35 (σ (μ a) n cap) (σ ν 0 0)).run eY w=.ok (.bool false) w:=gS
theorem abD(w:dX):(binOp .eql 35 (σ ν 0 0) (σ ν 0 0)).run eY w=.ok (.bool true) w:=gS
theorem DP(a:dW)(cap:Nat)(w:dX):
 eX eY 246 #[σ (μ a) 0 cap] w λe w'=>∃(v:dY),e=ρ v/\Made w w' v [] :=by
 have hq:=not_nil
 go_in
 go_wp2
 go_ret;exact⟨_,rfl,⟨Row.made w 2 _ #[] (0,0) 0 0 [] rfl rfl (Nat.le_refl _) ew (.inl rfl) gU,λj Z=>kF (Nat.le_refl _) Z,gT _ _⟩⟩
theorem Qy(w:dX):
 eX eY 246 #[σ ν 0 0] w λe w'=>∃(v:dY),e=ρ v/\Made w w' v [] :=by
 have hq:=abD
 go_in
 go_wp2
 go_ret;exact⟨_,rfl,⟨Row.nil w 2,λj Z=>mY Z,au _ _⟩⟩
theorem MQ(b off n cap:Nat)(os:List jJ)(w:dX)(hn:n<=1000000)(T:0<n)(Y:jc w (μ ⟨b,off,ν⟩) n os):
 eX eY 246 #[σ (μ ⟨b,off,ν⟩) n cap] w λe w'=>∃(v:dY),e=ρ v/\Made w w' v os:=by
 obtain⟨i0,hi,y,D,A⟩:=aW De;have hq:=not_nil;have S:eB w (w.alloc (γ #[] 276)):=gT _ _;have hl:=Y.1;have M:Row (w.alloc (γ #[] 276)) 2 (σ (μ ⟨w.heap.size,0,ν⟩) 0 0) 0 [] :=Row.made w 2 _ #[] (0,0) 0 0 [] rfl rfl (Nat.le_refl _) ew (.inl rfl) gU
 go_in
 go_wp2_with(at_builtin;go_must(refine iG _ rfl (.tmp 5) (.tmp 6) 35 rfl 276 i0 (.agg #[ι κ 0,ι κ 0]) 2 16 underlying35 hi y D A rfl ew (σ (μ ⟨w.heap.size,0,ν⟩) 0 0) 0 [] rfl M _ n cap (iR os) rfl (by rw[ld];omega) T ((Y.below S).cells T) (Kk _) (by unfold maxLen;omega) dZ ?_));intro g1 CK w1 J U V;have G:=lW S U (λj Z=>kF (Nat.le_refl _) Z);have E:=nU (B:=w.heap.size) V dZ (λj Z=>kF (Nat.le_refl _) Z);clear U V
 go_wp2
 go_ret;refine⟨_,rfl,⟨?_,λj Z=>kF E Z,G⟩⟩;rw[hl];exact J
theorem Qz(a:Option dW)(n cap:Nat)(os:List jJ)(w:dX)(U:n<=1000000)(T:kJ a cap)(Z:jc w a n os):
 eX eY 246 #[σ a n cap] w λe w'=>∃(v:dY),e=ρ v/\Made w w' v os:=by
 rcases Z.2 with V|⟨b,off,rfl,hc⟩
 ·subst V;have Y:os=[] :=aH Z.1;subst Y;cases a with
  |none=>
   obtain rfl:=T rfl;exact Qy w
  |some a=>exact DP a cap w
 ·by_cases S:0<n;{exact MQ b off n cap os w U S Z};{have V:n=0:=dZ;subst V;have Y:os=[] :=aH Z.1;subst Y;exact DP _ cap w}
theorem GX {w1:dX} {x y:dY} (hb:eE (w.alloc (γ #[x,y] t)).heap.size (w.alloc (γ #[x,y] t)) w1):
 w1.cell? ⟨w.heap.size,0,ν⟩=μ x/\w1.cell? ⟨w.heap.size,1,ν⟩=μ y/\w.heap.size<w1.heap.size:=by
 have Z:w.heap.size<(w.alloc (γ #[x,y] t)).heap.size:=gU;have hA:=λj=>aq w #[x,y] t (0,0) j;exact⟨(hb.cell (p:=⟨w.heap.size,0,ν⟩) Z).trans (hA 0),(hb.cell (p:=⟨w.heap.size,1,ν⟩) Z).trans (hA 1),Nat.lt_of_lt_of_le Z hb.size⟩
theorem GY(sz mg:Int)(a:Option dW)(n cap:Nat)(os:List jJ)(w:dX)(y:0<=mg)(T:mg<=255)(S:n<=1000000)(ki:kJ a cap)(M:jc w a n os):
 eX eY 228 #[.agg #[ι κ sz,ι κ mg],σ a n cap] w λe w'=>∃v,e=ρ (τ #[ι κ (l9 mg os).1,v])/\Made w w' v (l9 mg os).2:=by
 have E:eB w (w.alloc (γ #[ι κ sz,ι κ mg] 252)):=gT _ _;have hA:=λj=>aq w #[ι κ sz,ι κ mg] 252 (0,0) j;by_cases J:tL os=[]
 ·have Y:=BM a n cap os _ S (M.below E);rw[J]at Y;by_cases hb:rb mg os=[]
  ·have V:l9 mg os=(2,os):=by simp[l9,J,hb]
   rw[V];clear V
   go_in
   go_wp2_with(fail);refine Y.mono ?_;rintro e w1 ⟨v,rfl,Z⟩;obtain⟨a1,O0,rfl,_,_⟩:=Z.shape;obtain⟨c0,c1,hl⟩:=GX Z.below;have G:=gh E Z.below;have U:=DN sz mg a n cap os w1 y T S (M.below G);rw[hb]at U;simp only[eR];clear Y Z;go_wp2_with(fail);refine U.mono ?_;rintro e w2 ⟨v,rfl,Z⟩;obtain⟨a2,D,rfl,_,_⟩:=Z.shape;have mS:=gh G Z.below;simp only[eR];clear U Z;go_wp2_with(fail);refine(Qz a n cap os w2 S ki (M.below mS)).mono ?_;rintro e w3 ⟨v,rfl,Z⟩
   go_wp2
   go_ret2
   exact⟨_,rfl,Z.from mS⟩
  ·have V:l9 mg os=(3,rb mg os):=by simp[l9,J,hb]
   rw[V];clear V
   go_in
   go_wp2_with(fail);refine Y.mono ?_;rintro e w1 ⟨v,rfl,Z⟩;obtain⟨a1,O0,rfl,_,_⟩:=Z.shape;obtain⟨c0,c1,hl⟩:=GX Z.below;have G:=gh E Z.below;have U:=DN sz mg a n cap os w1 y T S (M.below G);simp only[eR];clear Y Z;go_wp2_with(fail);refine U.mono ?_;rintro e w2 ⟨v,rfl,Z⟩;obtain⟨a2,D,rfl,_,_⟩:=Z.shape;have A:=Z.from G;have qu:(0:Int)<((rb mg os).length:Int):=by
    have:(rb mg os).length≠0:=λh=>hb (aH h);omega
   clear U Z
   go_wp2
   go_ret2
   exact⟨_,rfl,A⟩
 ·have Y:=BM a n cap os _ S (M.below E);have V:l9 mg os=(4,tL os):=by simp[l9,J]
  rw[V];clear V
  go_in
  go_wp2_with(fail);refine Y.mono ?_;rintro e w1 ⟨v,rfl,Z⟩;obtain⟨a1,O0,rfl,_,_⟩:=Z.shape;have A:=Z.from E;have qu:(0:Int)<((tL os).length:Int):=by
   have:(tL os).length≠0:=λh=>J (aH h);omega
  clear Y Z
  go_wp2
  go_ret2
  exact⟨_,rfl,A⟩
structure Mz(w:dX)(B:Nat)(s m:Int):Prop where
 c0:w.cell? ⟨B,0,ν⟩=μ (ι κ s)
 c1:w.cell? ⟨B,1,ν⟩=μ (ι κ m)
 f0:w.frozen? ⟨B,0,ν⟩=false
 f1:w.frozen? ⟨B,1,ν⟩=false
theorem Mz.lt(h:Mz w B s m):B<w.heap.size:=ag w _ h.c0
theorem Mz.below(h:Mz w B s m)(hb:eB w w'):Mz w' B s m:=
 ⟨(hb.cell (p:=⟨B,0,ν⟩) h.lt).trans h.c0,(hb.cell (p:=⟨B,1,ν⟩) h.lt).trans h.c1,
   (aL (a:=⟨B,0,ν⟩) (hb.block B h.lt)).trans h.f0,(aL (a:=⟨B,1,ν⟩) (hb.block B h.lt)).trans h.f1⟩
structure PV where
 code:Int
 id:Int
 a:Option dW
 n:Nat
 cap:Nat
 os:List jJ
def PV.val(p:PV):dY:=σ p.a p.n p.cap
def PV.cells(p:PV):List dY:=[ι κ p.code,ι κ p.id,p.val]
def QB(ps:List PV):List dY:=ps.flatMap PV.cells
theorem TQ(ps:List PV)(p:PV):QB (ps++ [p])=QB ps++ [ι κ p.code,ι κ p.id,p.val] :=by simp[QB,PV.cells]
structure vA(w:dX)(X:Nat->Prop)(v:dY)(p:PV):Prop where
 opt:jc w p.a p.n p.os
 nil:kJ p.a p.cap
 le:p.n<=p.cap
 few:p.n<=1000
 far:∀k,uH p.a p.n=μ k->¬X k/\v.ownBlock≠μ k/\k<w.heap.size
structure LS where
 fs:Int
 fm:Int
 ns:Int
 nm:Int
 qs:Int
 qm:Int
 st:Int
 sz:Int
 lf:Int
 wt:Int
 ow:Int
def LS.c(s:LS)(v:dY):Array dY:=TM s.fs s.fm s.ns s.nm s.qs s.qm s.st s.sz s.lf s.wt s.ow v
structure rH(w:dX)(B:Nat)(X:Nat->Prop)(s:LS)(v:dY)(ps:List PV):Prop where
 lk:Lk w B (s.c v)
 row:Row w 3 v ps.length (QB ps)
 own:∀g,v.ownBlock=μ g->¬X g
 self:X B
 old:∀k,X k->k<w.heap.size
 pk:∀p∈ps,vA w X v p
structure Kept(w w':dX)(B:Nat)(o:Option Nat):Prop where
 os:w'.os=w.os
 tape:w'.tape=w.tape
 output:w'.output=w.output
 size:w.heap.size<=w'.heap.size
 block:∀i,i<w.heap.size->i≠B->o≠μ i->w'.heap[i]? =w.heap[i]?
theorem Kept.refl(w:dX)(B:Nat)(o:Option Nat):Kept w w B o:=⟨rfl,rfl,rfl,Nat.le_refl _,λ_ _ _ _=>rfl⟩
theorem Kept.iT(B:Nat)(o:Option Nat)(h:eB w w'):Kept w w' B o:=⟨h.os,h.tape,h.output,h.size,λi hi _ _=>h.block i hi⟩
theorem Kept.trans {a b c:dX} {B:Nat} {o o':Option Nat} (h:Kept a b B o)(k:Kept b c B o')(Z:∀i,o'=μ i->o=μ i \/a.heap.size<=i):Kept a c B o:=
 ⟨k.os.trans h.os,k.tape.trans h.tape,k.output.trans h.output,Nat.le_trans h.size k.size,λi hi U V=>by
  rw[k.block i (Nat.lt_of_lt_of_le hi h.size) U (λe=>by
   rcases Z i e with Y|Y
   ·exact V Y
   ·omega)]
  exact h.block i hi U V⟩
theorem vA.kept {v':dY} {p:PV} (h:vA w X v p)(S:X B)(k:Kept w w' B v.ownBlock)(hv:∀g,v'.ownBlock=μ g->v.ownBlock=μ g \/w.heap.size<=g):vA w' X v' p:=
 ⟨h.opt.OX (λj U=>by obtain⟨Z,Y,V⟩:=h.far j U;exact k.block j V (λe=>Z (by rw[e];exact S)) Y),h.nil,h.le,h.few,λj U=>by
  obtain⟨Z,Y,V⟩:=h.far j U;refine⟨Z,λe=> ?_,Nat.lt_of_lt_of_le V k.size⟩;rcases hv j e with T|T
  ·exact Y T
  ·omega⟩
theorem rH.below {w w':dX} {B:Nat} {X:Nat->Prop} {s:LS} {v:dY} {ps:List PV} (h:rH w B X s v ps)(hb:eB w w'):rH w' B X s v ps:=
 ⟨h.lk.below hb,h.row.below hb,h.own,h.self,λk Z=>Nat.lt_of_lt_of_le (h.old k Z) hb.size,λp Y=>(h.pk p Y).kept h.self (Kept.iT B _ hb) (λ_ e=>.inl e)⟩
theorem rH.ne {s:LS} {ps:List PV} (h:rH w B X s v ps):v.ownBlock≠μ B:=λe=>h.own B e h.self
theorem XX(h:Lk w B C)(Z:(w.alloc o).drew.grownBy x v.ownBlock)(hv:v.ownBlock≠μ B):Lk x B C:=by
 refine h.keep ?_;rw[Z.block B (by show B<(w.alloc o).heap.size;have:=h.lt;simp;omega) (λe=>hv e.symm)];exact aU w o B h.lt
theorem QC(Z:(w.alloc o).drew.grownBy x v.ownBlock):Kept w x B v.ownBlock:=
 ⟨Z.os,Z.tape,Z.output,Nat.le_trans (by show w.heap.size<=(w.alloc o).heap.size;simp) Z.size,λi hi _ Y=>by
  rw[Z.block i (by show i<(w.alloc o).heap.size;simp;omega) (λe=>Y e.symm)];exact aU w o i hi⟩
theorem kM {o:Option Nat} (h:Kept w x B o)(j:Nat)(v:dY):Kept w (x.setCell ⟨B,j,ν⟩ v) B o:=by
 have b1:eE 0 x (x.setCell ⟨B,j,ν⟩ v):=(au 0 x).setCell (Nat.zero_le _) _;exact⟨b1.os.trans h.os,b1.tape.trans h.tape,b1.output.trans h.output,Nat.le_trans h.size b1.size,λi hi Z Y=>(ak _ _ _ i Z).trans (h.block i hi Z Y)⟩
theorem IX(B:Nat)(X:Nat->Prop)(s:LS)(v:dY)(ps:List PV)(p:PV)(w:dX)(h:rH w B X s v ps)(hp:vA w X v p)(hn:ps.length<=100):
 eX eY 225 #[π (μ ⟨B,0,ν⟩),.agg #[ι κ p.code,ι κ p.id,σ p.a p.n p.cap]] w λe w'=>e=ρ (τ #[])/\∃v',rH w' B X s v' (ps++ [p])/\Kept w w' B v.ownBlock/\(∀g,v'.ownBlock=μ g->v.ownBlock=μ g \/w.heap.size<=g):=by
 obtain⟨i0,hi,og,mZ,mc⟩:=aW TL;have A:=gT w (γ #[ι κ p.code,ι κ p.id,σ p.a p.n p.cap] 37);have G:=h.below A;have hA:=λj=>aq w #[ι κ p.code,ι κ p.id,σ p.a p.n p.cap] 37 (0,0) j;obtain⟨C,hC⟩:=gg (s.c);have qS:∀x,(C x)[11]? =μ x:=by rw[<-hC];intro x;rfl
 have hcs:∀x y,(C x).setIfInBounds 11 y=C y:=by rw[<-hC];intro x y;rfl
 have M:=G.lk;rw[hC]at M;have iV:=G.row;obtain⟨nn,Aq⟩:=gg (ps.length);rw[Aq]at iV hn
 go_in
 go_wp2_with(fail);obtain⟨Z,T⟩:=gg (w.heap.size);obtain⟨Y,S⟩:=gg (w.alloc (γ #[ι κ p.code,ι κ p.id,σ p.a p.n p.cap] 37));have d0:Y.cell? ⟨Z,0,ν⟩=μ (ι κ p.code):=by rw[<-S,<-T];exact hA 0
 have d1:Y.cell? ⟨Z,1,ν⟩=μ (ι κ p.id):=by rw[<-S,<-T];exact hA 1
 have d2:Y.cell? ⟨Z,2,ν⟩=μ (σ p.a p.n p.cap):=by rw[<-S,<-T];exact hA 2
 rw[S]at G A M iV;rw[S,T];have XY:B<Y.heap.size:=M.lt;have J6:Z<Y.heap.size:=ag Y _ d0;have XZ:Y.cell? ⟨B,11,ν⟩=μ v:=(M.cell 11).trans (qS v);have HB:Hid _:=A;have U:Hid _:=h;have HP:Hid _:=hp;have HO:Hid (v.ownBlock≠μ B):=h.ne;have HZ:Hid _:=T;have HC:Hid _:=hC;have HN:Hid _:=Aq;have HL:Hid _:=hcs;have HK:Hid _:=qS;clear hA S T h A hp G hC Aq hcs qS
 go_region_law ((refine lV (by rfl) (.tmp 8) (.tmp 10) 175 (by rfl) 37 i0 (.agg #[ι κ 0,ι κ 0,σ ν 0 0]) 3 40 underlying175 hi og mZ mc (by rfl) ew v nn (QB ps) (by rfl) ((iV.alloc _).drew) _ 1 1 [ι κ p.code,ι κ p.id,σ p.a p.n p.cap] (by rfl) (by rfl) ew (zg _ _ _ _ _ _ rfl) (TN _ _ _ _ _) (by unfold maxLen;omega) dZ ?_;intro V D x1 k8 kD jE;have MR:=XX M kD HO.out;have f11:=MR.frozen 11;have g11:x1.cell? ⟨B,11,ν⟩=μ v:=(MR.cell 11).trans (HK.out v)))
 all_goals
  go_wp2
  first|go_end0|refine iK rfl rfl ?_
  have hgs:V≠B:=by
   rcases jE with hh|hh
   {exact λe=>HO.out (by rw[hh,e])};{have:=M.lt;have h2:Y.heap.size<=V:=Nat.le_trans (by show Y.heap.size<=(Y.alloc _).heap.size;simp) hh;omega}
  have E:=kM ((Kept.iT B v.ownBlock HB.out).trans (QC (B:=B) kD) (λi e=>.inl e)) 11 (σ (μ ⟨V,0,ν⟩) (nn+1) D);have hv:∀g,eh (σ (μ ⟨V,0,ν⟩) (nn+1) D)=μ g->v.ownBlock=μ g \/w.heap.size<=g:=by
   intro g hg;have QD:V=g:=by simpa[eh]using hg
   subst QD;rcases jE with hh|hh
   {exact .inl hh};{right;have h2:Y.heap.size<=V:=Nat.le_trans (by show Y.heap.size<=(Y.alloc _).heap.size;simp) hh;have:=HB.out.size;omega}
  refine⟨rfl,σ (μ ⟨V,0,ν⟩) (nn+1) D,⟨?_,?_,?_,U.out.self,λk hk=>Nat.lt_of_lt_of_le (U.out.old k hk) E.size,?_⟩,E,hv⟩;{have:=MR.set 11 (σ (μ ⟨V,0,ν⟩) (nn+1) D);rw[HL.out]at this;rw[HC.out];exact this}
  ·rw[TQ,az,HN.out];refine k8.keep gU (λk hk=> ?_);have zf:V=k:=by simpa[eh]using hk
   exact ak _ _ _ k (by show k≠B;omega)
  ·intro g hg hx;rcases hv g hg with e|e
   {exact U.out.own g e hx};{have:=U.out.old g hx;omega}
  ·intro q J;rcases av.1 J with J|J
   ·exact(U.out.pk q J).kept U.out.self E hv
   ·have:q=p:=by simpa using J
    subst this;exact HP.out.kept U.out.self E hv
abbrev kN:=Int×Int×List jJ
def PV.abs(p:PV):kN:=(p.code,p.id,p.os)
def LS.asked(s:LS):LS:={s with lf:=s.lf-1,wt:=3,ow:=(s.ow+1) %256}
def pS(c:UInt8)(s:LS):LS:=
 if c=105 then {s with lf:=4}else if c=122 then {s with lf:=0,wt:=3}else if c=114 then({s with qs:=s.ns,qm:=s.nm}:LS).asked else if c=116 then s.asked else s
def Gg(c:UInt8)(s:LS)(zh:kN):List kN:=
 if c=114 then [(1,(s.ow+1) %256,oy s.ns s.nm)]else if c=116 then [(5,(s.ow+1) %256,[])]else if c=97 \/c=110 then [zh]else if c=107 then [(6,zh.2.1,[])]else []
def qI:List UInt8->LS->LS
 |[],s=>s
 |c::r,s=>qI r (pS c s)
def yk:List UInt8->LS->kN->List kN
 |[],_,_=>[]
 |c::r,s,zh=>Gg c s zh++yk r (pS c s) zh
structure Bd(s:LS)(n:Int):Prop where
 o1:0<=s.ow
 o2:s.ow<=255
 l1: -n<=s.lf
 l2:s.lf<=n
theorem Bd.act {s:LS} {n:Int} (h:Bd s n)(hn:4<=n)(c:UInt8):Bd (pS c s) (n+1):=by
 obtain⟨a,b,d,e⟩:=h;unfold pS;split;{exact⟨a,b,by simp;omega,by simp;omega⟩};{split;{exact⟨a,b,by simp;omega,by simp;omega⟩};{split;{exact⟨by simp[LS.asked];omega,by simp[LS.asked];omega,by simp[LS.asked];omega,by simp[LS.asked];omega⟩};{split;{exact⟨by simp[LS.asked];omega,by simp[LS.asked];omega,by simp[LS.asked];omega,by simp[LS.asked];omega⟩};{exact⟨a,b,dZ,dZ⟩}}}}
structure nC(w w':dX)(B:Nat)(X:Nat->Prop)(s':LS)(v:dY)(ps:List PV)(out:List kN):Prop where
 more:∃v' qs,rH w' B X s' v' (ps++qs)/\qs.map PV.abs=out/\(∀g,v'.ownBlock=μ g->v.ownBlock=μ g \/w.heap.size<=g)
 kept:Kept w w' B v.ownBlock
theorem rH.lq {s:LS} {ps:List PV} (h:rH w B X s v ps)(j:Nat)(x:dY)(s':LS)(hs:(s.c v).setIfInBounds j x=s'.c v):rH (w.setCell ⟨B,j,ν⟩ x) B X s' v ps:=by
 have Z:Kept w (w.setCell ⟨B,j,ν⟩ x) B v.ownBlock:=kM (Kept.refl w B _) j x;refine⟨?_,h.row.keep Z.size (λk U=> ?_),h.own,h.self,λk Y=>Nat.lt_of_lt_of_le (h.old k Y) Z.size,λp V=>(h.pk p V).kept h.self Z (λ_ e=>.inl e)⟩;{have:=h.lk.set j x;rw[hs]at this;exact this};{exact ak _ _ _ k (λe=>h.ne (by rw[U];exact congrArg μ e))}
theorem O1(B:Nat)(X:Nat->Prop)(s:LS)(v:dY)(ps:List PV)(code:Int)(a:Option dW)(n cap:Nat)(os:List jJ)(w:dX)(h:rH w B X s v ps)(hb:Bd s 1000)(Y:vA w X v ⟨code,(s.ow+1) %256,a,n,cap,os⟩)(G:ps.length<=100):
 eX eY 223 #[π (μ ⟨B,0,ν⟩),ι κ code,σ a n cap] w λe w'=>e=ρ (τ #[])/\nC w w' B X s.asked v ps [(code,(s.ow+1) %256,os)] :=by
 obtain⟨fs,fm,ns,nm,qs,qm,st,sz,lf,wt,ow⟩:=s;obtain⟨o1,o2,l1,l2⟩:=hb;simp only at o1 o2 l1 l2 Y;have c8:w.cell? ⟨B,8,ν⟩=μ (ι κ lf):=h.lk.cell 8;have c9:w.cell? ⟨B,9,ν⟩=μ (ι κ wt):=h.lk.cell 9;have TR:w.cell? ⟨B,10,ν⟩=μ (ι κ ow):=h.lk.cell 10;have fz:∀j,w.frozen? ⟨B,j,ν⟩=false:=h.lk.frozen;have hl:=h.lk.lt;have T:rH (((w.setCell ⟨B,10,ν⟩ (ι κ ((ow+1) %256))).setCell ⟨B,8,ν⟩ (ι κ (lf-1))).setCell ⟨B,9,ν⟩ (ι κ 3)) B X ⟨fs,fm,ns,nm,qs,qm,st,sz,lf-1,3,(ow+1) %256⟩ v ps:=
  ((h.lq 10 _ ⟨fs,fm,ns,nm,qs,qm,st,sz,lf,wt,(ow+1) %256⟩ rfl).lq 8 _ ⟨fs,fm,ns,nm,qs,qm,st,sz,lf-1,wt,(ow+1) %256⟩ rfl).lq 9 _ _ rfl
 have Z:Kept w (((w.setCell ⟨B,10,ν⟩ (ι κ ((ow+1) %256))).setCell ⟨B,8,ν⟩ (ι κ (lf-1))).setCell ⟨B,9,ν⟩ (ι κ 3)) B v.ownBlock:=kM (kM (kM (Kept.refl w B _) 10 _) 8 _) 9 _;have V:=Y.kept h.self Z (λ_ e=>.inl e);have U:=IX B X _ v ps ⟨code,(ow+1) %256,a,n,cap,os⟩ _ T V G;clear h T Y V
 go_in
 go_wp2_with(fail);refine U.mono ?_;rintro e w1 ⟨rfl,v',M,S,hv⟩;clear U
 go_wp2
 first|go_end0|refine iK rfl rfl ?_
 refine⟨rfl,⟨v',[_],M,rfl,λg J=> ?_⟩,Z.trans S (λi e=>.inl e)⟩;rcases hv g J with e|e
 {exact .inl e};{exact .inr (Nat.le_trans Z.size e)}
theorem nC.from {s':LS} {ps:List PV} {out:List kN} (h:nC x w' B X s' v ps out)(Z:Kept w x B v.ownBlock):nC w w' B X s' v ps out:=by
 obtain⟨⟨v',qs,V,T,hv⟩,Y⟩:=h;refine⟨⟨v',qs,V,T,λg U=> ?_⟩,Z.trans Y (λi e=>.inl e)⟩;rcases hv g U with e|e
 {exact .inl e};{exact .inr (Nat.le_trans Z.size e)}
theorem nC.still {s':LS} {ps:List PV} (h:rH w' B X s' v ps)(Z:Kept w w' B v.ownBlock):nC w w' B X s' v ps [] :=
 ⟨⟨v,[],by rw[aB];exact h,rfl,λ_ e=>.inl e⟩,Z⟩
theorem qT(w:dX)(X:Nat->Prop)(v:dY)(code id:Int):vA w X v ⟨code,id,ν,0,0,[]⟩:=
 ⟨jc.nil w ν,λ_=>rfl,Nat.le_refl _,Nat.zero_le _,λk Z=>by simp[uH]at Z⟩
theorem IY {w0:dX} {l:List jJ} (code id:Int)(Z:Made w0 w u l)(hl:l.length<=1000)(U:∀k,X k->k<w0.heap.size)(hv:∀k,v.ownBlock=μ k->k<w0.heap.size):
 ∃a n cap,u=σ a n cap/\vA w X v ⟨code,id,a,n,cap,l⟩:=by
 obtain⟨a,cap,rfl,S,Y⟩:=Z.shape;refine⟨a,l.length,cap,rfl,Z.opts.2,S,Y,hl,λk T=> ?_⟩;have V:eh (σ a l.length cap)=μ k:=DK T;have h1:=Z.new k V;exact⟨λe=>by have:=U k e;omega,λe=>by have:=hv k e;omega,Z.row.lt k V⟩
theorem GZ(a b:Int):(oy a b).length<=1000:=by
 unfold oy;split<;>split<;>simp
theorem Df(c:UInt8)(B:Nat)(X:Nat->Prop)(s:LS)(v:dY)(ps:List PV)(p:PV)(w:dX)(h:rH w B X s v ps)(hb:Bd s 1000)(T:vA w X v p)(hn:ps.length<=100):
 eX eY 208 #[π (μ ⟨B,0,ν⟩),.int .u8 (c.toNat:Int),.agg #[ι κ p.code,ι κ p.id,σ p.a p.n p.cap]] w λe w'=>e=ρ (τ #[])/\nC w w' B X (pS c s) v ps (Gg c s p.abs):=by
 have Z:=gT w (γ #[ι κ p.code,ι κ p.id,σ p.a p.n p.cap] 37);have hl:=h.lk.lt;have fz:∀j,w.frozen? ⟨B,j,ν⟩=false:=h.lk.frozen;have nb:∀k:UInt8,c≠k->((c.toNat:Int)==(k.toNat:Int))=false:=λk A=>by
  rw[cT];intro e;exact A (UInt8.toNat_inj.mp dZ)
 by_cases c1:c=105
 ·subst c1;have M:Hid (rH (w.setCell ⟨B,8,ν⟩ (ι κ 4)) B X {s with lf:=4} v ps):=h.lq 8 _ _ rfl;have k1:Kept w (w.setCell ⟨B,8,ν⟩ (ι κ 4)) B v.ownBlock:=kM (Kept.refl w B _) 8 _;have d8:w.cell? ⟨B,8,ν⟩=μ (ι κ s.lf):=h.lk.cell 8;have V:((105:UInt8).toNat:Int)=105:=rfl;rw[V];clear h T hb nb Z
  go_in
  go_wp2
  first|go_end0|refine iK rfl rfl ?_
  exact⟨rfl,nC.still (M.out.below (gT _ _)) (k1.trans (Kept.iT B v.ownBlock (gT _ _)) (λi e=>.inl e))⟩
 ·by_cases c2:c=122
  ·subst c2;have M:Hid (rH ((w.setCell ⟨B,8,ν⟩ (ι κ 0)).setCell ⟨B,9,ν⟩ (ι κ 3)) B X {s with lf:=0,wt:=3} v ps):=(h.lq 8 _ {s with lf:=0} rfl).lq 9 _ _ rfl;have k1:Kept w ((w.setCell ⟨B,8,ν⟩ (ι κ 0)).setCell ⟨B,9,ν⟩ (ι κ 3)) B v.ownBlock:=kM (kM (Kept.refl w B _) 8 _) 9 _;have d8:w.cell? ⟨B,8,ν⟩=μ (ι κ s.lf):=h.lk.cell 8;have d9:w.cell? ⟨B,9,ν⟩=μ (ι κ s.wt):=h.lk.cell 9;have V:((122:UInt8).toNat:Int)=122:=rfl;rw[V];clear h T hb nb Z c1
   go_in
   go_wp2
   first|go_end0|refine iK rfl rfl ?_
   exact⟨rfl,nC.still (M.out.below (gT _ _)) (k1.trans (Kept.iT B v.ownBlock (gT _ _)) (λi e=>.inl e))⟩
  ·by_cases c3:c=114
   ·subst c3;have M:Hid (rH ((w.setCell ⟨B,4,ν⟩ (ι κ s.ns)).setCell ⟨B,5,ν⟩ (ι κ s.nm)) B X {s with qs:=s.ns,qm:=s.nm} v ps):=(h.lq 4 _ {s with qs:=s.ns} rfl).lq 5 _ _ rfl;have k1:Kept w ((w.setCell ⟨B,4,ν⟩ (ι κ s.ns)).setCell ⟨B,5,ν⟩ (ι κ s.nm)) B v.ownBlock:=kM (kM (Kept.refl w B _) 4 _) 5 _;have d2:w.cell? ⟨B,2,ν⟩=μ (ι κ s.ns):=h.lk.cell 2;have d3:w.cell? ⟨B,3,ν⟩=μ (ι κ s.nm):=h.lk.cell 3;have d4:w.cell? ⟨B,4,ν⟩=μ (ι κ s.qs):=h.lk.cell 4;have d5:w.cell? ⟨B,5,ν⟩=μ (ι κ s.qm):=h.lk.cell 5;have V:((114:UInt8).toNat:Int)=114:=rfl;have X2:=h.row.lt;have Qs:=h.old;rw[V];clear h T nb Z c1 c2
    go_in
    go_wp2_with(fail);refine(Km s.ns s.nm _).mono ?_;rintro e w1 ⟨u,rfl,hM⟩;have DQ:w.heap.size<=(((w.setCell ⟨B,4,ν⟩ (ι κ s.ns)).setCell ⟨B,5,ν⟩ (ι κ s.nm)).alloc (γ #[ι κ p.code,ι κ p.id,σ p.a p.n p.cap] 37)).heap.size:=gU;obtain⟨a',n',jn,rfl,hP⟩:=IY (X:=X) (v:=v) 1 ((s.ow+1) %256) hM (GZ _ _) (λk A=>Nat.lt_of_lt_of_le (Qs k A) DQ) (λk A=>Nat.lt_of_lt_of_le (X2 k A) DQ);have R2:=(M.out.below (gT _ _)).below hM.below;have K2:=k1.trans (Kept.iT B v.ownBlock (gh (gT _ (γ #[ι κ p.code,ι κ p.id,σ p.a p.n p.cap] 37)) hM.below)) (λi e=>.inl e);have Y:=O1 B X {s with qs:=s.ns,qm:=s.nm} v ps 1 a' n' jn (oy s.ns s.nm) w1 R2 ⟨hb.o1,hb.o2,hb.l1,hb.l2⟩ hP hn;clear M d2 d3 d4 d5 fz hM R2 hP DQ;go_wp2_with(fail);refine Y.mono ?_;rintro e w2 ⟨rfl,hW⟩;clear Y
    go_wp2
    first|go_end0|refine iK rfl rfl ?_
    exact⟨rfl,hW.from K2⟩
   ·by_cases c4:c=116
    ·subst c4;have U:=h.below Z;have Y:=O1 B X s v ps 5 ν 0 0 [] _ U hb (qT _ _ _ _ _) hn;have S:=Kept.iT B v.ownBlock Z;have V:((116:UInt8).toNat:Int)=116:=rfl;rw[V];clear h T nb Z c1 c2 c3 U
     go_in
     go_wp2_with(fail);refine Y.mono ?_;rintro e w2 ⟨rfl,hW⟩;clear Y
     go_wp2
     first|go_end0|refine iK rfl rfl ?_
     exact⟨rfl,hW.from S⟩
    ·by_cases J:c=107
     ·subst J;have U:=h.below Z;have Y:=IX B X s v ps ⟨6,p.id,ν,0,0,[]⟩ _ U (qT _ _ _ _ _) hn;have S:=Kept.iT B v.ownBlock Z;have V:((107:UInt8).toNat:Int)=107:=rfl;have hz:∀w:dX,(zeroValue 37).run eY w=.ok (.agg #[ι κ 0,ι κ 0,σ ν 0 0]) w:=λw=>gS;rw[V];clear h T nb Z c1 c2 c3 c4 U
      go_in
      go_wp2_with(fail);refine Y.mono ?_;rintro e w2 ⟨rfl,v',D,E,hv⟩;clear Y
      go_wp2
      first|go_end0|refine iK rfl rfl ?_
      exact⟨rfl,(show nC _ w2 B X s v ps [(6,p.id,[])]from⟨⟨v',[_],D,rfl,hv⟩,E⟩).from S⟩
     ·have U:=h.below Z;have y:=T.kept h.self (Kept.iT B v.ownBlock Z) (λ_ e=>.inl e);have Y:=IX B X s v ps p _ U y hn;have S:=Kept.iT B v.ownBlock Z;by_cases G:c=97
      ·subst G;have V:((97:UInt8).toNat:Int)=97:=rfl;rw[V];clear h T nb Z c1 c2 c3 c4 J U y
       go_in
       go_wp2_with(fail);refine Y.mono ?_;rintro e w2 ⟨rfl,v',D,E,hv⟩;clear Y
       go_wp2
       first|go_end0|refine iK rfl rfl ?_
       exact⟨rfl,(show nC _ w2 B X s v ps [p.abs]from⟨⟨v',[_],D,rfl,hv⟩,E⟩).from S⟩
      ·by_cases c7:c=110
       ·subst c7;have V:((110:UInt8).toNat:Int)=110:=rfl;rw[V];clear h T nb Z c1 c2 c3 c4 J G U y
        go_in
        go_wp2_with(fail);refine Y.mono ?_;rintro e w2 ⟨rfl,v',D,E,hv⟩;clear Y
        go_wp2
        first|go_end0|refine iK rfl rfl ?_
        exact⟨rfl,(show nC _ w2 B X s v ps [p.abs]from⟨⟨v',[_],D,rfl,hv⟩,E⟩).from S⟩
       ·have hS:pS c s=s:=by simp[pS,c1,c2,c3,c4]
        have hO:Gg c s p.abs=[] :=by simp[Gg,c3,c4,J,G,c7]
        have q1:((c.toNat:Int)==105)=false:=nb 105 c1;have q2:((c.toNat:Int)==122)=false:=nb 122 c2;have q3:((c.toNat:Int)==114)=false:=nb 114 c3;have q4:((c.toNat:Int)==116)=false:=nb 116 c4;have q5:((c.toNat:Int)==107)=false:=nb 107 J;have q6:((c.toNat:Int)==97)=false:=nb 97 G;have q7:((c.toNat:Int)==110)=false:=nb 110 c7;rw[hS,hO];have HR:Hid _:=U;clear h T nb Z c1 c2 c3 c4 J G c7 U y Y hS hO
        go_in
        go_wp2
        first|go_end0|refine iK rfl rfl ?_
        exact⟨rfl,nC.still HR.out S⟩
def LS.next(s:LS)(nx:Int):LS:=if nx<=3 then {s with st:=nx,ns:=s.fs,nm:=s.fm,sz:=255}else {s with st:=nx}
theorem Kept.tab {o:Option Nat} (k:Kept w w' B o)(h:jf w)(hB:B≠0)(Y:o≠μ 0):jf w':=λe s Z hs=>
 (aj (a:=⟨0,e*10+s,ν⟩) (k.block 0 h.lt dZ Y)).trans (h e s Z hs)
theorem O2(B:Nat)(X:Nat->Prop)(s:LS)(v:dY)(ps:List PV)(p:PV)(ev:Int)(D:List UInt8)(nx:Int)(f:Nat)(w:dX)(Y:jf w)(h:rH w B X s v ps)(T:jh s.st ev=(D,nx,f))(hf:f≠0):
 eX eY 171 #[π (μ ⟨B,0,ν⟩),ι κ ev,.agg #[ι κ p.code,ι κ p.id,σ p.a p.n p.cap]] w λe w'=>e=ρ (.iface 128 (ι κ (f:Int)))/\eB w w':=by
 have V:=gT w (γ #[ι κ p.code,ι κ p.id,σ p.a p.n p.cap] 37);have U:=IU s.st ev D nx f T _ (Y.below V);have Z:ji f=.iface 128 (ι κ (f:Int)):=by simp[ji,hf]
 rw[Z]at U;have hl:=h.lk.lt;have c6:w.cell? ⟨B,6,ν⟩=μ (ι κ s.st):=h.lk.cell 6;clear h Y Z
 go_in
 go_wp2_with(fail);refine U.mono ?_;rintro e w1 ⟨rfl,m1,rfl⟩
 go_wp2
 go_ret;exact⟨rfl,below_drewN V _⟩
structure QE(w wr:dX)(B:Nat)(X:Nat->Prop)(Z:Nat)(v:dY)(ps:List PV)(p:PV)(S:ByteArray)(k:Nat)(sF:LS)(oF:List kN)(sk:LS)(vk:dY)(qs:List PV):Prop where
 rep:rH wr B X sk vk (ps++qs)
 bd:Bd sk (100+k)
 fin:qI (S.data.toList.drop k) sk=sF
 out:qs.map PV.abs++yk (S.data.toList.drop k) sk p.abs=oF
 zh:vA wr X vk p
 kept:Kept w wr B v.ownBlock
 hv:∀g,vk.ownBlock=μ g->v.ownBlock=μ g \/w.heap.size<=g
 d0:wr.cell? ⟨Z,0,ν⟩=μ (ι κ p.code)
 d1:wr.cell? ⟨Z,1,ν⟩=μ (ι κ p.id)
 d2:wr.cell? ⟨Z,2,ν⟩=μ (σ p.a p.n p.cap)
 nz:vk.ownBlock≠μ Z
 few:qs.length<=k
theorem Kq(c:UInt8)(s:LS)(a:kN):(Gg c s a).length<=1:=by
 unfold Gg;split;{simp};{split;{simp};{split;{simp};{split<;>simp}}}
theorem Kr {V:dX} {Z:Nat} {ps:List PV} {p:PV} {S:ByteArray} {sF:LS} {oF:List kN} {sk:LS} {vk:dY} {qs:List PV} {c:UInt8} {r:List UInt8}
 (Y:QE w wr B X Z v ps p S k sF oF sk vk qs) (G:S.data.toList.drop k=c::r) (hW:nC wr.drew V B X (pS c sk) vk (ps++qs) (Gg c sk p.abs)) (X3:eB wr wr.drew):
 ∃v2 q2,QE w V B X Z v ps p S (k+1) sF oF (pS c sk) v2 q2:=by
 obtain⟨⟨v2,q2,hR,y,hv⟩,hK⟩:=hW;have h:S.data.toList.drop (k+1)=r:=by
  have:=congrArg (List.drop 1) G;simpa using this
 have M:Kept wr V B vk.ownBlock:=(Kept.iT B vk.ownBlock X3).trans hK (λi e=>.inl e);have T:∀j,V.cell? ⟨Z,j,ν⟩=wr.cell? ⟨Z,j,ν⟩:=λj=>aj (a:=⟨Z,j,ν⟩) (M.block Z (ag wr _ Y.d0) (λe=>by
  subst e;have U:=Y.d0;have D:=Y.d1;have J:=Y.d2;have A:wr.cell? ⟨Z,2,ν⟩=μ (ι κ sk.ns):=Y.rep.lk.cell 2;rw[J]at A;simp at A) Y.nz)
 have rS:wr.drew.heap.size=wr.heap.size:=rfl;refine⟨v2,qs++q2,by rw[<-aD];exact hR,?_,?_,?_,?_,?_,?_,(T 0).trans Y.d0,(T 1).trans Y.d1,(T 2).trans Y.d2,?_,?_⟩;{have:=Bd.act Y.bd dZ c;exact⟨this.o1,this.o2,by have:=this.l1;push_cast;omega,by have:=this.l2;push_cast;omega⟩};{rw[h,<-Y.fin,G];rfl};{rw[h,<-Y.out,G,cU,y,aD];rfl};{exact Y.zh.kept Y.rep.self M (λg E=>hv g E)}
 ·refine Y.kept.trans M (λi e=> ?_);rcases Y.hv i e with U|U
  {exact .inl U};{exact .inr U}
 ·intro g E;rcases hv g E with U|U
  {exact Y.hv g U};{exact .inr (Nat.le_trans Y.kept.size U)}
 ·intro e;rcases hv Z e with U|U
  {exact Y.nz U};{have J:Z<wr.heap.size:=ag wr _ Y.d0;have D:wr.heap.size<=Z:=U;omega}
 ·rw[az];have U:q2.length=(Gg c sk p.abs).length:=by rw[<-y];simp
  have D:=Kq c sk p.abs;have J:=Y.few;omega
theorem TS(B:Nat)(X:Nat->Prop)(s:LS)(v:dY)(ps:List PV)(p:PV)(ev:Int)(S:ByteArray)(nx:Int)(w:dX)(hT:jf w)(h:rH w B X s v ps)(hb:Bd s 100)(hp:vA w X v p)(hn:ps.length<=50)(hR:jh s.st ev=(S.data.toList,nx,0))(hS:S.size<=4):
 eX eY 171 #[π (μ ⟨B,0,ν⟩),ι κ ev,.agg #[ι κ p.code,ι κ p.id,σ p.a p.n p.cap]] w λe w'=>e=ρ η/\nC w w' B X (qI S.data.toList (s.next nx)) v ps (yk S.data.toList (s.next nx) p.abs):=by
 have y:=gT w (γ #[ι κ p.code,ι κ p.id,σ p.a p.n p.cap] 37);have hA:=λj=>aq w #[ι κ p.code,ι κ p.id,σ p.a p.n p.cap] 37 (0,0) j;have kd:=IU s.st ev S.data.toList nx 0 hR _ (hT.below y);have e0:ji 0=η:=rfl;have eS:(⟨S.data.toList.toArray⟩:ByteArray)=S:=gU;rw[e0,eS]at kd;have hl:=h.lk.lt;have X2:=h.row.lt;have c6:w.cell? ⟨B,6,ν⟩=μ (ι κ s.st):=h.lk.cell 6;have h0:=h.below y;have hp0:=hp.kept h.self (Kept.iT B v.ownBlock y) (λ_ e=>.inl e);obtain⟨M,hsF⟩:=gg (qI S.data.toList (s.next nx));obtain⟨J,hoF⟩:=gg (yk S.data.toList (s.next nx) p.abs);rw[hsF,hoF];have HsF:Hid _:=hsF;have HoF:Hid _:=hoF;clear hsF hoF
 go_in
 go_wp2_with(fail);refine kd.mono ?_;rintro e w1 ⟨rfl,m1,rfl⟩;obtain⟨U,j6⟩:=gg ((w.alloc (γ #[ι κ p.code,ι κ p.id,σ p.a p.n p.cap] 37)).drewN m1);obtain⟨Z,hZ⟩:=gg (w.heap.size);have d0:U.cell? ⟨Z,0,ν⟩=μ (ι κ p.code):=by rw[<-j6,<-hZ];exact hA 0
 have d1:U.cell? ⟨Z,1,ν⟩=μ (ι κ p.id):=by rw[<-j6,<-hZ];exact hA 1
 have d2:U.cell? ⟨Z,2,ν⟩=μ (σ p.a p.n p.cap):=by rw[<-j6,<-hZ];exact hA 2
 have kE:eB w U:=by rw[<-j6];exact below_drewN y m1
 have T:rH U B X s v ps:=h.below kE;have CM:vA U X v p:=hp.kept h.self (Kept.iT B v.ownBlock kE) (λ_ e=>.inl e);have Xr:=Kept.iT B v.ownBlock kE;rw[j6,hZ];have ym:B≠Z:=dZ;have hnz:v.ownBlock≠μ Z:=λe=>by have:=X2 Z e;omega
 clear kd j6 hZ hA h0 y h c6 hl e0 eS hT hp hp0 kE X2;have XY:=T.lk.lt;have c0:U.cell? ⟨B,0,ν⟩=μ (ι κ s.fs):=T.lk.cell 0;have c1:U.cell? ⟨B,1,ν⟩=μ (ι κ s.fm):=T.lk.cell 1;have c2:U.cell? ⟨B,2,ν⟩=μ (ι κ s.ns):=T.lk.cell 2;have c3:U.cell? ⟨B,3,ν⟩=μ (ι κ s.nm):=T.lk.cell 3;have c6:U.cell? ⟨B,6,ν⟩=μ (ι κ s.st):=T.lk.cell 6;have c7:U.cell? ⟨B,7,ν⟩=μ (ι κ s.sz):=T.lk.cell 7;have fz:∀j,U.frozen? ⟨B,j,ν⟩=false:=T.lk.frozen;have tail:∀(D:dX) (s2:LS),rH D B X s2 v ps->Kept U D B v.ownBlock->s.next nx=s2->Bd s2 100->QE w D B X Z v ps p S 0 M J s2 v [] :=by
  intro D s2 FX Gh hs2 mS;have DR:∀j,D.cell? ⟨Z,j,ν⟩=U.cell? ⟨Z,j,ν⟩:=λj=>aj (a:=⟨Z,j,ν⟩) (Gh.block Z (ag U _ d0) (λe=>ym e.symm) hnz);exact⟨by rw[aB];exact FX,⟨mS.o1,mS.o2,by have:=mS.l1;omega,by have:=mS.l2;omega⟩,by rw[<-HsF.out,hs2];rfl,by rw[<-HoF.out,hs2];rfl,CM.kept T.self Gh (λ_ e=>.inl e),Xr.trans Gh (λi e=>.inl e),λ_ e=>.inl e,(DR 0).trans d0,(DR 1).trans d1,(DR 2).trans d2,hnz,Nat.le_refl _⟩
 have HT:Hid _:=tail;clear tail;clear HsF HoF;by_cases hx:nx<=3
 ·have M0:Hid (QE w ((((U.setCell ⟨B,6,ν⟩ (ι κ nx)).setCell ⟨B,2,ν⟩ (ι κ s.fs)).setCell ⟨B,3,ν⟩ (ι κ s.fm)).setCell ⟨B,7,ν⟩ (ι κ 255)) B X Z v ps p S 0 M J {s with st:=nx,ns:=s.fs,nm:=s.fm,sz:=255} v []):=
   HT.out _ _ ((((T.lq 6 _ {s with st:=nx} rfl).lq 2 _ {s with st:=nx,ns:=s.fs} rfl).lq 3 _ {s with st:=nx,ns:=s.fs,nm:=s.fm} rfl).lq 7 _ _ rfl) (kM (kM (kM (kM (Kept.refl _ B _) 6 _) 2 _) 3 _) 7 _) (by simp[LS.next,hx]) ⟨hb.o1,hb.o2,hb.l1,hb.l2⟩
  clear HT T Xr CM;go_wp2_with(fail);obtain⟨D,nr⟩:=gg (((((U.setCell ⟨B,6,ν⟩ (ι κ nx)).setCell ⟨B,2,ν⟩ (ι κ s.fs)).setCell ⟨B,3,ν⟩ (ι κ s.fm)).setCell ⟨B,7,ν⟩ (ι κ 255)));have M1:Hid (QE w D B X Z v ps p S 0 M J {s with st:=nx,ns:=s.fs,nm:=s.fm,sz:=255} v []):=by show QE _ _ _ _ _ _ _ _ _ _ _ _ _ _ _;rw[<-nr];exact M0.out
  rw[nr];clear M0 nr d0 d1 d2 c0 c1 c2 c3 c6 c7 fz
  go_loopw [42] (λi wr=>∃(k:Nat) (G:LS) (E:dY) (qs:List PV),k<=S.size/\i=ι κ k/\QE w wr B X Z v ps p S k M J G E qs) (λi _=>S.size-(eZ i).toNat)
  case atStart=>exact⟨0,_,v,[],Nat.zero_le _,rfl,M1.out⟩
  case round=>
   obtain⟨k,G,E,qs,y,rfl,Y⟩:=hrel;by_cases kA:k<S.size
   ·have nL:(k:Int)<(S.size:Int):=dZ;have Gi:(0:Int)<=(k:Int):=dZ;have HD:Hid (S.data.toList.drop k=S[k] ::S.data.toList.drop (k+1)):=by
     show _=_;rw[aR (by simpa using kA)];rfl
    obtain⟨x0,x1,x2⟩:=e7 Y.d0 (e7 Y.d1 Y.d2);have xl:Z<wr.heap.size:=ag wr _ x0;have A:eB wr wr.drew:=jD (au _ _);have HC:=Df S[k] B X G E (ps++qs) p wr.drew (Y.rep.below A) ⟨Y.bd.o1,Y.bd.o2,by have:=Y.bd.l1;omega,by have:=Y.bd.l2;omega⟩ (Y.zh.kept Y.rep.self (Kept.iT B E.ownBlock A) (λ_ e=>.inl e)) (by rw[az];have:=Y.few;omega)
    go_wp2
    go_region_with(go_at_call 208;refine HC.mono ?_;rintro e V ⟨rfl,hW⟩)
    all_goals
     have M2:Hid (∃v2 q2,QE w V B X Z v ps p S (k+1) M J (pS S[k] G) v2 q2):=Kr Y HD.out hW A;clear HC
     go_wp2
     go_roundw
     case rel=>
      obtain⟨v2,q2,tZ⟩:=M2.out;exact⟨k+1,_,v2,q2,dZ,by go_num,tZ⟩
     case measure=>simp[eZ];omega
   ·have G0:S.data.toList.drop k=[] :=a8 (by
     have:S.data.toList.length=S.size:=gU;omega)
    have HF:Hid (nC w wr B X M v ps J):=by
     have T:=Y.fin;have h2:=Y.out;rw[G0]at T h2;have h3:G=M:=T;subst h3;refine⟨⟨E,qs,Y.rep,by simpa[yk]using h2,Y.hv⟩,Y.kept⟩
    clear Y G0
    go_wp2
    go_ret;exact⟨rfl,HF.out⟩
 ·have M0:Hid (QE w (U.setCell ⟨B,6,ν⟩ (ι κ nx)) B X Z v ps p S 0 M J {s with st:=nx} v []):=
   HT.out _ _ (T.lq 6 _ _ rfl) (kM (Kept.refl _ B _) 6 _) (by simp[LS.next,hx]) ⟨hb.o1,hb.o2,hb.l1,hb.l2⟩
  clear HT T Xr CM;go_wp2_with(fail);obtain⟨D,nr⟩:=gg ((U.setCell ⟨B,6,ν⟩ (ι κ nx)));have M1:Hid (QE w D B X Z v ps p S 0 M J {s with st:=nx} v []):=by show QE _ _ _ _ _ _ _ _ _ _ _ _ _ _ _;rw[<-nr];exact M0.out
  rw[nr];clear M0 nr d0 d1 d2 c0 c1 c2 c3 c6 c7 fz
  go_loopw [42] (λi wr=>∃(k:Nat) (G:LS) (E:dY) (qs:List PV),k<=S.size/\i=ι κ k/\QE w wr B X Z v ps p S k M J G E qs) (λi _=>S.size-(eZ i).toNat)
  case atStart=>exact⟨0,_,v,[],Nat.zero_le _,rfl,M1.out⟩
  case round=>
   obtain⟨k,G,E,qs,y,rfl,Y⟩:=hrel;by_cases kA:k<S.size
   ·have nL:(k:Int)<(S.size:Int):=dZ;have Gi:(0:Int)<=(k:Int):=dZ;have HD:Hid (S.data.toList.drop k=S[k] ::S.data.toList.drop (k+1)):=by
     show _=_;rw[aR (by simpa using kA)];rfl
    obtain⟨x0,x1,x2⟩:=e7 Y.d0 (e7 Y.d1 Y.d2);have xl:Z<wr.heap.size:=ag wr _ x0;have A:eB wr wr.drew:=jD (au _ _);have HC:=Df S[k] B X G E (ps++qs) p wr.drew (Y.rep.below A) ⟨Y.bd.o1,Y.bd.o2,by have:=Y.bd.l1;omega,by have:=Y.bd.l2;omega⟩ (Y.zh.kept Y.rep.self (Kept.iT B E.ownBlock A) (λ_ e=>.inl e)) (by rw[az];have:=Y.few;omega)
    go_wp2
    go_region_with(go_at_call 208;refine HC.mono ?_;rintro e V ⟨rfl,hW⟩)
    all_goals
     have M2:Hid (∃v2 q2,QE w V B X Z v ps p S (k+1) M J (pS S[k] G) v2 q2):=Kr Y HD.out hW A;clear HC
     go_wp2
     go_roundw
     case rel=>
      obtain⟨v2,q2,tZ⟩:=M2.out;exact⟨k+1,_,v2,q2,dZ,by go_num,tZ⟩
     case measure=>simp[eZ];omega
   ·have G0:S.data.toList.drop k=[] :=a8 (by
     have:S.data.toList.length=S.size:=gU;omega)
    have HF:Hid (nC w wr B X M v ps J):=by
     have T:=Y.fin;have h2:=Y.out;rw[G0]at T h2;have h3:G=M:=T;subst h3;refine⟨⟨E,qs,Y.rep,by simpa[yk]using h2,Y.hv⟩,Y.kept⟩
    clear Y G0
    go_wp2
    go_ret;exact⟨rfl,HF.out⟩
theorem Mz.set(h:Mz w B s m)(s' m':Int):Mz ((w.setCell ⟨B,0,ν⟩ (ι κ s')).setCell ⟨B,1,ν⟩ (ι κ m')) B s' m':=by
 refine⟨?_,?_,?_,?_⟩;{exact(aX _ ⟨B,1,ν⟩ ⟨B,0,ν⟩ _ gU).trans (dy _ _ _ (by rw[h.c0];rfl))};{exact dy _ _ _ (by rw[aX _ ⟨B,0,ν⟩ ⟨B,1,ν⟩ _ gU,h.c1];rfl)};{simp[h.f0]};{simp[h.f1]}
theorem Mz.other(h:Mz w B s m)(Z:B'≠B)(x y:dY):Mz ((w.setCell ⟨B',0,ν⟩ x).setCell ⟨B',1,ν⟩ y) B s m:=by
 refine⟨?_,?_,?_,?_⟩;{rw[aM _ _ _ _ Z,aM _ _ _ _ Z];exact h.c0};{rw[aM _ _ _ _ Z,aM _ _ _ _ Z];exact h.c1};{simp[h.f0]};{simp[h.f1]}
theorem TU(sz mg code:Int)(a:Option dW)(n cap:Nat)(os:List jJ)(w:dX)(hn:n<=1000000)(y:jc w a n os):
 eX eY 231 #[.agg #[ι κ sz,ι κ mg],ι κ code,σ a n cap] w λe w'=>
  e=ρ (.agg #[ι κ (oY code os (sz,mg)).1,ι κ (oY code os (sz,mg)).2])/\eB w w':=by
 have hz:=ze;have P0:Mz ((w.alloc (γ #[ι κ sz,ι κ mg] 252)).alloc (γ #[ι κ 0,ι κ 0] 252)) w.heap.size sz mg:=by
  have hA:=λj=>aq w #[ι κ sz,ι κ mg] 252 (0,0) j;have hF:=λj=>cW w #[ι κ sz,ι κ mg] 252 0 0 j;exact Mz.below ⟨hA 0,hA 1,by rw[hF];rfl,by rw[hF];rfl⟩ (gT _ _)
 have P1:Mz ((w.alloc (γ #[ι κ sz,ι κ mg] 252)).alloc (γ #[ι κ 0,ι κ 0] 252)) (w.heap.size+1) 0 0:=by
  have hA:=λj=>aq (w.alloc (γ #[ι κ sz,ι κ mg] 252)) #[ι κ 0,ι κ 0] 252 (0,0) j;have hF:=λj=>cW (w.alloc (γ #[ι κ sz,ι κ mg] 252)) #[ι κ 0,ι κ 0] 252 0 0 j;have e:(w.alloc (γ #[ι κ sz,ι κ mg] 252)).heap.size=w.heap.size+1:=gU;rw[e]at hA hF;exact⟨hA 0,hA 1,by rw[hF];rfl,by rw[hF];rfl⟩
 have qy:eB w ((w.alloc (γ #[ι κ sz,ι κ mg] 252)).alloc (γ #[ι κ 0,ι κ 0] 252)):=(gT _ _).alloc gU _
 go_in
 go_wp2
 go_loopw [11] (λi wr=>∃(k:Nat) (s m:Int),k<=n/\i=ι κ k/\oY code os (sz,mg)=oY code (os.drop k) (s,m)/\Mz wr w.heap.size s m/\Mz wr (w.heap.size+1) 0 0/\eB w wr) (λi _=>n-(eZ i).toNat)
 case atStart=>exact⟨0,sz,mg,Nat.zero_le _,rfl,rfl,P0,P1,qy⟩
 case round=>
  obtain⟨k,s,m,hk,rfl,Tr,hP,G,h⟩:=hrel;have D:Hid _:=Tr;clear Tr P0 P1;have S:=hP;have Q1:=G;obtain⟨c0,c1,f0,f1⟩:=hP;obtain⟨d0,d1,g0,g1⟩:=G;have vQ:w.heap.size<wr.heap.size:=ag wr _ c0;have IV:w.heap.size+1<wr.heap.size:=ag wr _ d0;by_cases kA:k<n
  ·have Ap:=y.below h;rcases Ap.2 with h0|⟨b,off,rfl,hc⟩
   ·omega
   have qG:k<os.length:=by rw[y.1];exact kA
   obtain⟨e1,e2⟩:=hc k qG;have HD:Hid (os.drop k=os[k] ::os.drop (k+1)):=aR qG;generalize os[k] =o at e1 e2 HD;clear hc;have nL:(k:Int)<(n:Int):=dZ;have U:oY code os (sz,mg)=oY code (os.drop (k+1)) (j7 code (s,m) o):=by rw[D.out,HD.out];rfl
   have Y:=gT wr (γ #[ι κ o.1,ι κ o.2] 276);have kE:=gh h Y;cases q4:(code==4)
   ·cases q3:(code==3)
    ·have hv:j7 code (s,m) o=(s,m):=by simp at q3 q4;simp[j7,q3,q4]
     rw[hv]at U;have V:Hid _:=U;clear U hv
     go_wp2
     go_roundw
     case rel=>exact⟨k+1,s,m,dZ,by go_num,V.out,S.below Y,Q1.below Y,kE⟩
     case measure=>simp[eZ];omega
    ·have T:code=3:=by simpa using q3
     have V:Hid (oY code os (sz,mg)=oY code (os.drop (k+1)) ((j7 3 (s,m) o).1,(j7 3 (s,m) o).2)):=by
      show _=_;rw[U,T]
     clear U T;go_wp2_with(fail);refine(TP s m o.1 o.2 _).mono ?_;rintro e w1 ⟨rfl,Z⟩;have mS:=gh kE Z;obtain⟨c0,c1,f0,f1⟩:=(S.below Y).below Z;obtain⟨d0,d1,g0,g1⟩:=(Q1.below Y).below Z;have vQ:w.heap.size<w1.heap.size:=ag w1 _ c0;have A:=(((S.below Y).below Z).set (j7 3 (s,m) (o.1,o.2)).1 (j7 3 (s,m) (o.1,o.2)).2)
     have M:=(((Q1.below Y).below Z).other (B':=w.heap.size) dZ (ι κ (j7 3 (s,m) (o.1,o.2)).1) (ι κ (j7 3 (s,m) (o.1,o.2)).2))
     have E:eB w ((w1.setCell ⟨w.heap.size,0,ν⟩ (ι κ (j7 3 (s,m) (o.1,o.2)).1)).setCell ⟨w.heap.size,1,ν⟩ (ι κ (j7 3 (s,m) (o.1,o.2)).2)):=(mS.setCell (Nat.le_refl _) _).setCell (Nat.le_refl _) _
     go_wp2
     go_roundw
     case rel=>exact⟨k+1,_,_,dZ,by go_num,V.out,A,M,E⟩
     case measure=>simp[eZ];omega
   ·have T:code=4:=by simpa using q4
    have J:j7 4 (s,m) o=j7 4 (s,m) (o.1,0):=by simp[j7]
    have V:Hid (oY code os (sz,mg)=oY code (os.drop (k+1)) ((j7 4 (s,m) (o.1,0)).1,(j7 4 (s,m) (o.1,0)).2)):=by
     show _=_;rw[U,T,J]
    clear U T J;go_wp2_with(fail);refine(Kn s m o.1 _).mono ?_;rintro e w1 ⟨rfl,Z⟩;have mS:=gh kE Z;obtain⟨c0,c1,f0,f1⟩:=(S.below Y).below Z;obtain⟨d0,d1,g0,g1⟩:=(Q1.below Y).below Z;have vQ:w.heap.size<w1.heap.size:=ag w1 _ c0;have A:=(((S.below Y).below Z).set (j7 4 (s,m) (o.1,0)).1 (j7 4 (s,m) (o.1,0)).2)
    have M:=(((Q1.below Y).below Z).other (B':=w.heap.size) dZ (ι κ (j7 4 (s,m) (o.1,0)).1) (ι κ (j7 4 (s,m) (o.1,0)).2))
    have E:eB w ((w1.setCell ⟨w.heap.size,0,ν⟩ (ι κ (j7 4 (s,m) (o.1,0)).1)).setCell ⟨w.heap.size,1,ν⟩ (ι κ (j7 4 (s,m) (o.1,0)).2)):=(mS.setCell (Nat.le_refl _) _).setCell (Nat.le_refl _) _
    go_wp2
    go_roundw
    case rel=>exact⟨k+1,_,_,dZ,by go_num,V.out,A,M,E⟩
    case measure=>simp[eZ];omega
  ·have G0:os.drop k=[] :=a8 (by rw[y.1];omega);have V:Hid (oY code os (sz,mg)=(s,m)):=by
    show _=_;rw[D.out,G0];rfl
   clear D G0;have E:eB w ((wr.setCell ⟨w.heap.size+1,0,ν⟩ (ι κ s)).setCell ⟨w.heap.size+1,1,ν⟩ (ι κ m)):=(h.setCell gU _).setCell gU _;have M:=Q1.set s m;go_wp2_with(fail);rw[V.out];obtain⟨r0,r1,_,_⟩:=M;refine aE (v:=.agg #[ι κ s,ι κ m]) (by simp[results,results231,go_sem,r0,r1]) rfl ?_;exact⟨rfl,E⟩
end Go.Proofs.YtieklnlbljejdaaGreatDoor
namespace Go.Proofs.YtieklnlbljejdaaGreatDoor.Plain
open Go.RowKit
theorem vR(a b:Nat)(Z:a<65536)(hb:b<65536):bits .xor .i64 (a:Int) (b:Int)=((a^^^b:Nat):Int):=by
 have h:a^^^b<65536:=Nat.xor_lt_two_pow (n:=16) Z hb;have e:∀n:Nat,n<65536->(fa 64 (n:Int)).toNat=n:=by
  intro n hn;rw[BitVec.toNat_ofInt];simp;omega
 have Y:(fa 64 (a:Int) ^^^fa 64 (b:Int)).toNat=a^^^b:=by
  rw[BitVec.toNat_xor,e a Z,e b hb]
 show IntKind.i64.wrap ((fa 64 (a:Int) ^^^fa 64 (b:Int)).toNat:Int)=_;rw[Y,dB];omega
def turn(x:Nat):Nat:=if x%2=1 then x/2^^^33800 else x/2
def turns:Nat->Nat->Nat
 |0,x=>x
 |n+1,x=>turns n (turn x)
def IZ(x:Nat)(c:UInt8):Nat:=turns 8 (x^^^c.toNat)
def reg(l:List UInt8):Nat:=l.foldl IZ 65535
def sum(l:List UInt8):Nat:=reg l^^^65535
theorem I0(a b:Nat)(Z:a<65536)(hb:b<65536):a^^^b<65536:=Nat.xor_lt_two_pow (n:=16) Z hb
theorem TV(c:UInt8):c.toNat<65536:=by have:=c.toNat_lt;omega
theorem X4(x:Nat)(h:x<65536):turn x<65536:=by
 unfold turn;split;{exact I0 _ _ dZ dZ};{omega}
theorem DS:∀n x,x<65536->turns n x<65536
 |0,_,h=>h
 |n+1,x,h=>DS n _ (X4 x h)
theorem DT:∀n x,turns (n+1) x=turn (turns n x)
 |0,_=>rfl
 |n+1,x=>by rw[turns,DT n (turn x)];rfl
theorem QF(x:Nat)(c:UInt8)(h:x<65536):IZ x c<65536:=DS 8 _ (I0 _ _ h (TV c))
theorem Kt:∀(l:List UInt8) x,x<65536->l.foldl IZ x<65536
 |[],_,h=>h
 |c::l,x,h=>Kt l _ (QF x c h)
theorem I1(l:List UInt8):reg l<65536:=Kt l _ dZ
theorem MS(l:List UInt8):sum l<65536:=I0 _ _ (I1 l) dZ
theorem TW(l:List UInt8)(c:UInt8):reg (l++ [c])=IZ (reg l) c:=by simp[reg]
end Go.Proofs.YtieklnlbljejdaaGreatDoor.Plain
namespace Go.Proofs.YtieklnlbljejdaaGreatDoor
open Go.RowKit Plain
theorem X5 {k:IntKind} {a b:Int} (h:a=b):Ending.returned (.int k a)=ρ (.int k b):=by rw[h]
theorem G4(s:ByteArray)(k:Nat)(h:k<s.size):s.data.toList.take (k+1)=s.data.toList.take k++ [s[k]] :=by
 rw[aA (by simpa using h)];rfl
theorem TX(x:Nat)(h:x<65536)(h1:(x:Int) %2=1):bits .xor .i64 ((x:Int)/2) 33800=(turn x:Int):=by
 have e:=vR (x/2) 33800 dZ dZ;have:x%2=1:=dZ;simp only[turn,this,if_true];rw[<-e];simp
theorem QG(x:Nat)(h1:¬(x:Int) %2=1):(x:Int)/2=(turn x:Int):=by
 have:¬x%2=1:=dZ;simp[turn,this]
theorem O3(s:ByteArray)(w:dX)(hs:s.size<=maxLen):
 eX eY 210 #[.string s] w λe w'=>e=ρ (ι κ (Plain.sum s.data.toList:Nat))/\w=w':=by
 unfold maxLen at hs
 go_in
 go_wp2
 go_loop [3,8] (λx i=>∃k:Nat,k<=s.size/\i=ι κ k/\x=ι κ (reg (s.data.toList.take k):Nat)) (λ_ i=>s.size-(eZ i).toNat)
 case atStart=>exact⟨0,Nat.zero_le _,rfl,rfl⟩
 case round=>
  obtain⟨k,hk,rfl,rfl⟩:=hrel;by_cases E:k<s.size
  ·have U:=G4 s k E;have V:Hid (reg (s.data.toList.take (k+1))=turns 8 (reg (s.data.toList.take k) ^^^s[k].toNat)):=by rw[U,TW];rfl
   have T:bits .xor .i64 (reg (s.data.toList.take k):Nat) (wrap64 (s[k].toNat:Nat))=((reg (s.data.toList.take k) ^^^s[k].toNat:Nat):Int):=by
    have hb:=s[k].toNat_lt;rw[cG _ ⟨dZ,dZ⟩];exact vR _ _ (I1 _) (TV _)
   have Z:reg (s.data.toList.take k) ^^^s[k].toNat<65536:=I0 _ _ (I1 _) (TV _);clear U;generalize reg (s.data.toList.take k) ^^^s[k].toNat=X at T Z V
   go_wp2
   go_loop [3,17] (λx i=>∃j:Nat,j<=8/\i=ι κ j/\x=ι κ (turns j X:Nat)) (λ_ i=>8-(eZ i).toNat)
   case atStart=>exact⟨0,Nat.zero_le _,rfl,rfl⟩
   case round=>
    obtain⟨j,hj,rfl,rfl⟩:=hrel;by_cases hj8:j<8
    ·have hl:=DS j X Z;have M:turns (j+1) X=turn (turns j X):=DT j X;have G:=TX (turns j X) hl;have J:=QG (turns j X);generalize turns j X=Y at*
     go_wp2
     all_goals
      go_round
      case rel=>exact⟨j+1,dZ,by go_num,by rw[M];first|rw[G (by simp_all)] |rw[J (by simp_all)]⟩
      case measure=>simp[eZ];omega
    ·have S:j=8:=dZ;subst S
     go_wp2
     go_round
     case rel=>exact⟨k+1,dZ,by go_num,by rw[V.out]⟩
     case measure=>simp[eZ];omega
  ·go_wp2
   go_ret;have e:k=s.size:=dZ;exact⟨X5 (by rw[aI (by simp;omega)];exact vR _ 65535 (I1 _) ew),rfl⟩
end Go.Proofs.YtieklnlbljejdaaGreatDoor
namespace Go.Proofs.YtieklnlbljejdaaGreatDoor.Plain
open Go.RowKit
def rT(c:UInt8):Bool:=c==126||c==125||decide (c<32)
def CN(c:UInt8):List UInt8:=if rT c then [125,c^^^32]else [c]
def sA(l:List UInt8):List UInt8:=l.flatMap CN
def Ku(l:List UInt8):UInt8:=UInt8.ofNat (sum l%256)
def Kv(l:List UInt8):UInt8:=UInt8.ofNat (sum l/256)
def lU(l:List UInt8):List UInt8:=l++ [Ku l,Kv l]
def lM(l:List UInt8):List UInt8:=126::(sA (lU l)++ [126])
theorem G5(l:List UInt8):((Ku l).toNat:Int)=((sum l:Nat):Int) %256:=by
 have:=MS l;unfold Ku;rw[UInt8.toNat_ofNat_of_lt' (by show sum l%256<256;omega)];omega
theorem G6(l:List UInt8):((Kv l).toNat:Int)=((sum l:Nat):Int)/256:=by
 have:=MS l;unfold Kv;rw[UInt8.toNat_ofNat_of_lt' (by show sum l/256<256;omega)];omega
theorem QH(l:List UInt8)(c:UInt8):sA (l++ [c])=sA l++CN c:=by simp[sA]
theorem X6(c:UInt8):(CN c).length<=2:=by unfold CN;split<;>simp
theorem Dg:∀l:List UInt8,(sA l).length<=2*l.length
 |[] =>by simp[sA]
 |c::l=>by
  have:=Dg l;have h:=X6 c;simp only[sA,eO,eP,eQ]at this⊢;omega
theorem oz(l:List UInt8):(lU l).length=l.length+2:=by simp[lU]
theorem QI(c:UInt8):rT c=true↔(c.toNat:Int)=126 \/(c.toNat:Int)=125 \/(c.toNat:Int)<32:=by
 unfold rT;simp only[Bool.or_eq_true,beq_iff_eq,decide_eq_true_eq,UInt8.lt_iff_toNat_lt];have Z:c=126↔(c.toNat:Int)=126:=by
  rw[<-UInt8.toNat_inj];show c.toNat=126↔_;omega
 have Y:c=125↔(c.toNat:Int)=125:=by
  rw[<-UInt8.toNat_inj];show c.toNat=125↔_;omega
 rw[Z,Y];show(_ \/_) \/c.toNat<32↔_;omega
theorem aaf(c:UInt8):bits .xor .u8 (c.toNat:Int) 32=((c^^^32).toNat:Int):=by
 have:=c.toNat_lt;have e:=u8_xor_nat c.toNat 32 dZ dZ;rw[UInt8.toNat_xor];exact e
