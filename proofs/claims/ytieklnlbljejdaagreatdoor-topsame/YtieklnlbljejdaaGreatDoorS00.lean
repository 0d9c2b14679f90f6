import Derived.Test.YtieklnlbljejdaaGreatDoorSA
open Go.Value renaming int → ι, slice → σ, pointer → π, tuple → τ, nilIface → η, ownBlock → eD, oneCell' → eG, string → eI, cells → fB
open Go.IntKind renaming i64 → κ
open Go.Ending renaming returned → ρ
open Go.Obj renaming cells → γ
open Option renaming none → ν, some → μ
open Go renaming Addr → eh, World → ew, Value → eA, TypeId → eE, DataW → eY, Calls → fc
open Go.Addr renaming add → eu
open Go.RowKit renaming Below → eM, intOf → fh
open Go.Oper renaming wp → eN
open Go.Result renaming andThen_ok → eO
open List renaming map_toArray → eP, map_cons → eQ, map_nil → eR, flatMap_cons → eU, length_append → eV, length_cons → eW, length_nil → eX, getElem?_map → fa, range → ft
open Go.Region renaming wanted → eT
open Go.DataW renaming trod → eZ
open Go.Lib renaming mapM_length → e7
open Go.Proofs.Tryz renaming prog → fe
open And renaming intro → fj
open BitVec renaming ofInt → fA
set_option maxRecDepth 100000
set_option maxHeartbeats 8000000
open Go.Proofs.Tryz
namespace Go.Proofs.YtieklnlbljejdaaGreatDoor
open Go.RowKit
variable {B B' b base cap cp fuel g g2 j k n off sz:Nat} {C:Array Value} {H:Type} {P:Program} {Q:Exit->Act->World->Prop} {X:Nat->Prop} {a w w' w2 wr x:World} {ao:Option Addr} {cs xs:List Value} {e r t:TypeId} {held:Bool} {m s:Int} {o:Obj} {ops:Array Oper} {p:List MemPlace} {row:Option Nat} {sp:Nat->Bool} {u v:Value} {zs:List (List (List UInt8))}
theorem add_plain(g j:Nat):(⟨g,0,ν⟩:eh).add j=⟨g,j,ν⟩:=by unfold eu;split<;>simp_all
theorem nE(g o j:Nat):(⟨g,o,ν⟩:eh).add j=⟨g,o+j,ν⟩:=by unfold eu;split<;>simp_all
def Row(w:ew)(sz:Nat)(v:eA)(n:Nat)(xs:List eA):Prop:=
 xs.length=n*sz/\
 ((v=σ ν 0 0/\n=0) \/
  ∃g cap,v=σ (μ ⟨g,0,ν⟩) n cap/\g<w.heap.size/\n<=cap/\cap<=maxLen/\(∀j u,xs[j]? =μ u->w.cell? ⟨g,j,ν⟩=μ u)/\
   ∀j,j<cap*sz->(w.cell? ⟨g,j,ν⟩).isSome=true/\w.frozen? ⟨g,j,ν⟩=false)
theorem Row.nil(w:ew)(sz:Nat):Row w sz (σ ν 0 0) 0 [] :=⟨ik,.inl ⟨rfl,rfl⟩⟩
theorem Row.lt(h:Row w sz v n xs):∀k,v.ownBlock=μ k->k<w.heap.size:=by
 intro k Z;rcases h.2 with⟨rfl,_⟩|⟨g,cap,rfl,Y,_⟩
 {simp[eD]at Z};{simp[eD]at Z;subst Z;exact Y}
theorem Row.keep(h:Row w sz v n xs)(hs:w.heap.size<=w'.heap.size)(hb:∀k,v.ownBlock=μ k->w'.heap[k]? =w.heap[k]?):Row w' sz v n xs:=by
 refine⟨h.1,?_⟩;rcases h.2 with J|⟨g,cap,rfl,hg,V,U,T,S⟩
 {exact .inl J};{have e:=hb g rfl;have Z:∀j,w'.cell? ⟨g,j,ν⟩=w.cell? ⟨g,j,ν⟩:=λj=>aj (a:=⟨g,j,ν⟩) e;have Y:∀j,w'.frozen? ⟨g,j,ν⟩=w.frozen? ⟨g,j,ν⟩:=λj=>aL (a:=⟨g,j,ν⟩) e;exact .inr ⟨g,cap,rfl,eB,V,U,λj u G=>by rw[Z];exact T j u G,λj M=>by rw[Z,Y];exact S j M⟩}
theorem Row.kept(h:Row w sz v n xs)(Z:w.grownBy w' row)(V:∀k,v.ownBlock=μ k->row≠μ k):Row w' sz v n xs:=
 h.keep Z.size λk Y=>Z.block k (h.lt k Y) (λe=>V k Y e.symm)
theorem Row.alloc {w:ew} {sz:Nat} {v:eA} {n:Nat} {xs:List eA} (h:Row w sz v n xs)(o:Obj):Row (w.alloc o) sz v n xs:=
 h.keep ik λk Z=>aV w o k (h.lt k Z)
theorem Row.drew {w:ew} {sz:Nat} {v:eA} {n:Nat} {xs:List eA} (h:Row w sz v n xs):Row w.drew sz v n xs:=
 h.keep (Nat.le_refl _) λ_ _=>rfl
theorem Row.below(h:Row w sz v n xs)(hb:eH w w'):Row w' sz v n xs:=
 h.keep hb.size λk Z=>hb.block k (h.lt k Z)
theorem Row.Ph(h:w.ownsRow base e sz v n xs):Row w sz v n xs:=by
 refine⟨h.1,?_⟩;rcases h.2 with T|⟨g,cap,Z,rfl,hb,Y,V,U,h3,h4⟩
 ·exact .inl T
 ·refine .inr ⟨g,cap,rfl,(ay.1 Y).1,V,U,λj u S=> ?_,λj hj=>⟨?_,?_⟩⟩
  ·have:=h.cells (g:=g) rfl j u S
   rwa [add_plain]at this
  {rw[ax w g j Z e (0,0) Y];simp;omega};{exact bF w g j Z e Y}
theorem Row.made(w:ew)(sz:Nat)(e:eE)(C:Array eA)(fr:Nat×Nat)(n cap:Nat)(xs:List eA)(hx:xs.length=n*sz)(hc:C.size=cap*sz)(U:n<=cap)(V:cap<=maxLen)(Y:fr=(0,0) \/C.size<=fr.1)
 (T:∀(j:Nat) (u:eA),xs[j]? =μ u->C[j]? =μ u):Row (w.alloc (γ C e fr)) sz (σ (μ ⟨w.heap.size,0,ν⟩) n cap) n xs:=by
 refine⟨hx,.inr ⟨w.heap.size,cap,rfl,ik,U,V,λj u S=> ?_,λj hj=>⟨?_,?_⟩⟩⟩;{rw[ak];exact T j u S};{rw[ak];simp;omega}
 ·obtain⟨lo,hi⟩:=fr;rw[cY];rcases Y with Z|Z
  {simp only[Prod.mk.injEq]at Z;obtain⟨rfl,rfl⟩:=Z;simp};{simp only at Z;have:¬lo<=j:=eB;simp[this]}
theorem Row.cell {w:ew} {sz:Nat} {g n n' cap:Nat} {xs:List eA} (h:Row w sz (σ (μ ⟨g,0,ν⟩) n' cap) n xs)(j:Nat)(u:eA)(Z:xs[j]? =μ u):w.cell? ⟨g,j,ν⟩=μ u:=by
 rcases h.2 with⟨e,_⟩|⟨g',jH,e,_,_,_,hc,_⟩
 {simp at e};{simp at e;obtain⟨rfl,rfl,rfl⟩:=e;exact hc j u Z}
theorem rh(w:ew)(x:eA)(t:eE):∀(j:Nat) (u:eA),[x][j]? =μ u->(w.alloc (γ #[x] t)).cell? ((⟨w.heap.size,0,ν⟩:eh).add j)=μ u:=by
 intro j u Z;rw[add_plain,ak];simpa using Z
theorem qj(w:ew)(x y:eA)(t:eE):∀(j:Nat) (u:eA),[x,y][j]? =μ u->(w.alloc (γ #[x,y] t)).cell? ((⟨w.heap.size,0,ν⟩:eh).add j)=μ u:=by
 intro j u Z;rw[add_plain,ak];simpa using Z
theorem xI(k:IntKind)(x:Int):∀u∈ [ι k x],u.oneCell'=true:=by simp[eG]
theorem l8(k l:IntKind)(x y:Int):∀u∈ [ι k x,ι l y],u.oneCell'=true:=by simp[eG]
theorem Nc(s:ByteArray):∀u∈ [eI s],u.oneCell'=true:=by simp[eG]
theorem wm {g1 n':Nat} (T:(wr.alloc o).grownBy w2 (μ g))(U:μ g=μ g2 \/wr.heap.size+1<=g2)
 (Y:Row wr sz (σ (μ ⟨g1,0,ν⟩) n' cap) n xs) (Ky:w.heap.size<=g) (jx:g≠g1) (V:eH w wr):
 Row w2 sz (σ (μ ⟨g1,0,ν⟩) n' cap) n xs/\w.heap.size<=g2/\g2≠g1/\eH w w2:=by
 have h1:g1<wr.heap.size:=Y.lt g1 rfl;have S:=V.size;have hs:(wr.alloc o).heap.size=wr.heap.size+1:=ik;refine⟨(Y.alloc o).kept T (λk Z=> ?_),?_,?_,?_⟩
 ·have:g1=k:=by simpa[eD]using Z
  intro e;simp at e;omega
 ·rcases U with h|h
  {simp at h;omega};{omega}
 ·rcases U with h|h
  {simp at h;omega};{omega}
 ·refine(V.alloc S o).grown T eB (λk Z=> ?_);simp at Z;omega
theorem Hf(T:(wr.alloc o).grownBy w2 (μ g))(U:μ g=μ g2 \/wr.heap.size+1<=g2)
 (Ky:w.heap.size<=g) (Z:eH w wr):w.heap.size<=g2/\eH w w2:=by
 have V:=Z.size;have hs:(wr.alloc o).heap.size=wr.heap.size+1:=ik;refine⟨?_,?_⟩
 ·rcases U with h|h
  {simp at h;omega};{omega}
 ·refine(Z.alloc V o).grown T eB (λk Y=> ?_);simp at Y;omega
section
variable {P:Program}
theorem sY(w:ew)(t ty e:eE)(i:TypeInfo)(z:eA)(size bytes:Nat)(ht:P.underlying t=μ (.slice e))(hi:P.info? e=μ i)(hz:i.zero=μ z)
 (sE:i.size=size) (wq:i.bytes=bytes) (Nd:z.cells.size=size) (sG:0<size)
 (v:eA) (n:Nat) (xs:List eA) (U:Row w size v n xs)
 (a:eh) (m c:Nat) (news:List eA) (hl:news.length=m*size) (hm:0<m) (y:∀j u,news[j]? =μ u->w.cell? (a.add j)=μ u) (h1:∀u∈news,u.oneCell'=true)
 (S:n+m<=maxLen) (wu:(n+m)*bytes<=140737488355328):
 ∃v' w',(Builtin.append_ #[t,t] ty #[v,σ (μ a) m c]).run P w=.ok v' w'/\Row w' size v' (n+m) (xs++news)/\w.grownBy w' v.ownBlock/\
  (v'.ownBlock=v.ownBlock \/ ∃k,v'.ownBlock=μ k/\w.heap.size<=k):=by
 rcases U.2 with⟨rfl,rfl⟩|⟨g,cap,rfl,hg,uG,Gw,hcell,A⟩
 ·have hx:xs=[] :=aJ (by simpa using U.1);subst hx;obtain⟨v',w',J,M,hg,kH⟩:=run_append_own (P:=P) w w.heap.size t ty e i z size bytes ht hi hz sE wq Nd sG (σ ν 0 0) 0 [] (World.ownsRow_nil _ _ _ _) a m c news hl y h1 S wu (Nat.le_refl _);refine⟨v',w',J,Row.Ph M,hg,?_⟩;rcases M.2 with⟨T,e2⟩|⟨g,cap,h,rfl,hb,_⟩
  {omega};{exact .inr ⟨g,rfl,hb⟩}
 ·by_cases J:n+m<=cap
  ·subst sE;have Yv:n*i.size+news.length<=cap*i.size:=by rw[hl,<-Nat.add_mul];exact Nat.mul_le_mul_right _ J
   have D:∀j,j<news.length->(w.cell? ⟨g,0+n*i.size+j,ν⟩).isSome=true/\w.frozen? ⟨g,0+n*i.size+j,ν⟩=false:=λj Z=>A _ eB;have V:=run_append_room_cells (P:=P) w t ty e i ht hi g 0 n cap a m c news hl y h1 J (λj Z=>(D j Z).1) (λj Z=>(D j Z).2);have oL:∀(vs:List eA) (o:Nat) (w:ew),(w.setCells g o vs).heap.size=w.heap.size/\(w.setCells g o vs).os=w.os/\(w.setCells g o vs).tape=w.tape/\(w.setCells g o vs).output=w.output/\∀k,k≠g->(w.setCells g o vs).heap[k]? =w.heap[k]? :=by
    intro vs
    induction vs with
    |nil=>intro o w;exact⟨rfl,rfl,rfl,rfl,λ_ _=>rfl⟩
    |cons u r ih=>
     intro o w;have:=ih (o+1) (w.setCell ⟨g,o,ν⟩ u);have b1:eM 0 w (w.setCell ⟨g,o,ν⟩ u):=(au 0 w).setCell (Nat.zero_le _) _;refine⟨this.1.trans ik,this.2.1.trans b1.os,this.2.2.1.trans b1.tape,this.2.2.2.1.trans b1.output,λk Y=>(this.2.2.2.2 k Y).trans (aq _ _ _ k Y)⟩
   have B:=oL news (0+n*i.size) w;refine⟨_,_,V,⟨by rw[aA,U.1,hl,Nat.add_mul],.inr ⟨g,cap,rfl,by rw[B.1];exact hg,J,Gw,λj u G=> ?_,λj Z=> ?_⟩⟩,⟨B.2.1,B.2.2.1,B.2.2.2.1,by rw[B.1];exact Nat.le_refl _,λk _ Y=>B.2.2.2.2 k (λe=>Y (by simp[eD,e]))⟩,.inl rfl⟩
   ·rcases Nat.lt_or_ge j xs.length with Z|Z
    ·rw[bH Z]at G;rw[bE g _ _ _ _ (λ_ _=>.inl (by show j<0+n*i.size;have:=U.1;omega))];exact hcell j u G
    ·rw[bB Z]at G;have Pj:j-xs.length<news.length:=(aK.1 G).1;have:=bO g news (0+n*i.size) w (λk Y=>(D k Y).1) (j-xs.length) Pj;have T:0+n*i.size+(j-xs.length)=j:=by have:=U.1;omega
     rw[T]at this;rw[this,<-G,aw Pj]
   ·rw[bY];refine⟨?_,(A j Z).2⟩;by_cases hq:n*i.size<=j/\j<n*i.size+news.length;{have:=bO g news (0+n*i.size) w (λk Y=>(D k Y).1) (j-n*i.size) eB;have T:0+n*i.size+(j-n*i.size)=j:=eB;rw[T]at this;rw[this];rfl};{rw[bE g _ _ _ _ (λ_ _=>by show j<0+n*i.size \/0+n*i.size+news.length<=j;omega)];exact(A j Z).1}
  ·obtain⟨v',w',V,M,E⟩:=run_append_arg_grows (P:=P) w t ty e i z size bytes ht hi hz sE wq Nd sG ⟨g,0,ν⟩ n cap xs U.1 (λj u Z=>by rw[add_plain];exact hcell j u Z) a m c news hl y eB S wu;refine⟨v',w',V,Row.Ph M,⟨E.os,E.tape,E.output,E.size,λk Y _=>E.block k Y ik⟩,?_⟩;rcases M.2 with⟨T,e2⟩|⟨g',jH,h,rfl,hb,_⟩
   {omega};{exact .inr ⟨g',rfl,hb⟩}
theorem iU(w:ew) {rest:List Oper} {o:Oper} {a:Act} (J:o.guard=ν)(s x:Operand)(t:eE)
 (ho:o.op=.call {callee:=.builtin .append,args:= #[s,x],argTypes:= #[t,t] })
 (e:eE) (i:TypeInfo) (z:eA) (size bytes:Nat) (ht:P.underlying t=μ (.slice e)) (hi:P.info? e=μ i) (hz:i.zero=μ z)
 (sE:i.size=size) (wq:i.bytes=bytes) (G:z.cells.size=size) (sG:0<size)
 (v:eA) (n:Nat) (xs:List eA) (hs:a.eval s=v) (jA:Row w size v n xs)
 (U:eh) (m c:Nat) (news:List eA) (hx:a.eval x=σ (μ U) m c) (hl:news.length=m*size) (hm:0<m) (M:∀j u,news[j]? =μ u->w.cell? (U.add j)=μ u) (E:∀u∈news,u.oneCell'=true)
 (T:n+m<=maxLen) (wu:(n+m)*bytes<=140737488355328)
 (h:∀Z V w',Row w' size (σ (μ ⟨Z,0,ν⟩) (n+m) V) (n+m) (xs++news)->w.grownBy w' v.ownBlock->(v.ownBlock=μ Z \/w.heap.size<=Z)->wpList P ops Q rest (a.put o.dst (σ (μ ⟨Z,0,ν⟩) (n+m) V)) w'):wpList P ops Q (o::rest) a w:=by
 refine wpList_plain J λK A=> ?_;obtain⟨v',w',hr,S,D,Y⟩:=sY (P:=P) w t o.type e i z size bytes ht hi hz sE wq G sG v n xs jA U m c news hl hm M E T wu;unfold eN execOp;simp only[ho,resolve,invoke,builtin,Sem.run_bind,Sem.run_pure,eO,eP,eQ,eR,hs,hx,hr];rcases S.2 with⟨_,hn⟩|⟨Z,V,rfl,_⟩
 ·omega
 ·refine A _ _ (h Z V w' S D ?_);rcases Y with Y|⟨k,Y,y⟩
  {exact .inl Y.symm};{simp[eD]at Y;subst Y;exact .inr y}
def jd(l:List UInt8):List eA:=l.map λb=>ι .u8 (b.toNat:Int)
theorem rE(l:List UInt8):(jd l).length=l.length:=by simp[jd]
theorem l5(a b:List UInt8):jd (a++b)=jd a++jd b:=by simp[jd]
theorem yH(l:List UInt8)(j:Nat)(h:j<l.length):(jd l)[j]? =μ (.int .u8 (l[j].toNat:Int)):=by simp[jd,h]
theorem Gx(w:ew)(src dst e:eE)(s:ByteArray)(hs:P.underlying src=μ .string)(hd:P.underlying dst=μ (.slice e))(V:P.underlying e=μ (.int .u8))(U:s.size<=maxLen):
 ∃cap C fr,(convert src dst (.string s)).run P w=.ok (σ (μ ⟨w.heap.size,0,ν⟩) s.size cap) (w.drew.alloc (γ C e fr))/\Row (w.alloc (γ C e fr)) 1 (σ (μ ⟨w.heap.size,0,ν⟩) s.size cap) s.size (jd s.data.toList):=by
 refine⟨_,_,_,run_bytes_of_string w src dst e s hs hd V,?_⟩;have T:=grownCap_ge w s.size 0 e;refine Row.made w 1 e _ _ _ _ _ (by simp[jd]) ?_ T (dr w _ _ _ U) (.inr (Nat.le_refl _)) ?_;{simp[bytesRow];omega}
 ·intro j u Z;have Y:j<s.data.size:=by
   have:=(aK.1 Z).1;simpa[jd]using this
  rw[bytesRow_at s _ j Y];rw[yH _ j (by simpa using Y)]at Z;simpa using Z
theorem Row.back {l:List UInt8} (h:Row w 1 v n (jd l))(src dst e:eE)(hs:P.underlying src=μ (.slice e))(Z:P.underlying e=μ (.int .u8))(hd:P.underlying dst=μ .string):
 (convert src dst v).run P w=.ok (.string ⟨l.toArray⟩) w:=by
 have Y:l.length=n:=by have:=h.1;simpa[jd]using this
 rcases h.2 with⟨rfl,rfl⟩|⟨g,cap,rfl,hg,uG,Gw,hcell,C6⟩
 {have:l=[] :=aJ Y;subst this;rw[run_convert_bytes_string w src dst e _ _ _ hs Z hd];simp[Conv.bytesToString];rfl};{subst Y;exact dN w src dst e ⟨g,0,ν⟩ cap l hs Z hd λj V=>by rw[add_plain];exact hcell j _ (yH l j V)}
end
theorem fP {b:ew} (h:eH w a)(k:eH a b):eH w b:=h.trans (k.mono h.size)
theorem below_drewN(h:eM B w a)(n:Nat):eM B w (a.drewN n):=⟨h.os,h.tape,h.output,h.size,h.block⟩
theorem gK(w:ew)(o:Obj):eH w (w.alloc o):=(au _ _).alloc (Nat.le_refl _) _
theorem tU {c:ew} (h:eH w a)(Z:a.grownBy c (μ b))(hb:w.heap.size<=b):eH w c:=
 h.grown Z h.size (λk Y=>by simp at Y;omega)
def jB(k:Nat):eA:=if k=0 then η else .iface 128 (ι κ (k:Int))
abbrev jQ:=Int×Int
def jm(w:ew)(a:Option eh)(n:Nat)(os:List jQ):Prop:=
 os.length=n/\(n=0 \/ ∃b off,a=μ ⟨b,off,ν⟩/\∀j (h:j<os.length),w.cell? ⟨b,off+j*2,ν⟩=μ (ι κ os[j].1)/\w.cell? ⟨b,off+j*2+1,ν⟩=μ (ι κ os[j].2))
theorem jm.below {a:Option eh} {os:List jQ} (h:jm w a n os)(hb:eH w w'):jm w' a n os:=by
 refine⟨h.1,?_⟩;rcases h.2 with Z|⟨b,off,rfl,Z⟩
 {exact .inl Z};{refine .inr ⟨b,off,rfl,λj Y=> ?_⟩;obtain⟨c1,c2⟩:=Z j Y;exact⟨(hb.cell (ag w _ c1)).trans c1,(hb.cell (ag w _ c2)).trans c2⟩}
theorem jm.drewN {w:ew} {a:Option eh} {n:Nat} {os:List jQ} (h:jm w a n os)(m:Nat):jm (w.drewN m) a n os:=h
theorem jm.nil(w:ew)(a:Option eh):jm w a 0 [] :=⟨rfl,.inl rfl⟩
theorem jm.take {w:ew} {a:Option eh} {n:Nat} {os:List jQ} (h:jm w a n os)(k:Nat)(hk:k<=n):jm w a k (os.take k):=by
 refine⟨by simp[h.1];omega,?_⟩;rcases h.2 with Z|⟨b,off,rfl,Z⟩
 ·exact .inl eB
 ·refine .inr ⟨b,off,rfl,λj V=> ?_⟩;have Y:j<os.length:=by simp at V;omega
  have:=Z j Y;simpa using this
theorem mE {o:Oper} {a:Act} {K:Act->ew->Prop} {E:Prop}
 (J:o.guard=ν) (s x:Operand) (t:eE) (ho:o.op=.call {callee:=.builtin .append,args:= #[s,x],argTypes:= #[t,t] })
 (e:eE) (i:TypeInfo) (z:eA) (size bytes:Nat) (ht:P.underlying t=μ (.slice e)) (hi:P.info? e=μ i) (hz:i.zero=μ z)
 (sE:i.size=size) (wq:i.bytes=bytes) (G:z.cells.size=size) (sG:0<size)
 (v:eA) (n:Nat) (xs:List eA) (hs:a.eval s=v) (jA:Row w size v n xs)
 (U:eh) (m c:Nat) (news:List eA) (hx:a.eval x=σ (μ U) m c) (hl:news.length=m*size) (hm:0<m) (M:∀j u,news[j]? =μ u->w.cell? (U.add j)=μ u) (D:∀u∈news,u.oneCell'=true)
 (T:n+m<=maxLen) (wu:(n+m)*bytes<=140737488355328)
 (h:∀Z V w',Row w' size (σ (μ ⟨Z,0,ν⟩) (n+m) V) (n+m) (xs++news)->w.grownBy w' v.ownBlock->(v.ownBlock=μ Z \/w.heap.size<=Z)->K (a.put o.dst (σ (μ ⟨Z,0,ν⟩) (n+m) V)) w'):
 if eT o (yielded ops a.tmps)=true then eN P o a w K Q else E:=by
 have hw:eT o (yielded ops a.tmps)=true:=by simp[eT,J]
 rw[ai hw];obtain⟨v',w',hr,S,A,Y⟩:=sY (P:=P) w t o.type e i z size bytes ht hi hz sE wq G sG v n xs jA U m c news hl hm M D T wu;unfold eN execOp;simp only[ho,resolve,invoke,builtin,Sem.run_bind,Sem.run_pure,eO,eP,eQ,eR,hs,hx,hr];rcases S.2 with⟨_,hn⟩|⟨Z,V,rfl,_⟩
 ·omega
 ·refine h Z V w' S A ?_;rcases Y with Y|⟨k,Y,y⟩
  {exact .inl Y.symm};{simp[eD]at Y;subst Y;exact .inr y}
def je(os:List jQ):List eA:=os.flatMap λo=>[ι κ o.1,ι κ o.2]
theorem mN(os:List jQ)(o:jQ):je (os++ [o])=je os++ [ι κ o.1,ι κ o.2] :=by simp[je]
theorem lH(os:List jQ):(je os).length=2*os.length:=by
 induction os with
 |nil=>rfl
 |cons o r ih=>simp only[je,eU,eV,eW,eX]at ih⊢;omega
theorem vh:∀(os:List jQ) (j:Nat) (h:j<os.length),(je os)[j*2]? =μ (ι κ os[j].1)/\(je os)[j*2+1]? =μ (ι κ os[j].2)
 |o::r,0,_=>by simp[je]
 |o::r,j+1,h=>by
  have ih:=vh r j (by simpa using h);have Z:je (o::r)=ι κ o.1::ι κ o.2::je r:=by simp[je]
  rw[Z,show(j+1)*2=j*2+1+1 by omega];exact ih
theorem Row.opts {os:List jQ} (h:Row w 2 (σ ao k cp) k (je os)):jm w ao k os:=by
 have hl:os.length=k:=by have:=h.1;rw[lH]at this;omega
 refine⟨hl,?_⟩;rcases h.2 with⟨_,S⟩|⟨g,cap,Z,_,_,_,hc,_⟩
 ·exact .inl S
 ·have Y:ao=μ ⟨g,0,ν⟩:=by simp at Z;exact Z.1
  refine .inr ⟨g,0,Y,λj T=> ?_⟩;obtain⟨V,U⟩:=vh os j T;rw[Nat.zero_add];exact⟨hc _ _ V,hc _ _ U⟩
theorem Row.Ud(h:Row w sz (σ ao k cp) k xs):k<=cp:=by
 rcases h.2 with⟨Z,hn⟩|⟨g,cap,Z,_,uG,_⟩
 {omega};{simp at Z;omega}
theorem mF(Z:eH w x)(Y:x.grownBy w' v.ownBlock)(V:∀j,v.ownBlock=μ j->w.heap.size<=j):eH w w':=
 Z.grown Y Z.size V
theorem oo(Z:v.ownBlock=μ g \/n<=g)(hs:B<=n)(Y:∀j,v.ownBlock=μ j->B<=j):B<=g:=by
 rcases Z with h|h
 {exact Y g h};{exact Nat.le_trans hs h}
theorem sZ(Z:x.grownBy w' row)(Y:row≠μ b)(hc:x.cell? ⟨b,off,ν⟩=μ u):w'.cell? ⟨b,off,ν⟩=μ u:=
 (aj (a:=⟨b,off,ν⟩) (Z.block b (ag x _ hc) (λe=>Y e.symm))).trans hc
theorem kS(h:B<=g)(Z:eD (σ (μ ⟨g,0,ν⟩) n cap)=μ j):B<=j:=by
 have:g=j:=by simpa[eD]using Z
 omega
theorem ny(Z:eD (σ ν 0 0)=μ j):B<=j:=by simp[eD]at Z
theorem nF(w:ew)(x y:eA)(t:eE)(g:Nat)(Z:w.heap.size=g):∀(j:Nat) (u:eA),[x,y][j]? =μ u->(w.alloc (γ #[x,y] t)).cell? ((⟨g,0,ν⟩:eh).add j)=μ u:=by
 subst Z;exact qj w x y t
structure Made(w w':ew)(v:eA)(os:List jQ):Prop where
 row:Row w' 2 v os.length (je os)
 new:∀j,v.ownBlock=μ j->w.heap.size<=j
 below:eH w w'
theorem KB(os:List jQ):∀u∈je os,u.oneCell'=true:=by
 intro u Z;simp[je]at Z;obtain⟨x,y,_,h⟩:=Z;rcases h with rfl|rfl<;>rfl
theorem jm.cells {os:List jQ} (h:jm w (μ ⟨b,off,ν⟩) n os)(hn:0<n):∀(j:Nat) (u:eA),(je os)[j]? =μ u->w.cell? ((⟨b,off,ν⟩:eh).add j)=μ u:=by
 intro j u Z;rcases h.2 with h0|⟨b',akl,Y,hc⟩
 ·omega
 ·simp only[Option.some.injEq,Addr.mk.injEq]at Y;obtain⟨rfl,rfl,_⟩:=Y;have hj:j<2*os.length:=by have:=(aK.1 Z).1;rwa [lH]at this
  have V:j/2<os.length:=eB;obtain⟨g1,g2⟩:=vh os (j/2) V;obtain⟨c1,c2⟩:=hc (j/2) V;rw[nE];rcases Nat.mod_two_eq_zero_or_one j with U|U
  {have e:j/2*2=j:=eB;rw[e]at g1 c1;rw[Z]at g1;rw[c1,g1]};{have e:j/2*2+1=j:=eB;rw[e]at g2;rw[Z]at g2;rw[show off+j/2*2+1=off+j by omega]at c2;rw[c2,g2]}
def kY(a:Option eh)(cap:Nat):Prop:=a=ν->cap=0
theorem Made.shape {os:List jQ} (h:Made w w' v os):∃a cap,v=σ a os.length cap/\kY a cap/\os.length<=cap:=by
 rcases h.row.2 with⟨rfl,Z⟩|⟨g,cap,rfl,_,Y,_⟩
 {rw[Z];exact⟨ν,0,rfl,λ_=>rfl,Nat.le_refl _⟩};{exact⟨μ ⟨g,0,ν⟩,cap,rfl,λh=>by simp at h,Y⟩}
theorem Made.opts {w w':ew} {a:Option eh} {n cap:Nat} {os:List jQ} (h:Made w w' (σ a n cap) os):n=os.length/\jm w' a n os:=by
 have Z:n=os.length:=by
  rcases h.row.2 with⟨e,h0⟩|⟨g,cap,e,_⟩
  {simp at e;omega};{simp at e;omega}
 have Y:=h.row;rw[<-Z]at Y;exact⟨Z,Y.opts⟩
theorem Made.from {os:List jQ} (h:Made x w' v os)(hb:eH w x):Made w w' v os:=
 ⟨h.row,λj Z=>Nat.le_trans hb.size (h.new j Z),fP hb h.below⟩
theorem jm.kept {a:Option eh} {os:List jQ} (h:jm w a n os)(hb:∀k,eD (σ a n cap)=μ k->w'.heap[k]? =w.heap[k]?):jm w' a n os:=by
 refine⟨h.1,?_⟩;rcases h.2 with Z|⟨b,off,rfl,Z⟩
 {exact .inl Z};{refine .inr ⟨b,off,rfl,λj Y=> ?_⟩;have e:=hb b rfl;obtain⟨c1,c2⟩:=Z j Y;exact⟨(aj (a:=⟨b,off+j*2,ν⟩) e).trans c1,(aj (a:=⟨b,off+j*2+1,ν⟩) e).trans c2⟩}
def vj(a:Option eh)(n:Nat):Option Nat:=if n=0 then ν else a.map (·.block)
theorem D6 {a:Option eh} (h:vj a n=μ k):eD (σ a n cap)=μ k:=by
 unfold vj at h;split at h;{cases h}
 ·cases a with
  |none=>cases h
  |some x=>simpa[eD]using h
theorem jm.Pk {a:Option eh} {os:List jQ} (h:jm w a n os)(hb:∀k,vj a n=μ k->w'.heap[k]? =w.heap[k]?):jm w' a n os:=by
 by_cases Z:n=0;{exact⟨h.1,.inl Z⟩}
 ·refine h.kept (cap:=0) (λk Y=>hb k ?_);unfold vj;rw[af Z];cases a with
  |none=>cases Y
  |some x=>simpa[eD]using Y
def ji(w:ew)(B:Nat)(C:Array eA)(t:eE):Prop:=w.heap[B]? =μ (γ C t (0,0))
theorem ji.lt(h:ji w B C t):B<w.heap.size:=(ay.1 h).1
theorem ji.cell {w:ew} {B:Nat} {C:Array eA} {t:eE} (h:ji w B C t)(j:Nat):w.cell? ⟨B,j,ν⟩=C[j]? :=ax w B j C _ (0,0) h
theorem ji.frozen {w:ew} {B:Nat} {C:Array eA} {t:eE} (h:ji w B C t)(j:Nat):w.frozen? ⟨B,j,ν⟩=false:=bF w B j C _ h
theorem ji.set(h:ji w B C t)(j:Nat)(x:eA):ji (w.setCell ⟨B,j,ν⟩ x) B (C.setIfInBounds j x) t:=by
 unfold ji;rw[bP w B j C _ (0,0) x h];exact cG w B C _ _ (0,0) h
theorem ji.other(h:ji w B C t)(Z:B≠B')(x:eA):ji (w.setCell ⟨B',j,ν⟩ x) B C t:=
 (aq _ _ _ B Z).trans h
theorem ji.keep(h:ji w B C t)(hb:w'.heap[B]? =w.heap[B]?):ji w' B C t:=hb.trans h
theorem ji.below(h:ji w B C t)(hb:eH w w'):ji w' B C t:=h.keep (hb.block B h.lt)
theorem ji.drewN {w:ew} {B:Nat} {C:Array eA} {t:eE} (h:ji w B C t)(n:Nat):ji (w.drewN n) B C t:=h
theorem ji.new(w:ew)(C:Array eA)(t:eE):ji (w.alloc (γ C t)) w.heap.size C t:=aY w _
theorem ji.Gy(w:ew)(C:Array eA)(t:eE)(g:Nat)(Z:w.heap.size=g):ji (w.alloc (γ C t)) g C t:=by subst Z;exact ji.new w C t
theorem jK(h:eM B w a):eM B w a.drew:=⟨h.os,h.tape,h.output,h.size,h.block⟩
theorem oq(s:ByteArray)(k:Nat)(h:k<s.size):s.data.toList.getD k 0=s[k] :=by
 have Z:k<s.data.toList.length:=by simpa using h
 rw[aG,aw Z];rfl
theorem la(h:a.grownBy w (μ b))(j:Nat)(v:eA):a.grownBy (w.setCell ⟨b,j,ν⟩ v) (μ b):=by
 have b1:eM 0 w (w.setCell ⟨b,j,ν⟩ v):=(au 0 w).setCell (Nat.zero_le _) _;exact⟨b1.os.trans h.os,b1.tape.trans h.tape,b1.output.trans h.output,Nat.le_trans h.size b1.size,λi hi Z=>(aq _ _ _ i (λe=>Z (by rw[e]))).trans (h.block i hi Z)⟩
theorem drewN_drewN(w:ew)(a b:Nat):(w.drewN a).drewN b=w.drewN (a+b):=by go_simp
def Dv {H:Type} (l:List (List UInt8)):eY H:=.agg (l.map λs=>.lit (.string s))
def D7 {H:Type} (t:List (List (List UInt8))):eY H:=.agg (t.map Dv)
theorem I9 {enc:eE×eA->H} {zs:List (List UInt8)} 
 (G:P.underlying t=μ (.array n e)) (J:P.underlying e=μ .string) (T:P.cellsOf e=1) (Y:P.cellsOf t=n)
 (h:eZ enc P w base sp held fuel t cs=μ (Dv zs,p)):cs=zs.map λz=>eI ⟨z.toArray⟩:=by
 cases fuel with
 |zero=>simp[eZ]at h
 |succ fuel=>
  simp only[eZ,G,T,Y,Nat.mul_one]at h;split at h
  ·rename_i hl
   obtain⟨xs,U,hx⟩:=Option.map_eq_some_iff.1 h;have V:xs.map (·.1)=zs.map λz=>(DataW.lit (.string z):eY H):=by
    have:=congrArg Prod.fst hx;simpa[Dv]using this
   have QK:xs.length=n:=by simpa using e7 U
   have hzl:zs.length=n:=by
    have:=congrArg List.length V;simp at this;omega
   apply List.ext_getElem?;intro i;by_cases hi:i<n
   ·obtain⟨b,hb,hf⟩:=Lib.mapM_at U i i (by simp[hi]);obtain⟨z,hc,rfl,_⟩:=dx J hf;have M:cs[i]? =μ (.string z):=by
     have:=congrArg (·[0]?) hc;simpa[List.getElem?_take,dt]using this
    have Z:(xs.map (·.1))[i]? =μ (DataW.lit (.string z.data.toList):eY H):=by simp[hb]
    rw[V]at Z;simp only[fa,Option.map_eq_some_iff,DataW.lit.injEq,Lit.string.injEq]at Z;obtain⟨z',S,rfl⟩:=Z;simp[M,S]
   ·rw[dT eB,dT (by simp;omega)]
  ·cases h
theorem Ja {enc:eE×eA->H} {m:Nat} 
 (D:P.underlying t=μ (.array m r)) (E:P.underlying r=μ (.array n e)) (G:P.underlying e=μ .string) (J:P.cellsOf e=1) (Z:P.cellsOf r=n) (U:P.cellsOf t=m*n)
 (h:eZ enc P w base sp held fuel t cs=μ (D7 zs,p)):zs.length=m/\∀i row,zs[i]? =μ row->(cs.drop (i*n)).take n=row.map λz=>eI ⟨z.toArray⟩:=by
 cases fuel with
 |zero=>simp[eZ]at h
 |succ fuel=>
  simp only[eZ,D,Z,U]at h;split at h
  ·rename_i hl
   obtain⟨xs,S,hx⟩:=Option.map_eq_some_iff.1 h;have T:xs.map (·.1)=zs.map λz=>(Dv z:eY H):=by
    have:=congrArg Prod.fst hx;simpa[D7]using this
   have QK:xs.length=m:=by simpa using e7 S
   have Y:zs.length=m:=by
    have:=congrArg List.length T;simp at this;omega
   refine⟨Y,λi row M=> ?_⟩;have hi:i<m:=by rw[<-Y];exact(aK.1 M).1
   obtain⟨b,hb,hf⟩:=Lib.mapM_at S i i (by simp[hi]);have V:(xs.map (·.1))[i]? =μ b.1:=by simp[hb]
   rw[T]at V;simp only[fa,M,Option.map_some,Option.some.injEq]at V;obtain⟨b1,b2⟩:=b;simp only at V;subst V;exact I9 E G J Z hf
  ·cases h
theorem Jb {W:ew} {name:String} {rest:List (String×eY Unit)} {m:Nat}
 (S:P.globalNamed name=μ g) (hty:(P.globals[g]?).map (·.type)=μ t) (ht:P.underlying t=μ (.array m r)) (y:P.underlying r=μ (.array n e)) (D:P.underlying e=μ .string) (J:P.cellsOf e=1) (Y:P.cellsOf r=n) (V:P.cellsOf t=m*n)
 (h:laidMet P ((name,D7 zs)::rest) W):∀i row j z,zs[i]? =μ row->row[j]? =μ z->j<n->W.cell? ⟨g,i*n+j,ν⟩=μ (.string ⟨z.toArray⟩):=by
 obtain⟨ps,⟨g',t',cs,fuel,p,q,M,U,Z,hd,_,_⟩,_⟩:=h;obtain rfl:=Option.some.inj (S.symm.trans M);obtain rfl:=Option.some.inj (hty.symm.trans U);intro i row j z hi A G;have E:=(Ja ht y D J Y V hd).2 i row hi;rw[World.var?_cell S Z];have T:((cs.toList.drop (i*n)).take n)[j]? =μ (eI ⟨z.toArray⟩):=by rw[E];simp[A]
 rw[List.getElem?_take_of_lt G,dt]at T;simpa using T
def C8:List (List (List UInt8)):=[
 [[50],[105,114,54],[45],[45],[45],[45],[45],[45],[45],[45]],
 [[45],[45],[48],[115,49],[48],[49],[49],[49],[49],[100,49]],
 [[115,49],[49],[105,114,54],[51],[53],[53],[54],[55],[56],[57]],
 [[48],[102,48],[50],[50],[52],[52],[105,116,52],[105,116,52],[105,116,52],[100,105,116,52]],
 [[45],[45],[45],[45],[116,52],[116,53],[114,54],[114,54],[114,56],[45]],
 [[45],[45],[45],[45],[102,50],[102,51],[102,51],[102,51],[102,51],[45]],
 [[45],[45],[107,50],[105,114,97,56],[52],[53],[97,56],[97,117,57],[97,56],[100,114,97,56]],
 [[45],[45],[107,50],[105,114,110,54],[52],[53],[110,54],[110,55],[110,54],[100,114,110,54]],
 [[45],[45],[107,50],[107,51],[52],[53],[105,55],[114,54],[105,117,57],[100,114,54]],
 [[45],[45],[107,50],[107,51],[52],[53],[105,114,54],[114,54],[105,114,56],[100,114,54]],
 [[45],[45],[107,50],[107,51],[107,52],[107,53],[107,54],[107,54],[107,54],[100,122,107,53]],
 [[45],[45],[50],[51],[102,50],[102,51],[54],[54],[56],[100,114,54]]]
def pv(s e:Nat):List UInt8:=(C8.getD e []).getD s []
def lO(s e:Nat):List UInt8×Int×Nat:=
 if pv s e=[45]then([],0,7)else((pv s e).dropLast,(((pv s e).getLastD 0).toNat:Int)-48,0)
def jv(s e:Int):List UInt8×Int×Nat:=
 if s<0 \/10<=s \/e<0 \/12<=e then([],0,1)else lO s.toNat e.toNat
def jt(w:ew):Prop:=∀e s,e<12->s<10->w.cell? ⟨0,e*10+s,ν⟩=μ (.string ⟨(pv s e).toArray⟩)
theorem jt.below(h:jt w)(hb:eH w w'):jt w':=λe s Z hs=>
 (hb.cell (ag w _ (h e s Z hs))).trans (h e s Z hs)
theorem jt.lt(h:jt w):0<w.heap.size:=ag w _ (h 0 0 eF eF)
theorem nQ(s e:Nat)(hs:s<10)(he:e<12):jv s e=lO s e:=by
 unfold jv;rw[af eB];rfl
theorem Uf:∀e,e<12->∀s,s<10->1<=(pv s e).length/\(pv s e).length<=5/\(48<=((pv s e).getLastD 0).toNat/\((pv s e).getLastD 0).toNat<=57 \/pv s e=[45]):=by decide+kernel
theorem QL(s:Int)(w:ew):fc fe 195 #[ι κ s] w λe w'=>e=ρ (.bool (decide (4<=s)&&decide (s<=8)))/\w=w':=by
 by_cases Y:4<=s
 ·have Z:decide (4<=s)=true:=by simp[Y]
  rw[Z,Bool.true_and];clear Z
  go_in
  go_wp2
  go_ret;exact⟨rfl,rfl⟩
 ·have Z:decide (4<=s)=false:=by simp[Y]
  rw[Z,Bool.false_and];clear Z
  go_in
  go_wp2
  go_ret;exact⟨rfl,rfl⟩
theorem Ug(s e:Int)(w:ew)(h:s<0 \/10<=s \/e<0 \/12<=e):fc fe 207 #[ι κ s,ι κ e] w λx w'=>x=ρ (τ #[.string ⟨#[]⟩,ι κ 0,jB 1])/\w=w':=by
 have Z:jB 1=.iface 128 (ι κ 1):=rfl;rw[Z];clear Z;by_cases h0:s<0
 ·clear h
  go_in
  go_wp2
  go_ret3
  exact⟨rfl,rfl⟩
 ·by_cases h1:10<=s
  ·clear h
   go_in
   go_wp2
   go_ret3
   exact⟨rfl,rfl⟩
  ·by_cases h2:e<0
   ·clear h
    go_in
    go_wp2
    go_ret3
    exact⟨rfl,rfl⟩
   ·have h3:12<=e:=eB;clear h
    go_in
    go_wp2
    go_ret3
    exact⟨rfl,rfl⟩
theorem QM(s e:Nat)(S:ByteArray)(w:ew)(hs:s<10)(he:e<12)(hc:w.cell? ⟨0,e*10+s,ν⟩=μ (.string S))(hS:(S.toList==[45])=true):
 fc fe 207 #[ι κ s,ι κ e] w λx w'=>x=ρ (τ #[.string ⟨#[]⟩,ι κ 0,jB 7])/\w=w':=by
 have Z:jB 7=.iface 128 (ι κ 7):=rfl;have h0:¬(s:Int)<0:=eB;have h1:¬(10:Int)<=s:=eB;have h2:¬(e:Int)<0:=eB;have h3:¬(12:Int)<=e:=eB;have h4:(s:Int)<10:=eB;have h5:(e:Int)<12:=eB;have h6:0<w.heap.size:=ag w _ hc;rw[Z];clear Z
 go_in
 go_wp2
 go_ret3
 exact⟨rfl,rfl⟩
theorem QN(s e:Nat)(S:ByteArray)(w:ew)(hs:s<10)(he:e<12)(hc:w.cell? ⟨0,e*10+s,ν⟩=μ (.string S))(hS:(S.toList==[45])=false)(n:Nat)(hl:S.size=n+1)(hn:n<=4)(d:Nat)(hd:(S[n]).toNat=48+d)(hd9:d<=9):
 fc fe 207 #[ι κ s,ι κ e] w λx w'=>x=ρ (τ #[.string (S.extract 0 n),ι κ (d:Int),η])/\∃m,w'=w.drewN m:=by
 have h0:¬(s:Int)<0:=eB;have h1:¬(10:Int)<=s:=eB;have h2:¬(e:Int)<0:=eB;have h3:¬(12:Int)<=e:=eB;have h4:(s:Int)<10:=eB;have h5:(e:Int)<12:=eB;have h6:0<w.heap.size:=ag w _ hc;have h7:wrap64 ((S.size:Int)-1)=n:=by unfold wrap64;omega
 have h8:((0:Int)<=(n:Int)):=eB;have h9:((n:Int)<=(S.size:Int)):=eB;have h10:((n:Int)<(S.size:Int)):=eB
 go_in
 go_wp2
 go_quiet(fail)
 go_wp2
 go_ret3
 refine⟨?_,_,rfl⟩;rw[show(48:Int)+(d:Int)-48=d by omega];rfl
theorem QO:∀e,e<12->∀s,s<10->pv s e≠ [45]->((⟨(pv s e).toArray⟩:ByteArray).extract 0 ((pv s e).length-1)=⟨(pv s e).dropLast.toArray⟩)/\((pv s e).getD ((pv s e).length-1) 0=(pv s e).getLastD 0):=by decide+kernel
theorem Uh(s e:Int)(w:ew)(h:jt w):fc fe 207 #[ι κ s,ι κ e] w λx w'=>
 x=ρ (τ #[.string ⟨(jv s e).1.toArray⟩,ι κ (jv s e).2.1,jB (jv s e).2.2])/\∃m,w'=w.drewN m:=by
 by_cases V:s<0 \/10<=s \/e<0 \/12<=e
 ·refine(Ug s e w V).mono ?_;rintro x w' ⟨rfl,rfl⟩;have hv:jv s e=([],0,1):=by unfold jv;rw[ai V]
  rw[hv];exact⟨rfl,0,rfl⟩
 ·obtain⟨s',rfl⟩:∃s':Nat,s=s':=⟨s.toNat,eB⟩
  obtain⟨e',rfl⟩:∃e':Nat,e=e':=⟨e.toNat,eB⟩
  have hs:s'<10:=eB;have Z:e'<12:=eB;rw[nQ s' e' hs Z];have hc:=h e' s' Z hs;obtain⟨l1,l2,T⟩:=Uf e' Z s' hs;by_cases Y:pv s' e'=[45]
  ·refine(QM s' e' _ w hs Z hc (by rw[Y];decide+kernel)).mono ?_;rintro x w' ⟨rfl,rfl⟩;have hv:lO s' e'=([],0,7):=by unfold lO;rw[ai Y]
   rw[hv];exact⟨rfl,0,rfl⟩
  ·obtain⟨c1,c2⟩:=QO e' Z s' hs Y;have l4:=T.resolve_right Y;have hv:lO s' e'=((pv s' e').dropLast,(((pv s' e').getLastD 0).toNat:Int)-48,0):=by unfold lO;rw[af Y]
   rw[hv];clear hv;generalize pv s' e'=L at*;have S:(⟨L.toArray⟩:ByteArray).size=(L.length-1)+1:=by show L.toArray.size=_;simp;omega
   refine(QN s' e' ⟨L.toArray⟩ w hs Z hc ?_ (L.length-1) S eB ((L.getLastD 0).toNat-48) ?_ eB).mono ?_;{rw[cz];intro hb;apply Y;rw[<-hb];simp[ByteArray.toList_eq]};{rw[<-c2];show(L.toArray[L.length-1]'_).toNat=_;rw[List.getElem_toArray,aG,aw eB];rw[aG,aw eB]at c2;simp only[Option.getD_some]at c2⊢;rw[c2];omega};{rintro x w' ⟨rfl,m,rfl⟩;refine⟨?_,m,rfl⟩;rw[c1];have U:(((L.getLastD 0).toNat-48:Nat):Int)=((L.getLastD 0).toNat:Int)-48:=eB;rw[U];rfl}
theorem Jc(s e:Int)(D:List UInt8)(nx:Int)(f:Nat)(Z:jv s e=(D,nx,f))(w:ew)(h:jt w):
 fc fe 207 #[ι κ s,ι κ e] w λx w'=>x=ρ (τ #[.string ⟨D.toArray⟩,ι κ nx,jB f])/\∃m,w'=w.drewN m:=by
 have:=Uh s e w h;rw[Z]at this;exact this
theorem Dx:(fe.info? 276).map (λi=>(i.zero,i.size,i.bytes))=μ (μ (.agg #[ι κ 0,ι κ 0]),2,16):=ga
theorem zG(w:ew):(zeroValue 252).run fe w=.ok (.agg #[ι κ 0,ι κ 0]) w:=ga
def oM(sz mg:Int):List jQ:=(if 0<sz then [(1,sz)]else [])++(if 0<mg then [(5,mg)]else [])
def KC(o:jQ):Bool:= !(o.1==1)&& !(o.1==5)
def uk(l:List jQ):List jQ:=l.filter KC
def ye(mg:Int)(o:jQ):List jQ:=
 if o.1=1/\o.2<40 then [(1,40)]else if o.1=5/\(o.2=0 \/o.2=mg)then [(5,mg%255+1)]else []
def rM(mg:Int)(l:List jQ):List jQ:=l.flatMap (ye mg)
def mL(mg:Int)(l:List jQ):Int×List jQ:=if uk l≠ []then(4,uk l)else if rM mg l≠ []then(3,rM mg l)else(2,l)
def ku(code:Int)(p:Int×Int)(o:jQ):Int×Int:=
 if code=4 then(if o.1=1 then(0,p.2)else if o.1=5 then(p.1,0)else p)
 else if code=3 then(if o.1=1/\0<p.1/\40<=o.2 then(o.2,p.2)else if o.1=5/\0<p.2/\0<o.2 then(p.1,o.2)else p)
 else p
def pH(code:Int)(l:List jQ)(p:Int×Int):Int×Int:=l.foldl (ku code) p
theorem acf(sz mg:Int)(w:ew)(h1:¬sz<40)(h2:¬255<sz)(h3:¬mg<1)(h4:¬255<mg):
 fc fe 170 #[ι κ sz,ι κ mg] w λe w'=>e=ρ (τ #[.agg #[ι κ sz,ι κ mg],η])/\eH w w':=by
 have hz:=zG;have hb:eH w (w.alloc (γ #[ι κ sz,ι κ mg] 252)):=gK _ _
 go_in
 go_wp2
 refine aE (v:=τ #[.agg #[ι κ sz,ι κ mg],η]) (by simp[results,results170,go_sem]) rfl ?_;exact⟨rfl,hb⟩
theorem KE(sz mg:Int)(w:ew):fc fe 224 #[.agg #[ι κ sz,ι κ mg]] w λe w'=>∃v,e=ρ v/\Made w w' v (oM sz mg):=by
 obtain⟨i0,hi,h,y,A⟩:=aX Dx;have M:eH w (w.alloc (γ #[ι κ sz,ι κ mg] 252)):=gK _ _;have hA:=λj=>ak w #[ι κ sz,ι κ mg] 252 (0,0) j;by_cases D:0<sz
 ·by_cases G:0<mg
  ·have U:oM sz mg=[(1,sz)] ++ [(5,mg)] :=by simp[oM,D,G]
   rw[U]
   go_in
   go_wp2_with(at_builtin;go_must(refine iU _ rfl (.tmp 7) (.tmp 11) 35 rfl 276 i0 (.agg #[ι κ 0,ι κ 0]) 2 16 underlying35 hi h y A rfl eF (σ ν 0 0) 0 (je []) rfl (Row.nil _ 2) _ 1 1 [ι κ 1,ι κ sz] rfl rfl eF (nF _ _ _ _ _ ik) (l8 _ _ _ _) eF eF ?_));intro g1 E w1 S Y V;have T:=mF (M.alloc M.size _) Y (λj Z=>ny Z);have J:=oo (B:=w.heap.size) V eB (λj Z=>ny Z);have wv:w1.cell? ⟨w.heap.size,1,ν⟩=μ (ι κ mg):=by
    exact sZ Y (by simp[eD]) (((gK _ _).cell (p:=⟨w.heap.size,1,ν⟩) ik).trans (hA 1))
   have Jd:w.heap.size<w1.heap.size:=ag w1 _ wv;rw[show([] :List jQ)=[]from rfl]at S;have akn:Row w1 2 (σ (μ ⟨g1,0,ν⟩) 1 E) 1 (je [(1,sz)]):=S;clear Y V S;go_wp2_with(at_builtin;go_must(refine iU _ rfl (.tmp 16) (.tmp 20) 35 rfl 276 i0 (.agg #[ι κ 0,ι κ 0]) 2 16 underlying35 hi h y A rfl eF (σ (μ ⟨g1,0,ν⟩) 1 E) 1 (je [(1,sz)]) rfl (akn.alloc _) _ 1 1 [ι κ 5,ι κ mg] rfl rfl eF (nF _ _ _ _ _ ik) (l8 _ _ _ _) eF eF ?_));intro g2 cap2 w2 sH Cg lp;have m7:=mF (T.alloc T.size _) Cg (λj Z=>kS J Z);have pQ:=oo (B:=w.heap.size) lp (by have:=T.size;omega) (λj Z=>kS J Z);clear Cg lp
   go_wp2
   go_ret;exact⟨_,rfl,⟨sH,λj Z=>kS pQ Z,m7⟩⟩
  ·have U:oM sz mg=[(1,sz)] :=by simp[oM,D,G]
   rw[U]
   go_in
   go_wp2_with(at_builtin;go_must(refine iU _ rfl (.tmp 7) (.tmp 11) 35 rfl 276 i0 (.agg #[ι κ 0,ι κ 0]) 2 16 underlying35 hi h y A rfl eF (σ ν 0 0) 0 (je []) rfl (Row.nil _ 2) _ 1 1 [ι κ 1,ι κ sz] rfl rfl eF (nF _ _ _ _ _ ik) (l8 _ _ _ _) eF eF ?_));intro g1 E w1 S Y V;have T:=mF (M.alloc M.size _) Y (λj Z=>ny Z);have J:=oo (B:=w.heap.size) V eB (λj Z=>ny Z);have wv:w1.cell? ⟨w.heap.size,1,ν⟩=μ (ι κ mg):=by
    exact sZ Y (by simp[eD]) (((gK _ _).cell (p:=⟨w.heap.size,1,ν⟩) ik).trans (hA 1))
   have Jd:w.heap.size<w1.heap.size:=ag w1 _ wv;clear Y V
   go_wp2
   go_ret;exact⟨_,rfl,⟨S,λj Z=>kS J Z,T⟩⟩
 ·by_cases G:0<mg
  ·have U:oM sz mg=[(5,mg)] :=by simp[oM,D,G]
   rw[U]
   go_in
   go_wp2_with(at_builtin;go_must(refine iU _ rfl (.tmp 16) (.tmp 20) 35 rfl 276 i0 (.agg #[ι κ 0,ι κ 0]) 2 16 underlying35 hi h y A rfl eF (σ ν 0 0) 0 (je []) rfl (Row.nil _ 2) _ 1 1 [ι κ 5,ι κ mg] rfl rfl eF (nF _ _ _ _ _ ik) (l8 _ _ _ _) eF eF ?_));intro g1 E w1 S Y V;have T:=mF (M.alloc M.size _) Y (λj Z=>ny Z);have J:=oo (B:=w.heap.size) V eB (λj Z=>ny Z);clear Y V
   go_wp2
   go_ret;exact⟨_,rfl,⟨S,λj Z=>kS J Z,T⟩⟩
  ·have U:oM sz mg=[] :=by simp[oM,D,G]
   rw[U]
   go_in
   go_wp2
   go_ret;exact⟨_,rfl,⟨Row.nil _ 2,λj Z=>ny Z,M⟩⟩
theorem Ch(a:Option eh)(n cap:Nat)(os:List jQ)(w:ew)(hn:n<=1000000)(G:jm w a n os):
 fc fe 244 #[σ a n cap] w λe w'=>∃v,e=ρ v/\Made w w' v (uk os):=by
 obtain⟨i0,hi,oN,nG,mS⟩:=aX Dx
 go_in
 go_wp2
 go_loopw [3,8] (λout i wr=>∃(k:Nat) (ao:Option eh) (m cp:Nat),k<=n/\out=σ ao m cp/\i=ι κ k/\m<=k/\Row wr 2 (σ ao m cp) m (je (uk (os.take k)))/\(∀j,eD (σ ao m cp)=μ j->w.heap.size<=j)/\eH w wr) (λ_ i _=>n-(fh i).toNat)
 case atStart=>exact⟨0,ν,0,0,Nat.zero_le _,rfl,rfl,Nat.le_refl _,by simpa[uk,je]using Row.nil w 2,λj J=>ny J,au _ _⟩
 case round=>
  obtain⟨k,ao,m,cp,hk,rfl,rfl,hmk,Y,U,Z⟩:=hrel;by_cases kL:k<n
  ·have AW:=G.below Z;rcases AW.2 with h0|⟨b,off,rfl,hc⟩
   ·omega
   have h:k<os.length:=by rw[G.1];exact kL
   obtain⟨c1,c2⟩:=hc k h;have S:Hid (os.take (k+1)=os.take k++ [os[k]]):=az h;generalize os[k] =o at c1 c2 S;clear hc;have n9:(k:Int)<(n:Int):=eB;cases q1:(o.1==1)
   ·cases M:(o.1==5)
    ·have y:(o.1 !=1)=true:=by simp[bne,q1]
     have p5:(o.1 !=5)=true:=by simp[bne,M]
     have V:Hid (uk (os.take (k+1))=uk (os.take k)++ [o]):=by
      show _=_;rw[S.out,uk,cD];simp[KC,q1,M];rfl
     go_wp2_with(at_builtin;go_must(refine iU _ rfl (.tmp 20) (.tmp 22) 35 rfl 276 i0 (.agg #[ι κ 0,ι κ 0]) 2 16 underlying35 hi oN nG mS rfl eF (σ ao m cp) m (je (uk (os.take k))) rfl ((Y.alloc _).alloc _) _ 1 1 [ι κ o.1,ι κ o.2] rfl rfl eF (nF _ _ _ _ _ ik) (l8 _ _ _ _) (by unfold maxLen;omega) eB ?_));intro g' jH w1 A D E;have T:=mF ((Z.alloc Z.size _).alloc (by simp;have:=Z.size;omega) _) D U;have mP:=oo (B:=w.heap.size) E (by have:=Z.size;omega) U;rw[<-mN,<-V.out]at A;clear D E
     go_wp2
     go_roundw
     case rel=>exact⟨k+1,_,m+1,jH,eB,rfl,by go_num,eB,A,λj J=>kS mP J,T⟩
     case measure=>simp[fh];omega
    ·have y:(o.1 !=1)=true:=by simp[bne,q1]
     have p5:(o.1 !=5)=false:=by simp[bne,M]
     have V:Hid (uk (os.take (k+1))=uk (os.take k)):=by
      show _=_;rw[S.out,uk,cD];simp[KC,q1,M];rfl
     have T:=Z.alloc Z.size (γ #[ι κ o.1,ι κ o.2] 276)
     go_wp2
     go_roundw
     case rel=>exact⟨k+1,_,m,cp,eB,rfl,by go_num,eB,by rw[V.out];exact Y.alloc _,U,T⟩
     case measure=>simp[fh];omega
   ·have y:(o.1 !=1)=false:=by simp[bne,q1]
    have V:Hid (uk (os.take (k+1))=uk (os.take k)):=by
     show _=_;rw[S.out,uk,cD];simp[KC,q1];rfl
    have T:=Z.alloc Z.size (γ #[ι κ o.1,ι κ o.2] 276)
    go_wp2
    go_roundw
    case rel=>exact⟨k+1,_,m,cp,eB,rfl,by go_num,eB,by rw[V.out];exact Y.alloc _,U,T⟩
    case measure=>simp[fh];omega
  ·have zH:os.take k=os:=aH (by rw[G.1];omega);rw[zH]at Y;have Da:m=(uk os).length:=by have:=Y.1;rw[lH]at this;omega
   go_wp2
   go_ret;exact⟨_,rfl,⟨by rw[<-Da];exact Y,U,Z⟩⟩
theorem Ui:(fe.info? 37).map (λi=>(i.zero,i.size,i.bytes))=μ (μ (.agg #[ι κ 0,ι κ 0,σ ν 0 0]),3,40):=ga
def Uj(fs fm ns nm qs qm st sz lf wt ow:Int)(v:eA):Array eA:= #[ι κ fs,ι κ fm,ι κ ns,ι κ nm,ι κ qs,ι κ qm,ι κ st,ι κ sz,ι κ lf,ι κ wt,ι κ ow,v]
def Lk(w:ew)(B:Nat)(C:Array eA):Prop:=w.heap[B]? =μ (γ C 254 (0,0))
theorem Lk.lt(h:Lk w B C):B<w.heap.size:=(ay.1 h).1
theorem Lk.cell {w:ew} {B:Nat} {C:Array eA} (h:Lk w B C)(j:Nat):w.cell? ⟨B,j,ν⟩=C[j]? :=ax w B j C _ (0,0) h
theorem Lk.frozen {w:ew} {B:Nat} {C:Array eA} (h:Lk w B C)(j:Nat):w.frozen? ⟨B,j,ν⟩=false:=bF w B j C _ h
theorem Lk.set(h:Lk w B C)(j:Nat)(x:eA):Lk (w.setCell ⟨B,j,ν⟩ x) B (C.setIfInBounds j x):=by
 unfold Lk;rw[bP w B j C _ (0,0) x h];exact cG w B C _ _ (0,0) h
theorem Lk.keep(h:Lk w B C)(hb:w'.heap[B]? =w.heap[B]?):Lk w' B C:=hb.trans h
theorem Lk.below(h:Lk w B C)(hb:eH w w'):Lk w' B C:=h.keep (hb.block B h.lt)
theorem Lk.drew {w:ew} {B:Nat} {C:Array eA} (h:Lk w B C):Lk w.drew B C:=h
theorem zI(w:ew)(x y z:eA)(t:eE)(g:Nat)(Z:w.heap.size=g):∀(j:Nat) (u:eA),[x,y,z][j]? =μ u->(w.alloc (γ #[x,y,z] t)).drew.cell? ((⟨g,0,ν⟩:eh).add j)=μ u:=by
 subst Z;intro j u Y;show(w.alloc (γ #[x,y,z] t)).cell? _=_;rw[add_plain,ak];simpa using Y
theorem Uk(x y:Int)(a:Option eh)(n c:Nat):∀u∈ [ι .i64 x,ι .i64 y,Value.slice a n c],u.oneCell'=true:=by simp[eG]
theorem pR(h:a.grownBy w (μ b))(j:Nat)(v:eA):a.grownBy (w.setCell ⟨b,j,ν⟩ v) (μ b):=by
 have b1:eM 0 w (w.setCell ⟨b,j,ν⟩ v):=(au 0 w).setCell (Nat.zero_le _) _;exact⟨b1.os.trans h.os,b1.tape.trans h.tape,b1.output.trans h.output,Nat.le_trans h.size b1.size,λi hi Z=>(aq _ _ _ i (λe=>Z (by rw[e]))).trans (h.block i hi Z)⟩
theorem tf(B:Nat)(h:eH w x):w.grownBy x (μ B):=⟨h.os,h.tape,h.output,h.size,λi hi _=>h.block i hi⟩
theorem Ci {b c:ew} (h:a.grownBy b (μ B))(k:b.grownBy c (μ B)):a.grownBy c (μ B):=
 ⟨k.os.trans h.os,k.tape.trans h.tape,k.output.trans h.output,Nat.le_trans h.size k.size,λi hi Z=>(k.block i (Nat.lt_of_lt_of_le hi h.size) Z).trans (h.block i hi Z)⟩
theorem KF(sz mg k:Int)(w:ew):fc fe 247 #[.agg #[ι κ sz,ι κ mg],ι κ k] w λe w'=>
 e=ρ (.agg #[ι κ (ku 4 (sz,mg) (k,0)).1,ι κ (ku 4 (sz,mg) (k,0)).2])/\eH w w':=by
 have hz:=zG;have hb:∀A B:Array eA,eH w ((w.alloc (γ A 252)).alloc (γ B 252)):=λA B=>(gK _ _).alloc ik _;cases q1:(k==1)
 ·cases Z:(k==5)
  ·have hv:ku 4 (sz,mg) (k,0)=(sz,mg):=by simp at q1 Z;simp[ku,q1,Z]
   rw[hv];clear hv
   go_in
   go_wp2
   refine aE (v:=.agg #[ι κ sz,ι κ mg]) (by simp[results,results247,go_sem]) rfl ?_;exact⟨rfl,hb _ _⟩
  ·have hv:ku 4 (sz,mg) (k,0)=(sz,0):=by simp at q1 Z;simp[ku,Z]
   rw[hv];clear hv
   go_in
   go_wp2
   refine aE (v:=.agg #[ι κ sz,ι κ 0]) (by simp[results,results247,go_sem]) rfl ?_;exact⟨rfl,hb _ _⟩
 ·have hv:ku 4 (sz,mg) (k,0)=(0,mg):=by simp at q1;simp[ku,q1]
  rw[hv];clear hv
  go_in
  go_wp2
  refine aE (v:=.agg #[ι κ 0,ι κ mg]) (by simp[results,results247,go_sem]) rfl ?_;exact⟨rfl,hb _ _⟩
theorem Ul(sz mg k n:Int)(w:ew):fc fe 248 #[.agg #[ι κ sz,ι κ mg],.agg #[ι κ k,ι κ n]] w λe w'=>
 e=ρ (.agg #[ι κ (ku 3 (sz,mg) (k,n)).1,ι κ (ku 3 (sz,mg) (k,n)).2])/\eH w w':=by
 have hz:=zG;have hb:∀(A B C:Array eA) (t u v:eE),eH w (((w.alloc (γ A t)).alloc (γ B u)).alloc (γ C v)):=λA B C t u v=>((gK _ _).alloc ik _).alloc (by simp;omega) _;have fin:∀(s m:Int),ku 3 (sz,mg) (k,n)=(s,m)->((ku 3 (sz,mg) (k,n)).1=s/\(ku 3 (sz,mg) (k,n)).2=m):=λs m h=>by rw[h];exact⟨rfl,rfl⟩
 cases q1:(k==1)
 ·cases Z:(k==5)
  ·have hv:ku 3 (sz,mg) (k,n)=(sz,mg):=by simp at q1 Z;simp[ku,q1,Z]
   rw[hv];clear hv fin
   go_in
   go_wp2
   refine aE (v:=.agg #[ι κ sz,ι κ mg]) (by simp[results,results248,go_sem]) rfl ?_;exact⟨rfl,hb _ _ _ _ _ _⟩
  ·by_cases Y:0<mg
   ·by_cases V:0<n
    ·have hv:ku 3 (sz,mg) (k,n)=(sz,n):=by simp at q1 Z;simp[ku,Z,Y,V]
     rw[hv];clear hv fin
     go_in
     go_wp2
     refine aE (v:=.agg #[ι κ sz,ι κ n]) (by simp[results,results248,go_sem]) rfl ?_;exact⟨rfl,hb _ _ _ _ _ _⟩
    ·have hv:ku 3 (sz,mg) (k,n)=(sz,mg):=by simp at q1 Z;simp[ku,Z,V]
     rw[hv];clear hv fin
     go_in
     go_wp2
     refine aE (v:=.agg #[ι κ sz,ι κ mg]) (by simp[results,results248,go_sem]) rfl ?_;exact⟨rfl,hb _ _ _ _ _ _⟩
   ·have hv:ku 3 (sz,mg) (k,n)=(sz,mg):=by simp at q1 Z;simp[ku,Z,Y]
    rw[hv];clear hv fin
    go_in
    go_wp2
    refine aE (v:=.agg #[ι κ sz,ι κ mg]) (by simp[results,results248,go_sem]) rfl ?_;exact⟨rfl,hb _ _ _ _ _ _⟩
 ·have Z:(k==5)=false:=by simp at q1⊢;omega
  by_cases Y:0<sz
  ·by_cases V:40<=n
   ·have hv:ku 3 (sz,mg) (k,n)=(n,mg):=by simp at q1;simp[ku,q1,Y,V]
    rw[hv];clear hv fin
    go_in
    go_wp2
    refine aE (v:=.agg #[ι κ n,ι κ mg]) (by simp[results,results248,go_sem]) rfl ?_;exact⟨rfl,hb _ _ _ _ _ _⟩
   ·have hv:ku 3 (sz,mg) (k,n)=(sz,mg):=by simp at q1;simp[ku,q1,V]
    rw[hv];clear hv fin
    go_in
    go_wp2
    refine aE (v:=.agg #[ι κ sz,ι κ mg]) (by simp[results,results248,go_sem]) rfl ?_;exact⟨rfl,hb _ _ _ _ _ _⟩
  ·have hv:ku 3 (sz,mg) (k,n)=(sz,mg):=by simp at q1;simp[ku,q1,Y]
   rw[hv];clear hv fin
   go_in
   go_wp2
   refine aE (v:=.agg #[ι κ sz,ι κ mg]) (by simp[results,results248,go_sem]) rfl ?_;exact⟨rfl,hb _ _ _ _ _ _⟩
theorem D9(sz mg:Int)(a:Option eh)(n cap:Nat)(os:List jQ)(w:ew)(MS:0<=mg)(acg:mg<=255)(hn:n<=1000000)(ho:jm w a n os):
 fc fe 245 #[.agg #[ι κ sz,ι κ mg],σ a n cap] w λe w'=>∃v,e=ρ v/\Made w w' v (rM mg os):=by
 obtain⟨i0,hi,oN,nG,mS⟩:=aX Dx;have pG:eH w (w.alloc (γ #[ι κ sz,ι κ mg] 252)):=gK _ _;have hA:=λj=>ak w #[ι κ sz,ι κ mg] 252 (0,0) j
 go_in
 go_wp2
 go_loopw [5,10] (λout i wr=>∃(k:Nat) (ao:Option eh) (m cp:Nat),k<=n/\out=σ ao m cp/\i=ι κ k/\m<=k/\Row wr 2 (σ ao m cp) m (je (rM mg (os.take k)))/\(∀j,eD (σ ao m cp)=μ j->w.heap.size+1<=j)/\wr.cell? ⟨w.heap.size,1,ν⟩=μ (ι κ mg)/\eH w wr) (λ_ i _=>n-(fh i).toNat)
 case atStart=>exact⟨0,ν,0,0,Nat.zero_le _,rfl,rfl,Nat.le_refl _,by simpa[rM,je]using Row.nil _ 2,λj Z=>ny Z,hA 1,pG⟩
 case round=>
  obtain⟨k,ao,m,cp,hk,rfl,rfl,hmk,T,U,hmc,iY⟩:=hrel;have Jd:w.heap.size<wr.heap.size:=ag wr _ hmc;by_cases kL:k<n
  ·have AW:=ho.below iY;rcases AW.2 with h0|⟨b,off,rfl,hc⟩
   ·omega
   have rj:k<os.length:=by rw[ho.1];exact kL
   obtain⟨c1,c2⟩:=hc k rj;have A:Hid (rM mg (os.take (k+1))=rM mg (os.take k)++ye mg os[k]):=by
    show _=_;rw[az rj,rM,cA,ch,List.flatMap_nil,aB];rfl
   generalize os[k] =o at c1 c2 A;clear hc;have n9:(k:Int)<(n:Int):=eB;have S:=iY.alloc iY.size (γ #[ι κ o.1,ι κ o.2] 276);have D:(wr.alloc (γ #[ι κ o.1,ι κ o.2] 276)).cell? ⟨w.heap.size,1,ν⟩=μ (ι κ mg):=((gK _ _).cell (p:=⟨w.heap.size,1,ν⟩) Jd).trans hmc;have keep:ye mg o=[]->Hid (Row (wr.alloc (γ #[ι κ o.1,ι κ o.2] 276)) 2 (σ ao m cp) m (je (rM mg (os.take (k+1))))):=λhe=>by
    show Row _ _ _ _ _;rw[A.out,he,aB];exact T.alloc _
   cases q1:(o.1==1)
   ·cases M:(o.1==5)
    ·have V:=keep (by simp at q1 M;simp[ye,q1,M])
     go_wp2
     go_roundw
     case rel=>exact⟨k+1,_,m,cp,eB,rfl,by go_num,eB,V.out,U,D,S⟩
     case measure=>simp[fh];omega
    ·cases q6:(o.2==0)
     ·cases q7:(o.2==mg)
      ·have V:=keep (by simp at q1 M q6 q7;simp[ye,M,q6,q7])
       go_wp2
       go_roundw
       case rel=>exact⟨k+1,_,m,cp,eB,rfl,by go_num,eB,V.out,U,D,S⟩
       case measure=>simp[fh];omega
      ·have y:Hid (ye mg o=[(5,(mg%255+1))]):=by
        show _=_;simp at q1 M q6 q7;simp[ye,M,q7]
       go_wp2_with(at_builtin;go_must(refine iU _ rfl (.tmp 41) (.tmp 47) 35 rfl 276 i0 (.agg #[ι κ 0,ι κ 0]) 2 16 underlying35 hi oN nG mS rfl eF (σ ao m cp) m (je (rM mg (os.take k))) rfl ((T.alloc _).alloc _) _ 1 1 [ι κ 5,ι κ (mg%255+1)] rfl rfl eF (nF _ _ _ _ _ ik) (l8 _ _ _ _) (by unfold maxLen;omega) eB ?_));intro g' G w1 V Y E;have m7:=mF (S.alloc S.size _) Y (λj Z=>by have:=U j Z;omega);have mP:=oo (B:=w.heap.size+1) E eB U;have J:w1.cell? ⟨w.heap.size,1,ν⟩=μ (ι κ mg):=sZ Y (λe=>by have:=U _ e;omega) (((gK _ _).cell (p:=⟨w.heap.size,1,ν⟩) (by simp;omega)).trans D);have Je:w.heap.size<w1.heap.size:=ag w1 _ J;have hcs:∀j,j<2->w1.cell? ⟨wr.heap.size,j,ν⟩=(wr.alloc (γ #[ι κ o.1,ι κ o.2] 276)).cell? ⟨wr.heap.size,j,ν⟩:=λj _=>by
        have h:=aj (a:=⟨wr.heap.size,j,ν⟩) (Y.block wr.heap.size (by simp;omega) (λe=>by have:=T.lt _ e.symm;omega));exact h.trans ((gK _ _).cell (p:=⟨wr.heap.size,j,ν⟩) ik)
       have d0:=(hcs 0 eF).trans (ak wr #[ι κ o.1,ι κ o.2] 276 (0,0) 0);have d1:=(hcs 1 eF).trans (ak wr #[ι κ o.1,ι κ o.2] 276 (0,0) 1);have Pn:wr.heap.size<w1.heap.size:=ag w1 _ d0;have sH:Row w1 2 (σ (μ ⟨g',0,ν⟩) (m+1) G) (m+1) (je (rM mg (os.take (k+1)))):=by
        rw[A.out,y.out,mN];exact V
       clear Y E V hcs keep
       go_wp2
       go_roundw
       case rel=>exact⟨k+1,_,m+1,G,eB,rfl,by go_num,eB,sH,λj Z=>kS mP Z,J,m7⟩
       case measure=>simp[fh];omega
     ·have y:Hid (ye mg o=[(5,(mg%255+1))]):=by
       show _=_;simp at q1 M q6;simp[ye,M,q6]
      go_wp2_with(at_builtin;go_must(refine iU _ rfl (.tmp 41) (.tmp 47) 35 rfl 276 i0 (.agg #[ι κ 0,ι κ 0]) 2 16 underlying35 hi oN nG mS rfl eF (σ ao m cp) m (je (rM mg (os.take k))) rfl ((T.alloc _).alloc _) _ 1 1 [ι κ 5,ι κ (mg%255+1)] rfl rfl eF (nF _ _ _ _ _ ik) (l8 _ _ _ _) (by unfold maxLen;omega) eB ?_));intro g' G w1 V Y E;have m7:=mF (S.alloc S.size _) Y (λj Z=>by have:=U j Z;omega);have mP:=oo (B:=w.heap.size+1) E eB U;have J:w1.cell? ⟨w.heap.size,1,ν⟩=μ (ι κ mg):=sZ Y (λe=>by have:=U _ e;omega) (((gK _ _).cell (p:=⟨w.heap.size,1,ν⟩) (by simp;omega)).trans D);have Je:w.heap.size<w1.heap.size:=ag w1 _ J;have hcs:∀j,j<2->w1.cell? ⟨wr.heap.size,j,ν⟩=(wr.alloc (γ #[ι κ o.1,ι κ o.2] 276)).cell? ⟨wr.heap.size,j,ν⟩:=λj _=>by
       have h:=aj (a:=⟨wr.heap.size,j,ν⟩) (Y.block wr.heap.size (by simp;omega) (λe=>by have:=T.lt _ e.symm;omega));exact h.trans ((gK _ _).cell (p:=⟨wr.heap.size,j,ν⟩) ik)
      have d0:=(hcs 0 eF).trans (ak wr #[ι κ o.1,ι κ o.2] 276 (0,0) 0);have d1:=(hcs 1 eF).trans (ak wr #[ι κ o.1,ι κ o.2] 276 (0,0) 1);have Pn:wr.heap.size<w1.heap.size:=ag w1 _ d0;have sH:Row w1 2 (σ (μ ⟨g',0,ν⟩) (m+1) G) (m+1) (je (rM mg (os.take (k+1)))):=by
       rw[A.out,y.out,mN];exact V
      clear Y E V hcs keep
      go_wp2
      go_roundw
      case rel=>exact⟨k+1,_,m+1,G,eB,rfl,by go_num,eB,sH,λj Z=>kS mP Z,J,m7⟩
      case measure=>simp[fh];omega
   ·have M:(o.1==5)=false:=by simp at q1⊢;omega
    by_cases q2:o.2<40
    ·have y:Hid (ye mg o=[(1,40)]):=by
      show _=_;simp at q1;simp[ye,q1,q2]
     go_wp2_with(at_builtin;go_must(refine iU _ rfl (.tmp 22) (.tmp 24) 35 rfl 276 i0 (.agg #[ι κ 0,ι κ 0]) 2 16 underlying35 hi oN nG mS rfl eF (σ ao m cp) m (je (rM mg (os.take k))) rfl ((T.alloc _).alloc _) _ 1 1 [ι κ 1,ι κ 40] rfl rfl eF (nF _ _ _ _ _ ik) (l8 _ _ _ _) (by unfold maxLen;omega) eB ?_));intro g' G w1 V Y E;have m7:=mF (S.alloc S.size _) Y (λj Z=>by have:=U j Z;omega);have mP:=oo (B:=w.heap.size+1) E eB U;have J:w1.cell? ⟨w.heap.size,1,ν⟩=μ (ι κ mg):=sZ Y (λe=>by have:=U _ e;omega) (((gK _ _).cell (p:=⟨w.heap.size,1,ν⟩) (by simp;omega)).trans D);have Je:w.heap.size<w1.heap.size:=ag w1 _ J;have hcs:∀j,j<2->w1.cell? ⟨wr.heap.size,j,ν⟩=(wr.alloc (γ #[ι κ o.1,ι κ o.2] 276)).cell? ⟨wr.heap.size,j,ν⟩:=λj _=>by
      have h:=aj (a:=⟨wr.heap.size,j,ν⟩) (Y.block wr.heap.size (by simp;omega) (λe=>by have:=T.lt _ e.symm;omega));exact h.trans ((gK _ _).cell (p:=⟨wr.heap.size,j,ν⟩) ik)
     have d0:=(hcs 0 eF).trans (ak wr #[ι κ o.1,ι κ o.2] 276 (0,0) 0);have d1:=(hcs 1 eF).trans (ak wr #[ι κ o.1,ι κ o.2] 276 (0,0) 1);have Pn:wr.heap.size<w1.heap.size:=ag w1 _ d0;have sH:Row w1 2 (σ (μ ⟨g',0,ν⟩) (m+1) G) (m+1) (je (rM mg (os.take (k+1)))):=by
      rw[A.out,y.out,mN];exact V
     clear Y E V hcs keep
     go_wp2
     go_roundw
     case rel=>exact⟨k+1,_,m+1,G,eB,rfl,by go_num,eB,sH,λj Z=>kS mP Z,J,m7⟩
     case measure=>simp[fh];omega
    ·have V:=keep (by simp at q1;simp[ye,q1,q2])
     go_wp2
     go_roundw
     case rel=>exact⟨k+1,_,m,cp,eB,rfl,by go_num,eB,V.out,U,D,S⟩
     case measure=>simp[fh];omega
  ·have zH:os.take k=os:=aH (by rw[ho.1];omega);rw[zH]at T;have Da:m=(rM mg os).length:=by have:=T.1;rw[lH]at this;omega
   go_wp2
   go_ret;exact⟨_,rfl,⟨by rw[<-Da];exact T,λj Z=>by have:=U j Z;omega,iY⟩⟩
theorem not_nil(a:eh)(n cap:Nat)(w:ew):(binOp .eql 35 (σ (μ a) n cap) (σ ν 0 0)).run fe w=.ok (.bool false) w:=ga
theorem ach(w:ew):(binOp .eql 35 (σ ν 0 0) (σ ν 0 0)).run fe w=.ok (.bool true) w:=ga
theorem Ea(a:eh)(cap:Nat)(w:ew):
 fc fe 246 #[σ (μ a) 0 cap] w λe w'=>∃(v:eA),e=ρ v/\Made w w' v [] :=by
 have hq:=not_nil
 go_in
 go_wp2
 go_ret;exact⟨_,rfl,⟨Row.made w 2 _ #[] (0,0) 0 0 [] rfl rfl (Nat.le_refl _) eF (.inl rfl) ik,λj Z=>kS (Nat.le_refl _) Z,gK _ _⟩⟩
theorem QQ(w:ew):
 fc fe 246 #[σ ν 0 0] w λe w'=>∃(v:eA),e=ρ v/\Made w w' v [] :=by
 have hq:=ach
 go_in
 go_wp2
 go_ret;exact⟨_,rfl,⟨Row.nil w 2,λj Z=>ny Z,au _ _⟩⟩
theorem Nf(b off n cap:Nat)(os:List jQ)(w:ew)(hn:n<=1000000)(S:0<n)(Y:jm w (μ ⟨b,off,ν⟩) n os):
 fc fe 246 #[σ (μ ⟨b,off,ν⟩) n cap] w λe w'=>∃(v:eA),e=ρ v/\Made w w' v os:=by
 obtain⟨i0,hi,y,A,D⟩:=aX Dx;have hq:=not_nil;have T:eH w (w.alloc (γ #[] 276)):=gK _ _;have hl:=Y.1;have M:Row (w.alloc (γ #[] 276)) 2 (σ (μ ⟨w.heap.size,0,ν⟩) 0 0) 0 [] :=Row.made w 2 _ #[] (0,0) 0 0 [] rfl rfl (Nat.le_refl _) eF (.inl rfl) ik
 go_in
 go_wp2_with(at_builtin;go_must(refine iU _ rfl (.tmp 5) (.tmp 6) 35 rfl 276 i0 (.agg #[ι κ 0,ι κ 0]) 2 16 underlying35 hi y A D rfl eF (σ (μ ⟨w.heap.size,0,ν⟩) 0 0) 0 [] rfl M _ n cap (je os) rfl (by rw[lH];omega) S ((Y.below T).cells S) (KB _) (by unfold maxLen;omega) eB ?_));intro g1 C9 w1 G U V;have J:=mF T U (λj Z=>kS (Nat.le_refl _) Z);have E:=oo (B:=w.heap.size) V eB (λj Z=>kS (Nat.le_refl _) Z);clear U V
 go_wp2
 go_ret;refine⟨_,rfl,⟨?_,λj Z=>kS E Z,J⟩⟩;rw[hl];exact G
theorem QR(a:Option eh)(n cap:Nat)(os:List jQ)(w:ew)(U:n<=1000000)(T:kY a cap)(Z:jm w a n os):
 fc fe 246 #[σ a n cap] w λe w'=>∃(v:eA),e=ρ v/\Made w w' v os:=by
 rcases Z.2 with V|⟨b,off,rfl,hc⟩
 ·subst V;have Y:os=[] :=aJ Z.1;subst Y;cases a with
  |none=>
   obtain rfl:=T rfl;exact QQ w
  |some a=>exact Ea a cap w
 ·by_cases S:0<n;{exact Nf b off n cap os w U S Z};{have V:n=0:=eB;subst V;have Y:os=[] :=aJ Z.1;subst Y;exact Ea _ cap w}
theorem Hh {w1:ew} {x y:eA} (hb:eM (w.alloc (γ #[x,y] t)).heap.size (w.alloc (γ #[x,y] t)) w1):
 w1.cell? ⟨w.heap.size,0,ν⟩=μ x/\w1.cell? ⟨w.heap.size,1,ν⟩=μ y/\w.heap.size<w1.heap.size:=by
 have Z:w.heap.size<(w.alloc (γ #[x,y] t)).heap.size:=ik;have hA:=λj=>ak w #[x,y] t (0,0) j;exact⟨(hb.cell (p:=⟨w.heap.size,0,ν⟩) Z).trans (hA 0),(hb.cell (p:=⟨w.heap.size,1,ν⟩) Z).trans (hA 1),Nat.lt_of_lt_of_le Z hb.size⟩
theorem Hj(sz mg:Int)(a:Option eh)(n cap:Nat)(os:List jQ)(w:ew)(y:0<=mg)(T:mg<=255)(S:n<=1000000)(kH:kY a cap)(M:jm w a n os):
 fc fe 228 #[.agg #[ι κ sz,ι κ mg],σ a n cap] w λe w'=>∃v,e=ρ (τ #[ι κ (mL mg os).1,v])/\Made w w' v (mL mg os).2:=by
 have E:eH w (w.alloc (γ #[ι κ sz,ι κ mg] 252)):=gK _ _;have hA:=λj=>ak w #[ι κ sz,ι κ mg] 252 (0,0) j;by_cases J:uk os=[]
 ·have Y:=Ch a n cap os _ S (M.below E);rw[J]at Y;by_cases hb:rM mg os=[]
  ·have V:mL mg os=(2,os):=by simp[mL,J,hb]
   rw[V];clear V
   go_in
   go_wp2_with(fail);refine Y.mono ?_;rintro e w1 ⟨v,rfl,Z⟩;obtain⟨a1,Po,rfl,_,_⟩:=Z.shape;obtain⟨c0,c1,hl⟩:=Hh Z.below;have G:=fP E Z.below;have U:=D9 sz mg a n cap os w1 y T S (M.below G);rw[hb]at U;simp only[eX];clear Y Z;go_wp2_with(fail);refine U.mono ?_;rintro e w2 ⟨v,rfl,Z⟩;obtain⟨a2,D,rfl,_,_⟩:=Z.shape;have m7:=fP G Z.below;simp only[eX];clear U Z;go_wp2_with(fail);refine(QR a n cap os w2 S kH (M.below m7)).mono ?_;rintro e w3 ⟨v,rfl,Z⟩
   go_wp2
   go_ret2
   exact⟨_,rfl,Z.from m7⟩
  ·have V:mL mg os=(3,rM mg os):=by simp[mL,J,hb]
   rw[V];clear V
   go_in
   go_wp2_with(fail);refine Y.mono ?_;rintro e w1 ⟨v,rfl,Z⟩;obtain⟨a1,Po,rfl,_,_⟩:=Z.shape;obtain⟨c0,c1,hl⟩:=Hh Z.below;have G:=fP E Z.below;have U:=D9 sz mg a n cap os w1 y T S (M.below G);simp only[eX];clear Y Z;go_wp2_with(fail);refine U.mono ?_;rintro e w2 ⟨v,rfl,Z⟩;obtain⟨a2,D,rfl,_,_⟩:=Z.shape;have A:=Z.from G;have qN:(0:Int)<((rM mg os).length:Int):=by
    have:(rM mg os).length≠0:=λh=>hb (aJ h);omega
   clear U Z
   go_wp2
   go_ret2
   exact⟨_,rfl,A⟩
 ·have Y:=Ch a n cap os _ S (M.below E);have V:mL mg os=(4,uk os):=by simp[mL,J]
  rw[V];clear V
  go_in
  go_wp2_with(fail);refine Y.mono ?_;rintro e w1 ⟨v,rfl,Z⟩;obtain⟨a1,Po,rfl,_,_⟩:=Z.shape;have A:=Z.from E;have qN:(0:Int)<((uk os).length:Int):=by
   have:(uk os).length≠0:=λh=>J (aJ h);omega
  clear Y Z
  go_wp2
  go_ret2
  exact⟨_,rfl,A⟩
structure MT(w:ew)(B:Nat)(s m:Int):Prop where
 c0:w.cell? ⟨B,0,ν⟩=μ (ι κ s)
 c1:w.cell? ⟨B,1,ν⟩=μ (ι κ m)
 f0:w.frozen? ⟨B,0,ν⟩=false
 f1:w.frozen? ⟨B,1,ν⟩=false
theorem MT.lt(h:MT w B s m):B<w.heap.size:=ag w _ h.c0
theorem MT.below(h:MT w B s m)(hb:eH w w'):MT w' B s m:=
 ⟨(hb.cell (p:=⟨B,0,ν⟩) h.lt).trans h.c0,(hb.cell (p:=⟨B,1,ν⟩) h.lt).trans h.c1,
   (aL (a:=⟨B,0,ν⟩) (hb.block B h.lt)).trans h.f0,(aL (a:=⟨B,1,ν⟩) (hb.block B h.lt)).trans h.f1⟩
structure PV where
 code:Int
 id:Int
 a:Option eh
 n:Nat
 cap:Nat
 os:List jQ
def PV.val(p:PV):eA:=σ p.a p.n p.cap
def PV.cells(p:PV):List eA:=[ι κ p.code,ι κ p.id,p.val]
def QT(ps:List PV):List eA:=ps.flatMap PV.cells
theorem Um(ps:List PV)(p:PV):QT (ps++ [p])=QT ps++ [ι κ p.code,ι κ p.id,p.val] :=by simp[QT,PV.cells]
structure vV(w:ew)(X:Nat->Prop)(v:eA)(p:PV):Prop where
 opt:jm w p.a p.n p.os
 nil:kY p.a p.cap
 le:p.n<=p.cap
 few:p.n<=1000
 far:∀k,vj p.a p.n=μ k->¬X k/\v.ownBlock≠μ k/\k<w.heap.size
structure LS where
 fs:Int
 fm:Int
 ns:Int
 nm:Int
 qs:Int
 qm:Int
 st:Int
 sz:Int
 lf:Int
 wt:Int
 ow:Int
def LS.c(s:LS)(v:eA):Array eA:=Uj s.fs s.fm s.ns s.nm s.qs s.qm s.st s.sz s.lf s.wt s.ow v
structure r8(w:ew)(B:Nat)(X:Nat->Prop)(s:LS)(v:eA)(ps:List PV):Prop where
 lk:Lk w B (s.c v)
 row:Row w 3 v ps.length (QT ps)
 own:∀g,v.ownBlock=μ g->¬X g
 self:X B
 old:∀k,X k->k<w.heap.size
 pk:∀p∈ps,vV w X v p
structure Kept(w w':ew)(B:Nat)(o:Option Nat):Prop where
 os:w'.os=w.os
 tape:w'.tape=w.tape
 output:w'.output=w.output
 size:w.heap.size<=w'.heap.size
 block:∀i,i<w.heap.size->i≠B->o≠μ i->w'.heap[i]? =w.heap[i]?
theorem Kept.refl(w:ew)(B:Nat)(o:Option Nat):Kept w w B o:=⟨rfl,rfl,rfl,Nat.le_refl _,λ_ _ _ _=>rfl⟩
theorem Kept.jg(B:Nat)(o:Option Nat)(h:eH w w'):Kept w w' B o:=⟨h.os,h.tape,h.output,h.size,λi hi _ _=>h.block i hi⟩
theorem Kept.trans {a b c:ew} {B:Nat} {o o':Option Nat} (h:Kept a b B o)(k:Kept b c B o')(Z:∀i,o'=μ i->o=μ i \/a.heap.size<=i):Kept a c B o:=
 ⟨k.os.trans h.os,k.tape.trans h.tape,k.output.trans h.output,Nat.le_trans h.size k.size,λi hi U V=>by
  rw[k.block i (Nat.lt_of_lt_of_le hi h.size) U (λe=>by
   rcases Z i e with Y|Y
   ·exact V Y
   ·omega)]
  exact h.block i hi U V⟩
theorem vV.kept {v':eA} {p:PV} (h:vV w X v p)(S:X B)(k:Kept w w' B v.ownBlock)(hv:∀g,v'.ownBlock=μ g->v.ownBlock=μ g \/w.heap.size<=g):vV w' X v' p:=
 ⟨h.opt.Pk (λj U=>by obtain⟨Z,Y,V⟩:=h.far j U;exact k.block j V (λe=>Z (by rw[e];exact S)) Y),h.nil,h.le,h.few,λj U=>by
  obtain⟨Z,Y,V⟩:=h.far j U;refine⟨Z,λe=> ?_,Nat.lt_of_lt_of_le V k.size⟩;rcases hv j e with T|T
  ·exact Y T
  ·omega⟩
theorem r8.below {w w':ew} {B:Nat} {X:Nat->Prop} {s:LS} {v:eA} {ps:List PV} (h:r8 w B X s v ps)(hb:eH w w'):r8 w' B X s v ps:=
 ⟨h.lk.below hb,h.row.below hb,h.own,h.self,λk Z=>Nat.lt_of_lt_of_le (h.old k Z) hb.size,λp Y=>(h.pk p Y).kept h.self (Kept.jg B _ hb) (λ_ e=>.inl e)⟩
theorem r8.ne {s:LS} {ps:List PV} (h:r8 w B X s v ps):v.ownBlock≠μ B:=λe=>h.own B e h.self
theorem Yw(h:Lk w B C)(Z:(w.alloc o).drew.grownBy x v.ownBlock)(hv:v.ownBlock≠μ B):Lk x B C:=by
 refine h.keep ?_;rw[Z.block B (by show B<(w.alloc o).heap.size;have:=h.lt;simp;omega) (λe=>hv e.symm)];exact aV w o B h.lt
theorem QU(Z:(w.alloc o).drew.grownBy x v.ownBlock):Kept w x B v.ownBlock:=
 ⟨Z.os,Z.tape,Z.output,Nat.le_trans (by show w.heap.size<=(w.alloc o).heap.size;simp) Z.size,λi hi _ Y=>by
  rw[Z.block i (by show i<(w.alloc o).heap.size;simp;omega) (λe=>Y e.symm)];exact aV w o i hi⟩
theorem k7 {o:Option Nat} (h:Kept w x B o)(j:Nat)(v:eA):Kept w (x.setCell ⟨B,j,ν⟩ v) B o:=by
 have b1:eM 0 x (x.setCell ⟨B,j,ν⟩ v):=(au 0 x).setCell (Nat.zero_le _) _;exact⟨b1.os.trans h.os,b1.tape.trans h.tape,b1.output.trans h.output,Nat.le_trans h.size b1.size,λi hi Z Y=>(aq _ _ _ i Z).trans (h.block i hi Z Y)⟩
theorem Jf(B:Nat)(X:Nat->Prop)(s:LS)(v:eA)(ps:List PV)(p:PV)(w:ew)(h:r8 w B X s v ps)(hp:vV w X v p)(hn:ps.length<=100):
 fc fe 225 #[π (μ ⟨B,0,ν⟩),.agg #[ι κ p.code,ι κ p.id,σ p.a p.n p.cap]] w λe w'=>e=ρ (τ #[])/\∃v',r8 w' B X s v' (ps++ [p])/\Kept w w' B v.ownBlock/\(∀g,v'.ownBlock=μ g->v.ownBlock=μ g \/w.heap.size<=g):=by
 obtain⟨i0,hi,oN,nG,mS⟩:=aX Ui;have A:=gK w (γ #[ι κ p.code,ι κ p.id,σ p.a p.n p.cap] 37);have G:=h.below A;have hA:=λj=>ak w #[ι κ p.code,ι κ p.id,σ p.a p.n p.cap] 37 (0,0) j;obtain⟨C,hC⟩:=fq (s.c);have qT:∀x,(C x)[11]? =μ x:=by rw[<-hC];intro x;rfl
 have hcs:∀x y,(C x).setIfInBounds 11 y=C y:=by rw[<-hC];intro x y;rfl
 have M:=G.lk;rw[hC]at M;have jf:=G.row;obtain⟨nn,AX⟩:=fq (ps.length);rw[AX]at jf hn
 go_in
 go_wp2_with(fail);obtain⟨Z,T⟩:=fq (w.heap.size);obtain⟨Y,S⟩:=fq (w.alloc (γ #[ι κ p.code,ι κ p.id,σ p.a p.n p.cap] 37));have d0:Y.cell? ⟨Z,0,ν⟩=μ (ι κ p.code):=by rw[<-S,<-T];exact hA 0
 have d1:Y.cell? ⟨Z,1,ν⟩=μ (ι κ p.id):=by rw[<-S,<-T];exact hA 1
 have d2:Y.cell? ⟨Z,2,ν⟩=μ (σ p.a p.n p.cap):=by rw[<-S,<-T];exact hA 2
 rw[S]at G A M jf;rw[S,T];have Yx:B<Y.heap.size:=M.lt;have Kp:Z<Y.heap.size:=ag Y _ d0;have Yy:Y.cell? ⟨B,11,ν⟩=μ v:=(M.cell 11).trans (qT v);have HB:Hid _:=A;have U:Hid _:=h;have HP:Hid _:=hp;have HO:Hid (v.ownBlock≠μ B):=h.ne;have HZ:Hid _:=T;have HC:Hid _:=hC;have HN:Hid _:=AX;have HL:Hid _:=hcs;have HK:Hid _:=qT;clear hA S T h A hp G hC AX hcs qT
 go_region_law ((refine mE (by rfl) (.tmp 8) (.tmp 10) 175 (by rfl) 37 i0 (.agg #[ι κ 0,ι κ 0,σ ν 0 0]) 3 40 underlying175 hi oN nG mS (by rfl) eF v nn (QT ps) (by rfl) ((jf.alloc _).drew) _ 1 1 [ι κ p.code,ι κ p.id,σ p.a p.n p.cap] (by rfl) (by rfl) eF (zI _ _ _ _ _ _ rfl) (Uk _ _ _ _ _) (by unfold maxLen;omega) eB ?_;intro V D x1 lE kR jR;have Nh:=Yw M kR HO.out;have f11:=Nh.frozen 11;have g11:x1.cell? ⟨B,11,ν⟩=μ v:=(Nh.cell 11).trans (HK.out v)))
 all_goals
  go_wp2
  first|go_end0|refine iX rfl rfl ?_
  have hgs:V≠B:=by
   rcases jR with hh|hh
   {exact λe=>HO.out (by rw[hh,e])};{have:=M.lt;have h2:Y.heap.size<=V:=Nat.le_trans (by show Y.heap.size<=(Y.alloc _).heap.size;simp) hh;omega}
  have E:=k7 ((Kept.jg B v.ownBlock HB.out).trans (QU (B:=B) kR) (λi e=>.inl e)) 11 (σ (μ ⟨V,0,ν⟩) (nn+1) D);have hv:∀g,eD (σ (μ ⟨V,0,ν⟩) (nn+1) D)=μ g->v.ownBlock=μ g \/w.heap.size<=g:=by
   intro g hg;have QV:V=g:=by simpa[eD]using hg
   subst QV;rcases jR with hh|hh
   {exact .inl hh};{right;have h2:Y.heap.size<=V:=Nat.le_trans (by show Y.heap.size<=(Y.alloc _).heap.size;simp) hh;have:=HB.out.size;omega}
  refine⟨rfl,σ (μ ⟨V,0,ν⟩) (nn+1) D,⟨?_,?_,?_,U.out.self,λk hk=>Nat.lt_of_lt_of_le (U.out.old k hk) E.size,?_⟩,E,hv⟩;{have:=Nh.set 11 (σ (μ ⟨V,0,ν⟩) (nn+1) D);rw[HL.out]at this;rw[HC.out];exact this}
  ·rw[Um,aA,HN.out];refine lE.keep ik (λk hk=> ?_);have zH:V=k:=by simpa[eD]using hk
   exact aq _ _ _ k (by show k≠B;omega)
  ·intro g hg hx;rcases hv g hg with e|e
   {exact U.out.own g e hx};{have:=U.out.old g hx;omega}
  ·intro q J;rcases av.1 J with J|J
   ·exact(U.out.pk q J).kept U.out.self E hv
   ·have:q=p:=by simpa using J
    subst this;exact HP.out.kept U.out.self E hv
abbrev kZ:=Int×Int×List jQ
def PV.abs(p:PV):kZ:=(p.code,p.id,p.os)
def LS.asked(s:LS):LS:={s with lf:=s.lf-1,wt:=3,ow:=(s.ow+1) %256}
def qB(c:UInt8)(s:LS):LS:=
 if c=105 then {s with lf:=4}else if c=122 then {s with lf:=0,wt:=3}else if c=114 then({s with qs:=s.ns,qm:=s.nm}:LS).asked else if c=116 then s.asked else s
def Gz(c:UInt8)(s:LS)(zJ:kZ):List kZ:=
 if c=114 then [(1,(s.ow+1) %256,oM s.ns s.nm)]else if c=116 then [(5,(s.ow+1) %256,[])]else if c=97 \/c=110 then [zJ]else if c=107 then [(6,zJ.2.1,[])]else []
def rk:List UInt8->LS->LS
 |[],s=>s
 |c::r,s=>rk r (qB c s)
def yI:List UInt8->LS->kZ->List kZ
 |[],_,_=>[]
 |c::r,s,zJ=>Gz c s zJ++yI r (qB c s) zJ
structure Bd(s:LS)(n:Int):Prop where
 o1:0<=s.ow
 o2:s.ow<=255
 l1: -n<=s.lf
 l2:s.lf<=n
theorem Bd.act {s:LS} {n:Int} (h:Bd s n)(hn:4<=n)(c:UInt8):Bd (qB c s) (n+1):=by
 obtain⟨a,b,d,e⟩:=h;unfold qB;split;{exact⟨a,b,by simp;omega,by simp;omega⟩};{split;{exact⟨a,b,by simp;omega,by simp;omega⟩};{split;{exact⟨by simp[LS.asked];omega,by simp[LS.asked];omega,by simp[LS.asked];omega,by simp[LS.asked];omega⟩};{split;{exact⟨by simp[LS.asked];omega,by simp[LS.asked];omega,by simp[LS.asked];omega,by simp[LS.asked];omega⟩};{exact⟨a,b,eB,eB⟩}}}}
structure nR(w w':ew)(B:Nat)(X:Nat->Prop)(s':LS)(v:eA)(ps:List PV)(out:List kZ):Prop where
 more:∃v' qs,r8 w' B X s' v' (ps++qs)/\qs.map PV.abs=out/\(∀g,v'.ownBlock=μ g->v.ownBlock=μ g \/w.heap.size<=g)
 kept:Kept w w' B v.ownBlock
theorem r8.lP {s:LS} {ps:List PV} (h:r8 w B X s v ps)(j:Nat)(x:eA)(s':LS)(hs:(s.c v).setIfInBounds j x=s'.c v):r8 (w.setCell ⟨B,j,ν⟩ x) B X s' v ps:=by
 have Z:Kept w (w.setCell ⟨B,j,ν⟩ x) B v.ownBlock:=k7 (Kept.refl w B _) j x;refine⟨?_,h.row.keep Z.size (λk U=> ?_),h.own,h.self,λk Y=>Nat.lt_of_lt_of_le (h.old k Y) Z.size,λp V=>(h.pk p V).kept h.self Z (λ_ e=>.inl e)⟩;{have:=h.lk.set j x;rw[hs]at this;exact this};{exact aq _ _ _ k (λe=>h.ne (by rw[U];exact congrArg μ e))}
theorem Pp(B:Nat)(X:Nat->Prop)(s:LS)(v:eA)(ps:List PV)(code:Int)(a:Option eh)(n cap:Nat)(os:List jQ)(w:ew)(h:r8 w B X s v ps)(hb:Bd s 1000)(Y:vV w X v ⟨code,(s.ow+1) %256,a,n,cap,os⟩)(G:ps.length<=100):
 fc fe 223 #[π (μ ⟨B,0,ν⟩),ι κ code,σ a n cap] w λe w'=>e=ρ (τ #[])/\nR w w' B X s.asked v ps [(code,(s.ow+1) %256,os)] :=by
 obtain⟨fs,fm,ns,nm,qs,qm,st,sz,lf,wt,ow⟩:=s;obtain⟨o1,o2,l1,l2⟩:=hb;simp only at o1 o2 l1 l2 Y;have c8:w.cell? ⟨B,8,ν⟩=μ (ι κ lf):=h.lk.cell 8;have c9:w.cell? ⟨B,9,ν⟩=μ (ι κ wt):=h.lk.cell 9;have Un:w.cell? ⟨B,10,ν⟩=μ (ι κ ow):=h.lk.cell 10;have fz:∀j,w.frozen? ⟨B,j,ν⟩=false:=h.lk.frozen;have hl:=h.lk.lt;have T:r8 (((w.setCell ⟨B,10,ν⟩ (ι κ ((ow+1) %256))).setCell ⟨B,8,ν⟩ (ι κ (lf-1))).setCell ⟨B,9,ν⟩ (ι κ 3)) B X ⟨fs,fm,ns,nm,qs,qm,st,sz,lf-1,3,(ow+1) %256⟩ v ps:=
  ((h.lP 10 _ ⟨fs,fm,ns,nm,qs,qm,st,sz,lf,wt,(ow+1) %256⟩ rfl).lP 8 _ ⟨fs,fm,ns,nm,qs,qm,st,sz,lf-1,wt,(ow+1) %256⟩ rfl).lP 9 _ _ rfl
 have Z:Kept w (((w.setCell ⟨B,10,ν⟩ (ι κ ((ow+1) %256))).setCell ⟨B,8,ν⟩ (ι κ (lf-1))).setCell ⟨B,9,ν⟩ (ι κ 3)) B v.ownBlock:=k7 (k7 (k7 (Kept.refl w B _) 10 _) 8 _) 9 _;have V:=Y.kept h.self Z (λ_ e=>.inl e);have U:=Jf B X _ v ps ⟨code,(ow+1) %256,a,n,cap,os⟩ _ T V G;clear h T Y V
 go_in
 go_wp2_with(fail);refine U.mono ?_;rintro e w1 ⟨rfl,v',M,S,hv⟩;clear U
 go_wp2
 first|go_end0|refine iX rfl rfl ?_
 refine⟨rfl,⟨v',[_],M,rfl,λg J=> ?_⟩,Z.trans S (λi e=>.inl e)⟩;rcases hv g J with e|e
 {exact .inl e};{exact .inr (Nat.le_trans Z.size e)}
theorem nR.from {s':LS} {ps:List PV} {out:List kZ} (h:nR x w' B X s' v ps out)(Z:Kept w x B v.ownBlock):nR w w' B X s' v ps out:=by
 obtain⟨⟨v',qs,V,T,hv⟩,Y⟩:=h;refine⟨⟨v',qs,V,T,λg U=> ?_⟩,Z.trans Y (λi e=>.inl e)⟩;rcases hv g U with e|e
 {exact .inl e};{exact .inr (Nat.le_trans Z.size e)}
theorem nR.still {s':LS} {ps:List PV} (h:r8 w' B X s' v ps)(Z:Kept w w' B v.ownBlock):nR w w' B X s' v ps [] :=
 ⟨⟨v,[],by rw[aB];exact h,rfl,λ_ e=>.inl e⟩,Z⟩
theorem rF(w:ew)(X:Nat->Prop)(v:eA)(code id:Int):vV w X v ⟨code,id,ν,0,0,[]⟩:=
 ⟨jm.nil w ν,λ_=>rfl,Nat.le_refl _,Nat.zero_le _,λk Z=>by simp[vj]at Z⟩
theorem Jg {w0:ew} {l:List jQ} (code id:Int)(Z:Made w0 w u l)(hl:l.length<=1000)(U:∀k,X k->k<w0.heap.size)(hv:∀k,v.ownBlock=μ k->k<w0.heap.size):
 ∃a n cap,u=σ a n cap/\vV w X v ⟨code,id,a,n,cap,l⟩:=by
 obtain⟨a,cap,rfl,S,Y⟩:=Z.shape;refine⟨a,l.length,cap,rfl,Z.opts.2,S,Y,hl,λk T=> ?_⟩;have V:eD (σ a l.length cap)=μ k:=D6 T;have h1:=Z.new k V;exact⟨λe=>by have:=U k e;omega,λe=>by have:=hv k e;omega,Z.row.lt k V⟩
theorem Hk(a b:Int):(oM a b).length<=1000:=by
 unfold oM;split<;>split<;>simp
theorem Dy(c:UInt8)(B:Nat)(X:Nat->Prop)(s:LS)(v:eA)(ps:List PV)(p:PV)(w:ew)(h:r8 w B X s v ps)(hb:Bd s 1000)(T:vV w X v p)(hn:ps.length<=100):
 fc fe 208 #[π (μ ⟨B,0,ν⟩),.int .u8 (c.toNat:Int),.agg #[ι κ p.code,ι κ p.id,σ p.a p.n p.cap]] w λe w'=>e=ρ (τ #[])/\nR w w' B X (qB c s) v ps (Gz c s p.abs):=by
 have Z:=gK w (γ #[ι κ p.code,ι κ p.id,σ p.a p.n p.cap] 37);have hl:=h.lk.lt;have fz:∀j,w.frozen? ⟨B,j,ν⟩=false:=h.lk.frozen;have nb:∀k:UInt8,c≠k->((c.toNat:Int)==(k.toNat:Int))=false:=λk A=>by
  rw[cz];intro e;exact A (UInt8.toNat_inj.mp eB)
 by_cases c1:c=105
 ·subst c1;have M:Hid (r8 (w.setCell ⟨B,8,ν⟩ (ι κ 4)) B X {s with lf:=4} v ps):=h.lP 8 _ _ rfl;have k1:Kept w (w.setCell ⟨B,8,ν⟩ (ι κ 4)) B v.ownBlock:=k7 (Kept.refl w B _) 8 _;have d8:w.cell? ⟨B,8,ν⟩=μ (ι κ s.lf):=h.lk.cell 8;have V:((105:UInt8).toNat:Int)=105:=rfl;rw[V];clear h T hb nb Z
  go_in
  go_wp2
  first|go_end0|refine iX rfl rfl ?_
  exact⟨rfl,nR.still (M.out.below (gK _ _)) (k1.trans (Kept.jg B v.ownBlock (gK _ _)) (λi e=>.inl e))⟩
 ·by_cases c2:c=122
  ·subst c2;have M:Hid (r8 ((w.setCell ⟨B,8,ν⟩ (ι κ 0)).setCell ⟨B,9,ν⟩ (ι κ 3)) B X {s with lf:=0,wt:=3} v ps):=(h.lP 8 _ {s with lf:=0} rfl).lP 9 _ _ rfl;have k1:Kept w ((w.setCell ⟨B,8,ν⟩ (ι κ 0)).setCell ⟨B,9,ν⟩ (ι κ 3)) B v.ownBlock:=k7 (k7 (Kept.refl w B _) 8 _) 9 _;have d8:w.cell? ⟨B,8,ν⟩=μ (ι κ s.lf):=h.lk.cell 8;have d9:w.cell? ⟨B,9,ν⟩=μ (ι κ s.wt):=h.lk.cell 9;have V:((122:UInt8).toNat:Int)=122:=rfl;rw[V];clear h T hb nb Z c1
   go_in
   go_wp2
   first|go_end0|refine iX rfl rfl ?_
   exact⟨rfl,nR.still (M.out.below (gK _ _)) (k1.trans (Kept.jg B v.ownBlock (gK _ _)) (λi e=>.inl e))⟩
  ·by_cases c3:c=114
   ·subst c3;have M:Hid (r8 ((w.setCell ⟨B,4,ν⟩ (ι κ s.ns)).setCell ⟨B,5,ν⟩ (ι κ s.nm)) B X {s with qs:=s.ns,qm:=s.nm} v ps):=(h.lP 4 _ {s with qs:=s.ns} rfl).lP 5 _ _ rfl;have k1:Kept w ((w.setCell ⟨B,4,ν⟩ (ι κ s.ns)).setCell ⟨B,5,ν⟩ (ι κ s.nm)) B v.ownBlock:=k7 (k7 (Kept.refl w B _) 4 _) 5 _;have d2:w.cell? ⟨B,2,ν⟩=μ (ι κ s.ns):=h.lk.cell 2;have d3:w.cell? ⟨B,3,ν⟩=μ (ι κ s.nm):=h.lk.cell 3;have d4:w.cell? ⟨B,4,ν⟩=μ (ι κ s.qs):=h.lk.cell 4;have d5:w.cell? ⟨B,5,ν⟩=μ (ι κ s.qm):=h.lk.cell 5;have V:((114:UInt8).toNat:Int)=114:=rfl;have Yz:=h.row.lt;have QK:=h.old;rw[V];clear h T nb Z c1 c2
    go_in
    go_wp2_with(fail);refine(KE s.ns s.nm _).mono ?_;rintro e w1 ⟨u,rfl,hM⟩;have A5:w.heap.size<=(((w.setCell ⟨B,4,ν⟩ (ι κ s.ns)).setCell ⟨B,5,ν⟩ (ι κ s.nm)).alloc (γ #[ι κ p.code,ι κ p.id,σ p.a p.n p.cap] 37)).heap.size:=ik;obtain⟨a',n',jH,rfl,hP⟩:=Jg (X:=X) (v:=v) 1 ((s.ow+1) %256) hM (Hk _ _) (λk A=>Nat.lt_of_lt_of_le (QK k A) A5) (λk A=>Nat.lt_of_lt_of_le (Yz k A) A5);have R2:=(M.out.below (gK _ _)).below hM.below;have K2:=k1.trans (Kept.jg B v.ownBlock (fP (gK _ (γ #[ι κ p.code,ι κ p.id,σ p.a p.n p.cap] 37)) hM.below)) (λi e=>.inl e);have Y:=Pp B X {s with qs:=s.ns,qm:=s.nm} v ps 1 a' n' jH (oM s.ns s.nm) w1 R2 ⟨hb.o1,hb.o2,hb.l1,hb.l2⟩ hP hn;clear M d2 d3 d4 d5 fz hM R2 hP A5;go_wp2_with(fail);refine Y.mono ?_;rintro e w2 ⟨rfl,hW⟩;clear Y
    go_wp2
    first|go_end0|refine iX rfl rfl ?_
    exact⟨rfl,hW.from K2⟩
   ·by_cases c4:c=116
    ·subst c4;have U:=h.below Z;have Y:=Pp B X s v ps 5 ν 0 0 [] _ U hb (rF _ _ _ _ _) hn;have S:=Kept.jg B v.ownBlock Z;have V:((116:UInt8).toNat:Int)=116:=rfl;rw[V];clear h T nb Z c1 c2 c3 U
     go_in
     go_wp2_with(fail);refine Y.mono ?_;rintro e w2 ⟨rfl,hW⟩;clear Y
     go_wp2
     first|go_end0|refine iX rfl rfl ?_
     exact⟨rfl,hW.from S⟩
    ·by_cases J:c=107
     ·subst J;have U:=h.below Z;have Y:=Jf B X s v ps ⟨6,p.id,ν,0,0,[]⟩ _ U (rF _ _ _ _ _) hn;have S:=Kept.jg B v.ownBlock Z;have V:((107:UInt8).toNat:Int)=107:=rfl;have hz:∀w:ew,(zeroValue 37).run fe w=.ok (.agg #[ι κ 0,ι κ 0,σ ν 0 0]) w:=λw=>ga;rw[V];clear h T nb Z c1 c2 c3 c4 U
      go_in
      go_wp2_with(fail);refine Y.mono ?_;rintro e w2 ⟨rfl,v',D,E,hv⟩;clear Y
      go_wp2
      first|go_end0|refine iX rfl rfl ?_
      exact⟨rfl,(show nR _ w2 B X s v ps [(6,p.id,[])]from⟨⟨v',[_],D,rfl,hv⟩,E⟩).from S⟩
     ·have U:=h.below Z;have y:=T.kept h.self (Kept.jg B v.ownBlock Z) (λ_ e=>.inl e);have Y:=Jf B X s v ps p _ U y hn;have S:=Kept.jg B v.ownBlock Z;by_cases G:c=97
      ·subst G;have V:((97:UInt8).toNat:Int)=97:=rfl;rw[V];clear h T nb Z c1 c2 c3 c4 J U y
       go_in
       go_wp2_with(fail);refine Y.mono ?_;rintro e w2 ⟨rfl,v',D,E,hv⟩;clear Y
       go_wp2
       first|go_end0|refine iX rfl rfl ?_
       exact⟨rfl,(show nR _ w2 B X s v ps [p.abs]from⟨⟨v',[_],D,rfl,hv⟩,E⟩).from S⟩
      ·by_cases c7:c=110
       ·subst c7;have V:((110:UInt8).toNat:Int)=110:=rfl;rw[V];clear h T nb Z c1 c2 c3 c4 J G U y
        go_in
        go_wp2_with(fail);refine Y.mono ?_;rintro e w2 ⟨rfl,v',D,E,hv⟩;clear Y
        go_wp2
        first|go_end0|refine iX rfl rfl ?_
        exact⟨rfl,(show nR _ w2 B X s v ps [p.abs]from⟨⟨v',[_],D,rfl,hv⟩,E⟩).from S⟩
       ·have hS:qB c s=s:=by simp[qB,c1,c2,c3,c4]
        have hO:Gz c s p.abs=[] :=by simp[Gz,c3,c4,J,G,c7]
        have q1:((c.toNat:Int)==105)=false:=nb 105 c1;have q2:((c.toNat:Int)==122)=false:=nb 122 c2;have q3:((c.toNat:Int)==114)=false:=nb 114 c3;have q4:((c.toNat:Int)==116)=false:=nb 116 c4;have q5:((c.toNat:Int)==107)=false:=nb 107 J;have q6:((c.toNat:Int)==97)=false:=nb 97 G;have q7:((c.toNat:Int)==110)=false:=nb 110 c7;rw[hS,hO];have HR:Hid _:=U;clear h T nb Z c1 c2 c3 c4 J G c7 U y Y hS hO
        go_in
        go_wp2
        first|go_end0|refine iX rfl rfl ?_
        exact⟨rfl,nR.still HR.out S⟩
def LS.next(s:LS)(nx:Int):LS:=if nx<=3 then {s with st:=nx,ns:=s.fs,nm:=s.fm,sz:=255}else {s with st:=nx}
theorem Kept.tab {o:Option Nat} (k:Kept w w' B o)(h:jt w)(hB:B≠0)(Y:o≠μ 0):jt w':=λe s Z hs=>
 (aj (a:=⟨0,e*10+s,ν⟩) (k.block 0 h.lt eB Y)).trans (h e s Z hs)
theorem Pq(B:Nat)(X:Nat->Prop)(s:LS)(v:eA)(ps:List PV)(p:PV)(ev:Int)(D:List UInt8)(nx:Int)(f:Nat)(w:ew)(Y:jt w)(h:r8 w B X s v ps)(T:jv s.st ev=(D,nx,f))(hf:f≠0):
 fc fe 171 #[π (μ ⟨B,0,ν⟩),ι κ ev,.agg #[ι κ p.code,ι κ p.id,σ p.a p.n p.cap]] w λe w'=>e=ρ (.iface 128 (ι κ (f:Int)))/\eH w w':=by
 have V:=gK w (γ #[ι κ p.code,ι κ p.id,σ p.a p.n p.cap] 37);have U:=Jc s.st ev D nx f T _ (Y.below V);have Z:jB f=.iface 128 (ι κ (f:Int)):=by simp[jB,hf]
 rw[Z]at U;have hl:=h.lk.lt;have c6:w.cell? ⟨B,6,ν⟩=μ (ι κ s.st):=h.lk.cell 6;clear h Y Z
 go_in
 go_wp2_with(fail);refine U.mono ?_;rintro e w1 ⟨rfl,m1,rfl⟩
 go_wp2
 go_ret;exact⟨rfl,below_drewN V _⟩
structure QW(w wr:ew)(B:Nat)(X:Nat->Prop)(Z:Nat)(v:eA)(ps:List PV)(p:PV)(S:ByteArray)(k:Nat)(sF:LS)(oF:List kZ)(sk:LS)(vk:eA)(qs:List PV):Prop where
 rep:r8 wr B X sk vk (ps++qs)
 bd:Bd sk (100+k)
 fin:rk (S.data.toList.drop k) sk=sF
 out:qs.map PV.abs++yI (S.data.toList.drop k) sk p.abs=oF
 zJ:vV wr X vk p
 kept:Kept w wr B v.ownBlock
 hv:∀g,vk.ownBlock=μ g->v.ownBlock=μ g \/w.heap.size<=g
 d0:wr.cell? ⟨Z,0,ν⟩=μ (ι κ p.code)
 d1:wr.cell? ⟨Z,1,ν⟩=μ (ι κ p.id)
 d2:wr.cell? ⟨Z,2,ν⟩=μ (σ p.a p.n p.cap)
 nz:vk.ownBlock≠μ Z
 few:qs.length<=k
theorem KI(c:UInt8)(s:LS)(a:kZ):(Gz c s a).length<=1:=by
 unfold Gz;split;{simp};{split;{simp};{split;{simp};{split<;>simp}}}
theorem KJ {V:ew} {Z:Nat} {ps:List PV} {p:PV} {S:ByteArray} {sF:LS} {oF:List kZ} {sk:LS} {vk:eA} {qs:List PV} {c:UInt8} {r:List UInt8}
 (Y:QW w wr B X Z v ps p S k sF oF sk vk qs) (G:S.data.toList.drop k=c::r) (hW:nR wr.drew V B X (qB c sk) vk (ps++qs) (Gz c sk p.abs)) (YA:eH wr wr.drew):
 ∃v2 q2,QW w V B X Z v ps p S (k+1) sF oF (qB c sk) v2 q2:=by
 obtain⟨⟨v2,q2,hR,y,hv⟩,hK⟩:=hW;have h:S.data.toList.drop (k+1)=r:=by
  have:=congrArg (List.drop 1) G;simpa using this
 have M:Kept wr V B vk.ownBlock:=(Kept.jg B vk.ownBlock YA).trans hK (λi e=>.inl e);have T:∀j,V.cell? ⟨Z,j,ν⟩=wr.cell? ⟨Z,j,ν⟩:=λj=>aj (a:=⟨Z,j,ν⟩) (M.block Z (ag wr _ Y.d0) (λe=>by
  subst e;have U:=Y.d0;have D:=Y.d1;have J:=Y.d2;have A:wr.cell? ⟨Z,2,ν⟩=μ (ι κ sk.ns):=Y.rep.lk.cell 2;rw[J]at A;simp at A) Y.nz)
 have sG:wr.drew.heap.size=wr.heap.size:=rfl;refine⟨v2,qs++q2,by rw[<-aD];exact hR,?_,?_,?_,?_,?_,?_,(T 0).trans Y.d0,(T 1).trans Y.d1,(T 2).trans Y.d2,?_,?_⟩;{have:=Bd.act Y.bd eB c;exact⟨this.o1,this.o2,by have:=this.l1;push_cast;omega,by have:=this.l2;push_cast;omega⟩};{rw[h,<-Y.fin,G];rfl};{rw[h,<-Y.out,G,cW,y,aD];rfl};{exact Y.zJ.kept Y.rep.self M (λg E=>hv g E)}
 ·refine Y.kept.trans M (λi e=> ?_);rcases Y.hv i e with U|U
  {exact .inl U};{exact .inr U}
 ·intro g E;rcases hv g E with U|U
  {exact Y.hv g U};{exact .inr (Nat.le_trans Y.kept.size U)}
 ·intro e;rcases hv Z e with U|U
  {exact Y.nz U};{have J:Z<wr.heap.size:=ag wr _ Y.d0;have D:wr.heap.size<=Z:=U;omega}
 ·rw[aA];have U:q2.length=(Gz c sk p.abs).length:=by rw[<-y];simp
  have D:=KI c sk p.abs;have J:=Y.few;omega
theorem Uo(B:Nat)(X:Nat->Prop)(s:LS)(v:eA)(ps:List PV)(p:PV)(ev:Int)(S:ByteArray)(nx:Int)(w:ew)(hT:jt w)(h:r8 w B X s v ps)(hb:Bd s 100)(hp:vV w X v p)(hn:ps.length<=50)(hR:jv s.st ev=(S.data.toList,nx,0))(hS:S.size<=4):
 fc fe 171 #[π (μ ⟨B,0,ν⟩),ι κ ev,.agg #[ι κ p.code,ι κ p.id,σ p.a p.n p.cap]] w λe w'=>e=ρ η/\nR w w' B X (rk S.data.toList (s.next nx)) v ps (yI S.data.toList (s.next nx) p.abs):=by
 have y:=gK w (γ #[ι κ p.code,ι κ p.id,σ p.a p.n p.cap] 37);have hA:=λj=>ak w #[ι κ p.code,ι κ p.id,σ p.a p.n p.cap] 37 (0,0) j;have kC:=Jc s.st ev S.data.toList nx 0 hR _ (hT.below y);have e0:jB 0=η:=rfl;have eS:(⟨S.data.toList.toArray⟩:ByteArray)=S:=ik;rw[e0,eS]at kC;have hl:=h.lk.lt;have Yz:=h.row.lt;have c6:w.cell? ⟨B,6,ν⟩=μ (ι κ s.st):=h.lk.cell 6;have h0:=h.below y;have hp0:=hp.kept h.self (Kept.jg B v.ownBlock y) (λ_ e=>.inl e);obtain⟨M,hsF⟩:=fq (rk S.data.toList (s.next nx));obtain⟨J,hoF⟩:=fq (yI S.data.toList (s.next nx) p.abs);rw[hsF,hoF];have HsF:Hid _:=hsF;have HoF:Hid _:=hoF;clear hsF hoF
 go_in
 go_wp2_with(fail);refine kC.mono ?_;rintro e w1 ⟨rfl,m1,rfl⟩;obtain⟨U,kt⟩:=fq ((w.alloc (γ #[ι κ p.code,ι κ p.id,σ p.a p.n p.cap] 37)).drewN m1);obtain⟨Z,hZ⟩:=fq (w.heap.size);have d0:U.cell? ⟨Z,0,ν⟩=μ (ι κ p.code):=by rw[<-kt,<-hZ];exact hA 0
 have d1:U.cell? ⟨Z,1,ν⟩=μ (ι κ p.id):=by rw[<-kt,<-hZ];exact hA 1
 have d2:U.cell? ⟨Z,2,ν⟩=μ (σ p.a p.n p.cap):=by rw[<-kt,<-hZ];exact hA 2
 have kO:eH w U:=by rw[<-kt];exact below_drewN y m1
 have T:r8 U B X s v ps:=h.below kO;have Db:vV U X v p:=hp.kept h.self (Kept.jg B v.ownBlock kO) (λ_ e=>.inl e);have Pr:=Kept.jg B v.ownBlock kO;rw[kt,hZ];have yJ:B≠Z:=eB;have hnz:v.ownBlock≠μ Z:=λe=>by have:=Yz Z e;omega
 clear kC kt hZ hA h0 y h c6 hl e0 eS hT hp hp0 kO Yz;have Yx:=T.lk.lt;have c0:U.cell? ⟨B,0,ν⟩=μ (ι κ s.fs):=T.lk.cell 0;have c1:U.cell? ⟨B,1,ν⟩=μ (ι κ s.fm):=T.lk.cell 1;have c2:U.cell? ⟨B,2,ν⟩=μ (ι κ s.ns):=T.lk.cell 2;have c3:U.cell? ⟨B,3,ν⟩=μ (ι κ s.nm):=T.lk.cell 3;have c6:U.cell? ⟨B,6,ν⟩=μ (ι κ s.st):=T.lk.cell 6;have c7:U.cell? ⟨B,7,ν⟩=μ (ι κ s.sz):=T.lk.cell 7;have fz:∀j,U.frozen? ⟨B,j,ν⟩=false:=T.lk.frozen;have tail:∀(D:ew) (s2:LS),r8 D B X s2 v ps->Kept U D B v.ownBlock->s.next nx=s2->Bd s2 100->QW w D B X Z v ps p S 0 M J s2 v [] :=by
  intro D s2 Gp GD Up m7;have Eb:∀j,D.cell? ⟨Z,j,ν⟩=U.cell? ⟨Z,j,ν⟩:=λj=>aj (a:=⟨Z,j,ν⟩) (GD.block Z (ag U _ d0) (λe=>yJ e.symm) hnz);exact⟨by rw[aB];exact Gp,⟨m7.o1,m7.o2,by have:=m7.l1;omega,by have:=m7.l2;omega⟩,by rw[<-HsF.out,Up];rfl,by rw[<-HoF.out,Up];rfl,Db.kept T.self GD (λ_ e=>.inl e),Pr.trans GD (λi e=>.inl e),λ_ e=>.inl e,(Eb 0).trans d0,(Eb 1).trans d1,(Eb 2).trans d2,hnz,Nat.le_refl _⟩
 have HT:Hid _:=tail;clear tail;clear HsF HoF;by_cases hx:nx<=3
 ·have M0:Hid (QW w ((((U.setCell ⟨B,6,ν⟩ (ι κ nx)).setCell ⟨B,2,ν⟩ (ι κ s.fs)).setCell ⟨B,3,ν⟩ (ι κ s.fm)).setCell ⟨B,7,ν⟩ (ι κ 255)) B X Z v ps p S 0 M J {s with st:=nx,ns:=s.fs,nm:=s.fm,sz:=255} v []):=
   HT.out _ _ ((((T.lP 6 _ {s with st:=nx} rfl).lP 2 _ {s with st:=nx,ns:=s.fs} rfl).lP 3 _ {s with st:=nx,ns:=s.fs,nm:=s.fm} rfl).lP 7 _ _ rfl) (k7 (k7 (k7 (k7 (Kept.refl _ B _) 6 _) 2 _) 3 _) 7 _) (by simp[LS.next,hx]) ⟨hb.o1,hb.o2,hb.l1,hb.l2⟩
  clear HT T Pr Db;go_wp2_with(fail);obtain⟨D,nK⟩:=fq (((((U.setCell ⟨B,6,ν⟩ (ι κ nx)).setCell ⟨B,2,ν⟩ (ι κ s.fs)).setCell ⟨B,3,ν⟩ (ι κ s.fm)).setCell ⟨B,7,ν⟩ (ι κ 255)));have M1:Hid (QW w D B X Z v ps p S 0 M J {s with st:=nx,ns:=s.fs,nm:=s.fm,sz:=255} v []):=by show QW _ _ _ _ _ _ _ _ _ _ _ _ _ _ _;rw[<-nK];exact M0.out
  rw[nK];clear M0 nK d0 d1 d2 c0 c1 c2 c3 c6 c7 fz
  go_loopw [42] (λi wr=>∃(k:Nat) (G:LS) (E:eA) (qs:List PV),k<=S.size/\i=ι κ k/\QW w wr B X Z v ps p S k M J G E qs) (λi _=>S.size-(fh i).toNat)
  case atStart=>exact⟨0,_,v,[],Nat.zero_le _,rfl,M1.out⟩
  case round=>
   obtain⟨k,G,E,qs,y,rfl,Y⟩:=hrel;by_cases kL:k<S.size
   ·have n9:(k:Int)<(S.size:Int):=eB;have GF:(0:Int)<=(k:Int):=eB;have HD:Hid (S.data.toList.drop k=S[k] ::S.data.toList.drop (k+1)):=by
     show _=_;rw[aR (by simpa using kL)];rfl
    obtain⟨x0,x1,x2⟩:=fj Y.d0 (fj Y.d1 Y.d2);have xl:Z<wr.heap.size:=ag wr _ x0;have A:eH wr wr.drew:=jK (au _ _);have HC:=Dy S[k] B X G E (ps++qs) p wr.drew (Y.rep.below A) ⟨Y.bd.o1,Y.bd.o2,by have:=Y.bd.l1;omega,by have:=Y.bd.l2;omega⟩ (Y.zJ.kept Y.rep.self (Kept.jg B E.ownBlock A) (λ_ e=>.inl e)) (by rw[aA];have:=Y.few;omega)
    go_wp2
    go_region_with(go_at_call 208;refine HC.mono ?_;rintro e V ⟨rfl,hW⟩)
    all_goals
     have M2:Hid (∃v2 q2,QW w V B X Z v ps p S (k+1) M J (qB S[k] G) v2 q2):=KJ Y HD.out hW A;clear HC
     go_wp2
     go_roundw
     case rel=>
      obtain⟨v2,q2,uH⟩:=M2.out;exact⟨k+1,_,v2,q2,eB,by go_num,uH⟩
     case measure=>simp[fh];omega
   ·have Hl:S.data.toList.drop k=[] :=bg (by
     have:S.data.toList.length=S.size:=ik;omega)
    have HF:Hid (nR w wr B X M v ps J):=by
     have T:=Y.fin;have h2:=Y.out;rw[Hl]at T h2;have h3:G=M:=T;subst h3;refine⟨⟨E,qs,Y.rep,by simpa[yI]using h2,Y.hv⟩,Y.kept⟩
    clear Y Hl
    go_wp2
    go_ret;exact⟨rfl,HF.out⟩
 ·have M0:Hid (QW w (U.setCell ⟨B,6,ν⟩ (ι κ nx)) B X Z v ps p S 0 M J {s with st:=nx} v []):=
   HT.out _ _ (T.lP 6 _ _ rfl) (k7 (Kept.refl _ B _) 6 _) (by simp[LS.next,hx]) ⟨hb.o1,hb.o2,hb.l1,hb.l2⟩
  clear HT T Pr Db;go_wp2_with(fail);obtain⟨D,nK⟩:=fq ((U.setCell ⟨B,6,ν⟩ (ι κ nx)));have M1:Hid (QW w D B X Z v ps p S 0 M J {s with st:=nx} v []):=by show QW _ _ _ _ _ _ _ _ _ _ _ _ _ _ _;rw[<-nK];exact M0.out
  rw[nK];clear M0 nK d0 d1 d2 c0 c1 c2 c3 c6 c7 fz
  go_loopw [42] (λi wr=>∃(k:Nat) (G:LS) (E:eA) (qs:List PV),k<=S.size/\i=ι κ k/\QW w wr B X Z v ps p S k M J G E qs) (λi _=>S.size-(fh i).toNat)
  case atStart=>exact⟨0,_,v,[],Nat.zero_le _,rfl,M1.out⟩
  case round=>
   obtain⟨k,G,E,qs,y,rfl,Y⟩:=hrel;by_cases kL:k<S.size
   ·have n9:(k:Int)<(S.size:Int):=eB;have GF:(0:Int)<=(k:Int):=eB;have HD:Hid (S.data.toList.drop k=S[k] ::S.data.toList.drop (k+1)):=by
     show _=_;rw[aR (by simpa using kL)];rfl
    obtain⟨x0,x1,x2⟩:=fj Y.d0 (fj Y.d1 Y.d2);have xl:Z<wr.heap.size:=ag wr _ x0;have A:eH wr wr.drew:=jK (au _ _);have HC:=Dy S[k] B X G E (ps++qs) p wr.drew (Y.rep.below A) ⟨Y.bd.o1,Y.bd.o2,by have:=Y.bd.l1;omega,by have:=Y.bd.l2;omega⟩ (Y.zJ.kept Y.rep.self (Kept.jg B E.ownBlock A) (λ_ e=>.inl e)) (by rw[aA];have:=Y.few;omega)
    go_wp2
    go_region_with(go_at_call 208;refine HC.mono ?_;rintro e V ⟨rfl,hW⟩)
    all_goals
     have M2:Hid (∃v2 q2,QW w V B X Z v ps p S (k+1) M J (qB S[k] G) v2 q2):=KJ Y HD.out hW A;clear HC
     go_wp2
     go_roundw
     case rel=>
      obtain⟨v2,q2,uH⟩:=M2.out;exact⟨k+1,_,v2,q2,eB,by go_num,uH⟩
     case measure=>simp[fh];omega
   ·have Hl:S.data.toList.drop k=[] :=bg (by
     have:S.data.toList.length=S.size:=ik;omega)
    have HF:Hid (nR w wr B X M v ps J):=by
     have T:=Y.fin;have h2:=Y.out;rw[Hl]at T h2;have h3:G=M:=T;subst h3;refine⟨⟨E,qs,Y.rep,by simpa[yI]using h2,Y.hv⟩,Y.kept⟩
    clear Y Hl
    go_wp2
    go_ret;exact⟨rfl,HF.out⟩
def yK(n:Int):Bool:=decide (0<=n)&&decide (n<=255)
theorem mG(n:Int)(w:ew):fc fe 226 #[ι κ n] w λe w'=>e=ρ (.bool (yK n))/\w=w':=by
 by_cases Z:0<=n
 ·by_cases Y:n<=255
  ·have hb:yK n=true:=by simp[yK,Z,Y]
   rw[hb];clear hb
   go_in
   go_wp2
   go_ret;exact⟨by first|rfl|(simp;omega),rfl⟩
  ·have hb:yK n=false:=by simp[yK,Y]
   rw[hb];clear hb
   go_in
   go_wp2
   go_ret;exact⟨by first|rfl|(simp;omega),rfl⟩
 ·have hb:yK n=false:=by simp[yK,Z]
  rw[hb];clear hb
  go_in
  go_wp2
  go_ret;exact⟨by first|rfl|(simp;omega),rfl⟩
theorem Cj(k n K:Int)(bo:Nat)(w:ew)(QX:bo<w.heap.size)(h:w.cell? ⟨bo,0,ν⟩=μ (ι κ K)):
 fc fe 243 #[.agg #[ι κ k,ι κ n],π (μ ⟨bo,0,ν⟩)] w λe w'=>e=ρ (.bool (k==K))/\eH w w':=by
 go_in
 go_wp2
 go_ret;exact⟨rfl,(au _ _).alloc (Nat.le_refl _) _⟩
theorem QY(a:Option eh)(n cap:Nat)(os:List jQ)(K:Int)(bo:Nat)(w:ew)(hn:n<=1000000)(G:bo<w.heap.size)(h:w.cell? ⟨bo,0,ν⟩=μ (ι κ K))(T:jm w a n os):
 fc fe 254 #[σ a n cap,.func (.func 243) #[] #[π (μ ⟨bo,0,ν⟩)]] w λe w'=>∃r:Int,e=ρ (ι κ r)/\(decide (0<=r)=os.any (λo=>o.1==K))/\eH w w':=by
 go_in
 go_wp2
 go_loopw [8] (λi wr=>∃k:Nat,k<=n/\i=ι κ k/\(os.take k).any (λo=>o.1==K)=false/\eH w wr) (λi _=>n-(fh i).toNat)
 case atStart=>exact⟨0,Nat.zero_le _,rfl,rfl,au _ _⟩
 case round=>
  obtain⟨k,hk,rfl,V,Y⟩:=hrel;have Z:Hid _:=V;clear V;by_cases kL:k<n
  ·have y:=T.below Y;rcases y.2 with h0|⟨b,off,rfl,hc⟩
   ·omega
   have A:k<os.length:=by rw[T.1];exact kL
   obtain⟨c1,c2⟩:=hc k A;have E:wr.cell? ⟨bo,0,ν⟩=μ (ι κ K):=(Y.cell (p:=⟨bo,0,ν⟩) G).trans h;have U:bo<wr.heap.size:=Nat.lt_of_lt_of_le G Y.size;have J:Hid (os.take (k+1)=os.take k++ [os[k]]):=az A;have M:Hid (os[k] ∈os):=aF _;generalize os[k] =o at c1 c2 J M;clear hc;have n9:(k:Int)<(n:Int):=eB;cases D:(o.1==K)
   ·go_wp2_with(fail);refine(Cj o.1 o.2 K bo wr U E).mono ?_;rintro e w1 ⟨rfl,S⟩
    go_wp2
    go_roundw
    case rel=>exact⟨k+1,eB,by go_num,by rw[J.out,List.any_append,Z.out];simp[D],fP Y S⟩
    case measure=>simp[fh];omega
   ·go_wp2_with(fail);refine(Cj o.1 o.2 K bo wr U E).mono ?_;rintro e w1 ⟨rfl,S⟩
    go_wp2
    go_ret;refine⟨_,rfl,?_,fP Y S⟩;have h1:os.any (λo=>o.1==K)=true:=List.any_eq_true.mpr ⟨o,M.out,D⟩;rw[h1];simp
  ·have zH:os.take k=os:=aH (by rw[T.1];omega);rw[zH]at Z
   go_wp2
   go_ret;exact⟨-1,rfl,by rw[Z.out];rfl,Y⟩
theorem Jh(a:Option eh)(n cap:Nat)(os:List jQ)(K:Int)(bo:Nat)(w:ew)(Y:n<=1000000)(Z:bo<w.heap.size)(h:w.cell? ⟨bo,0,ν⟩=μ (ι κ K))(V:jm w a n os):
 fc fe 242 #[σ a n cap,.func (.func 243) #[] #[π (μ ⟨bo,0,ν⟩)]] w λe w'=>e=ρ (.bool (os.any (λo=>o.1==K)))/\eH w w':=by
 go_in
 go_wp2_with(fail);refine(QY a n cap os K bo w Y Z h V).mono ?_;rintro e w1 ⟨r,rfl,U,hb⟩
 go_wp2
 go_ret;exact⟨by rw[<-U];rfl,hb⟩
def qC:List jQ->List jQ->Nat
 |_,[] =>0
 |seen,o::r=>if(yK o.1&&yK o.2)=false then 1 else if seen.any (λx=>x.1==o.1)=true then 3 else qC (seen++ [o]) r
theorem A6(a:Option eh)(n cap:Nat)(os:List jQ)(w:ew)(hn:n<=1000000)(KK:n<=cap)(A:jm w a n os):
 fc fe 227 #[σ a n cap] w λe w'=>e=ρ (jB (qC [] os))/\eH w w':=by
 go_in
 go_wp2
 go_loopw [7] (λi wr=>∃k:Nat,k<=n/\i=ι κ k/\qC [] os=qC (os.take k) (os.drop k)/\eH w wr) (λi _=>n-(fh i).toNat)
 case atStart=>exact⟨0,Nat.zero_le _,rfl,rfl,au _ _⟩
 case round=>
  obtain⟨k,hk,rfl,Ps,T⟩:=hrel;have hF:Hid _:=Ps;clear Ps;by_cases kL:k<n
  ·have J:=A.below T;have Uq:=J.take k eB;rcases J.2 with h0|⟨b,off,rfl,hc⟩
   ·omega
   have h:k<os.length:=by rw[A.1];exact kL
   obtain⟨c1,c2⟩:=hc k h;have HT:Hid (os.take (k+1)=os.take k++ [os[k]]):=az h;have V:Hid (os.drop k=os[k] ::os.drop (k+1)):=aR h;generalize os[k] =o at c1 c2 HT V;clear hc;have n9:(k:Int)<(n:Int):=eB;have M:eH w (wr.alloc (γ #[ι κ o.1,ι κ o.2] 276)):=T.alloc T.size _;have U:jm (wr.alloc (γ #[ι κ o.1,ι κ o.2] 276)) (μ ⟨b,off,ν⟩) k (os.take k):=Uq.below ((au _ _).alloc (Nat.le_refl _) _);have D:(wr.alloc (γ #[ι κ o.1,ι κ o.2] 276)).cell? ⟨wr.heap.size,0,ν⟩=μ (ι κ o.1):=ak wr #[ι κ o.1,ι κ o.2] 276 (0,0) 0;have S:=Jh (μ ⟨b,off,ν⟩) k cap (os.take k) o.1 wr.heap.size (wr.alloc (γ #[ι κ o.1,ι κ o.2] 276)) eB ik D U;clear Uq U J;cases E:yK o.1
   ·have Y:Hid (qC [] os=1):=by
     show qC [] os=1;rw[hF.out,V.out,qC,ai (by simp[E])]
    go_wp2_with(fail);refine(mG o.1 _).mono ?_;rintro e w1 ⟨rfl,rfl⟩;go_wp2_with(fail);rw[Y.out];go_ret;exact⟨rfl,M⟩
   ·cases G:yK o.2
    ·have Y:Hid (qC [] os=1):=by
      show qC [] os=1;rw[hF.out,V.out,qC,ai (by simp[G])]
     go_wp2_with(fail);refine(mG o.1 _).mono ?_;rintro e w1 ⟨rfl,rfl⟩;go_wp2_with(fail);refine(mG o.2 _).mono ?_;rintro e w1 ⟨rfl,rfl⟩;go_wp2_with(fail);rw[Y.out];go_ret;exact⟨rfl,M⟩
    ·cases Z:(os.take k).any (λx=>x.1==o.1)
     ·have Y:Hid (qC [] os=qC (os.take (k+1)) (os.drop (k+1))):=by
       show qC [] os=_;rw[hF.out,V.out,qC,af (by simp[E,G]),af (by simp[Z]),HT.out]
      rw[Z]at S;clear Z;go_wp2_with(fail);refine(mG o.1 _).mono ?_;rintro e w1 ⟨rfl,rfl⟩;go_wp2_with(fail);refine(mG o.2 _).mono ?_;rintro e w1 ⟨rfl,rfl⟩;go_wp2_with(fail);refine S.mono ?_;rintro e w1 ⟨rfl,y⟩
      go_wp2
      go_roundw
      case rel=>exact⟨k+1,eB,by go_num,Y.out,fP M y⟩
      case measure=>simp[fh];omega
     ·have Y:Hid (qC [] os=3):=by
       show qC [] os=3;rw[hF.out,V.out,qC,af (by simp[E,G]),ai Z]
      rw[Z]at S;clear Z;go_wp2_with(fail);refine(mG o.1 _).mono ?_;rintro e w1 ⟨rfl,rfl⟩;go_wp2_with(fail);refine(mG o.2 _).mono ?_;rintro e w1 ⟨rfl,rfl⟩;go_wp2_with(fail);refine S.mono ?_;rintro e w1 ⟨rfl,y⟩;go_wp2_with(fail);rw[Y.out];go_ret;exact⟨rfl,fP M y⟩
  ·have Y:Hid (qC [] os=0):=by
    show qC [] os=0;have Hl:os.drop k=[] :=bg (by rw[A.1];omega);rw[hF.out,Hl,qC]
   go_wp2_with(fail);rw[Y.out];go_ret;exact⟨rfl,T⟩
def j4(code id:Int)(os:List jQ):Nat:=
 if code<1 \/6<code \/yK id=false then 1
 else if 8<os.length then 2
 else if 5<=code/\0<os.length then 3
 else qC [] os
theorem uI(code id:Int)(a:Option eh)(n cap:Nat)(os:List jQ)(w:ew)(E:n<=1000000)(M:n<=cap)(T:jm w a n os):
 fc fe 209 #[.agg #[ι κ code,ι κ id,σ a n cap]] w λe w'=>e=ρ (jB (j4 code id os))/\eH w w':=by
 have hl:=T.1;have Y:eH w (w.alloc (γ #[ι κ code,ι κ id,σ a n cap] 37)):=(au _ _).alloc (Nat.le_refl _) _;have S:=A6 a n cap os (w.alloc (γ #[ι κ code,ι κ id,σ a n cap] 37)) E M (T.below Y);by_cases J:code<1
 ·have Z:Hid (j4 code id os=1):=by show j4 code id os=1;simp[j4,J]
  go_in
  go_wp2_with(fail);rw[Z.out];go_ret;exact⟨rfl,Y⟩
 ·by_cases G:6<code
  ·have Z:Hid (j4 code id os=1):=by show j4 code id os=1;simp[j4,G]
   go_in
   go_wp2_with(fail);rw[Z.out];go_ret;exact⟨rfl,Y⟩
  ·cases V:yK id
   ·have Z:Hid (j4 code id os=1):=by show j4 code id os=1;simp[j4,V]
    go_in
    go_wp2_with(fail);refine(mG id _).mono ?_;rintro e w1 ⟨rfl,rfl⟩;go_wp2_with(fail);rw[Z.out];go_ret;exact⟨rfl,Y⟩
   ·by_cases h4:(8:Int)<(n:Int)
    ·have Z:Hid (j4 code id os=2):=by
      show j4 code id os=2;rw[j4,af (by simp[V];omega),ai eB]
     go_in
     go_wp2_with(fail);refine(mG id _).mono ?_;rintro e w1 ⟨rfl,rfl⟩;go_wp2_with(fail);rw[Z.out];go_ret;exact⟨rfl,Y⟩
    ·by_cases h5:5<=code
     ·by_cases h6:(0:Int)<(n:Int)
      ·have Z:Hid (j4 code id os=3):=by
        show j4 code id os=3;rw[j4,af (by simp[V];omega),af eB,ai eB]
       go_in
       go_wp2_with(fail);refine(mG id _).mono ?_;rintro e w1 ⟨rfl,rfl⟩;go_wp2_with(fail);rw[Z.out];go_ret;exact⟨rfl,Y⟩
      ·have Z:Hid (j4 code id os=qC [] os):=by
        show j4 code id os=_;rw[j4,af (by simp[V];omega),af eB,af eB]
       go_in
       go_wp2_with(fail);refine(mG id _).mono ?_;rintro e w1 ⟨rfl,rfl⟩;go_wp2_with(fail);refine S.mono ?_;rintro e w1 ⟨rfl,U⟩;go_wp2_with(fail);rw[Z.out];go_ret;exact⟨rfl,fP Y U⟩
     ·have Z:Hid (j4 code id os=qC [] os):=by
       show j4 code id os=_;rw[j4,af (by simp[V];omega),af eB,af eB]
      go_in
      go_wp2_with(fail);refine(mG id _).mono ?_;rintro e w1 ⟨rfl,rfl⟩;go_wp2_with(fail);refine S.mono ?_;rintro e w1 ⟨rfl,U⟩;go_wp2_with(fail);rw[Z.out];go_ret;exact⟨rfl,fP Y U⟩
theorem A7(a b:Option eh)(ca D n m:Nat)(os qs:List jQ)(w:ew)(J:jm w a n os)(hb:jm w b m qs)(hn:n<=1000000)(hm:m<=1000000):
 fc fe 230 #[σ a n ca,σ b m D] w λe w'=>e=ρ (.bool (decide (os=qs)))/\∃k,w'=w.drewN k:=by
 have hl:=J.1;have Je:=hb.1;by_cases E:n=m
 ·subst E;have heq:((n:Int) !=(n:Int))=false:=ik
  go_in
  go_wp2
  go_loopw [13] (λi wr=>∃k m:Nat,k<=n/\i=ι κ k/\os.take k=qs.take k/\wr=w.drewN m) (λi _=>n-(fh i).toNat)
  case atStart=>exact⟨0,0,Nat.zero_le _,rfl,rfl,rfl⟩
  case round=>
   obtain⟨k,m,hk,rfl,M,rfl⟩:=hrel;have S:Hid _:=M;clear M;by_cases kL:k<n
   ·rcases J.2 with hA|⟨b1,o1,rfl,hA⟩
    ·omega
    rcases hb.2 with V|⟨b2,o2,rfl,V⟩
    ·omega
    obtain⟨c1,c2⟩:=hA k eB;obtain⟨c3,c4⟩:=V k eB;have U:Hid (os.take (k+1)=os.take k++ [os[k]'(by omega)]):=az eB;have T:Hid (qs.take (k+1)=qs.take k++ [qs[k]'(by omega)]):=az eB;have Y:Hid (os=qs->os[k]'(by omega)=qs[k]'(by omega)):=λh=>by subst h;rfl
    clear hA V;generalize os[k]'(by omega)=o at c1 c2 U Y;generalize qs[k]'(by omega)=q at c3 c4 T Y;have n9:(k:Int)<(n:Int):=eB;cases q1:(o.1==q.1)
    ·have Z:Hid (decide (os=qs)=false):=by
      show _=_;rw[bk];intro h;have:=Y.out h;rw[this]at q1;simp at q1
     go_wp2
     go_quiet(fail)
     go_wp2_with(fail);rw[Z.out];go_ret;exact⟨rfl,_,drewN_drewN _ _ _⟩
    ·cases q2:(o.2==q.2)
     ·have Z:Hid (decide (os=qs)=false):=by
       show _=_;rw[bk];intro h;have:=Y.out h;rw[this]at q2;simp at q2
      go_wp2
      go_quiet(fail)
      go_wp2_with(fail);rw[Z.out];go_ret;exact⟨rfl,_,drewN_drewN _ _ _⟩
     ·have G:Hid (os.take (k+1)=qs.take (k+1)):=by
       show _=_;rw[U.out,T.out,S.out];simp at q1 q2;congr 2;exact aU q1 q2
      go_wp2
      go_quiet(fail)
      go_wp2
      go_roundw
      case rel=>exact⟨k+1,_,eB,by go_num,G.out,rfl⟩
      case measure=>simp[fh];omega
   ·have um:decide (os=qs)=true:=by
     have A:os.take k=os:=aH eB;have y:qs.take k=qs:=aH eB;have:=S.out;rw[A,y]at this;simp[this]
    go_wp2_with(fail);rw[um];go_ret;exact⟨rfl,m,rfl⟩
 ·have heq:((n:Int) !=(m:Int))=true:=by simp;omega
  have Z:decide (os=qs)=false:=by
   rw[bk];intro h;subst h;omega
  rw[Z]
  go_in
  go_wp2
  go_ret;exact⟨rfl,0,rfl⟩
def ot(s:LS)(ev:Int):LS:=rk (jv s.st ev).1 (s.next (jv s.st ev).2.1)
def qk(s:LS)(ev:Int)(zJ:kZ):List kZ:=yI (jv s.st ev).1 (s.next (jv s.st ev).2.1) zJ
theorem A8(s e:Int):(jv s e).1.length<=4:=by
 unfold jv;split;{simp}
 ·rename_i h
  exact(show∀e,e<12->∀s,s<10->(lO s e).1.length<=4 by decide+kernel) e.toNat eB s.toNat eB
theorem zL(B:Nat)(X:Nat->Prop)(s:LS)(v:eA)(ps:List PV)(p:PV)(ev:Int)(w:ew)(Y:jt w)(h:r8 w B X s v ps)(hb:Bd s 100)(U:vV w X v p)(V:ps.length<=50)(hf:(jv s.st ev).2.2=0):
 fc fe 171 #[π (μ ⟨B,0,ν⟩),ι κ ev,.agg #[ι κ p.code,ι κ p.id,σ p.a p.n p.cap]] w λe w'=>e=ρ η/\nR w w' B X (ot s ev) v ps (qk s ev p.abs):=by
 have hl:=A8 s.st ev;unfold ot qk;obtain⟨D,nx,f,Z⟩:∃D nx f,jv s.st ev=(D,nx,f):=⟨_,_,_,rfl⟩
 rw[Z]at hf hl⊢;simp only at hf hl⊢;subst hf;exact Uo B X s v ps p ev ⟨D.toArray⟩ nx w Y h hb U V Z (by show D.toArray.size<=4;simpa using hl)
def nN:List jQ->Int
 |[] =>255
 |o::r=>if o.1=1 then o.2 else nN r
theorem Ni(a:Option eh)(n cap:Nat)(os:List jQ)(w:ew)(hn:n<=1000000)(U:jm w a n os):
 fc fe 229 #[σ a n cap] w λe w'=>e=ρ (ι κ (nN os))/\eH w w':=by
 go_in
 go_wp2
 go_loopw [7] (λi wr=>∃k:Nat,k<=n/\i=ι κ k/\nN os=nN (os.drop k)/\eH w wr) (λi _=>n-(fh i).toNat)
 case atStart=>exact⟨0,Nat.zero_le _,rfl,rfl,au _ _⟩
 case round=>
  obtain⟨k,hk,rfl,T,Y⟩:=hrel;have hF:Hid _:=T;clear T;by_cases E:k<n
  ·have J:=U.below Y;rcases J.2 with h0|⟨b,off,rfl,hc⟩
   ·omega
   have M:k<os.length:=by rw[U.1];exact E
   obtain⟨c1,c2⟩:=hc k M;have V:Hid (os.drop k=os[k] ::os.drop (k+1)):=aR M;generalize os[k] =o at c1 c2 V;clear hc;have n9:(k:Int)<(n:Int):=eB;have S:=Y.alloc Y.size (γ #[ι κ o.1,ι κ o.2] 276);cases q1:(o.1==1)
   ·have Z:Hid (nN os=nN (os.drop (k+1))):=by
     show _=_;rw[hF.out,V.out,nN,af (by simpa using q1)]
    go_wp2
    go_roundw
    case rel=>exact⟨k+1,eB,by go_num,Z.out,S⟩
    case measure=>simp[fh];omega
   ·have Z:Hid (nN os=o.2):=by
     show _=_;rw[hF.out,V.out,nN,ai (by simpa using q1)]
    go_wp2_with(fail);rw[Z.out];go_ret;exact⟨rfl,S⟩
  ·have Z:Hid (nN os=255):=by
    show _=_;have G:os.drop k=[] :=bg (by rw[U.1];omega);rw[hF.out,G,nN]
   go_wp2_with(fail);rw[Z.out];go_ret;exact⟨rfl,Y⟩
def LS.sized(s:LS)(os:List jQ):LS:=if 6<=s.st then {s with sz:=nN os}else s
theorem KL(B:Nat)(X:Nat->Prop)(s:LS)(v:eA)(ps:List PV)(id:Int)(a:Option eh)(n cap:Nat)(os:List jQ)(w:ew)(hT:jt w)(h:r8 w B X s v ps)(hb:Bd s 100)(hn:ps.length<=50)
 (ho:jm w a n os) (vp:∀k,vj a n=μ k->¬X k/\v.ownBlock≠μ k/\k<w.heap.size) (kH:kY a cap) (AX:n<=1000) (m1:0<=s.nm) (m2:s.nm<=255) (hj:mL s.nm os=(2,os)) (hf:(jv s.st 6).2.2=0):
 fc fe 211 #[π (μ ⟨B,0,ν⟩),.agg #[ι κ 1,ι κ id,σ a n cap]] w λe w'=>e=ρ η/\nR w w' B X ((ot s 6).sized os) v ps (qk s 6 (2,id,os)):=by
 have hk:=gK w (γ #[ι κ 1,ι κ id,σ a n cap] 37);have hA:=λj=>ak w #[ι κ 1,ι κ id,σ a n cap] 37 (0,0) j;have hl:=h.lk.lt;have Yz:=h.row.lt;have T:=h.below hk;have hz:∀w:ew,(zeroValue 37).run fe w=.ok (.agg #[ι κ 0,ι κ 0,σ ν 0 0]) w:=λw=>ga;have YB:=ho.1;obtain⟨U,kt⟩:=fq (w.alloc (γ #[ι κ 1,ι κ id,σ a n cap] 37));obtain⟨Z,hZ⟩:=fq (w.heap.size);have d1:U.cell? ⟨Z,1,ν⟩=μ (ι κ id):=by rw[<-kt,<-hZ];exact hA 1
 have d2:U.cell? ⟨Z,2,ν⟩=μ (σ a n cap):=by rw[<-kt,<-hZ];exact hA 2
 rw[kt]at T hk;have yJ:B≠Z:=eB;have hnz:v.ownBlock≠μ Z:=λe=>by have:=Yz Z e;omega
 have HW:Hid _:=kt;have HZ:Hid _:=hZ;clear hA kt hZ hl;have c2:U.cell? ⟨B,2,ν⟩=μ (ι κ s.ns):=T.lk.cell 2;have c3:U.cell? ⟨B,3,ν⟩=μ (ι κ s.nm):=T.lk.cell 3;have Yx:=T.lk.lt;have Kp:Z<U.heap.size:=ag U _ d1;have QK:=T.old;have vN:=T.self;have hJ:=Hj s.ns s.nm a n cap os U.drew m1 m2 eB kH (ho.below (jK hk));rw[hj]at hJ
 go_in
 go_wp2_with(fail);rw[HW.out,HZ.out]
 go_region_with(go_at_call 228;refine hJ.mono ?_;rintro e w2 ⟨u,rfl,hM⟩)
 all_goals
  obtain⟨a',n',jH,rfl,hP⟩:=Jg (X:=X) (v:=v) 2 id hM (show os.length<=1000 by omega) QK (λk hk3=>Nat.lt_of_lt_of_le (Yz k hk3) hk.size);have zC:eH U w2:=fP (jK (au _ _)) hM.below;have R2:=T.below zC;have d1':w2.cell? ⟨Z,1,ν⟩=μ (ι κ id):=(zC.cell (p:=⟨Z,1,ν⟩) Kp).trans d1;have d2':w2.cell? ⟨Z,2,ν⟩=μ (σ a n cap):=(zC.cell (p:=⟨Z,2,ν⟩) Kp).trans d2;have Ji:Z<w2.heap.size:=ag w2 _ d1';have D:=gK w2 (γ #[ι κ 2,ι κ id,σ a' n' jH] 37);have E:=fP hk (fP zC D);have R3:=R2.below D;have P3:=hP.kept vN (Kept.jg B v.ownBlock D) (λ_ e=>.inl e);have HC:=zL B X s v ps ⟨2,id,a',n',jH,os⟩ 6 _ (hT.below E) R3 hb P3 hn hf;have S:=(D.cell (p:=⟨Z,2,ν⟩) Ji).trans d2';have zM:=ho.below E;have y:Z<(w2.alloc (γ #[ι κ 2,ι κ id,σ a' n' jH] 37)).heap.size:=ag _ _ S;clear hM hP R2 zC c2 c3 d1 d2 T hJ R3 P3;go_wp2_with(fail);refine HC.mono ?_;rintro e G ⟨rfl,hW⟩;obtain⟨⟨v',qs,Y,YC,hv4⟩,V⟩:=hW;have c6:G.cell? ⟨B,6,ν⟩=μ (ι κ (ot s 6).st):=Y.lk.cell 6;have z2:G.cell? ⟨Z,2,ν⟩=μ (σ a n cap):=(aj (a:=⟨Z,2,ν⟩) (V.block Z y (λe=>yJ e.symm) hnz)).trans S;have X3:jm G a n os:=zM.Pk (λk hk4=>by obtain⟨q1,q2,q3⟩:=vp k hk4;exact V.block k (Nat.lt_of_lt_of_le q3 E.size) (λe=>q1 (by rw[e];exact vN)) q2);have hl4:=Y.lk.lt;have apT:Z<G.heap.size:=ag G _ z2;have M:Kept w G B v.ownBlock:=(Kept.jg B v.ownBlock E).trans V (λi e=>.inl e);have hvv:∀g,v'.ownBlock=μ g->v.ownBlock=μ g \/w.heap.size<=g:=λg hg=>by
   rcases hv4 g hg with e|e
   {exact .inl e};{exact .inr (Nat.le_trans E.size e)}
  clear HC hv4 V zM S d2' d1' Ji y D E;obtain⟨s',J⟩:∃s',ot s 6=s':=⟨_,rfl⟩
  rw[J]at Y c6;have HS:Hid _:=J;clear J;by_cases h6:6<=s'.st
  ·go_wp2_with(fail);refine(Ni a n cap os G eB X3).mono ?_;rintro e w5 ⟨rfl,k5⟩;have A:=Y.below k5;have c7:w5.cell? ⟨B,7,ν⟩=μ (ι κ s'.sz):=A.lk.cell 7;have fz:∀j,w5.frozen? ⟨B,j,ν⟩=false:=A.lk.frozen;have hl5:=A.lk.lt;have HR6:Hid (r8 (w5.setCell ⟨B,7,ν⟩ (ι κ (nN os))) B X {s' with sz:=nN os} v' (ps++qs)):=A.lP 7 _ _ rfl;have HK6:Hid (Kept w (w5.setCell ⟨B,7,ν⟩ (ι κ (nN os))) B v.ownBlock):=k7 (M.trans (Kept.jg B v.ownBlock k5) (λi e=>.inl e)) 7 _;clear A Y M k5 X3 z2 c6
   go_wp2
   go_ret;rw[HS.out];have e6:s'.sized os={s' with sz:=nN os}:=by simp[LS.sized,h6]
   rw[e6];exact⟨rfl,⟨v',qs,HR6.out,YC,hvv⟩,HK6.out⟩
  ·go_wp2
   go_ret;rw[HS.out];have e6:s'.sized os=s':=by unfold LS.sized;rw[af eB]
   rw[e6];exact⟨rfl,⟨v',qs,Y,YC,hvv⟩,M⟩
theorem YD(B:Nat)(X:Nat->Prop)(s:LS)(v:eA)(ps:List PV)(w:ew)(h:r8 w B X s v ps):
 fc fe 174 #[π (μ ⟨B,0,ν⟩)] w λe w'=>e=ρ v/\r8 w' B X s (σ ν 0 0) [] /\Row w' 3 v ps.length (QT ps)/\(∀p∈ps,vV w' X v p)/\Kept w w' B ν:=by
 have hl:=h.lk.lt;have Yy:w.cell? ⟨B,11,ν⟩=μ v:=h.lk.cell 11;have fz:∀j,w.frozen? ⟨B,j,ν⟩=false:=h.lk.frozen;have Z:Kept w (w.setCell ⟨B,11,ν⟩ (σ ν 0 0)) B ν:=k7 (Kept.refl w B _) 11 _;have T:Kept w (w.setCell ⟨B,11,ν⟩ (σ ν 0 0)) B v.ownBlock:=k7 (Kept.refl w B _) 11 _;have M:Hid (r8 (w.setCell ⟨B,11,ν⟩ (σ ν 0 0)) B X s (σ ν 0 0) []):=⟨h.lk.set 11 _,Row.nil _ 3,λg J=>by simp[eD]at J,h.self,λk V=>Nat.lt_of_lt_of_le (h.old k V) Z.size,λp U=>by simp at U⟩
 have S:Hid (Row (w.setCell ⟨B,11,ν⟩ (σ ν 0 0)) 3 v ps.length (QT ps)):=h.row.keep Z.size (λk Y=>aq _ _ _ k (λe=>h.ne (by rw[Y];exact congrArg μ e)));have HP:Hid (∀p∈ps,vV (w.setCell ⟨B,11,ν⟩ (σ ν 0 0)) X v p):=λp U=>(h.pk p U).kept h.self T (λ_ e=>.inl e);clear h T
 go_in
 go_wp2
 go_ret;exact⟨rfl,M.out,S.out,HP.out,Z⟩
theorem tg(w:ew):(zeroValue 37).run fe w=.ok (.agg #[ι κ 0,ι κ 0,σ ν 0 0]) w:=ga
theorem aks(ev:Int)(U:ev=0 \/ev=1 \/ev=2 \/ev=3)(B:Nat)(X:Nat->Prop)(s:LS)(v:eA)(ps:List PV)(w:ew)(Z:jt w)(h:r8 w B X s v ps)(hb:Bd s 100)(V:ps.length<=50)(hf:(jv s.st ev).2.2=0):
 fc fe 120 #[π (μ ⟨B,0,ν⟩),ι κ ev] w λe w'=>e=ρ η/\nR w w' B X (ot s ev) v ps (qk s ev (0,0,[])):=by
 have hz:=tg;have hc:=zL B X s v ps ⟨0,0,ν,0,0,[]⟩ ev w Z h hb (rF _ _ _ _ _) V hf;clear h Z hb hf;rcases U with rfl|rfl|rfl|rfl
 all_goals
  go_in
  go_wp2_with(fail);refine hc.mono ?_;rintro e w1 ⟨rfl,Y⟩;clear hc
  go_wp2
  go_ret;exact⟨rfl,Y⟩
theorem Hn(B:Nat)(X:Nat->Prop)(s:LS)(v:eA)(ps:List PV)(w:ew)(h:r8 w B X s v ps):
 fc fe 114 #[π (μ ⟨B,0,ν⟩)] w λe w'=>e=ρ (ι κ s.st)/\w=w':=by
 have hl:=h.lk.lt;have c6:w.cell? ⟨B,6,ν⟩=μ (ι κ s.st):=h.lk.cell 6;clear h
 go_in
 go_wp2
 go_ret;exact⟨rfl,rfl⟩
def kI(s:LS):LS:=if(decide (4<=s.st)&&decide (s.st<=8))=false then s else if 0<s.wt-1 then {s with wt:=s.wt-1}else if 0<s.lf then ot {s with wt:=s.wt-1} 4 else ot {s with wt:=s.wt-1} 5
def l9(s:LS):List kZ:=if(decide (4<=s.st)&&decide (s.st<=8))=false then []else if 0<s.wt-1 then []else if 0<s.lf then qk {s with wt:=s.wt-1} 4 (0,0,[])else qk {s with wt:=s.wt-1} 5 (0,0,[])
theorem KM:∀s:Nat,4<=s->s<=8->(lO s 4).2.2=0/\(lO s 5).2.2=0:=by
 intro s Z h2;exact(show∀s,s<9->4<=s->(lO s 4).2.2=0/\(lO s 5).2.2=0 by decide+kernel) s eB Z
theorem Us(B:Nat)(X:Nat->Prop)(s:LS)(v:eA)(ps:List PV)(w:ew)(hT:jt w)(hB:B≠0)(TL:v.ownBlock≠μ 0)(h:r8 w B X s v ps)(hb:Bd s 100)(hn:ps.length<=50)(w1: -1000<=s.wt)(w2:s.wt<=1000):
 fc fe 147 #[π (μ ⟨B,0,ν⟩)] w λe w'=>e=ρ (τ #[])/\nR w w' B X (kI s) v ps (l9 s):=by
 have hz:=tg;have hl:=h.lk.lt;have c6:w.cell? ⟨B,6,ν⟩=μ (ι κ s.st):=h.lk.cell 6;have c8:w.cell? ⟨B,8,ν⟩=μ (ι κ s.lf):=h.lk.cell 8;have c9:w.cell? ⟨B,9,ν⟩=μ (ι κ s.wt):=h.lk.cell 9;have fz:∀j,w.frozen? ⟨B,j,ν⟩=false:=h.lk.frozen;have T:=QL s.st w;cases Z:(decide (4<=s.st)&&decide (s.st<=8))
 ·have Y:kI s=s:=by unfold kI;rw[ai Z]
  have V:l9 s=[] :=by unfold l9;rw[ai Z]
  rw[Y,V];rw[Z]at T;have y:Hid (nR w w B X s v ps []):=nR.still h (Kept.refl _ _ _);clear h hb Y V Z
  go_in
  go_wp2_with(fail);refine T.mono ?_;rintro e w3 ⟨rfl,rfl⟩
  go_wp2
  first|go_end0|refine iX rfl rfl ?_
  exact⟨rfl,y.out⟩
 ·have S:r8 (w.setCell ⟨B,9,ν⟩ (ι κ (s.wt-1))) B X {s with wt:=s.wt-1} v ps:=h.lP 9 _ _ rfl;have D:Kept w (w.setCell ⟨B,9,ν⟩ (ι κ (s.wt-1))) B v.ownBlock:=k7 (Kept.refl _ _ _) 9 _;have G:=D.tab hT hB TL;have E:Bd {s with wt:=s.wt-1} 100:=⟨hb.o1,hb.o2,hb.l1,hb.l2⟩
  have kC:4<=s.st/\s.st<=8:=by simpa using Z
  have A:(jv s.st 4).2.2=0/\(jv s.st 5).2.2=0:=by
   obtain⟨J,acr⟩:∃J:Nat,s.st=J:=⟨s.st.toNat,eB⟩
   rw[acr];have:=KM J eB eB;rw[show(4:Int)=((4:Nat):Int)from rfl,show(5:Int)=((5:Nat):Int)from rfl,nQ J 4 eB eF,nQ J 5 eB eF];exact this
  by_cases M:0<s.wt-1
  ·have Y:kI s={s with wt:=s.wt-1}:=by unfold kI;rw[af (by rw[Z];simp),ai M]
   have V:l9 s=[] :=by unfold l9;rw[af (by rw[Z];simp),ai M]
   rw[Y,V];rw[Z]at T;have y:Hid (nR w _ B X _ v ps []):=nR.still S D;clear h S hb E Y V Z A kC G D
   go_in
   go_wp2_with(fail);refine T.mono ?_;rintro e w3 ⟨rfl,rfl⟩
   go_wp2
   first|go_end0|refine iX rfl rfl ?_
   exact⟨rfl,y.out⟩
  ·by_cases U:0<s.lf
   ·have Y:kI s=ot {s with wt:=s.wt-1} 4:=by unfold kI;rw[af (by rw[Z];simp),af M,ai U]
    have V:l9 s=qk {s with wt:=s.wt-1} 4 (0,0,[]):=by unfold l9;rw[af (by rw[Z];simp),af M,ai U]
    rw[Y,V];rw[Z]at T;have hc:=zL B X {s with wt:=s.wt-1} v ps ⟨0,0,ν,0,0,[]⟩ 4 _ G S E (rF _ _ _ _ _) hn A.1;clear h S hb E Y V Z A kC G
    go_in
    go_wp2_with(fail);refine T.mono ?_;rintro e w3 ⟨rfl,rfl⟩;go_wp2_with(fail);refine hc.mono ?_;rintro e w4 ⟨rfl,hW⟩;clear hc
    go_wp2
    first|go_end0|refine iX rfl rfl ?_
    exact⟨rfl,hW.from D⟩
   ·have Y:kI s=ot {s with wt:=s.wt-1} 5:=by unfold kI;rw[af (by rw[Z];simp),af M,af U]
    have V:l9 s=qk {s with wt:=s.wt-1} 5 (0,0,[]):=by unfold l9;rw[af (by rw[Z];simp),af M,af U]
    rw[Y,V];rw[Z]at T;have hc:=zL B X {s with wt:=s.wt-1} v ps ⟨0,0,ν,0,0,[]⟩ 5 _ G S E (rF _ _ _ _ _) hn A.2;clear h S hb E Y V Z A kC G
    go_in
    go_wp2_with(fail);refine T.mono ?_;rintro e w3 ⟨rfl,rfl⟩;go_wp2_with(fail);refine hc.mono ?_;rintro e w4 ⟨rfl,hW⟩;clear hc
    go_wp2
    first|go_end0|refine iX rfl rfl ?_
    exact⟨rfl,hW.from D⟩
theorem MT.set(h:MT w B s m)(s' m':Int):MT ((w.setCell ⟨B,0,ν⟩ (ι κ s')).setCell ⟨B,1,ν⟩ (ι κ m')) B s' m':=by
 refine⟨?_,?_,?_,?_⟩;{exact(aW _ ⟨B,1,ν⟩ ⟨B,0,ν⟩ _ ik).trans (dC _ _ _ (by rw[h.c0];rfl))};{exact dC _ _ _ (by rw[aW _ ⟨B,0,ν⟩ ⟨B,1,ν⟩ _ ik,h.c1];rfl)};{simp[h.f0]};{simp[h.f1]}
theorem MT.other(h:MT w B s m)(Z:B'≠B)(x y:eA):MT ((w.setCell ⟨B',0,ν⟩ x).setCell ⟨B',1,ν⟩ y) B s m:=by
 refine⟨?_,?_,?_,?_⟩;{rw[aM _ _ _ _ Z,aM _ _ _ _ Z];exact h.c0};{rw[aM _ _ _ _ Z,aM _ _ _ _ Z];exact h.c1};{simp[h.f0]};{simp[h.f1]}
theorem Ut(sz mg code:Int)(a:Option eh)(n cap:Nat)(os:List jQ)(w:ew)(hn:n<=1000000)(y:jm w a n os):
 fc fe 231 #[.agg #[ι κ sz,ι κ mg],ι κ code,σ a n cap] w λe w'=>
  e=ρ (.agg #[ι κ (pH code os (sz,mg)).1,ι κ (pH code os (sz,mg)).2])/\eH w w':=by
 have hz:=zG;have P0:MT ((w.alloc (γ #[ι κ sz,ι κ mg] 252)).alloc (γ #[ι κ 0,ι κ 0] 252)) w.heap.size sz mg:=by
  have hA:=λj=>ak w #[ι κ sz,ι κ mg] 252 (0,0) j;have hF:=λj=>cY w #[ι κ sz,ι κ mg] 252 0 0 j;exact MT.below ⟨hA 0,hA 1,by rw[hF];rfl,by rw[hF];rfl⟩ (gK _ _)
 have P1:MT ((w.alloc (γ #[ι κ sz,ι κ mg] 252)).alloc (γ #[ι κ 0,ι κ 0] 252)) (w.heap.size+1) 0 0:=by
  have hA:=λj=>ak (w.alloc (γ #[ι κ sz,ι κ mg] 252)) #[ι κ 0,ι κ 0] 252 (0,0) j;have hF:=λj=>cY (w.alloc (γ #[ι κ sz,ι κ mg] 252)) #[ι κ 0,ι κ 0] 252 0 0 j;have e:(w.alloc (γ #[ι κ sz,ι κ mg] 252)).heap.size=w.heap.size+1:=ik;rw[e]at hA hF;exact⟨hA 0,hA 1,by rw[hF];rfl,by rw[hF];rfl⟩
 have pG:eH w ((w.alloc (γ #[ι κ sz,ι κ mg] 252)).alloc (γ #[ι κ 0,ι κ 0] 252)):=(gK _ _).alloc ik _
 go_in
 go_wp2
 go_loopw [11] (λi wr=>∃(k:Nat) (s m:Int),k<=n/\i=ι κ k/\pH code os (sz,mg)=pH code (os.drop k) (s,m)/\MT wr w.heap.size s m/\MT wr (w.heap.size+1) 0 0/\eH w wr) (λi _=>n-(fh i).toNat)
 case atStart=>exact⟨0,sz,mg,Nat.zero_le _,rfl,rfl,P0,P1,pG⟩
 case round=>
  obtain⟨k,s,m,hk,rfl,TN,hP,G,h⟩:=hrel;have D:Hid _:=TN;clear TN P0 P1;have S:=hP;have Q1:=G;obtain⟨c0,c1,f0,f1⟩:=hP;obtain⟨d0,d1,g0,g1⟩:=G;have wA:w.heap.size<wr.heap.size:=ag wr _ c0;have Jd:w.heap.size+1<wr.heap.size:=ag wr _ d0;by_cases kL:k<n
  ·have AW:=y.below h;rcases AW.2 with h0|⟨b,off,rfl,hc⟩
   ·omega
   have rj:k<os.length:=by rw[y.1];exact kL
   obtain⟨e1,e2⟩:=hc k rj;have HD:Hid (os.drop k=os[k] ::os.drop (k+1)):=aR rj;generalize os[k] =o at e1 e2 HD;clear hc;have n9:(k:Int)<(n:Int):=eB;have U:pH code os (sz,mg)=pH code (os.drop (k+1)) (ku code (s,m) o):=by rw[D.out,HD.out];rfl
   have Z:=gK wr (γ #[ι κ o.1,ι κ o.2] 276);have kO:=fP h Z;cases q4:(code==4)
   ·cases q3:(code==3)
    ·have hv:ku code (s,m) o=(s,m):=by simp at q3 q4;simp[ku,q3,q4]
     rw[hv]at U;have V:Hid _:=U;clear U hv
     go_wp2
     go_roundw
     case rel=>exact⟨k+1,s,m,eB,by go_num,V.out,S.below Z,Q1.below Z,kO⟩
     case measure=>simp[fh];omega
    ·have T:code=3:=by simpa using q3
     have V:Hid (pH code os (sz,mg)=pH code (os.drop (k+1)) ((ku 3 (s,m) o).1,(ku 3 (s,m) o).2)):=by
      show _=_;rw[U,T]
     clear U T;go_wp2_with(fail);refine(Ul s m o.1 o.2 _).mono ?_;rintro e w1 ⟨rfl,Y⟩;have m7:=fP kO Y;obtain⟨c0,c1,f0,f1⟩:=(S.below Z).below Y;obtain⟨d0,d1,g0,g1⟩:=(Q1.below Z).below Y;have wA:w.heap.size<w1.heap.size:=ag w1 _ c0;have A:=(((S.below Z).below Y).set (ku 3 (s,m) (o.1,o.2)).1 (ku 3 (s,m) (o.1,o.2)).2)
     have M:=(((Q1.below Z).below Y).other (B':=w.heap.size) eB (ι κ (ku 3 (s,m) (o.1,o.2)).1) (ι κ (ku 3 (s,m) (o.1,o.2)).2))
     have E:eH w ((w1.setCell ⟨w.heap.size,0,ν⟩ (ι κ (ku 3 (s,m) (o.1,o.2)).1)).setCell ⟨w.heap.size,1,ν⟩ (ι κ (ku 3 (s,m) (o.1,o.2)).2)):=(m7.setCell (Nat.le_refl _) _).setCell (Nat.le_refl _) _
     go_wp2
     go_roundw
     case rel=>exact⟨k+1,_,_,eB,by go_num,V.out,A,M,E⟩
     case measure=>simp[fh];omega
   ·have T:code=4:=by simpa using q4
    have J:ku 4 (s,m) o=ku 4 (s,m) (o.1,0):=by simp[ku]
    have V:Hid (pH code os (sz,mg)=pH code (os.drop (k+1)) ((ku 4 (s,m) (o.1,0)).1,(ku 4 (s,m) (o.1,0)).2)):=by
     show _=_;rw[U,T,J]
    clear U T J;go_wp2_with(fail);refine(KF s m o.1 _).mono ?_;rintro e w1 ⟨rfl,Y⟩;have m7:=fP kO Y;obtain⟨c0,c1,f0,f1⟩:=(S.below Z).below Y;obtain⟨d0,d1,g0,g1⟩:=(Q1.below Z).below Y;have wA:w.heap.size<w1.heap.size:=ag w1 _ c0;have A:=(((S.below Z).below Y).set (ku 4 (s,m) (o.1,0)).1 (ku 4 (s,m) (o.1,0)).2)
    have M:=(((Q1.below Z).below Y).other (B':=w.heap.size) eB (ι κ (ku 4 (s,m) (o.1,0)).1) (ι κ (ku 4 (s,m) (o.1,0)).2))
    have E:eH w ((w1.setCell ⟨w.heap.size,0,ν⟩ (ι κ (ku 4 (s,m) (o.1,0)).1)).setCell ⟨w.heap.size,1,ν⟩ (ι κ (ku 4 (s,m) (o.1,0)).2)):=(m7.setCell (Nat.le_refl _) _).setCell (Nat.le_refl _) _
    go_wp2
    go_roundw
    case rel=>exact⟨k+1,_,_,eB,by go_num,V.out,A,M,E⟩
    case measure=>simp[fh];omega
  ·have Hl:os.drop k=[] :=bg (by rw[y.1];omega);have V:Hid (pH code os (sz,mg)=(s,m)):=by
    show _=_;rw[D.out,Hl];rfl
   clear D Hl;have E:eH w ((wr.setCell ⟨w.heap.size+1,0,ν⟩ (ι κ s)).setCell ⟨w.heap.size+1,1,ν⟩ (ι κ m)):=(h.setCell ik _).setCell ik _;have M:=Q1.set s m;go_wp2_with(fail);rw[V.out];obtain⟨r0,r1,_,_⟩:=M;refine aE (v:=.agg #[ι κ s,ι κ m]) (by simp[results,results231,go_sem,r0,r1]) rfl ?_;exact⟨rfl,E⟩
def tO(s:LS)(ev:Int)(zJ:kZ):LS×List kZ×Nat:=if(jv s.st ev).2.2=0 then(ot s ev,qk s ev zJ,0)else(s,[],(jv s.st ev).2.2)
theorem uo {s:LS} {ev:Int} (zJ:kZ)(h:(jv s.st ev).2.2=0):tO s ev zJ=(ot s ev,qk s ev zJ,0):=by unfold tO;rw[ai h]
theorem wB {s:LS} {ev:Int} (zJ:kZ)(h:(jv s.st ev).2.2≠0):tO s ev zJ=(s,[],(jv s.st ev).2.2):=by unfold tO;rw[af h]
theorem uJ(B:Nat)(X:Nat->Prop)(s:LS)(v:eA)(ps:List PV)(p:PV)(ev:Int)(w:ew)(Y:jt w)(h:r8 w B X s v ps)(hb:Bd s 100)(U:vV w X v p)(V:ps.length<=50):
 fc fe 171 #[π (μ ⟨B,0,ν⟩),ι κ ev,.agg #[ι κ p.code,ι κ p.id,σ p.a p.n p.cap]] w λe w'=>e=ρ (jB (tO s ev p.abs).2.2)/\nR w w' B X (tO s ev p.abs).1 v ps (tO s ev p.abs).2.1:=by
 by_cases hf:(jv s.st ev).2.2=0;{rw[uo _ hf];exact zL B X s v ps p ev w Y h hb U V hf}
 ·rw[wB _ hf];obtain⟨D,nx,f,Z⟩:∃D nx f,jv s.st ev=(D,nx,f):=⟨_,_,_,rfl⟩
  rw[Z]at hf⊢;refine(Pq B X s v ps p ev D nx f w Y h Z hf).mono ?_;rintro e w' ⟨rfl,hb⟩;exact⟨by simp only[jB];rw[af hf],nR.still (h.below hb) (Kept.jg B _ hb)⟩
theorem Nj {mg:Int} {os:List jQ} (h:(mL mg os).1=2):mL mg os=(2,os):=by
 unfold mL at*;split;{rename_i Z;rw[ai Z]at h;simp at h}
 ·rename_i Z
  rw[af Z]at h;split;{rename_i Y;rw[ai Y]at h;simp at h};{rfl}
def uK(s:LS)(id:Int)(os:List jQ):LS×List kZ×Nat:=
 if(mL s.nm os).1=2 then(if(tO s 6 (2,id,os)).2.2=0 then((tO s 6 (2,id,os)).1.sized os,(tO s 6 (2,id,os)).2.1,0)else tO s 6 (2,id,os))else tO s 7 ((mL s.nm os).1,id,(mL s.nm os).2)
theorem KO(mg:Int):∀os:List jQ,(rM mg os).length<=os.length
 |[] =>by simp[rM]
 |o::r=>by
  have ih:=KO mg r;have e:rM mg (o::r)=ye mg o++rM mg r:=by simp[rM]
  have h1:(ye mg o).length<=1:=by
   unfold ye;split;{simp};{split<;>simp}
  rw[e,aA,cS];omega
theorem Nk(mg:Int)(os:List jQ):(mL mg os).2.length<=os.length:=by
 unfold mL;split;{exact cK _ _};{split;{exact KO mg os};{exact Nat.le_refl _}}
theorem Ec(B:Nat)(X:Nat->Prop)(s:LS)(v:eA)(ps:List PV)(id:Int)(a:Option eh)(n cap:Nat)(os:List jQ)(w:ew)(hT:jt w)(h:r8 w B X s v ps)(hb:Bd s 100)(hn:ps.length<=50)
 (ho:jm w a n os) (kH:kY a cap) (AX:n<=1000) (m1:0<=s.nm) (m2:s.nm<=255) (Y:Int) (V:List jQ) (hj:mL s.nm os=(Y,V)) (ev:Int) (wz:Y=2/\ev=6/\(jv s.st 6).2.2≠0 \/Y≠2/\ev=7):
 fc fe 211 #[π (μ ⟨B,0,ν⟩),.agg #[ι κ 1,ι κ id,σ a n cap]] w λe w'=>e=ρ (jB (tO s ev (Y,id,V)).2.2)/\nR w w' B X (tO s ev (Y,id,V)).1 v ps (tO s ev (Y,id,V)).2.1:=by
 have G:=gK w (γ #[ι κ 1,ι κ id,σ a n cap] 37);have hA:=λj=>ak w #[ι κ 1,ι κ id,σ a n cap] 37 (0,0) j;have hl:=h.lk.lt;have Yz:=h.row.lt;have T:=h.below G;have hz:∀w:ew,(zeroValue 37).run fe w=.ok (.agg #[ι κ 0,ι κ 0,σ ν 0 0]) w:=λw=>ga;have YB:=ho.1;obtain⟨U,D⟩:=fq (w.alloc (γ #[ι κ 1,ι κ id,σ a n cap] 37));obtain⟨Z,hZ⟩:=fq (w.heap.size);have d1:U.cell? ⟨Z,1,ν⟩=μ (ι κ id):=by rw[<-D,<-hZ];exact hA 1
 have d2:U.cell? ⟨Z,2,ν⟩=μ (σ a n cap):=by rw[<-D,<-hZ];exact hA 2
 rw[D]at T G;have HW:Hid _:=D;have HZ:Hid _:=hZ;clear hA D hZ hl;have c2:U.cell? ⟨B,2,ν⟩=μ (ι κ s.ns):=T.lk.cell 2;have c3:U.cell? ⟨B,3,ν⟩=μ (ι κ s.nm):=T.lk.cell 3;have Yx:=T.lk.lt;have Kp:Z<U.heap.size:=ag U _ d1;have QK:=T.old;have vN:=T.self;have hJ:=Hj s.ns s.nm a n cap os U.drew m1 m2 eB kH (ho.below (jK G));have yL:=Nk s.nm os;rw[hj]at hJ yL;simp only at hJ yL;have hlj:V.length<=1000:=eB;clear yL hj;obtain⟨E,y⟩:=fq (jB (tO s ev (Y,id,V)).2.2);obtain⟨S',M⟩:∃S',(tO s ev (Y,id,V)).1=S':=⟨_,rfl⟩
 obtain⟨O',S⟩:∃O',(tO s ev (Y,id,V)).2.1=O':=⟨_,rfl⟩
 rw[y,M,S];have akt:Y=2/\ev=6/\(∃f:Nat,E=.iface 128 (ι κ (f:Int))) \/Y≠2/\ev=7:=by
  rcases wz with⟨rfl,rfl,hf⟩|h7
  {refine .inl ⟨rfl,rfl,(jv s.st 6).2.2,?_⟩;rw[<-y,wB _ hf];simp only[jB];rw[af hf]};{exact .inr h7}
 have A:Hid _:=fj y (fj M S);clear wz y M S
 go_in
 go_wp2_with(fail);rw[HW.out,HZ.out]
 go_region_with(go_at_call 228;refine hJ.mono ?_;rintro e w2 ⟨u,rfl,hM⟩)
 all_goals
  obtain⟨a',n',jH,rfl,hP⟩:=Jg (X:=X) (v:=v) Y id hM hlj QK (λk hk3=>Nat.lt_of_lt_of_le (Yz k hk3) G.size);have zC:eH U w2:=fP (jK (au _ _)) hM.below;have R2:=T.below zC;have d1':w2.cell? ⟨Z,1,ν⟩=μ (ι κ id):=(zC.cell (p:=⟨Z,1,ν⟩) Kp).trans d1;have Ji:Z<w2.heap.size:=ag w2 _ d1';have QZ:=gK w2 (γ #[ι κ Y,ι κ id,σ a' n' jH] 37);have XZ:=fP G (fP zC QZ);have R3:=R2.below QZ;have P3:=hP.kept vN (Kept.jg B v.ownBlock QZ) (λ_ e=>.inl e);have J:=uJ B X s v ps ⟨Y,id,a',n',jH,V⟩ ev _ (hT.below XZ) R3 hb P3 hn;have Dz:PV.abs ⟨Y,id,a',n',jH,V⟩=(Y,id,V):=rfl;rw[Dz,A.out.1,A.out.2.1,A.out.2.2]at J;clear Dz A;clear hM hP R2 zC c2 c3 d1 d2 T hJ R3 P3;rcases akt with⟨rfl,rfl,f,rfl⟩|⟨hc,rfl⟩
  ·go_wp2_with(fail);refine J.mono ?_;rintro e w4 ⟨rfl,hW⟩;clear J
   go_wp2
   go_ret;exact⟨rfl,hW.from (Kept.jg B v.ownBlock XZ)⟩
  ·have vr:(Y !=2)=true:=by simpa using hc
   clear hc;go_wp2_with(fail);refine J.mono ?_;rintro e w4 ⟨rfl,hW⟩;clear J
   go_wp2
   go_ret;exact⟨rfl,hW.from (Kept.jg B v.ownBlock XZ)⟩
theorem KP(B:Nat)(X:Nat->Prop)(s:LS)(v:eA)(ps:List PV)(id:Int)(a:Option eh)(n cap:Nat)(os:List jQ)(w:ew)(V:jt w)(h:r8 w B X s v ps)(hb:Bd s 100)(U:ps.length<=50)
 (T:jm w a n os) (J:∀k,vj a n=μ k->¬X k/\v.ownBlock≠μ k/\k<w.heap.size) (S:kY a cap) (Y:n<=1000) (m1:0<=s.nm) (m2:s.nm<=255):
 fc fe 211 #[π (μ ⟨B,0,ν⟩),.agg #[ι κ 1,ι κ id,σ a n cap]] w λe w'=>e=ρ (jB (uK s id os).2.2)/\nR w w' B X (uK s id os).1 v ps (uK s id os).2.1:=by
 by_cases Z:(mL s.nm os).1=2
 ·have M:=Nj Z;by_cases hf:(jv s.st 6).2.2=0
  ·have e:uK s id os=((ot s 6).sized os,qk s 6 (2,id,os),0):=by
    unfold uK;rw[ai Z,uo _ hf,ai rfl]
   rw[e];exact KL B X s v ps id a n cap os w V h hb U T J S Y m1 m2 M hf
  ·have e:uK s id os=tO s 6 (2,id,os):=by
    unfold uK;rw[ai Z,wB _ hf,af hf]
   rw[e];exact Ec B X s v ps id a n cap os w V h hb U T S Y m1 m2 2 os M 6 (.inl ⟨rfl,rfl,hf⟩)
 ·have e:uK s id os=tO s 7 ((mL s.nm os).1,id,(mL s.nm os).2):=by
   unfold uK;rw[af Z]
  rw[e];exact Ec B X s v ps id a n cap os w V h hb U T S Y m1 m2 _ _ rfl 7 (.inr ⟨Z,rfl⟩)
def LS.tell(s:LS)(code:Int)(os:List jQ):LS:=if 6<=s.st then {s with ns:=(pH code os (s.ns,s.nm)).1,nm:=(pH code os (s.ns,s.nm)).2}else s
def ur(s:LS)(code id:Int)(os:List jQ):LS×List kZ×Nat:=
 if id≠s.ow then(s,[],6)else if code=2 then(if os≠oM s.qs s.qm then(s,[],6)else tO s 8 (0,id,[]))else tO (s.tell code os) 9 (0,id,[])
theorem Nm(B:Nat)(X:Nat->Prop)(s:LS)(v:eA)(ps:List PV)(code id:Int)(a:Option eh)(n cap:Nat)(os:List jQ)(w:ew)(hT:jt w)(xJ:B≠0)(TL:v.ownBlock≠μ 0)(h:r8 w B X s v ps)(hb:Bd s 100)(hn:ps.length<=50)
 (ho:jm w a n os) (AX:n<=1000):
 fc fe 212 #[π (μ ⟨B,0,ν⟩),.agg #[ι κ code,ι κ id,σ a n cap]] w λe w'=>e=ρ (jB (ur s code id os).2.2)/\nR w w' B X (ur s code id os).1 v ps (ur s code id os).2.1:=by
 have hk:=gK w (γ #[ι κ code,ι κ id,σ a n cap] 37);have hA:=λj=>ak w #[ι κ code,ι κ id,σ a n cap] 37 (0,0) j;have hl:=h.lk.lt;have J:=h.below hk;have hz:∀w:ew,(zeroValue 37).run fe w=.ok (.agg #[ι κ 0,ι κ 0,σ ν 0 0]) w:=λw=>ga;obtain⟨U,kt⟩:=fq (w.alloc (γ #[ι κ code,ι κ id,σ a n cap] 37));obtain⟨Z,hZ⟩:=fq (w.heap.size);have d0:U.cell? ⟨Z,0,ν⟩=μ (ι κ code):=by rw[<-kt,<-hZ];exact hA 0
 have d1:U.cell? ⟨Z,1,ν⟩=μ (ι κ id):=by rw[<-kt,<-hZ];exact hA 1
 have d2:U.cell? ⟨Z,2,ν⟩=μ (σ a n cap):=by rw[<-kt,<-hZ];exact hA 2
 rw[kt]at J hk;have HW:Hid _:=kt;have HZ:Hid _:=hZ;have HBZ:Hid (B≠Z):=by show B≠Z;omega
 clear hA kt hZ hl;have c2:U.cell? ⟨B,2,ν⟩=μ (ι κ s.ns):=J.lk.cell 2;have c3:U.cell? ⟨B,3,ν⟩=μ (ι κ s.nm):=J.lk.cell 3;have c4:U.cell? ⟨B,4,ν⟩=μ (ι κ s.qs):=J.lk.cell 4;have c5:U.cell? ⟨B,5,ν⟩=μ (ι κ s.qm):=J.lk.cell 5;have c6:U.cell? ⟨B,6,ν⟩=μ (ι κ s.st):=J.lk.cell 6;have Un:U.cell? ⟨B,10,ν⟩=μ (ι κ s.ow):=J.lk.cell 10;have Yx:=J.lk.lt;have G:Z<U.heap.size:=ag U _ d1;cases TP:(id !=s.ow)
 ·have pS:id=s.ow:=by simpa using TP
  cases h22:(code==2)
  ·have TQ:code≠2:=by simpa using h22
   have y:ur s code id os=tO (s.tell code os) 9 (0,id,[]):=by
    unfold ur;rw[af (by simpa using pS),af TQ]
   rw[y];clear y TQ pS;by_cases h6:6<=s.st
   ·have et:s.tell code os={s with ns:=(pH code os (s.ns,s.nm)).1,nm:=(pH code os (s.ns,s.nm)).2}:=by unfold LS.tell;rw[ai h6]
    rw[et];clear et;have hTo:=λ(W:ew) (hW:eH w W)=>Ut s.ns s.nm code a n cap os W eB (ho.below hW);generalize (pH code os (s.ns,s.nm)).1=ts at hTo⊢;generalize (pH code os (s.ns,s.nm)).2=tm at hTo⊢;obtain⟨E,hE⟩:=fq (jB (tO {s with ns:=ts,nm:=tm} 9 (0,id,[])).2.2);obtain⟨S',hS'⟩:∃S',(tO {s with ns:=ts,nm:=tm} 9 (0,id,[])).1=S':=⟨_,rfl⟩
    obtain⟨O',hO'⟩:∃O',(tO {s with ns:=ts,nm:=tm} 9 (0,id,[])).2.1=O':=⟨_,rfl⟩
    rw[hE,hS',hO'];have HE:Hid _:=fj hE (fj hS' hO');have HTo:Hid _:=hTo;clear hE hS' hO' hTo
    go_in
    go_wp2_with(fail);rw[HW.out,HZ.out]
    go_quiet(fail)
    go_wp2_with(fail);obtain⟨Y,D⟩:=fq (U.drewN nq);have V:eH U Y:=by rw[<-D];exact below_drewN (au _ _) _
    rw[D];have S:=J.below V;have e0:Y.cell? ⟨Z,0,ν⟩=μ (ι κ code):=(V.cell (p:=⟨Z,0,ν⟩) G).trans d0;have e1:Y.cell? ⟨Z,1,ν⟩=μ (ι κ id):=(V.cell (p:=⟨Z,1,ν⟩) G).trans d1;have e2:Y.cell? ⟨Z,2,ν⟩=μ (σ a n cap):=(V.cell (p:=⟨Z,2,ν⟩) G).trans d2;have f2:Y.cell? ⟨B,2,ν⟩=μ (ι κ s.ns):=S.lk.cell 2;have f3:Y.cell? ⟨B,3,ν⟩=μ (ι κ s.nm):=S.lk.cell 3;have afQ:=S.lk.lt;have Ji:Z<Y.heap.size:=ag Y _ e1;have T:=fP hk V;have HR2:Hid _:=S;have hC:=HTo.out Y.drew (jK T);clear d0 d1 d2 c2 c3 c4 c5 c6 Un J D V Yx G S HTo
    go_region_with(go_at_call 231;refine hC.mono ?_;rintro e M ⟨rfl,b3⟩;have QZ:eH Y M:=fP (jK (au _ _)) b3;have R3:=HR2.out.below QZ;have g2:M.cell? ⟨B,2,ν⟩=μ (ι κ s.ns):=R3.lk.cell 2;have g3:M.cell? ⟨B,3,ν⟩=μ (ι κ s.nm):=R3.lk.cell 3;have gf:∀j,M.frozen? ⟨B,j,ν⟩=false:=R3.lk.frozen;have gl:=R3.lk.lt;have z1:M.cell? ⟨Z,1,ν⟩=μ (ι κ id):=(QZ.cell (p:=⟨Z,1,ν⟩) Ji).trans e1)
    all_goals
     have R4:r8 ((M.setCell ⟨B,2,ν⟩ (ι κ ts)).setCell ⟨B,3,ν⟩ (ι κ tm)) B X {s with ns:=ts,nm:=tm} v ps:=(R3.lP 2 _ {s with ns:=ts} rfl).lP 3 _ _ rfl;have K4:Kept w ((M.setCell ⟨B,2,ν⟩ (ι κ ts)).setCell ⟨B,3,ν⟩ (ι κ tm)) B v.ownBlock:=k7 (k7 (Kept.jg B _ (fP T QZ)) 2 _) 3 _;have A:=uJ B X {s with ns:=ts,nm:=tm} v ps ⟨0,id,ν,0,0,[]⟩ 9 _ (K4.tab hT xJ TL) R4 ⟨hb.o1,hb.o2,hb.l1,hb.l2⟩ (rF _ _ _ _ _) hn;have Dz:PV.abs ⟨0,id,ν,0,0,[]⟩=(0,id,[]):=rfl;rw[Dz,HE.out.1,HE.out.2.1,HE.out.2.2]at A;clear Dz HE R4 R3 hC;have apY:Z<M.heap.size:=ag M _ z1;have yJ:=HBZ.out;go_wp2_with(fail);refine A.mono ?_;rintro e w5 ⟨rfl,hW⟩;clear A
     go_wp2
     go_ret;exact⟨rfl,hW.from K4⟩
   ·have et:s.tell code os=s:=by unfold LS.tell;rw[af h6]
    rw[et];clear et
    go_in
    go_wp2_with(fail);rw[HW.out,HZ.out]
    go_quiet(fail)
    obtain⟨Y,D⟩:=fq (U.drewN nq);have V:eH U Y:=by rw[<-D];exact below_drewN (au _ _) _
    rw[D];have S:=J.below V;have e0:Y.cell? ⟨Z,0,ν⟩=μ (ι κ code):=(V.cell (p:=⟨Z,0,ν⟩) G).trans d0;have e1:Y.cell? ⟨Z,1,ν⟩=μ (ι κ id):=(V.cell (p:=⟨Z,1,ν⟩) G).trans d1;have f6:Y.cell? ⟨B,6,ν⟩=μ (ι κ s.st):=S.lk.cell 6;have afQ:=S.lk.lt;have Ji:Z<Y.heap.size:=ag Y _ e1;have T:=fP hk V;have A:=uJ B X s v ps ⟨0,id,ν,0,0,[]⟩ 9 _ (hT.below T) S hb (rF _ _ _ _ _) hn;clear d0 d1 d2 c2 c3 c4 c5 c6 Un J D V Yx G S;go_wp2_with(fail);refine A.mono ?_;rintro e w5 ⟨rfl,hW⟩;clear A
    go_wp2
    go_ret;exact⟨rfl,hW.from (Kept.jg B v.ownBlock T)⟩
  ·have TQ:code=2:=by simpa using h22
   subst TQ;have HID:Hid _:=pS;clear h22 pS
   go_in
   go_wp2_with(fail);rw[HW.out,HZ.out]
   go_quiet(fail)
   go_wp2_with(fail);obtain⟨Y,D⟩:=fq (U.drewN nq);have V:eH U Y:=by rw[<-D];exact below_drewN (au _ _) _
   rw[D];have S:=J.below V;have e0:Y.cell? ⟨Z,0,ν⟩=μ (ι κ 2):=(V.cell (p:=⟨Z,0,ν⟩) G).trans d0;have e1:Y.cell? ⟨Z,1,ν⟩=μ (ι κ id):=(V.cell (p:=⟨Z,1,ν⟩) G).trans d1;have e2:Y.cell? ⟨Z,2,ν⟩=μ (σ a n cap):=(V.cell (p:=⟨Z,2,ν⟩) G).trans d2;have f4:Y.cell? ⟨B,4,ν⟩=μ (ι κ s.qs):=S.lk.cell 4;have f5:Y.cell? ⟨B,5,ν⟩=μ (ι κ s.qm):=S.lk.cell 5;have afQ:=S.lk.lt;have Ji:Z<Y.heap.size:=ag Y _ e1;have T:=fP hk V;clear d0 d1 d2 c2 c3 c4 c5 c6 Un J D V Yx G TP
   go_region_with(first
    |(go_at_call 224;refine(KE s.qs s.qm _).mono ?_;rintro e M ⟨u,rfl,hM⟩;obtain⟨ua,uc,rfl,un,ul⟩:=hM.shape;have k3:=hM.below;have g2:M.cell? ⟨Z,2,none⟩=some (.slice a n cap):=(k3.cell (p:=⟨Z,2,none⟩) Ji).trans e2)
    |(go_at_call 230;refine(A7 a ua cap uc n _ os (oM s.qs s.qm) M (ho.below (fP (jK T) k3)) hM.opts.2 eB (by have:=Hk s.qs s.qm;omega)).mono ?_;rintro e w4 ⟨rfl,m4,rfl⟩))
   all_goals
    have k04:eH w (M.drewN m4):=below_drewN (fP (jK T) k3) m4;have k24:eH Y (M.drewN m4):=below_drewN (fP (jK (au _ _)) k3) m4;have R4:=S.below k24;have g1:(M.drewN m4).cell? ⟨Z,1,ν⟩=μ (ι κ id):=(k24.cell (p:=⟨Z,1,ν⟩) Ji).trans e1;have apZ:Z<(M.drewN m4).heap.size:=ag _ _ g1;have A:=uJ B X s v ps ⟨0,id,ν,0,0,[]⟩ 8 _ (hT.below k04) R4 hb (rF _ _ _ _ _) hn;have HR4:Hid _:=R4;clear S R4 k24 hM;by_cases Hg:os=oM s.qs s.qm
    ·have hd:decide (os=oM s.qs s.qm)=true:=by simp[Hg]
     have y:ur s 2 id os=tO s 8 (0,id,[]):=by
      unfold ur;rw[af (by simpa using HID.out),ai rfl,af (by simpa using Hg)]
     clear Hg
     try rw[hd]
     go_wp2_with(fail);refine A.mono ?_;rintro e w5 ⟨rfl,hW⟩;clear A
     go_wp2
     go_ret;rw[y];exact⟨rfl,hW.from (Kept.jg B v.ownBlock k04)⟩
    ·have hd:decide (os=oM s.qs s.qm)=false:=by simp[Hg]
     have y:ur s 2 id os=(s,[],6):=by
      unfold ur;rw[af (by simpa using HID.out),ai rfl,ai Hg]
     clear Hg A
     try rw[hd]
     go_wp2
     go_ret;rw[y];exact⟨rfl,nR.still HR4.out (Kept.jg B v.ownBlock k04)⟩
 ·have pS:id≠s.ow:=by simpa using TP
  have y:ur s code id os=(s,[],6):=by
   unfold ur;rw[ai pS]
  rw[y];clear y pS
  go_in
  go_wp2_with(fail);rw[HW.out,HZ.out]
  go_quiet(fail)
  go_wp2
  go_ret;exact⟨rfl,nR.still (J.below (below_drewN (au _ _) _)) (Kept.jg B v.ownBlock (below_drewN hk _))⟩
def jW(s:LS)(p:kZ):LS×List kZ×Nat:=
 if j4 p.1 p.2.1 p.2.2≠0 then(s,[],j4 p.1 p.2.1 p.2.2)else if p.1=1 then uK s p.2.1 p.2.2 else if p.1=5 then tO s 10 (0,p.2.1,[])else if p.1=6 then tO s 11 (0,p.2.1,[])else ur s p.1 p.2.1 p.2.2
theorem Uu(B:Nat)(X:Nat->Prop)(s:LS)(v:eA)(ps:List PV)(p:PV)(w:ew)(hT:jt w)(xJ:B≠0)(TL:v.ownBlock≠μ 0)(h:r8 w B X s v ps)(hb:Bd s 100)(hn:ps.length<=50)(hp:vV w X v p)(m1:0<=s.nm)(m2:s.nm<=255):
 fc fe 185 #[π (μ ⟨B,0,ν⟩),.agg #[ι κ p.code,ι κ p.id,σ p.a p.n p.cap]] w λe w'=>e=ρ (jB (jW s p.abs).2.2)/\nR w w' B X (jW s p.abs).1 v ps (jW s p.abs).2.1:=by
 obtain⟨code,id,a,n,cap,os⟩:=p;obtain⟨J,kH,A,yL,vp⟩:=hp;simp only at J kH A yL;have D:∀k,vj a n=μ k->¬X k/\v.ownBlock≠μ k/\k<w.heap.size:=vp;have Dz:PV.abs ⟨code,id,a,n,cap,os⟩=(code,id,os):=rfl;rw[Dz];have G:=gK w (γ #[ι κ code,ι κ id,σ a n cap] 37);have hA:=λj=>ak w #[ι κ code,ι κ id,σ a n cap] 37 (0,0) j;have hC:=uI code id a n cap os _ eB A (J.below G);have hz:∀w:ew,(zeroValue 37).run fe w=.ok (.agg #[ι κ 0,ι κ 0,σ ν 0 0]) w:=λw=>ga;obtain⟨Z,hZ⟩:=fq (w.heap.size);have V:∀j,(w.alloc (γ #[ι κ code,ι κ id,σ a n cap] 37)).cell? ⟨Z,j,ν⟩= #[ι κ code,ι κ id,σ a n cap][j]? :=by rw[<-hZ];exact hA
 have U:Z<(w.alloc (γ #[ι κ code,ι κ id,σ a n cap] 37)).heap.size:=by simp;omega
 have y:Hid _:=hZ;clear hA hZ vp Dz;by_cases E:j4 code id os=0
 ·have e0:jB 0=η:=rfl;rw[E,e0]at hC;have main:∀(ev:Int),∀Y:ew,eH w Y->fc fe 171 #[π (μ ⟨B,0,ν⟩),ι κ ev,.agg #[ι κ 0,ι κ id,σ ν 0 0]] Y λe w'=>e=ρ (jB (tO s ev (0,id,[])).2.2)/\nR w w' B X (tO s ev (0,id,[])).1 v ps (tO s ev (0,id,[])).2.1:=by
   intro ev Y k;refine(uJ B X s v ps ⟨0,id,ν,0,0,[]⟩ ev Y (hT.below k) (h.below k) hb (rF _ _ _ _ _) hn).mono ?_;rintro e w' ⟨rfl,T⟩;exact⟨rfl,T.from (Kept.jg B v.ownBlock k)⟩
  have M:jW s (code,id,os)=if code=1 then uK s id os else if code=5 then tO s 10 (0,id,[])else if code=6 then tO s 11 (0,id,[])else ur s code id os:=by
   unfold jW;rw[af (by simpa using E)]
  rw[M];clear M E e0;by_cases h1:code=1
  ·subst h1;rw[ai rfl];have HH:∀Y:ew,eH w Y->fc fe 211 #[π (μ ⟨B,0,ν⟩),.agg #[ι κ 1,ι κ id,σ a n cap]] Y λe w'=>e=ρ (jB (uK s id os).2.2)/\nR w w' B X (uK s id os).1 v ps (uK s id os).2.1:=by
    intro Y k;refine(KP B X s v ps id a n cap os Y (hT.below k) (h.below k) hb hn (J.below k) (λj Pj=>by obtain⟨q1,q2,q3⟩:=D j Pj;exact⟨q1,q2,Nat.lt_of_lt_of_le q3 k.size⟩) kH eB m1 m2).mono ?_;rintro e w' ⟨rfl,T⟩;exact⟨rfl,T.from (Kept.jg B v.ownBlock k)⟩
   clear main D h J
   go_in
   go_wp2_with(fail);refine hC.mono ?_;rintro e w1 ⟨rfl,k1⟩;have d0:w1.cell? ⟨Z,0,ν⟩=μ (ι κ 1):=(k1.cell (p:=⟨Z,0,ν⟩) U).trans (V 0);have d1:w1.cell? ⟨Z,1,ν⟩=μ (ι κ id):=(k1.cell (p:=⟨Z,1,ν⟩) U).trans (V 1);have d2:w1.cell? ⟨Z,2,ν⟩=μ (σ a n cap):=(k1.cell (p:=⟨Z,2,ν⟩) U).trans (V 2);have Jd:Z<w1.heap.size:=ag w1 _ d0;have S:=HH w1 (fP G k1);clear hC V U HH;rw[y.out];go_wp2_with(fail);refine S.mono ?_;rintro e w2 ⟨rfl,T⟩;clear S
   go_wp2
   go_ret;exact⟨rfl,T⟩
  ·rw[af h1];have b1:(code==1)=false:=by simpa using h1
   by_cases h5:code=5
   ·subst h5;rw[ai rfl];clear D h J
    go_in
    go_wp2_with(fail);refine hC.mono ?_;rintro e w1 ⟨rfl,k1⟩;have d0:w1.cell? ⟨Z,0,ν⟩=μ (ι κ 5):=(k1.cell (p:=⟨Z,0,ν⟩) U).trans (V 0);have d1:w1.cell? ⟨Z,1,ν⟩=μ (ι κ id):=(k1.cell (p:=⟨Z,1,ν⟩) U).trans (V 1);have Jd:Z<w1.heap.size:=ag w1 _ d0;have S:=main 10 w1 (fP G k1);clear hC V U main;rw[y.out];go_wp2_with(fail);refine S.mono ?_;rintro e w2 ⟨rfl,T⟩;clear S
    go_wp2
    go_ret;exact⟨rfl,T⟩
   ·rw[af h5];have b5:(code==5)=false:=by simpa using h5
    by_cases h6:code=6
    ·subst h6;rw[ai rfl];clear D h J
     go_in
     go_wp2_with(fail);refine hC.mono ?_;rintro e w1 ⟨rfl,k1⟩;have d0:w1.cell? ⟨Z,0,ν⟩=μ (ι κ 6):=(k1.cell (p:=⟨Z,0,ν⟩) U).trans (V 0);have d1:w1.cell? ⟨Z,1,ν⟩=μ (ι κ id):=(k1.cell (p:=⟨Z,1,ν⟩) U).trans (V 1);have Jd:Z<w1.heap.size:=ag w1 _ d0;have S:=main 11 w1 (fP G k1);clear hC V U main;rw[y.out];go_wp2_with(fail);refine S.mono ?_;rintro e w2 ⟨rfl,T⟩;clear S
     go_wp2
     go_ret;exact⟨rfl,T⟩
    ·rw[af h6];have b6:(code==6)=false:=by simpa using h6
     have HH:∀Y:ew,eH w Y->fc fe 212 #[π (μ ⟨B,0,ν⟩),.agg #[ι κ code,ι κ id,σ a n cap]] Y λe w'=>e=ρ (jB (ur s code id os).2.2)/\nR w w' B X (ur s code id os).1 v ps (ur s code id os).2.1:=by
      intro Y k;refine(Nm B X s v ps code id a n cap os Y (hT.below k) xJ TL (h.below k) hb hn (J.below k) eB).mono ?_;rintro e w' ⟨rfl,T⟩;exact⟨rfl,T.from (Kept.jg B v.ownBlock k)⟩
     clear main D h J h1 h5 h6
     go_in
     go_wp2_with(fail);refine hC.mono ?_;rintro e w1 ⟨rfl,k1⟩;have d0:w1.cell? ⟨Z,0,ν⟩=μ (ι κ code):=(k1.cell (p:=⟨Z,0,ν⟩) U).trans (V 0);have d1:w1.cell? ⟨Z,1,ν⟩=μ (ι κ id):=(k1.cell (p:=⟨Z,1,ν⟩) U).trans (V 1);have d2:w1.cell? ⟨Z,2,ν⟩=μ (σ a n cap):=(k1.cell (p:=⟨Z,2,ν⟩) U).trans (V 2);have Jd:Z<w1.heap.size:=ag w1 _ d0;have S:=HH w1 (fP G k1);clear hC V U HH;rw[y.out];go_wp2_with(fail);refine S.mono ?_;rintro e w2 ⟨rfl,T⟩;clear S
     go_wp2
     go_ret;exact⟨rfl,T⟩
 ·have M:jW s (code,id,os)=(s,[],j4 code id os):=by
   unfold jW;rw[ai E]
  rw[M];have ee:jB (j4 code id os)=.iface 128 (ι κ (j4 code id os:Int)):=by simp only[jB];rw[af E]
  simp only[ee]at hC⊢;have HR:Hid (∀Y:ew,eH w Y->r8 Y B X s v ps):=λY k=>h.below k;clear M E ee h J;generalize j4 code id os=f at hC⊢
  go_in
  go_wp2_with(fail);refine hC.mono ?_;rintro e w1 ⟨rfl,k1⟩;clear hC
  go_wp2
  go_ret;exact⟨rfl,nR.still (HR.out _ (fP G k1)) (Kept.jg B v.ownBlock (fP G k1))⟩
def lr(s:LS)(ev:Int):LS×List kZ×Nat:=if ev=0 \/ev=1 \/ev=2 \/ev=3 then tO s ev (0,0,[])else(s,[],1)
theorem acx(ev:Int)(B:Nat)(X:Nat->Prop)(s:LS)(v:eA)(ps:List PV)(w:ew)(Y:jt w)(h:r8 w B X s v ps)(hb:Bd s 100)(T:ps.length<=50):
 fc fe 120 #[π (μ ⟨B,0,ν⟩),ι κ ev] w λe w'=>e=ρ (jB (lr s ev).2.2)/\nR w w' B X (lr s ev).1 v ps (lr s ev).2.1:=by
 have hz:=tg;have hc:=uJ B X s v ps ⟨0,0,ν,0,0,[]⟩ ev w Y h hb (rF _ _ _ _ _) T;by_cases Z:ev=0 \/ev=1 \/ev=2 \/ev=3
 ·have e:lr s ev=tO s ev (0,0,[]):=by unfold lr;rw[ai Z]
  rw[e];clear h Y hb e;rcases Z with rfl|rfl|rfl|rfl
  all_goals
   go_in
   go_wp2_with(fail);refine hc.mono ?_;rintro e w1 ⟨rfl,U⟩;clear hc
   go_wp2
   go_ret;exact⟨rfl,U⟩
 ·have e:lr s ev=(s,[],1):=by unfold lr;rw[af Z]
  rw[e];have b0:(ev==0)=false:=by simp;omega
  have b1:(ev==1)=false:=by simp;omega
  have b2:(ev==2)=false:=by simp;omega
  have b3:(ev==3)=false:=by simp;omega
  have V:Hid (nR w w B X s v ps []):=nR.still h (Kept.refl _ _ _);clear hc h Y hb e Z
  go_in
  go_wp2
  go_ret;exact⟨rfl,V.out⟩
theorem DA(x:Int):yK x=true↔0<=x/\x<=255:=by simp[yK]
def YF:List UInt8->Int->Int
 |[],x=>x
 |c::r,x=>YF r (if c=105 then 4 else if c=122 then 0 else if c=114 then x-1 else if c=116 then x-1 else x)
def YG:List UInt8->Int->Int
 |[],x=>x
 |c::r,x=>YG r (if c=105 then x else if c=122 then 3 else if c=114 then 3 else if c=116 then 3 else x)
theorem Ho:∀(L:List UInt8) (s:LS),0<=s.ow->s.ow<=255->(rk L s).st=s.st/\(rk L s).sz=s.sz/\(rk L s).fs=s.fs/\(rk L s).fm=s.fm/\(rk L s).ns=s.ns/\(rk L s).nm=s.nm/\(rk L s).lf=YF L s.lf/\(rk L s).wt=YG L s.wt/\0<=(rk L s).ow/\(rk L s).ow<=255
 |[],s,h1,h2=>⟨rfl,rfl,rfl,rfl,rfl,rfl,rfl,rfl,h1,h2⟩
 |c::r,s,h1,h2=>by
  have e:rk (c::r) s=rk r (qB c s):=rfl;have U:(qB c s).st=s.st/\(qB c s).sz=s.sz/\(qB c s).fs=s.fs/\(qB c s).fm=s.fm/\(qB c s).ns=s.ns/\(qB c s).nm=s.nm/\(qB c s).lf=(if c=105 then 4 else if c=122 then 0 else if c=114 then s.lf-1 else if c=116 then s.lf-1 else s.lf)/\(qB c s).wt=(if c=105 then s.wt else if c=122 then 3 else if c=114 then 3 else if c=116 then 3 else s.wt)/\0<=(qB c s).ow/\(qB c s).ow<=255:=by
   by_cases c1:c=105;{subst c1;exact⟨rfl,rfl,rfl,rfl,rfl,rfl,rfl,rfl,h1,h2⟩}
   ·by_cases c2:c=122;{subst c2;exact⟨rfl,rfl,rfl,rfl,rfl,rfl,rfl,rfl,h1,h2⟩}
    ·by_cases c3:c=114;{subst c3;exact⟨rfl,rfl,rfl,rfl,rfl,rfl,rfl,rfl,by show 0<=(s.ow+1) %256;omega,by show(s.ow+1) %256<=255;omega⟩}
     ·by_cases c4:c=116;{subst c4;exact⟨rfl,rfl,rfl,rfl,rfl,rfl,rfl,rfl,by show 0<=(s.ow+1) %256;omega,by show(s.ow+1) %256<=255;omega⟩}
      ·have V:qB c s=s:=by simp[qB,c1,c2,c3,c4]
       rw[V,af c1,af c2,af c3,af c4,af c1,af c2,af c3,af c4];exact⟨rfl,rfl,rfl,rfl,rfl,rfl,rfl,rfl,h1,h2⟩
  obtain⟨T,S,p3,M,J,G,E,D,A,Z⟩:=U;obtain⟨q1,q2,y,h,q5,q6,q7,q8,q9,Y⟩:=Ho r (qB c s) A Z;rw[e];exact⟨q1.trans T,q2.trans S,y.trans p3,h.trans M,q5.trans J,q6.trans G,by rw[q7,E];rfl,by rw[q8,D];rfl,q9,Y⟩
def yg(st lf wt:Int):Bool:=decide (0<=st)&&decide (st<=9)&&decide (0<=lf)&&decide (lf<=4)&& (!(decide (st=7)||decide (st=9))||decide (lf=4))&&decide (0<=wt)&&decide (wt<=3)&& (!(decide (4<=st)&&decide (st<=8))||decide (1<=wt))
theorem tj(st lf wt:Int):yg st lf wt=true↔(0<=st/\st<=9/\0<=lf/\lf<=4/\(st=7 \/st=9->lf=4)/\0<=wt/\wt<=3/\(4<=st/\st<=8->1<=wt)):=by
 simp only[yg,Bool.and_eq_true,Bool.or_eq_true,Bool.not_eq_true',decide_eq_true_eq,decide_eq_false_iff_not,Bool.or_eq_false_iff,Bool.and_eq_false_iff];constructor;{rintro⟨⟨⟨⟨⟨⟨⟨a,b⟩,c⟩,d⟩,e⟩,f⟩,g⟩,h⟩;exact⟨a,b,c,d,eB,f,g,eB⟩};{rintro⟨a,b,c,d,e,f,g,h⟩;exact⟨⟨⟨⟨⟨⟨⟨a,b⟩,c⟩,d⟩,eB⟩,f⟩,g⟩,eB⟩}
theorem acy:((ft 12).all λe=>(ft 10).all λs=>(ft 5).all λl=>(ft 4).all λt=> !(e !=4&&e !=5&&yg (s:Int) (l:Int) (t:Int)&& ((lO s e).2.2==0))||yg (lO s e).2.1 (YF (lO s e).1 (l:Int)) (YG (lO s e).1 (t:Int)))=true:=by decide+kernel
theorem Uv(e:Nat)(S:e<12)(s:Nat)(hs:s<10)(l:Nat)(hl:l<5)(t:Nat)(M:t<4)(h:e≠4/\e≠5/\yg (s:Int) (l:Int) (t:Int)=true/\(lO s e).2.2=0):yg (lO s e).2.1 (YF (lO s e).1 (l:Int)) (YG (lO s e).1 (t:Int))=true:=by
 have Z:=aZ.1 (aZ.1 (aZ.1 (aZ.1 acy e (aN.2 S)) s (aN.2 hs)) l (aN.2 hl)) t (aN.2 M);obtain⟨Y,V,U,T⟩:=h;have b4:(e !=4)=true:=by simpa using Y
 have b5:(e !=5)=true:=by simpa using V
 have b7:((lO s e).2.2==0)=true:=by simpa using T
 rw[b4,b5,U,b7]at Z;simpa using Z
theorem KR:∀s:Nat,s<10->∀l:Nat,l<5->(4<=s/\s<=8/\1<=l/\yg (s:Int) (l:Int) 1=true)->yg (lO s 4).2.1 (YF (lO s 4).1 (l:Int)) (YG (lO s 4).1 0)=true:=by decide+kernel
theorem KS:∀s:Nat,s<10->(4<=s/\s<=8/\yg (s:Int) 0 1=true)->yg (lO s 5).2.1 (YF (lO s 5).1 0) (YG (lO s 5).1 0)=true:=by decide+kernel
structure AY(s:LS):Prop where
 ok:yg s.st s.lf s.wt=true
 o1:0<=s.ow
 o2:s.ow<=255
 m1:0<=s.nm
 m2:s.nm<=255
 f1:0<=s.fm
 f2:s.fm<=255
theorem AY.bd {s:LS} (h:AY s):Bd s 100:=by
 obtain⟨a,b,c,d,_⟩:=(tj _ _ _).1 h.ok;exact⟨h.o1,h.o2,eB,eB⟩
theorem AY.wt {s:LS} (h:AY s):0<=s.wt/\s.wt<=3:=by
 obtain⟨_,_,_,_,_,a,b,_⟩:=(tj _ _ _).1 h.ok;exact⟨a,b⟩
theorem yM {s:LS} (h1:0<=s.ow)(h2:s.ow<=255)(m1:0<=s.nm)(m2:s.nm<=255)(f1:0<=s.fm)(f2:s.fm<=255)(ev:Int)(Z:yg (jv s.st ev).2.1 (YF (jv s.st ev).1 s.lf) (YG (jv s.st ev).1 s.wt)=true):AY (ot s ev):=by
 unfold ot;obtain⟨D,nx,f,T⟩:∃D nx f,jv s.st ev=(D,nx,f):=⟨_,_,_,rfl⟩
 rw[T]at Z⊢;simp only at Z⊢;have S:(s.next nx).st=nx/\(s.next nx).lf=s.lf/\(s.next nx).wt=s.wt/\(s.next nx).ow=s.ow/\(s.next nx).fm=s.fm/\((s.next nx).nm=s.nm \/(s.next nx).nm=s.fm):=by
  unfold LS.next;split;{exact⟨rfl,rfl,rfl,rfl,rfl,.inr rfl⟩};{exact⟨rfl,rfl,rfl,rfl,rfl,.inl rfl⟩}
 obtain⟨n1,M,n3,n4,V,n6⟩:=S;obtain⟨q1,_,_,U,_,q6,J,G,E,Y⟩:=Ho D (s.next nx) eB eB;refine⟨by rw[q1,J,G,n1,M,n3];exact Z,E,Y,?_,?_,by rw[U,V];exact f1,by rw[U,V];exact f2⟩;{rw[q6];rcases n6 with e|e<;>rw[e] <;>assumption};{rw[q6];rcases n6 with e|e<;>rw[e] <;>assumption}
theorem AY.ev {s:LS} (h:AY s)(e:Nat)(Z:e<12)(T:e≠4)(S:e≠5)(zJ:kZ):AY (tO s e zJ).1:=by
 by_cases hf:(jv s.st e).2.2=0
 ·rw[uo _ hf];obtain⟨a,b,c,d,_,f,g,_⟩:=(tj _ _ _).1 h.ok;refine yM h.o1 h.o2 h.m1 h.m2 h.f1 h.f2 e ?_;have U:=h.ok;obtain⟨st,Y⟩:∃st:Nat,s.st=st:=⟨s.st.toNat,eB⟩
  obtain⟨l,hl⟩:∃l:Nat,s.lf=l:=⟨s.lf.toNat,eB⟩
  obtain⟨t,V⟩:∃t:Nat,s.wt=t:=⟨s.wt.toNat,eB⟩
  rw[Y]at hf;rw[nQ st e eB Z]at hf;rw[Y,hl,V,nQ st e eB Z];rw[Y,hl,V]at U;exact Uv e Z st eB l eB t eB ⟨T,S,U,hf⟩
 ·rw[wB _ hf];exact h
theorem AY.lr {s:LS} (h:AY s)(ev:Int):AY (lr s ev).1:=by
 unfold Go.Proofs.YtieklnlbljejdaaGreatDoor.lr;split
 ·rename_i Z
  rcases Z with rfl|rfl|rfl|rfl
  {exact h.ev 0 eF eF eF _};{exact h.ev 1 eF eF eF _};{exact h.ev 2 eF eF eF _};{exact h.ev 3 eF eF eF _}
 ·exact h
theorem AY.tick {s:LS} (h:AY s):AY (kI s):=by
 obtain⟨a,b,c,d,E,f,g,G⟩:=(tj _ _ _).1 h.ok;unfold kI;by_cases J:4<=s.st/\s.st<=8
 ·rw[af (by simp;omega)];by_cases U:0<s.wt-1;{rw[ai U];exact⟨(tj _ _ _).2 ⟨a,b,c,d,E,by show 0<=s.wt-1;omega,by show s.wt-1<=3;omega,λ_=>by show 1<=s.wt-1;omega⟩,h.o1,h.o2,h.m1,h.m2,h.f1,h.f2⟩}
  ·rw[af U];have T:s.wt=1:=by have:=G J;omega
   have S:s.wt-1=0:=eB;have Y:=h.ok;obtain⟨st,V⟩:∃st:Nat,s.st=st:=⟨s.st.toNat,eB⟩
   obtain⟨l,hl⟩:∃l:Nat,s.lf=l:=⟨s.lf.toNat,eB⟩
   by_cases Z:0<s.lf;{rw[ai Z];refine yM (s:={s with wt:=s.wt-1}) h.o1 h.o2 h.m1 h.m2 h.f1 h.f2 4 ?_;show yg (jv s.st 4).2.1 (YF (jv s.st 4).1 s.lf) (YG (jv s.st 4).1 (s.wt-1))=true;rw[S,V,hl,show(4:Int)=((4:Nat):Int)from rfl,nQ st 4 eB eF];rw[V,hl,T]at Y;exact KR st eB l eB ⟨eB,eB,eB,Y⟩};{rw[af Z];refine yM (s:={s with wt:=s.wt-1}) h.o1 h.o2 h.m1 h.m2 h.f1 h.f2 5 ?_;show yg (jv s.st 5).2.1 (YF (jv s.st 5).1 s.lf) (YG (jv s.st 5).1 (s.wt-1))=true;have M:s.lf=0:=eB;rw[S,V,M,show(5:Int)=((5:Nat):Int)from rfl,nQ st 5 eB eF];rw[V,M,T]at Y;exact KS st eB ⟨eB,eB,Y⟩}
 ·rw[ai (by simp;omega)];exact h
theorem Ee:∀(os seen:List jQ),qC seen os=0->∀o∈os,yK o.1=true/\yK o.2=true
 |[],_,_=>λo Y=>by simp at Y
 |o::r,seen,h=>by
  unfold qC at h;split at h;{simp at h}
  ·rename_i Z
   split at h;{simp at h}
   ·intro x hx;rcases aP.1 hx with rfl|hx
    {simpa using Z};{exact Ee r (seen++ [o]) h x hx}
theorem KT {code id:Int} {os:List jQ} (h:j4 code id os=0):∀o∈os,yK o.1=true/\yK o.2=true:=by
 unfold j4 at h;split at h;{simp at h};{split at h;{simp at h};{split at h;{simp at h};{exact Ee os [] h}}}
theorem Pv(code:Int):∀(os:List jQ) (p:Int×Int),(∀o∈os,yK o.1=true/\yK o.2=true)->0<=p.2->p.2<=255->0<=(pH code os p).2/\(pH code os p).2<=255
 |[],_,_,h1,h2=>⟨h1,h2⟩
 |o::r,p,hb,h1,h2=>by
  have e:pH code (o::r) p=pH code r (ku code p o):=rfl;rw[e];have Y:=(DA o.2).1 (hb o ik).2;have Z:0<=(ku code p o).2/\(ku code p o).2<=255:=by
   unfold ku;split;{split;{exact⟨h1,h2⟩};{split;{exact⟨Int.le_refl _,show(0:Int)<=255 by decide⟩};{exact⟨h1,h2⟩}}};{split;{split;{exact⟨h1,h2⟩};{split;{exact Y};{exact⟨h1,h2⟩}}};{exact⟨h1,h2⟩}}
  exact Pv code r _ (λx hx=>hb x (by simp[hx])) Z.1 Z.2
theorem AY.sized {s:LS} (h:AY s)(os:List jQ):AY (s.sized os):=by
 unfold LS.sized;split;{exact⟨h.ok,h.o1,h.o2,h.m1,h.m2,h.f1,h.f2⟩};{exact h}
theorem AY.jW {s:LS} (h:AY s)(p:kZ):AY (jW s p).1:=by
 unfold Go.Proofs.YtieklnlbljejdaaGreatDoor.jW;split;{exact h}
 ·rename_i V
  have Z:j4 p.1 p.2.1 p.2.2=0:=by simpa using V
  split;{unfold uK;split;{split;{exact(h.ev 6 eF eF eF _).sized _};{exact h.ev 6 eF eF eF _}};{exact h.ev 7 eF eF eF _}}
  ·split;{exact h.ev 10 eF eF eF _}
   ·split;{exact h.ev 11 eF eF eF _}
    ·unfold ur;split;{exact h}
     ·split;{split;{exact h};{exact h.ev 8 eF eF eF _}}
      ·have Y:AY (s.tell p.1 p.2.2):=by
        unfold LS.tell;split;{have:=Pv p.1 p.2.2 (s.ns,s.nm) (KT Z) h.m1 h.m2;exact⟨h.ok,h.o1,h.o2,this.1,this.2,h.f1,h.f2⟩};{exact h}
       exact Y.ev 9 eF eF eF _
end Go.Proofs.YtieklnlbljejdaaGreatDoor
namespace Go.Proofs.YtieklnlbljejdaaGreatDoor.Plain
open Go.RowKit
theorem wC(a b:Nat)(Z:a<65536)(hb:b<65536):bits .xor .i64 (a:Int) (b:Int)=((a^^^b:Nat):Int):=by
 have h:a^^^b<65536:=Nat.xor_lt_two_pow (n:=16) Z hb;have e:∀n:Nat,n<65536->(fA 64 (n:Int)).toNat=n:=by
  intro n hn;rw[BitVec.toNat_ofInt];simp;omega
 have Y:(fA 64 (a:Int) ^^^fA 64 (b:Int)).toNat=a^^^b:=by
  rw[BitVec.toNat_xor,e a Z,e b hb]
 show IntKind.i64.wrap ((fA 64 (a:Int) ^^^fA 64 (b:Int)).toNat:Int)=_;rw[Y,IntKind.wrap_i64];omega
def turn(x:Nat):Nat:=if x%2=1 then x/2^^^33800 else x/2
def turns:Nat->Nat->Nat
 |0,x=>x
 |n+1,x=>turns n (turn x)
def Jj(x:Nat)(c:UInt8):Nat:=turns 8 (x^^^c.toNat)
def reg(l:List UInt8):Nat:=l.foldl Jj 65535
def sum(l:List UInt8):Nat:=reg l^^^65535
theorem Jk(a b:Nat)(Z:a<65536)(hb:b<65536):a^^^b<65536:=Nat.xor_lt_two_pow (n:=16) Z hb
theorem Uw(c:UInt8):c.toNat<65536:=by have:=c.toNat_lt;omega
theorem YH(x:Nat)(h:x<65536):turn x<65536:=by
 unfold turn;split;{exact Jk _ _ eB eB};{omega}
theorem Ef:∀n x,x<65536->turns n x<65536
 |0,_,h=>h
 |n+1,x,h=>Ef n _ (YH x h)
theorem Eg:∀n x,turns (n+1) x=turn (turns n x)
 |0,_=>rfl
 |n+1,x=>by rw[turns,Eg n (turn x)];rfl
theorem Q5(x:Nat)(c:UInt8)(h:x<65536):Jj x c<65536:=Ef 8 _ (Jk _ _ h (Uw c))
theorem KU:∀(l:List UInt8) x,x<65536->l.foldl Jj x<65536
 |[],_,h=>h
 |c::l,x,h=>KU l _ (Q5 x c h)
theorem Jl(l:List UInt8):reg l<65536:=KU l _ eB
theorem Np(l:List UInt8):sum l<65536:=Jk _ _ (Jl l) eB
theorem Ux(l:List UInt8)(c:UInt8):reg (l++ [c])=Jj (reg l) c:=by simp[reg]
end Go.Proofs.YtieklnlbljejdaaGreatDoor.Plain
namespace Go.Proofs.YtieklnlbljejdaaGreatDoor
open Go.RowKit Plain
theorem YI {k:IntKind} {a b:Int} (h:a=b):Ending.returned (.int k a)=ρ (.int k b):=by rw[h]
theorem Hp(s:ByteArray)(k:Nat)(h:k<s.size):s.data.toList.take (k+1)=s.data.toList.take k++ [s[k]] :=by
 rw[az (by simpa using h)];rfl
theorem Uy(x:Nat)(h:x<65536)(h1:(x:Int) %2=1):bits .xor .i64 ((x:Int)/2) 33800=(turn x:Int):=by
 have e:=wC (x/2) 33800 eB eB;have:x%2=1:=eB;simp only[turn,this,if_true];rw[<-e];simp
theorem Q6(x:Nat)(h1:¬(x:Int) %2=1):(x:Int)/2=(turn x:Int):=by
 have:¬x%2=1:=eB;simp[turn,this]
theorem Pw(s:ByteArray)(w:ew)(hs:s.size<=maxLen):
 fc fe 210 #[.string s] w λe w'=>e=ρ (ι κ (Plain.sum s.data.toList:Nat))/\w=w':=by
 unfold maxLen at hs
 go_in
 go_wp2
 go_loop [3,8] (λx i=>∃k:Nat,k<=s.size/\i=ι κ k/\x=ι κ (reg (s.data.toList.take k):Nat)) (λ_ i=>s.size-(fh i).toNat)
 case atStart=>exact⟨0,Nat.zero_le _,rfl,rfl⟩
 case round=>
  obtain⟨k,hk,rfl,rfl⟩:=hrel;by_cases E:k<s.size
  ·have U:=Hp s k E;have V:Hid (reg (s.data.toList.take (k+1))=turns 8 (reg (s.data.toList.take k) ^^^s[k].toNat)):=by rw[U,Ux];rfl
   have T:bits .xor .i64 (reg (s.data.toList.take k):Nat) (wrap64 (s[k].toNat:Nat))=((reg (s.data.toList.take k) ^^^s[k].toNat:Nat):Int):=by
    have hb:=s[k].toNat_lt;rw[cH _ ⟨eB,eB⟩];exact wC _ _ (Jl _) (Uw _)
   have Z:reg (s.data.toList.take k) ^^^s[k].toNat<65536:=Jk _ _ (Jl _) (Uw _);clear U;generalize reg (s.data.toList.take k) ^^^s[k].toNat=X at T Z V
   go_wp2
   go_loop [3,17] (λx i=>∃j:Nat,j<=8/\i=ι κ j/\x=ι κ (turns j X:Nat)) (λ_ i=>8-(fh i).toNat)
   case atStart=>exact⟨0,Nat.zero_le _,rfl,rfl⟩
   case round=>
    obtain⟨j,hj,rfl,rfl⟩:=hrel;by_cases hj8:j<8
    ·have hl:=Ef j X Z;have M:turns (j+1) X=turn (turns j X):=Eg j X;have G:=Uy (turns j X) hl;have J:=Q6 (turns j X);generalize turns j X=Y at*
     go_wp2
     all_goals
      go_round
      case rel=>exact⟨j+1,eB,by go_num,by rw[M];first|rw[G (by simp_all)] |rw[J (by simp_all)]⟩
      case measure=>simp[fh];omega
    ·have S:j=8:=eB;subst S
     go_wp2
     go_round
     case rel=>exact⟨k+1,eB,by go_num,by rw[V.out]⟩
     case measure=>simp[fh];omega
  ·go_wp2
   go_ret;have e:k=s.size:=eB;exact⟨YI (by rw[aH (by simp;omega)];exact wC _ 65535 (Jl _) eF),rfl⟩
end Go.Proofs.YtieklnlbljejdaaGreatDoor
namespace Go.Proofs.YtieklnlbljejdaaGreatDoor.Plain
open Go.RowKit
def sJ(c:UInt8):Bool:=c==126||c==125||decide (c<32)
def Dc(c:UInt8):List UInt8:=if sJ c then [125,c^^^32]else [c]
def tq(l:List UInt8):List UInt8:=l.flatMap Dc
def KW(l:List UInt8):UInt8:=UInt8.ofNat (sum l%256)
def KX(l:List UInt8):UInt8:=UInt8.ofNat (sum l/256)
def mD(l:List UInt8):List UInt8:=l++ [KW l,KX l]
def mb(l:List UInt8):List UInt8:=126::(tq (mD l)++ [126])
theorem Hq(l:List UInt8):((KW l).toNat:Int)=((sum l:Nat):Int) %256:=by
 have:=Np l;unfold KW;rw[UInt8.toNat_ofNat_of_lt' (by show sum l%256<256;omega)];omega
theorem Hr(l:List UInt8):((KX l).toNat:Int)=((sum l:Nat):Int)/256:=by
 have:=Np l;unfold KX;rw[UInt8.toNat_ofNat_of_lt' (by show sum l/256<256;omega)];omega
theorem Q7(l:List UInt8)(c:UInt8):tq (l++ [c])=tq l++Dc c:=by simp[tq]
theorem YJ(c:UInt8):(Dc c).length<=2:=by unfold Dc;split<;>simp
theorem DB:∀l:List UInt8,(tq l).length<=2*l.length
 |[] =>by simp[tq]
 |c::l=>by
  have:=DB l;have h:=YJ c;simp only[tq,eU,eV,eW]at this⊢;omega
theorem oO(l:List UInt8):(mD l).length=l.length+2:=by simp[mD]
theorem Q8(c:UInt8):sJ c=true↔(c.toNat:Int)=126 \/(c.toNat:Int)=125 \/(c.toNat:Int)<32:=by
 unfold sJ;simp only[Bool.or_eq_true,beq_iff_eq,decide_eq_true_eq,UInt8.lt_iff_toNat_lt];have Z:c=126↔(c.toNat:Int)=126:=by
  rw[<-UInt8.toNat_inj];show c.toNat=126↔_;omega
 have Y:c=125↔(c.toNat:Int)=125:=by
  rw[<-UInt8.toNat_inj];show c.toNat=125↔_;omega
 rw[Z,Y];show(_ \/_) \/c.toNat<32↔_;omega
theorem aaM(c:UInt8):bits .xor .u8 (c.toNat:Int) 32=((c^^^32).toNat:Int):=by
 have:=c.toNat_lt;have e:=u8_xor_nat c.toNat 32 eB eB;rw[UInt8.toNat_xor];exact e
end Go.Proofs.YtieklnlbljejdaaGreatDoor.Plain
namespace Go.Proofs.YtieklnlbljejdaaGreatDoor
open Go.RowKit
open Go.ChangeShapes Go.WideShapes Go.ChangeAt
theorem Q9 {H:Type} {enc:eE×eA->H} {W:ew} {a:Option eh} {n cap:Nat} {d:eY H} {ps:List MemPlace}
 (h:DataW.Trod enc fe W 0 (λ_=>true) true 35 (σ a n cap) d ps):
 ∃os:List jQ,jm W a n os/\kY a cap/\n<=maxLen:=by
 obtain⟨fuel,hf⟩:=h;rcases dF underlying35 underlying276 ga rfl rfl ga ga hf with⟨hcs,_⟩|⟨x,len,cp,m',n',Y,V,D0,D1,P0,P1,hcs,_,hl,hm,M,_,hx⟩
 ·simp[fB]at hcs;obtain⟨rfl,rfl,rfl⟩:=hcs;exact⟨[],⟨rfl,.inl rfl⟩,λ_=>rfl,eF⟩
 ·simp[fB]at hcs;obtain⟨rfl,rfl,rfl⟩:=hcs;simp at M;have each:∀i,i<n->W.cell? (x.add (i*2))=μ (ι κ (fh (Y i)))/\W.cell? (x.add (i*2+1))=μ (ι κ (fh (V i))):=by
   intro i hi;obtain⟨q1,q2,E,D⟩:=hx i eB;obtain⟨k,f0,_,_⟩:=bq underlying3 E;obtain⟨n,f1,_,_⟩:=bq underlying3 D;simp at f0 f1;exact⟨by rw[q1,f0];rfl,by rw[q2,f1];rfl⟩
  refine⟨(ft n).map (λi=>(fh (Y i),fh (V i))),⟨ik,?_⟩,λh=>by simp at h,eB⟩;by_cases J:n=0;{exact .inl J}
  ·obtain⟨b,off,Z⟩:=x;have hc:=(each 0 eB).1;have T:Z=ν:=by simpa[eu]using de hc
   subst T;refine .inr ⟨b,off,rfl,λj G=> ?_⟩;have S:j<n:=by simpa using G
   have U:=each j S;rw[nE,nE]at U;simpa[Nat.add_assoc]using U
