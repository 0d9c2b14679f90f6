import Derived.Test.YtieklnlbljejdaaGreatDoorVA
open Go.Value renaming int → ι, slice → σ, pointer → π, tuple → τ, nilIface → η, ownBlock → fD, oneCell' → fG, string → fI, cells → gG
open Go.IntKind renaming i64 → κ
open Go.Ending renaming returned → ρ
open Go.Obj renaming cells → γ
open Option renaming none → ν, some → μ
open Go renaming Addr → fq, World → fA, Value → fB, TypeId → fE, DataW → fX, Calls → gb
open Go.Addr renaming add → ft
open Go.RowKit renaming Below → fJ, intOf → gj
open Go.Oper renaming wp → fK
open Go.Result renaming andThen_ok → fL
open List renaming map_toArray → fM, map_cons → fN, map_nil → fO, flatMap_cons → fS, length_append → fT, length_cons → fU, length_nil → fV, getElem?_map → ga, range → gw
open Go.Region renaming wanted → fR
open Option.some renaming injEq → fW
open Go.DataW renaming trod → fY
open Go.Lib renaming mapM_length → fZ
open Go.Proofs.Tryz renaming prog → gg
open And renaming intro → gp
open Bool renaming or_eq_true → gq
open Nat renaming xor_lt_two_pow → gA
open BitVec renaming ofInt → gD
open UInt8 renaming ofNat → gE
set_option maxRecDepth 100000
set_option maxHeartbeats 8000000
set_option linter.defProp false
open Go.Proofs.Tryz
namespace Go.Proofs.YtieklnlbljejdaaGreatDoor
open Go.RowKit
variable {B B' b base cap cp fuel g g2 j k n off sz:Nat} {C:Array Value} {H:Type} {P:Program} {Q:Exit->Act->World->Prop} {X:Nat->Prop} {a w w' w2 wr x:World} {ao:Option Addr} {cs xs:List Value} {e r t:TypeId} {held:Bool} {m s:Int} {o:Obj} {ops:Array Oper} {p:List MemPlace} {row:Option Nat} {sp:Nat->Bool} {u v:Value} {zs:List (List (List UInt8))}
def add_plain(g j:Nat):(⟨g,0,ν⟩:fq).add j=⟨g,j,ν⟩:=by unfold ft;split<;>simp_all
def oP(g o j:Nat):(⟨g,o,ν⟩:fq).add j=⟨g,o+j,ν⟩:=by unfold ft;split<;>simp_all
def Row(w:fA)(sz:Nat)(v:fB)(n:Nat)(xs:List fB):Prop:=
 xs.length=n*sz/\
 ((v=σ ν 0 0/\n=0) \/
  ∃g cap,v=σ (μ ⟨g,0,ν⟩) n cap/\g<w.heap.size/\n<=cap/\cap<=maxLen/\(∀j u,xs[j]? =μ u->w.cell? ⟨g,j,ν⟩=μ u)/\
   ∀j<cap*sz,(w.cell? ⟨g,j,ν⟩).isSome=true/\w.frozen? ⟨g,j,ν⟩=false)
def Row.nil(w:fA)(sz:Nat):Row w sz (σ ν 0 0) 0 [] :=⟨gZ,.inl ⟨rfl,rfl⟩⟩
def Row.lt(h:Row w sz v n xs):∀k,v.ownBlock=μ k->k<w.heap.size:=by
 intro k Z;obtain⟨rfl,_⟩|⟨g,cap,rfl,Y,_⟩:=h.2;{simp[fD]at Z};simp[fD]at Z;subst Z;exact Y
def Row.keep(h:Row w sz v n xs)(hs:w.heap.size<=w'.heap.size)(M:∀k,v.ownBlock=μ k->w'.heap[k]? =w.heap[k]?):Row w' sz v n xs:=by
 refine⟨h.1,?_⟩;obtain E|⟨g,cap,rfl,hg,V,U,T,S⟩:=h.2;{exact .inl E};have e:=M g rfl;have Z:∀j,w'.cell? ⟨g,j,ν⟩=w.cell? ⟨g,j,ν⟩:=λj=>ak (a:=⟨g,j,ν⟩) e;have Y:∀j,w'.frozen? ⟨g,j,ν⟩=w.frozen? ⟨g,j,ν⟩:=λj=>aV (a:=⟨g,j,ν⟩) e;exact .inr ⟨g,cap,rfl,fC,V,U,λj u hu=>by rw[Z];exact T j u hu,λj J=>by rw[Z,Y];exact S j J⟩
def Row.kept(h:Row w sz v n xs)(Z:w.grownBy w' row)(V:∀k,v.ownBlock=μ k->row≠μ k):Row w' sz v n xs:=
 h.keep Z.size λk Y=>Z.block k (h.lt k Y) (λe=>V k Y e.symm)
def Row.alloc {w:fA} {sz:Nat} {v:fB} {n:Nat} {xs:List fB} (h:Row w sz v n xs)(o:Obj):Row (w.alloc o) sz v n xs:=
 h.keep gZ λk Z=>bk w o k (h.lt k Z)
def Row.drew {w:fA} {sz:Nat} {v:fB} {n:Nat} {xs:List fB} (h:Row w sz v n xs):Row w.drew sz v n xs:=
 h.keep (aj _) λ_ _=>rfl
def Row.below(h:Row w sz v n xs)(Z:fP w w'):Row w' sz v n xs:=
 h.keep Z.size λk Y=>Z.block k (h.lt k Y)
def Row.QG(h:w.ownsRow base e sz v n xs):Row w sz v n xs:=by
 refine⟨h.1,?_⟩;obtain T|⟨g,cap,Z,rfl,hb,Y,V,U,h3,h4⟩:=h.2;{exact .inl T};refine .inr ⟨g,cap,rfl,(aE.1 Y).1,V,U,λj u hu=> ?_,λj hj=>⟨?_,?_⟩⟩
 ·have:=h.cells (g:=g) rfl j u hu
  rwa [add_plain]at this
 {rw[aD w g j Z e (0,0) Y];simp;omega};exact bR w g j Z e Y
def Row.made(w:fA)(sz:Nat)(e:fE)(C:Array fB)(fr:Nat×Nat)(n cap:Nat)(xs:List fB)(hx:xs.length=n*sz)(hc:C.size=cap*sz)(U:n<=cap)(V:cap<=maxLen)(Y:fr=(0,0) \/C.size<=fr.1)
 (T:∀(j:Nat) (u:fB),xs[j]? =μ u->C[j]? =μ u):Row (w.alloc (γ C e fr)) sz (σ (μ ⟨w.heap.size,0,ν⟩) n cap) n xs:=by
  refine⟨hx,.inr ⟨w.heap.size,cap,rfl,gZ,U,V,λj u hu=> ?_,λj hj=>⟨?_,?_⟩⟩⟩;{rw[ay];exact T j u hu};{rw[ay];simp;omega};obtain⟨lo,hi⟩:=fr;rw[dv];obtain Z|Z:=Y;{simp only[Prod.mk.injEq]at Z;obtain⟨rfl,rfl⟩:=Z;simp};simp only at Z;have:¬lo<=j:=fC;simp[this]
def Row.cell {w:fA} {sz:Nat} {g n n' cap:Nat} {xs:List fB} (h:Row w sz (σ (μ ⟨g,0,ν⟩) n' cap) n xs)(j:Nat)(u:fB)(hu:xs[j]? =μ u):w.cell? ⟨g,j,ν⟩=μ u:=by
 obtain⟨e,_⟩|⟨g',kE,e,_,_,_,hc,_⟩:=h.2;{simp at e};simp at e;obtain⟨rfl,rfl,rfl⟩:=e;exact hc j u hu
def sL(w:fA)(x:fB)(t:fE):∀(j:Nat) (u:fB),[x][j]? =μ u->(w.alloc (γ #[x] t)).cell? ((⟨w.heap.size,0,ν⟩:fq).add j)=μ u:=by
 intro j u hu;rw[add_plain,ay];simpa using hu
def rE(w:fA)(x y:fB)(t:fE):∀(j:Nat) (u:fB),[x,y][j]? =μ u->(w.alloc (γ #[x,y] t)).cell? ((⟨w.heap.size,0,ν⟩:fq).add j)=μ u:=by
 intro j u hu;rw[add_plain,ay];simpa using hu
def yQ(k:IntKind)(x:Int):∀u∈ [ι k x],u.oneCell'=true:=by simp[fG]
def nC(k l:IntKind)(x y:Int):∀u∈ [ι k x,ι l y],u.oneCell'=true:=by simp[fG]
def Oj(s:ByteArray):∀u∈ [fI s],u.oneCell'=true:=by simp[fG]
def xM {g1 n':Nat} (U:(wr.alloc o).grownBy w2 (μ g))(V:μ g=μ g2 \/wr.heap.size+1<=g2)
 (hS:Row wr sz (σ (μ ⟨g1,0,ν⟩) n' cap) n xs) (LG:w.heap.size<=g) (kf:g≠g1) (Y:fP w wr):
 Row w2 sz (σ (μ ⟨g1,0,ν⟩) n' cap) n xs/\w.heap.size<=g2/\g2≠g1/\fP w w2:=by
  have h1:g1<wr.heap.size:=hS.lt g1 rfl;have T:=Y.size;have hs:(wr.alloc o).heap.size=wr.heap.size+1:=gZ;refine⟨(hS.alloc o).kept U (λk Z=> ?_),?_,?_,?_⟩
  ·have:g1=k:=by simpa[fD]using Z
   intro e;simp at e;omega
  {obtain h|h:=V;{simp at h;omega};omega};{obtain h|h:=V;{simp at h;omega};omega};refine(Y.alloc T o).grown U fC (λk Z=> ?_);simp at Z;omega
def IL(T:(wr.alloc o).grownBy w2 (μ g))(U:μ g=μ g2 \/wr.heap.size+1<=g2)
 (LG:w.heap.size<=g) (Z:fP w wr):w.heap.size<=g2/\fP w w2:=by
  have V:=Z.size;have hs:(wr.alloc o).heap.size=wr.heap.size+1:=gZ;refine⟨?_,?_⟩;{obtain h|h:=U;{simp at h;omega};omega};refine(Z.alloc V o).grown T fC (λk Y=> ?_);simp at Y;omega
section
variable {P:Program}
def uE(w:fA)(t ty e:fE)(i:TypeInfo)(z:fB)(size bytes:Nat)(ht:P.underlying t=μ (.slice e))(hi:P.info? e=μ i)(hz:i.zero=μ z)
 (ub:i.size=size) (xN:i.bytes=bytes) (Ok:z.cells.size=size) (ud:0<size)
 (v:fB) (n:Nat) (xs:List fB) (U:Row w size v n xs)
 (a:fq) (m c:Nat) (news:List fB) (hl:news.length=m*size) (hm:0<m) (y:∀j u,news[j]? =μ u->w.cell? (a.add j)=μ u) (h1:∀u∈news,u.oneCell'=true)
 (S:n+m<=maxLen) (xO:(n+m)*bytes<=140737488355328):
 ∃v' w',(Builtin.append_ #[t,t] ty #[v,σ (μ a) m c]).run P w=.ok v' w'/\Row w' size v' (n+m) (xs++news)/\w.grownBy w' v.ownBlock/\
  (v'.ownBlock=v.ownBlock \/ ∃k,v'.ownBlock=μ k/\w.heap.size<=k):=by
  obtain⟨rfl,rfl⟩|⟨g,cap,rfl,hg,vt,H9,hcell,A⟩:=U.2;{have hx:xs=[] :=aQ (by simpa using U.1);subst hx;obtain⟨v',w',J,M,hg,lR⟩:=run_append_own (P:=P) w w.heap.size t ty e i z size bytes ht hi hz ub xN Ok ud (σ ν 0 0) 0 [] (World.ownsRow_nil _ _ _ _) a m c news hl y h1 S xO (aj _);refine⟨v',w',J,Row.QG M,hg,?_⟩;obtain⟨T,e2⟩|⟨g,cap,h,rfl,hb,_⟩:=M.2;{omega};exact .inr ⟨g,rfl,hb⟩};by_cases J:n+m<=cap
  ·subst ub;have Z4:n*i.size+news.length<=cap*i.size:=by rw[hl,<-Nat.add_mul];exact dH _ J
   have D:∀j<news.length,(w.cell? ⟨g,0+n*i.size+j,ν⟩).isSome=true/\w.frozen? ⟨g,0+n*i.size+j,ν⟩=false:=λj Z=>A _ fC;have V:=run_append_room_cells (P:=P) w t ty e i ht hi g 0 n cap a m c news hl y h1 J (λj Z=>(D j Z).1) (λj Z=>(D j Z).2)
   have qk:∀(vs:List fB) (o:Nat) (w:fA),(w.setCells g o vs).heap.size=w.heap.size/\(w.setCells g o vs).os=w.os/\(w.setCells g o vs).tape=w.tape/\(w.setCells g o vs).output=w.output/\∀k,k≠g->(w.setCells g o vs).heap[k]? =w.heap[k]? :=by
    intro vs;induction vs with|nil=>intro o w;exact⟨rfl,rfl,rfl,rfl,λ_ _=>rfl⟩|cons u r ih=>intro o w;have:=ih (o+1) (w.setCell ⟨g,o,ν⟩ u);have b1:fJ 0 w (w.setCell ⟨g,o,ν⟩ u):=(aC 0 w).setCell (aw _) _;refine⟨this.1.trans gZ,this.2.1.trans b1.os,this.2.2.1.trans b1.tape,this.2.2.2.1.trans b1.output,λk Y=>(this.2.2.2.2 k Y).trans (ax _ _ _ k Y)⟩
   have B:=qk news (0+n*i.size) w;refine⟨_,_,V,⟨by rw[aG,U.1,hl,Nat.add_mul],.inr ⟨g,cap,rfl,by rw[B.1];exact hg,J,H9,λj u hu=> ?_,λj Z=> ?_⟩⟩,⟨B.2.1,B.2.2.1,B.2.2.2.1,by rw[B.1];exact aj _,λk _ Y=>B.2.2.2.2 k (λe=>Y (by simp[fD,e]))⟩,.inl rfl⟩
   ·obtain Z|Z:=dw j xs.length;{rw[bT Z]at hu;rw[bQ g _ _ _ _ (λ_ _=>.inl (by show j<0+n*i.size;have:=U.1;omega))];exact hcell j u hu};rw[bL Z]at hu;have QH:j-xs.length<news.length:=(aT.1 hu).1;have:=bZ g news (0+n*i.size) w (λk Y=>(D k Y).1) (j-xs.length) QH;have T:0+n*i.size+(j-xs.length)=j:=by have:=U.1;omega
    rw[T]at this;rw[this,<-hu,aB QH]
   rw[cC];refine⟨?_,(A j Z).2⟩;by_cases hq:n*i.size<=j/\j<n*i.size+news.length;{have:=bZ g news (0+n*i.size) w (λk Y=>(D k Y).1) (j-n*i.size) fC;have T:0+n*i.size+(j-n*i.size)=j:=fC;rw[T]at this;rw[this];rfl};rw[bQ g _ _ _ _ (λ_ _=>by show j<0+n*i.size \/0+n*i.size+news.length<=j;omega)];exact(A j Z).1
  obtain⟨v',w',V,M,E⟩:=run_append_arg_grows (P:=P) w t ty e i z size bytes ht hi hz ub xN Ok ud ⟨g,0,ν⟩ n cap xs U.1 (λj u Z=>by rw[add_plain];exact hcell j u Z) a m c news hl y fC S xO;refine⟨v',w',V,Row.QG M,⟨E.os,E.tape,E.output,E.size,λk Y _=>E.block k Y gZ⟩,?_⟩;obtain⟨T,e2⟩|⟨g',kE,h,rfl,hb,_⟩:=M.2;{omega};exact .inr ⟨g',rfl,hb⟩
def jN(w:fA) {rest:List Oper} {o:Oper} {a:Act} (J:o.guard=ν)(s x:Operand)(t:fE)
 (ho:o.op=.call {callee:=.builtin .append,args:= #[s,x],argTypes:= #[t,t] })
 (e:fE) (i:TypeInfo) (z:fB) (size bytes:Nat) (ht:P.underlying t=μ (.slice e)) (hi:P.info? e=μ i) (hz:i.zero=μ z)
 (ub:i.size=size) (xN:i.bytes=bytes) (E:z.cells.size=size) (ud:0<size)
 (v:fB) (n:Nat) (xs:List fB) (hs:a.eval s=v) (ku:Row w size v n xs)
 (U:fq) (m c:Nat) (news:List fB) (hx:a.eval x=σ (μ U) m c) (hl:news.length=m*size) (hm:0<m) (M:∀j u,news[j]? =μ u->w.cell? (U.add j)=μ u) (D:∀u∈news,u.oneCell'=true)
 (T:n+m<=maxLen) (xO:(n+m)*bytes<=140737488355328)
 (h:∀Z V w',Row w' size (σ (μ ⟨Z,0,ν⟩) (n+m) V) (n+m) (xs++news)->w.grownBy w' v.ownBlock->(v.ownBlock=μ Z \/w.heap.size<=Z)->wpList P ops Q rest (a.put o.dst (σ (μ ⟨Z,0,ν⟩) (n+m) V)) w'):wpList P ops Q (o::rest) a w:=by
  refine wpList_plain J λK y=> ?_;obtain⟨v',w',hr,S,A,Y⟩:=uE (P:=P) w t o.type e i z size bytes ht hi hz ub xN E ud v n xs ku U m c news hl hm M D T xO;unfold fK execOp;simp only[ho,resolve,invoke,builtin,Sem.run_bind,Sem.run_pure,fL,fM,fN,fO,hs,hx,hr];obtain⟨_,hn⟩|⟨Z,V,rfl,_⟩:=S.2;{omega};refine y _ _ (h Z V w' S A ?_);obtain Y|⟨k,Y,hk⟩:=Y;{exact .inl Y.symm};simp[fD]at Y;subst Y;exact .inr hk
def jV(l:List UInt8):List fB:=l.map λb=>ι .u8 (b.toNat:Int)
def tq(l:List UInt8):(jV l).length=l.length:=by simp[jV]
def nA(a b:List UInt8):jV (a++b)=jV a++jV b:=by simp[jV]
def zT(l:List UInt8)(j:Nat)(h:j<l.length):(jV l)[j]? =μ (.int .u8 (l[j].toNat:Int)):=by simp[jV,h]
def Ia(w:fA)(src dst e:fE)(s:ByteArray)(hs:P.underlying src=μ .string)(hd:P.underlying dst=μ (.slice e))(Y:P.underlying e=μ (.int .u8))(V:s.size<=maxLen):
 ∃cap C fr,(convert src dst (.string s)).run P w=.ok (σ (μ ⟨w.heap.size,0,ν⟩) s.size cap) (w.drew.alloc (γ C e fr))/\Row (w.alloc (γ C e fr)) 1 (σ (μ ⟨w.heap.size,0,ν⟩) s.size cap) s.size (jV s.data.toList):=by
  refine⟨_,_,_,run_bytes_of_string w src dst e s hs hd Y,?_⟩;have U:=grownCap_ge w s.size 0 e;refine Row.made w 1 e _ _ _ _ _ (by simp[jV]) ?_ U (dT w _ _ _ V) (.inr (aj _)) ?_;{simp[bytesRow];omega};intro j u hu
  have Z:j<s.data.size:=by
   have:=(aT.1 hu).1;simpa[jV]using this
  rw[bytesRow_at s _ j Z];rw[zT _ j (by simpa using Z)]at hu;simpa using hu
def Row.back {l:List UInt8} (h:Row w 1 v n (jV l))(src dst e:fE)(hs:P.underlying src=μ (.slice e))(Z:P.underlying e=μ (.int .u8))(hd:P.underlying dst=μ .string):
 (convert src dst v).run P w=.ok (.string ⟨l.toArray⟩) w:=by
  have Y:l.length=n:=by have:=h.1;simpa[jV]using this
  obtain⟨rfl,rfl⟩|⟨g,cap,rfl,hg,vt,H9,hcell,D5⟩:=h.2;{have:l=[] :=aQ Y;subst this;rw[run_convert_bytes_string w src dst e _ _ _ hs Z hd];simp[Conv.bytesToString];rfl};subst Y;exact eR w src dst e ⟨g,0,ν⟩ cap l hs Z hd λj V=>by rw[add_plain];exact hcell j _ (zT l j V)
end
def fQ {b:fA} (h:fP w a)(k:fP a b):fP w b:=h.trans (k.mono h.size)
def below_drewN(h:fJ B w a)(n:Nat):fJ B w (a.drewN n):=⟨h.os,h.tape,h.output,h.size,h.block⟩
def gu(w:fA)(o:Obj):fP w (w.alloc o):=(aC _ _).alloc (aj _) _
def vu {c:fA} (h:fP w a)(Z:a.grownBy c (μ b))(hb:w.heap.size<=b):fP w c:=
 h.grown Z h.size (λk Y=>by simp at Y;omega)
def kr(k:Nat):fB:=if k=0 then η else .iface 128 (ι κ (k:Int))
abbrev kS:=Int×Int
def kc(w:fA)(a:Option fq)(n:Nat)(os:List kS):Prop:=
 os.length=n/\(n=0 \/ ∃b off,a=μ ⟨b,off,ν⟩/\∀j (h:j<os.length),w.cell? ⟨b,off+j*2,ν⟩=μ (ι κ os[j].1)/\w.cell? ⟨b,off+j*2+1,ν⟩=μ (ι κ os[j].2))
def kc.below {a:Option fq} {os:List kS} (h:kc w a n os)(Y:fP w w'):kc w' a n os:=by
 refine⟨h.1,?_⟩;obtain Z|⟨b,off,rfl,Z⟩:=h.2;{exact .inl Z};refine .inr ⟨b,off,rfl,λj V=> ?_⟩;obtain⟨c1,c2⟩:=Z j V;exact⟨(Y.cell (ai w _ c1)).trans c1,(Y.cell (ai w _ c2)).trans c2⟩
def kc.drewN {w:fA} {a:Option fq} {n:Nat} {os:List kS} (h:kc w a n os)(m:Nat):kc (w.drewN m) a n os:=h
def kc.nil(w:fA)(a:Option fq):kc w a 0 [] :=⟨rfl,.inl rfl⟩
def kc.take {w:fA} {a:Option fq} {n:Nat} {os:List kS} (h:kc w a n os)(k:Nat)(hk:k<=n):kc w a k (os.take k):=by
 refine⟨by simp[h.1];omega,?_⟩;obtain Z|⟨b,off,rfl,Z⟩:=h.2;{exact .inl fC};refine .inr ⟨b,off,rfl,λj V=> ?_⟩;have Y:j<os.length:=by simp at V;omega
 have:=Z j Y;simpa using this
def nN {o:Oper} {a:Act} {K:Act->fA->Prop} {E:Prop}
 (J:o.guard=ν) (s x:Operand) (t:fE) (ho:o.op=.call {callee:=.builtin .append,args:= #[s,x],argTypes:= #[t,t] })
 (e:fE) (i:TypeInfo) (z:fB) (size bytes:Nat) (ht:P.underlying t=μ (.slice e)) (hi:P.info? e=μ i) (hz:i.zero=μ z)
 (ub:i.size=size) (xN:i.bytes=bytes) (D:z.cells.size=size) (ud:0<size)
 (v:fB) (n:Nat) (xs:List fB) (hs:a.eval s=v) (ku:Row w size v n xs)
 (U:fq) (m c:Nat) (news:List fB) (hx:a.eval x=σ (μ U) m c) (hl:news.length=m*size) (hm:0<m) (M:∀j u,news[j]? =μ u->w.cell? (U.add j)=μ u) (A:∀u∈news,u.oneCell'=true)
 (T:n+m<=maxLen) (xO:(n+m)*bytes<=140737488355328)
 (h:∀Z V w',Row w' size (σ (μ ⟨Z,0,ν⟩) (n+m) V) (n+m) (xs++news)->w.grownBy w' v.ownBlock->(v.ownBlock=μ Z \/w.heap.size<=Z)->K (a.put o.dst (σ (μ ⟨Z,0,ν⟩) (n+m) V)) w'):
 if fR o (yielded ops a.tmps)=true then fK P o a w K Q else E:=by
  have hw:fR o (yielded ops a.tmps)=true:=by simp[fR,J]
  rw[ag hw];obtain⟨v',w',hr,S,y,Y⟩:=uE (P:=P) w t o.type e i z size bytes ht hi hz ub xN D ud v n xs ku U m c news hl hm M A T xO;unfold fK execOp;simp only[ho,resolve,invoke,builtin,Sem.run_bind,Sem.run_pure,fL,fM,fN,fO,hs,hx,hr];obtain⟨_,hn⟩|⟨Z,V,rfl,_⟩:=S.2;{omega};refine h Z V w' S y ?_;obtain Y|⟨k,Y,hk⟩:=Y;{exact .inl Y.symm};simp[fD]at Y;subst Y;exact .inr hk
def jX(os:List kS):List fB:=os.flatMap λo=>[ι κ o.1,ι κ o.2]
def nZ(os:List kS)(o:kS):jX (os++ [o])=jX os++ [ι κ o.1,ι κ o.2] :=by simp[jX]
def m9(os:List kS):(jX os).length=2*os.length:=by
 induction os with|nil=>rfl|cons o r ih=>simp only[jX,fS,fT,fU,fV]at ih⊢;omega
def wM:∀(os:List kS) (j:Nat) (h:j<os.length),(jX os)[j*2]? =μ (ι κ os[j].1)/\(jX os)[j*2+1]? =μ (ι κ os[j].2)
 |o::r,0,_=>by simp[jX]
 |o::r,j+1,h=>by
  have ih:=wM r j (by simpa using h);have Z:jX (o::r)=ι κ o.1::ι κ o.2::jX r:=by simp[jX]
  rw[Z,show(j+1)*2=j*2+1+1 by omega];exact ih
def Row.opts {os:List kS} (h:Row w 2 (σ ao k cp) k (jX os)):kc w ao k os:=by
 have hl:os.length=k:=by have:=h.1;rw[m9]at this;omega
 refine⟨hl,?_⟩;obtain⟨_,S⟩|⟨g,cap,Z,_,_,_,hc,_⟩:=h.2;{exact .inl S};have Y:ao=μ ⟨g,0,ν⟩:=by simp at Z;exact Z.1
 refine .inr ⟨g,0,Y,λj T=> ?_⟩;obtain⟨V,U⟩:=wM os j T;rw[aY];exact⟨hc _ _ V,hc _ _ U⟩
def Row.VC(h:Row w sz (σ ao k cp) k xs):k<=cp:=by
 obtain⟨Z,hn⟩|⟨g,cap,Z,_,vt,_⟩:=h.2;{omega};simp at Z;omega
def nO(Z:fP w x)(Y:x.grownBy w' v.ownBlock)(V:∀j,v.ownBlock=μ j->w.heap.size<=j):fP w w':=
 Z.grown Y Z.size V
def pL(Y:v.ownBlock=μ g \/n<=g)(hs:B<=n)(Z:∀j,v.ownBlock=μ j->B<=j):B<=g:=by
 obtain h|h:=Y;{exact Z g h};exact au hs h
def uF(Z:x.grownBy w' row)(Y:row≠μ b)(hc:x.cell? ⟨b,off,ν⟩=μ u):w'.cell? ⟨b,off,ν⟩=μ u:=
 (ak (a:=⟨b,off,ν⟩) (Z.block b (ai x _ hc) (λe=>Y e.symm))).trans hc
def mc(h:B<=g)(Z:fD (σ (μ ⟨g,0,ν⟩) n cap)=μ j):B<=j:=by
 have:g=j:=by simpa[fD]using Z
 omega
def oL(Z:fD (σ ν 0 0)=μ j):B<=j:=by simp[fD]at Z
def oQ(w:fA)(x y:fB)(t:fE)(g:Nat)(Z:w.heap.size=g):∀(j:Nat) (u:fB),[x,y][j]? =μ u->(w.alloc (γ #[x,y] t)).cell? ((⟨g,0,ν⟩:fq).add j)=μ u:=by
 subst Z;exact rE w x y t
structure Made(w w':fA)(v:fB)(os:List kS):Prop where
 row:Row w' 2 v os.length (jX os)
 new:∀j,v.ownBlock=μ j->w.heap.size<=j
 below:fP w w'
def LK(os:List kS):∀u∈jX os,u.oneCell'=true:=by
 intro u hu;simp[jX]at hu;obtain⟨x,y,_,h⟩:=hu;obtain rfl|rfl:=h<;>rfl
def kc.cells {os:List kS} (h:kc w (μ ⟨b,off,ν⟩) n os)(hn:0<n):∀(j:Nat) (u:fB),(jX os)[j]? =μ u->w.cell? ((⟨b,off,ν⟩:fq).add j)=μ u:=by
 intro j u hu;obtain h0|⟨b',alx,Z,hc⟩:=h.2;{omega};simp only[fW,Addr.mk.injEq]at Z;obtain⟨rfl,rfl,_⟩:=Z;have hj:j<2*os.length:=by have:=(aT.1 hu).1;rwa [m9]at this
 have Y:j/2<os.length:=fC;obtain⟨g1,g2⟩:=wM os (j/2) Y;obtain⟨c1,c2⟩:=hc (j/2) Y;rw[oP];obtain V|V:=Nat.mod_two_eq_zero_or_one j;{have e:j/2*2=j:=fC;rw[e]at g1 c1;rw[hu]at g1;rw[c1,g1]};have e:j/2*2+1=j:=fC;rw[e]at g2;rw[hu]at g2;rw[show off+j/2*2+1=off+j by omega]at c2;rw[c2,g2]
def mG(a:Option fq)(cap:Nat):Prop:=a=ν->cap=0
def Made.shape {os:List kS} (h:Made w w' v os):∃a cap,v=σ a os.length cap/\mG a cap/\os.length<=cap:=by
 obtain⟨rfl,Z⟩|⟨g,cap,rfl,_,Y,_⟩:=h.row.2;{rw[Z];exact⟨ν,0,rfl,λ_=>rfl,aj _⟩};exact⟨μ ⟨g,0,ν⟩,cap,rfl,λh=>by simp at h,Y⟩
def Made.opts {w w':fA} {a:Option fq} {n cap:Nat} {os:List kS} (h:Made w w' (σ a n cap) os):n=os.length/\kc w' a n os:=by
 have Z:n=os.length:=by
  obtain⟨e,h0⟩|⟨g,cap,e,_⟩:=h.row.2;{simp at e;omega};simp at e;omega
 have Y:=h.row;rw[<-Z]at Y;exact⟨Z,Y.opts⟩
def Made.from {os:List kS} (h:Made x w' v os)(Z:fP w x):Made w w' v os:=
 ⟨h.row,λj Y=>au Z.size (h.new j Y),fQ Z h.below⟩
def kc.kept {a:Option fq} {os:List kS} (h:kc w a n os)(Y:∀k,fD (σ a n cap)=μ k->w'.heap[k]? =w.heap[k]?):kc w' a n os:=by
 refine⟨h.1,?_⟩;obtain Z|⟨b,off,rfl,Z⟩:=h.2;{exact .inl Z};refine .inr ⟨b,off,rfl,λj V=> ?_⟩;have e:=Y b rfl;obtain⟨c1,c2⟩:=Z j V;exact⟨(ak (a:=⟨b,off+j*2,ν⟩) e).trans c1,(ak (a:=⟨b,off+j*2+1,ν⟩) e).trans c2⟩
def wN(a:Option fq)(n:Nat):Option Nat:=if n=0 then ν else a.map (·.block)
def E7 {a:Option fq} (h:wN a n=μ k):fD (σ a n cap)=μ k:=by
 unfold wN at h;split at h;{cases h};cases a with|none=>cases h|some x=>simpa[fD]using h
def kc.QI {a:Option fq} {os:List kS} (h:kc w a n os)(V:∀k,wN a n=μ k->w'.heap[k]? =w.heap[k]?):kc w' a n os:=by
 by_cases Z:n=0;{exact⟨h.1,.inl Z⟩};refine h.kept (cap:=0) (λk Y=>V k ?_);unfold wN;rw[af Z];cases a with|none=>cases Y|some x=>simpa[fD]using Y
def j2(w:fA)(B:Nat)(C:Array fB)(t:fE):Prop:=w.heap[B]? =μ (γ C t (0,0))
def j2.lt(h:j2 w B C t):B<w.heap.size:=(aE.1 h).1
def j2.cell {w:fA} {B:Nat} {C:Array fB} {t:fE} (h:j2 w B C t)(j:Nat):w.cell? ⟨B,j,ν⟩=C[j]? :=aD w B j C _ (0,0) h
def j2.frozen {w:fA} {B:Nat} {C:Array fB} {t:fE} (h:j2 w B C t)(j:Nat):w.frozen? ⟨B,j,ν⟩=false:=bR w B j C _ h
def j2.set(h:j2 w B C t)(j:Nat)(x:fB):j2 (w.setCell ⟨B,j,ν⟩ x) B (C.setIfInBounds j x) t:=by
 unfold j2;rw[cg w B j C _ (0,0) x h];exact cW w B C _ _ (0,0) h
def j2.other(h:j2 w B C t)(Z:B≠B')(x:fB):j2 (w.setCell ⟨B',j,ν⟩ x) B C t:=
 (ax _ _ _ B Z).trans h
def j2.keep(h:j2 w B C t)(Z:w'.heap[B]? =w.heap[B]?):j2 w' B C t:=Z.trans h
def j2.below(h:j2 w B C t)(Z:fP w w'):j2 w' B C t:=h.keep (Z.block B h.lt)
def j2.drewN {w:fA} {B:Nat} {C:Array fB} {t:fE} (h:j2 w B C t)(n:Nat):j2 (w.drewN n) B C t:=h
def j2.new(w:fA)(C:Array fB)(t:fE):j2 (w.alloc (γ C t)) w.heap.size C t:=bw w _
def j2.Ib(w:fA)(C:Array fB)(t:fE)(g:Nat)(Z:w.heap.size=g):j2 (w.alloc (γ C t)) g C t:=by subst Z;exact j2.new w C t
def kN(h:fJ B w a):fJ B w a.drew:=⟨h.os,h.tape,h.output,h.size,h.block⟩
def pM(s:ByteArray)(k:Nat)(h:k<s.size):s.data.toList.getD k 0=s[k] :=by
 have Z:k<s.data.toList.length:=by simpa using h
 rw[aM,aB Z];rfl
def mL(h:a.grownBy w (μ b))(j:Nat)(v:fB):a.grownBy (w.setCell ⟨b,j,ν⟩ v) (μ b):=by
 have b1:fJ 0 w (w.setCell ⟨b,j,ν⟩ v):=(aC 0 w).setCell (aw _) _;exact⟨b1.os.trans h.os,b1.tape.trans h.tape,b1.output.trans h.output,au h.size b1.size,λi hi Z=>(ax _ _ _ i (λe=>Z (by rw[e]))).trans (h.block i hi Z)⟩
def drewN_drewN(w:fA)(a b:Nat):(w.drewN a).drewN b=w.drewN (a+b):=by go_simp
def Ev {H:Type} (l:List (List UInt8)):fX H:=.agg (l.map λs=>.lit (.string s))
def E8 {H:Type} (t:List (List (List UInt8))):fX H:=.agg (t.map Ev)
def Ka {enc:fE×fB->H} {zs:List (List UInt8)} 
 (D:P.underlying t=μ (.array n e)) (E:P.underlying e=μ .string) (T:P.cellsOf e=1) (Y:P.cellsOf t=n)
 (h:fY enc P w base sp held fuel t cs=μ (Ev zs,p)):cs=zs.map λz=>fI ⟨z.toArray⟩:=by
  cases fuel with
  |zero=>simp[fY]at h
  |succ fuel=>
   simp only[fY,D,T,Y,Nat.mul_one]at h;split at h
   ·rename_i hl
    obtain⟨xs,U,hx⟩:=dF.1 h;have V:xs.map (·.1)=zs.map λz=>(DataW.lit (.string z):fX H):=by
     have:=congrArg Prod.fst hx;simpa[Ev]using this
    have Sn:xs.length=n:=by simpa using fZ U
    have hzl:zs.length=n:=by
     have:=congrArg List.length V;simp at this;omega
    apply List.ext_getElem?;intro i;by_cases hi:i<n
    ·obtain⟨b,J,hf⟩:=Lib.mapM_at U i i (by simp[hi]);obtain⟨z,hc,rfl,_⟩:=dY E hf;have M:cs[i]? =μ (.string z):=by
      have:=congrArg (·[0]?) hc;simpa[List.getElem?_take,dU]using this
     have Z:(xs.map (·.1))[i]? =μ (DataW.lit (.string z.data.toList):fX H):=by simp[J]
     rw[V]at Z;simp only[ga,Option.map_eq_some_iff,DataW.lit.injEq,Lit.string.injEq]at Z;obtain⟨z',S,rfl⟩:=Z;simp[M,S]
    ·rw[eY fC,eY (by simp;omega)]
   ·cases h
def Kc {enc:fE×fB->H} {m:Nat} 
 (y:P.underlying t=μ (.array m r)) (A:P.underlying r=μ (.array n e)) (D:P.underlying e=μ .string) (J:P.cellsOf e=1) (Z:P.cellsOf r=n) (U:P.cellsOf t=m*n)
 (h:fY enc P w base sp held fuel t cs=μ (E8 zs,p)):zs.length=m/\∀i row,zs[i]? =μ row->(cs.drop (i*n)).take n=row.map λz=>fI ⟨z.toArray⟩:=by
  cases fuel with
  |zero=>simp[fY]at h
  |succ fuel=>
   simp only[fY,y,Z,U]at h;split at h
   ·rename_i hl
    obtain⟨xs,S,hx⟩:=dF.1 h;have T:xs.map (·.1)=zs.map λz=>(Ev z:fX H):=by
     have:=congrArg Prod.fst hx;simpa[E8]using this
    have Sn:xs.length=m:=by simpa using fZ S
    have Y:zs.length=m:=by
     have:=congrArg List.length T;simp at this;omega
    refine⟨Y,λi row M=> ?_⟩;have hi:i<m:=by rw[<-Y];exact(aT.1 M).1
    obtain⟨b,E,hf⟩:=Lib.mapM_at S i i (by simp[hi]);have V:(xs.map (·.1))[i]? =μ b.1:=by simp[E]
    rw[T]at V;simp only[ga,M,Option.map_some,fW]at V;obtain⟨b1,b2⟩:=b;simp only at V;subst V;exact Ka A D J Z hf
   ·cases h
def Kd {W:fA} {name:String} {rest:List (String×fX Unit)} {m:Nat}
 (M:P.globalNamed name=μ g) (T:(P.globals[g]?).map (·.type)=μ t) (ht:P.underlying t=μ (.array m r)) (hr:P.underlying r=μ (.array n e)) (y:P.underlying e=μ .string) (E:P.cellsOf e=1) (Y:P.cellsOf r=n) (V:P.cellsOf t=m*n)
 (h:laidMet P ((name,E8 zs)::rest) W):∀i row j z,zs[i]? =μ row->row[j]? =μ z->j<n->W.cell? ⟨g,i*n+j,ν⟩=μ (.string ⟨z.toArray⟩):=by
  obtain⟨ps,⟨g',t',cs,fuel,p,q,J,U,Z,hd,_,_⟩,_⟩:=h;obtain rfl:=aL (M.symm.trans J);obtain rfl:=aL (T.symm.trans U);intro i row j z hi hj D;have A:=(Kc ht hr y E Y V hd).2 i row hi;rw[World.var?_cell M Z];have S:((cs.toList.drop (i*n)).take n)[j]? =μ (fI ⟨z.toArray⟩):=by rw[A];simp[hj]
  rw[List.getElem?_take_of_lt D,dU]at S;simpa using S
def D6:List (List (List UInt8)):=[
 [[50],[105,114,54],[45],[45],[45],[45],[45],[45],[45],[45]],
 [[45],[45],[48],[115,49],[48],[49],[49],[49],[49],[100,49]],
 [[115,49],[49],[105,114,54],[51],[53],[53],[54],[55],[56],[57]],
 [[48],[102,48],[50],[50],[52],[52],[105,116,52],[105,116,52],[105,116,52],[100,105,116,52]],
 [[45],[45],[45],[45],[116,52],[116,53],[114,54],[114,54],[114,56],[45]],
 [[45],[45],[45],[45],[102,50],[102,51],[102,51],[102,51],[102,51],[45]],
 [[45],[45],[107,50],[105,114,97,56],[52],[53],[97,56],[97,117,57],[97,56],[100,114,97,56]],
 [[45],[45],[107,50],[105,114,110,54],[52],[53],[110,54],[110,55],[110,54],[100,114,110,54]],
 [[45],[45],[107,50],[107,51],[52],[53],[105,55],[114,54],[105,117,57],[100,114,54]],
 [[45],[45],[107,50],[107,51],[52],[53],[105,114,54],[114,54],[105,114,56],[100,114,54]],
 [[45],[45],[107,50],[107,51],[107,52],[107,53],[107,54],[107,54],[107,54],[100,122,107,53]],
 [[45],[45],[50],[51],[102,50],[102,51],[54],[54],[56],[100,114,54]]]
def qK(s e:Nat):List UInt8:=(D6.getD e []).getD s []
def ni(s e:Nat):List UInt8×Int×Nat:=
 if qK s e=[45]then([],0,7)else((qK s e).dropLast,(((qK s e).getLastD 0).toNat:Int)-48,0)
def ki(s e:Int):List UInt8×Int×Nat:=
 if s<0 \/10<=s \/e<0 \/12<=e then([],0,1)else ni s.toNat e.toNat
def kd(w:fA):Prop:=∀e s,e<12->s<10->w.cell? ⟨0,e*10+s,ν⟩=μ (.string ⟨(qK s e).toArray⟩)
def kd.below(h:kd w)(Y:fP w w'):kd w':=λe s Z hs=>
 (Y.cell (ai w _ (h e s Z hs))).trans (h e s Z hs)
def kd.lt(h:kd w):0<w.heap.size:=ai w _ (h 0 0 fF fF)
def oZ(s e:Nat)(hs:s<10)(he:e<12):ki s e=ni s e:=by
 unfold ki;rw[af fC];rfl
def VE:∀e<12,∀s<10,1<=(qK s e).length/\(qK s e).length<=5/\(48<=((qK s e).getLastD 0).toNat/\((qK s e).getLastD 0).toNat<=57 \/qK s e=[45]):=by decide+kernel
def So(s:Int)(w:fA):gb gg 195 #[ι κ s] w λe w'=>e=ρ (.bool (decide (4<=s)&&decide (s<=8)))/\w=w':=by
 by_cases Y:4<=s
 ·have Z:decide (4<=s)=true:=by simp[Y]
  rw[Z,Bool.true_and];clear Z;go_in;go_wp2;go_ret;exact⟨rfl,rfl⟩
 have Z:decide (4<=s)=false:=by simp[Y]
 rw[Z,Bool.false_and];clear Z;go_in;go_wp2;go_ret;exact⟨rfl,rfl⟩
def VF(s e:Int)(w:fA)(h:s<0 \/10<=s \/e<0 \/12<=e):gb gg 207 #[ι κ s,ι κ e] w λx w'=>x=ρ (τ #[.string ⟨#[]⟩,ι κ 0,kr 1])/\w=w':=by
 have Z:kr 1=.iface 128 (ι κ 1):=rfl;rw[Z];clear Z;by_cases h0:s<0;{clear h;go_in;go_wp2;go_ret3;exact⟨rfl,rfl⟩};by_cases h1:10<=s;{clear h;go_in;go_wp2;go_ret3;exact⟨rfl,rfl⟩};by_cases h2:e<0;{clear h;go_in;go_wp2;go_ret3;exact⟨rfl,rfl⟩};have h3:12<=e:=fC;clear h;go_in;go_wp2;go_ret3;exact⟨rfl,rfl⟩
def Sr(s e:Nat)(S:ByteArray)(w:fA)(hs:s<10)(he:e<12)(hc:w.cell? ⟨0,e*10+s,ν⟩=μ (.string S))(hS:(S.toList==[45])=true):
 gb gg 207 #[ι κ s,ι κ e] w λx w'=>x=ρ (τ #[.string ⟨#[]⟩,ι κ 0,kr 7])/\w=w':=by
  have Z:kr 7=.iface 128 (ι κ 7):=rfl;have h0:¬(s:Int)<0:=fC;have h1:¬(10:Int)<=s:=fC;have h2:¬(e:Int)<0:=fC;have h3:¬(12:Int)<=e:=fC;have h4:(s:Int)<10:=fC;have h5:(e:Int)<12:=fC;have h6:0<w.heap.size:=ai w _ hc;rw[Z];clear Z;go_in;go_wp2;go_ret3;exact⟨rfl,rfl⟩
def Ss(s e:Nat)(S:ByteArray)(w:fA)(hs:s<10)(he:e<12)(hc:w.cell? ⟨0,e*10+s,ν⟩=μ (.string S))(hS:(S.toList==[45])=false)(n:Nat)(hl:S.size=n+1)(hn:n<=4)(d:Nat)(hd:(S[n]).toNat=48+d)(hd9:d<=9):
 gb gg 207 #[ι κ s,ι κ e] w λx w'=>x=ρ (τ #[.string (S.extract 0 n),ι κ (d:Int),η])/\∃m,w'=w.drewN m:=by
  have h0:¬(s:Int)<0:=fC;have h1:¬(10:Int)<=s:=fC;have h2:¬(e:Int)<0:=fC;have h3:¬(12:Int)<=e:=fC;have h4:(s:Int)<10:=fC;have h5:(e:Int)<12:=fC;have h6:0<w.heap.size:=ai w _ hc;have h7:wrap64 ((S.size:Int)-1)=n:=by unfold wrap64;omega
  have h8:((0:Int)<=(n:Int)):=fC;have h9:((n:Int)<=(S.size:Int)):=fC;have h10:((n:Int)<(S.size:Int)):=fC;go_in;go_wp2;go_quiet(fail);go_wp2;go_ret3;refine⟨?_,_,rfl⟩;rw[show(48:Int)+(d:Int)-48=d by omega];rfl
def Sw:∀e<12,∀s<10,qK s e≠ [45]->((⟨(qK s e).toArray⟩:ByteArray).extract 0 ((qK s e).length-1)=⟨(qK s e).dropLast.toArray⟩)/\((qK s e).getD ((qK s e).length-1) 0=(qK s e).getLastD 0):=by decide+kernel
def VG(s e:Int)(w:fA)(h:kd w):gb gg 207 #[ι κ s,ι κ e] w λx w'=>
 x=ρ (τ #[.string ⟨(ki s e).1.toArray⟩,ι κ (ki s e).2.1,kr (ki s e).2.2])/\∃m,w'=w.drewN m:=by
  by_cases V:s<0 \/10<=s \/e<0 \/12<=e
  ·refine(VF s e w V).mono ?_;rintro x w' ⟨rfl,rfl⟩;have hv:ki s e=([],0,1):=by unfold ki;rw[ag V]
   rw[hv];exact⟨rfl,0,rfl⟩
  obtain⟨s',rfl⟩:∃s':Nat,s=s':=⟨s.toNat,fC⟩
  obtain⟨e',rfl⟩:∃e':Nat,e=e':=⟨e.toNat,fC⟩
  have hs:s'<10:=fC;have Z:e'<12:=fC;rw[oZ s' e' hs Z];have hc:=h e' s' Z hs;obtain⟨l1,l2,S⟩:=VE e' Z s' hs;by_cases Y:qK s' e'=[45]
  ·refine(Sr s' e' _ w hs Z hc (by rw[Y];decide+kernel)).mono ?_;rintro x w' ⟨rfl,rfl⟩;have hv:ni s' e'=([],0,7):=by unfold ni;rw[ag Y]
   rw[hv];exact⟨rfl,0,rfl⟩
  obtain⟨c1,c2⟩:=Sw e' Z s' hs Y;have l4:=S.resolve_right Y;have hv:ni s' e'=((qK s' e').dropLast,(((qK s' e').getLastD 0).toNat:Int)-48,0):=by unfold ni;rw[af Y]
  rw[hv];clear hv;generalize qK s' e'=L at*;have M:(⟨L.toArray⟩:ByteArray).size=(L.length-1)+1:=by show L.toArray.size=_;simp;omega
  refine(Ss s' e' ⟨L.toArray⟩ w hs Z hc ?_ (L.length-1) M fC ((L.getLastD 0).toNat-48) ?_ fC).mono ?_;{rw[dm];intro U;apply Y;rw[<-U];simp[ByteArray.toList_eq]};{rw[<-c2];show(L.toArray[L.length-1]'_).toNat=_;rw[List.getElem_toArray,aM,aB fC];rw[aM,aB fC]at c2;simp only[Option.getD_some]at c2⊢;rw[c2];omega};rintro x w' ⟨rfl,m,rfl⟩;refine⟨?_,m,rfl⟩;rw[c1];have T:(((L.getLastD 0).toNat-48:Nat):Int)=((L.getLastD 0).toNat:Int)-48:=fC;rw[T];rfl
def Kf(s e:Int)(D:List UInt8)(nx:Int)(f:Nat)(Z:ki s e=(D,nx,f))(w:fA)(h:kd w):
 gb gg 207 #[ι κ s,ι κ e] w λx w'=>x=ρ (τ #[.string ⟨D.toArray⟩,ι κ nx,kr f])/\∃m,w'=w.drewN m:=by
  have:=VG s e w h;rw[Z]at this;exact this
def Ex:(gg.info? 276).map (λi=>(i.zero,i.size,i.bytes))=μ (μ (.agg #[ι κ 0,ι κ 0]),2,16):=iV
def AW(w:fA):(zeroValue 252).run gg w=.ok (.agg #[ι κ 0,ι κ 0]) w:=iV
def ql(sz mg:Int):List kS:=(if 0<sz then [(1,sz)]else [])++(if 0<mg then [(5,mg)]else [])
def LL(o:kS):Bool:= !(o.1==1)&& !(o.1==5)
def vJ(l:List kS):List kS:=l.filter LL
def zu(mg:Int)(o:kS):List kS:=
 if o.1=1/\o.2<40 then [(1,40)]else if o.1=5/\(o.2=0 \/o.2=mg)then [(5,mg%255+1)]else []
def tH(mg:Int)(l:List kS):List kS:=l.flatMap (zu mg)
def nY(mg:Int)(l:List kS):Int×List kS:=if vJ l≠ []then(4,vJ l)else if tH mg l≠ []then(3,tH mg l)else(2,l)
def lM(code:Int)(p:Int×Int)(o:kS):Int×Int:=
 if code=4 then(if o.1=1 then(0,p.2)else if o.1=5 then(p.1,0)else p)
 else if code=3 then(if o.1=1/\0<p.1/\40<=o.2 then(o.2,p.2)else if o.1=5/\0<p.2/\0<o.2 then(p.1,o.2)else p)
 else p
def qU(code:Int)(l:List kS)(p:Int×Int):Int×Int:=l.foldl (lM code) p
def adF(sz mg:Int)(w:fA)(h1:¬sz<40)(h2:¬255<sz)(h3:¬mg<1)(h4:¬255<mg):
 gb gg 170 #[ι κ sz,ι κ mg] w λe w'=>e=ρ (τ #[.agg #[ι κ sz,ι κ mg],η])/\fP w w':=by
  have hz:=AW;have Z:fP w (w.alloc (γ #[ι κ sz,ι κ mg] 252)):=gu _ _;go_in;go_wp2;refine aN (v:=τ #[.agg #[ι κ sz,ι κ mg],η]) (by simp[results,results170,go_sem]) rfl ?_;exact⟨rfl,Z⟩
def LM(sz mg:Int)(w:fA):gb gg 224 #[.agg #[ι κ sz,ι κ mg]] w λe w'=>∃v,e=ρ v/\Made w w' v (ql sz mg):=by
 obtain⟨i0,hi,pB,y,h⟩:=bu Ex;have M:fP w (w.alloc (γ #[ι κ sz,ι κ mg] 252)):=gu _ _;have hA:=λj=>ay w #[ι κ sz,ι κ mg] 252 (0,0) j;by_cases A:0<sz
 ·by_cases E:0<mg
  ·have U:ql sz mg=[(1,sz)] ++ [(5,mg)] :=by simp[ql,A,E]
   rw[U];go_in;go_wp2_with(at_builtin;go_must(refine jN _ rfl (.tmp 7) (.tmp 11) 35 rfl 276 i0 (.agg #[ι κ 0,ι κ 0]) 2 16 underlying35 hi pB y h rfl fF (σ ν 0 0) 0 (jX []) rfl (Row.nil _ 2) _ 1 1 [ι κ 1,ι κ sz] rfl rfl fF (oQ _ _ _ _ _ gZ) (nC _ _ _ _) fF fF ?_));intro g1 D w1 S Y V;have T:=nO (M.alloc M.size _) Y (λj Z=>oL Z);have J:=pL (B:=w.heap.size) V fC (λj Z=>oL Z)
   have xP:w1.cell? ⟨w.heap.size,1,ν⟩=μ (ι κ mg):=by
    exact uF Y (by simp[fD]) (((gu _ _).cell (p:=⟨w.heap.size,1,ν⟩) gZ).trans (hA 1))
   have Kg:w.heap.size<w1.heap.size:=ai w1 _ xP;rw[show([] :List kS)=[]from rfl]at S;have alz:Row w1 2 (σ (μ ⟨g1,0,ν⟩) 1 D) 1 (jX [(1,sz)]):=S;clear Y V S;go_wp2_with(at_builtin;go_must(refine jN _ rfl (.tmp 16) (.tmp 20) 35 rfl 276 i0 (.agg #[ι κ 0,ι κ 0]) 2 16 underlying35 hi pB y h rfl fF (σ (μ ⟨g1,0,ν⟩) 1 D) 1 (jX [(1,sz)]) rfl (alz.alloc _) _ 1 1 [ι κ 5,ι κ mg] rfl rfl fF (oQ _ _ _ _ _ gZ) (nC _ _ _ _) fF fF ?_));intro g2 cap2 w2 ue zv mS;have oB:=nO (T.alloc T.size _) zv (λj Z=>mc J Z);have xC:=pL (B:=w.heap.size) mS (by have:=T.size;omega) (λj Z=>mc J Z);clear zv mS;go_wp2;go_ret;exact⟨_,rfl,⟨ue,λj Z=>mc xC Z,oB⟩⟩
  have U:ql sz mg=[(1,sz)] :=by simp[ql,A,E]
  rw[U];go_in;go_wp2_with(at_builtin;go_must(refine jN _ rfl (.tmp 7) (.tmp 11) 35 rfl 276 i0 (.agg #[ι κ 0,ι κ 0]) 2 16 underlying35 hi pB y h rfl fF (σ ν 0 0) 0 (jX []) rfl (Row.nil _ 2) _ 1 1 [ι κ 1,ι κ sz] rfl rfl fF (oQ _ _ _ _ _ gZ) (nC _ _ _ _) fF fF ?_));intro g1 D w1 S Y V;have T:=nO (M.alloc M.size _) Y (λj Z=>oL Z);have J:=pL (B:=w.heap.size) V fC (λj Z=>oL Z)
  have xP:w1.cell? ⟨w.heap.size,1,ν⟩=μ (ι κ mg):=by
   exact uF Y (by simp[fD]) (((gu _ _).cell (p:=⟨w.heap.size,1,ν⟩) gZ).trans (hA 1))
  have Kg:w.heap.size<w1.heap.size:=ai w1 _ xP;clear Y V;go_wp2;go_ret;exact⟨_,rfl,⟨S,λj Z=>mc J Z,T⟩⟩
 by_cases E:0<mg
 ·have U:ql sz mg=[(5,mg)] :=by simp[ql,A,E]
  rw[U];go_in;go_wp2_with(at_builtin;go_must(refine jN _ rfl (.tmp 16) (.tmp 20) 35 rfl 276 i0 (.agg #[ι κ 0,ι κ 0]) 2 16 underlying35 hi pB y h rfl fF (σ ν 0 0) 0 (jX []) rfl (Row.nil _ 2) _ 1 1 [ι κ 5,ι κ mg] rfl rfl fF (oQ _ _ _ _ _ gZ) (nC _ _ _ _) fF fF ?_));intro g1 D w1 S Y V;have T:=nO (M.alloc M.size _) Y (λj Z=>oL Z);have J:=pL (B:=w.heap.size) V fC (λj Z=>oL Z);clear Y V;go_wp2;go_ret;exact⟨_,rfl,⟨S,λj Z=>mc J Z,T⟩⟩
 have U:ql sz mg=[] :=by simp[ql,A,E]
 rw[U];go_in;go_wp2;go_ret;exact⟨_,rfl,⟨Row.nil _ 2,λj Z=>oL Z,M⟩⟩
def Dd(a:Option fq)(n cap:Nat)(os:List kS)(w:fA)(hn:n<=1000000)(E:kc w a n os):
 gb gg 244 #[σ a n cap] w λe w'=>∃v,e=ρ v/\Made w w' v (vJ os):=by
  obtain⟨i0,hi,pB,oR,oe⟩:=bu Ex;go_in;go_wp2;go_loopw [3,8] (λout i wr=>∃(k:Nat) (ao:Option fq) (m cp:Nat),k<=n/\out=σ ao m cp/\i=ι κ k/\m<=k/\Row wr 2 (σ ao m cp) m (jX (vJ (os.take k)))/\(∀j,fD (σ ao m cp)=μ j->w.heap.size<=j)/\fP w wr) (λ_ i _=>n-(gj i).toNat);(case atStart=>exact⟨0,ν,0,0,aw _,rfl,rfl,aj _,by simpa[vJ,jX]using Row.nil w 2,λj J=>oL J,aC _ _⟩)
  case round=>
   obtain⟨k,ao,m,cp,hk,rfl,rfl,hmk,Y,U,Z⟩:=hrel;by_cases lZ:k<n
   ·have B2:=E.below Z;obtain h0|⟨b,off,rfl,hc⟩:=B2.2;{omega};have sM:k<os.length:=by rw[E.1];exact lZ
    obtain⟨c1,c2⟩:=hc k sM;have S:Hid (os.take (k+1)=os.take k++ [os[k]]):=aJ sM;generalize os[k] =o at c1 c2 S;clear hc;have pE:(k:Int)<(n:Int):=fC;cases q1:(o.1==1)
    ·cases M:(o.1==5)
     ·have h:(o.1 !=1)=true:=by simp[bne,q1]
      have p5:(o.1 !=5)=true:=by simp[bne,M]
      have V:Hid (vJ (os.take (k+1))=vJ (os.take k)++ [o]):=by
       show _=_;rw[S.out,vJ,cS];simp[LL,q1,M];rfl
      go_wp2_with(at_builtin;go_must(refine jN _ rfl (.tmp 20) (.tmp 22) 35 rfl 276 i0 (.agg #[ι κ 0,ι κ 0]) 2 16 underlying35 hi pB oR oe rfl fF (σ ao m cp) m (jX (vJ (os.take k))) rfl ((Y.alloc _).alloc _) _ 1 1 [ι κ o.1,ι κ o.2] rfl rfl fF (oQ _ _ _ _ _ gZ) (nC _ _ _ _) (by unfold maxLen;omega) fC ?_));intro g' kE w1 A y D;have T:=nO ((Z.alloc Z.size _).alloc (by simp;have:=Z.size;omega) _) y U;have oA:=pL (B:=w.heap.size) D (by have:=Z.size;omega) U;rw[<-nZ,<-V.out]at A;clear y D;go_wp2;go_roundw;(case rel=>exact⟨k+1,_,m+1,kE,fC,rfl,by go_num,fC,A,λj J=>mc oA J,T⟩);case measure=>simp[gj];omega
     have h:(o.1 !=1)=true:=by simp[bne,q1]
     have p5:(o.1 !=5)=false:=by simp[bne,M]
     have V:Hid (vJ (os.take (k+1))=vJ (os.take k)):=by
      show _=_;rw[S.out,vJ,cS];simp[LL,q1,M];rfl
     have T:=Z.alloc Z.size (γ #[ι κ o.1,ι κ o.2] 276);go_wp2;go_roundw;(case rel=>exact⟨k+1,_,m,cp,fC,rfl,by go_num,fC,by rw[V.out];exact Y.alloc _,U,T⟩);case measure=>simp[gj];omega
    have h:(o.1 !=1)=false:=by simp[bne,q1]
    have V:Hid (vJ (os.take (k+1))=vJ (os.take k)):=by
     show _=_;rw[S.out,vJ,cS];simp[LL,q1];rfl
    have T:=Z.alloc Z.size (γ #[ι κ o.1,ι κ o.2] 276);go_wp2;go_roundw;(case rel=>exact⟨k+1,_,m,cp,fC,rfl,by go_num,fC,by rw[V.out];exact Y.alloc _,U,T⟩);case measure=>simp[gj];omega
   have AX:os.take k=os:=aR (by rw[E.1];omega);rw[AX]at Y;have Ca:m=(vJ os).length:=by have:=Y.1;rw[m9]at this;omega
   go_wp2;go_ret;exact⟨_,rfl,⟨by rw[<-Ca];exact Y,U,Z⟩⟩
def VH:(gg.info? 37).map (λi=>(i.zero,i.size,i.bytes))=μ (μ (.agg #[ι κ 0,ι κ 0,σ ν 0 0]),3,40):=iV
def VI(fs fm ns nm qs qm st sz lf wt ow:Int)(v:fB):Array fB:= #[ι κ fs,ι κ fm,ι κ ns,ι κ nm,ι κ qs,ι κ qm,ι κ st,ι κ sz,ι κ lf,ι κ wt,ι κ ow,v]
def Lk(w:fA)(B:Nat)(C:Array fB):Prop:=w.heap[B]? =μ (γ C 254 (0,0))
def Lk.lt(h:Lk w B C):B<w.heap.size:=(aE.1 h).1
def Lk.cell {w:fA} {B:Nat} {C:Array fB} (h:Lk w B C)(j:Nat):w.cell? ⟨B,j,ν⟩=C[j]? :=aD w B j C _ (0,0) h
def Lk.frozen {w:fA} {B:Nat} {C:Array fB} (h:Lk w B C)(j:Nat):w.frozen? ⟨B,j,ν⟩=false:=bR w B j C _ h
def Lk.set(h:Lk w B C)(j:Nat)(x:fB):Lk (w.setCell ⟨B,j,ν⟩ x) B (C.setIfInBounds j x):=by
 unfold Lk;rw[cg w B j C _ (0,0) x h];exact cW w B C _ _ (0,0) h
def Lk.keep(h:Lk w B C)(Z:w'.heap[B]? =w.heap[B]?):Lk w' B C:=Z.trans h
def Lk.below(h:Lk w B C)(Z:fP w w'):Lk w' B C:=h.keep (Z.block B h.lt)
def Lk.drew {w:fA} {B:Nat} {C:Array fB} (h:Lk w B C):Lk w.drew B C:=h
def AY(w:fA)(x y z:fB)(t:fE)(g:Nat)(Z:w.heap.size=g):∀(j:Nat) (u:fB),[x,y,z][j]? =μ u->(w.alloc (γ #[x,y,z] t)).drew.cell? ((⟨g,0,ν⟩:fq).add j)=μ u:=by
 subst Z;intro j u hu;show(w.alloc (γ #[x,y,z] t)).cell? _=_;rw[add_plain,ay];simpa using hu
def VJ(x y:Int)(a:Option fq)(n c:Nat):∀u∈ [ι .i64 x,ι .i64 y,Value.slice a n c],u.oneCell'=true:=by simp[fG]
def rj(h:a.grownBy w (μ b))(j:Nat)(v:fB):a.grownBy (w.setCell ⟨b,j,ν⟩ v) (μ b):=by
 have b1:fJ 0 w (w.setCell ⟨b,j,ν⟩ v):=(aC 0 w).setCell (aw _) _;exact⟨b1.os.trans h.os,b1.tape.trans h.tape,b1.output.trans h.output,au h.size b1.size,λi hi Z=>(ax _ _ _ i (λe=>Z (by rw[e]))).trans (h.block i hi Z)⟩
def uG(B:Nat)(h:fP w x):w.grownBy x (μ B):=⟨h.os,h.tape,h.output,h.size,λi hi _=>h.block i hi⟩
def De {b c:fA} (h:a.grownBy b (μ B))(k:b.grownBy c (μ B)):a.grownBy c (μ B):=
 ⟨k.os.trans h.os,k.tape.trans h.tape,k.output.trans h.output,au h.size k.size,λi hi Z=>(k.block i (aq hi h.size) Z).trans (h.block i hi Z)⟩
def LN(sz mg k:Int)(w:fA):gb gg 247 #[.agg #[ι κ sz,ι κ mg],ι κ k] w λe w'=>
 e=ρ (.agg #[ι κ (lM 4 (sz,mg) (k,0)).1,ι κ (lM 4 (sz,mg) (k,0)).2])/\fP w w':=by
  have hz:=AW;have Y:∀A B:Array fB,fP w ((w.alloc (γ A 252)).alloc (γ B 252)):=λA B=>(gu _ _).alloc gZ _;cases q1:(k==1)
  ·cases Z:(k==5)
   ·have hv:lM 4 (sz,mg) (k,0)=(sz,mg):=by simp at q1 Z;simp[lM,q1,Z]
    rw[hv];clear hv;go_in;go_wp2;refine aN (v:=.agg #[ι κ sz,ι κ mg]) (by simp[results,results247,go_sem]) rfl ?_;exact⟨rfl,Y _ _⟩
   have hv:lM 4 (sz,mg) (k,0)=(sz,0):=by simp at q1 Z;simp[lM,Z]
   rw[hv];clear hv;go_in;go_wp2;refine aN (v:=.agg #[ι κ sz,ι κ 0]) (by simp[results,results247,go_sem]) rfl ?_;exact⟨rfl,Y _ _⟩
  have hv:lM 4 (sz,mg) (k,0)=(0,mg):=by simp at q1;simp[lM,q1]
  rw[hv];clear hv;go_in;go_wp2;refine aN (v:=.agg #[ι κ 0,ι κ mg]) (by simp[results,results247,go_sem]) rfl ?_;exact⟨rfl,Y _ _⟩
def VK(sz mg k n:Int)(w:fA):gb gg 248 #[.agg #[ι κ sz,ι κ mg],.agg #[ι κ k,ι κ n]] w λe w'=>
 e=ρ (.agg #[ι κ (lM 3 (sz,mg) (k,n)).1,ι κ (lM 3 (sz,mg) (k,n)).2])/\fP w w':=by
  have hz:=AW;have Y:∀(A B C:Array fB) (t u v:fE),fP w (((w.alloc (γ A t)).alloc (γ B u)).alloc (γ C v)):=λA B C t u v=>((gu _ _).alloc gZ _).alloc (by simp;omega) _;have fin:∀(s m:Int),lM 3 (sz,mg) (k,n)=(s,m)->((lM 3 (sz,mg) (k,n)).1=s/\(lM 3 (sz,mg) (k,n)).2=m):=λs m h=>by rw[h];exact⟨rfl,rfl⟩
  cases q1:(k==1)
  ·cases Z:(k==5)
   ·have hv:lM 3 (sz,mg) (k,n)=(sz,mg):=by simp at q1 Z;simp[lM,q1,Z]
    rw[hv];clear hv fin;go_in;go_wp2;refine aN (v:=.agg #[ι κ sz,ι κ mg]) (by simp[results,results248,go_sem]) rfl ?_;exact⟨rfl,Y _ _ _ _ _ _⟩
   by_cases V:0<mg
   ·by_cases U:0<n
    ·have hv:lM 3 (sz,mg) (k,n)=(sz,n):=by simp at q1 Z;simp[lM,Z,V,U]
     rw[hv];clear hv fin;go_in;go_wp2;refine aN (v:=.agg #[ι κ sz,ι κ n]) (by simp[results,results248,go_sem]) rfl ?_;exact⟨rfl,Y _ _ _ _ _ _⟩
    have hv:lM 3 (sz,mg) (k,n)=(sz,mg):=by simp at q1 Z;simp[lM,Z,U]
    rw[hv];clear hv fin;go_in;go_wp2;refine aN (v:=.agg #[ι κ sz,ι κ mg]) (by simp[results,results248,go_sem]) rfl ?_;exact⟨rfl,Y _ _ _ _ _ _⟩
   have hv:lM 3 (sz,mg) (k,n)=(sz,mg):=by simp at q1 Z;simp[lM,Z,V]
   rw[hv];clear hv fin;go_in;go_wp2;refine aN (v:=.agg #[ι κ sz,ι κ mg]) (by simp[results,results248,go_sem]) rfl ?_;exact⟨rfl,Y _ _ _ _ _ _⟩
  have Z:(k==5)=false:=by simp at q1⊢;omega
  by_cases V:0<sz
  ·by_cases U:40<=n
   ·have hv:lM 3 (sz,mg) (k,n)=(n,mg):=by simp at q1;simp[lM,q1,V,U]
    rw[hv];clear hv fin;go_in;go_wp2;refine aN (v:=.agg #[ι κ n,ι κ mg]) (by simp[results,results248,go_sem]) rfl ?_;exact⟨rfl,Y _ _ _ _ _ _⟩
   have hv:lM 3 (sz,mg) (k,n)=(sz,mg):=by simp at q1;simp[lM,q1,U]
   rw[hv];clear hv fin;go_in;go_wp2;refine aN (v:=.agg #[ι κ sz,ι κ mg]) (by simp[results,results248,go_sem]) rfl ?_;exact⟨rfl,Y _ _ _ _ _ _⟩
  have hv:lM 3 (sz,mg) (k,n)=(sz,mg):=by simp at q1;simp[lM,q1,V]
  rw[hv];clear hv fin;go_in;go_wp2;refine aN (v:=.agg #[ι κ sz,ι κ mg]) (by simp[results,results248,go_sem]) rfl ?_;exact⟨rfl,Y _ _ _ _ _ _⟩
def E9(sz mg:Int)(a:Option fq)(n cap:Nat)(os:List kS)(w:fA)(NZ:0<=mg)(adG:mg<=255)(hn:n<=1000000)(ho:kc w a n os):
 gb gg 245 #[.agg #[ι κ sz,ι κ mg],σ a n cap] w λe w'=>∃v,e=ρ v/\Made w w' v (tH mg os):=by
  obtain⟨i0,hi,pB,oR,oe⟩:=bu Ex;have si:fP w (w.alloc (γ #[ι κ sz,ι κ mg] 252)):=gu _ _;have hA:=λj=>ay w #[ι κ sz,ι κ mg] 252 (0,0) j;go_in;go_wp2;go_loopw [5,10] (λout i wr=>∃(k:Nat) (ao:Option fq) (m cp:Nat),k<=n/\out=σ ao m cp/\i=ι κ k/\m<=k/\Row wr 2 (σ ao m cp) m (jX (tH mg (os.take k)))/\(∀j,fD (σ ao m cp)=μ j->w.heap.size+1<=j)/\wr.cell? ⟨w.heap.size,1,ν⟩=μ (ι κ mg)/\fP w wr) (λ_ i _=>n-(gj i).toNat);(case atStart=>exact⟨0,ν,0,0,aw _,rfl,rfl,aj _,by simpa[tH,jX]using Row.nil _ 2,λj Z=>oL Z,hA 1,si⟩)
  case round=>
   obtain⟨k,ao,m,cp,hk,rfl,rfl,hmk,T,U,hmc,jS⟩:=hrel;have Kg:w.heap.size<wr.heap.size:=ai wr _ hmc;by_cases lZ:k<n
   ·have B2:=ho.below jS;obtain h0|⟨b,off,rfl,hc⟩:=B2.2;{omega};have sM:k<os.length:=by rw[ho.1];exact lZ
    obtain⟨c1,c2⟩:=hc k sM
    have y:Hid (tH mg (os.take (k+1))=tH mg (os.take k)++zu mg os[k]):=by
     show _=_;rw[aJ sM,tH,cO,cF,List.flatMap_nil,aF];rfl
    generalize os[k] =o at c1 c2 y;clear hc;have pE:(k:Int)<(n:Int):=fC;have S:=jS.alloc jS.size (γ #[ι κ o.1,ι κ o.2] 276);have A:(wr.alloc (γ #[ι κ o.1,ι κ o.2] 276)).cell? ⟨w.heap.size,1,ν⟩=μ (ι κ mg):=((gu _ _).cell (p:=⟨w.heap.size,1,ν⟩) Kg).trans hmc
    have keep:zu mg o=[]->Hid (Row (wr.alloc (γ #[ι κ o.1,ι κ o.2] 276)) 2 (σ ao m cp) m (jX (tH mg (os.take (k+1))))):=λhe=>by
     show Row _ _ _ _ _;rw[y.out,he,aF];exact T.alloc _
    cases q1:(o.1==1)
    ·cases M:(o.1==5);{have Y:=keep (by simp at q1 M;simp[zu,q1,M]);go_wp2;go_roundw;(case rel=>exact⟨k+1,_,m,cp,fC,rfl,by go_num,fC,Y.out,U,A,S⟩);case measure=>simp[gj];omega};cases q6:(o.2==0)
     ·cases q7:(o.2==mg);{have Y:=keep (by simp at q1 M q6 q7;simp[zu,M,q6,q7]);go_wp2;go_roundw;(case rel=>exact⟨k+1,_,m,cp,fC,rfl,by go_num,fC,Y.out,U,A,S⟩);case measure=>simp[gj];omega}
      have h:Hid (zu mg o=[(5,(mg%255+1))]):=by
       show _=_;simp at q1 M q6 q7;simp[zu,M,q7]
      go_wp2_with(at_builtin;go_must(refine jN _ rfl (.tmp 41) (.tmp 47) 35 rfl 276 i0 (.agg #[ι κ 0,ι κ 0]) 2 16 underlying35 hi pB oR oe rfl fF (σ ao m cp) m (jX (tH mg (os.take k))) rfl ((T.alloc _).alloc _) _ 1 1 [ι κ 5,ι κ (mg%255+1)] rfl rfl fF (oQ _ _ _ _ _ gZ) (nC _ _ _ _) (by unfold maxLen;omega) fC ?_));intro g' E w1 Y V D;have oB:=nO (S.alloc S.size _) V (λj Z=>by have:=U j Z;omega);have oA:=pL (B:=w.heap.size+1) D fC U;have J:w1.cell? ⟨w.heap.size,1,ν⟩=μ (ι κ mg):=uF V (λe=>by have:=U _ e;omega) (((gu _ _).cell (p:=⟨w.heap.size,1,ν⟩) (by simp;omega)).trans A);have Kh:w.heap.size<w1.heap.size:=ai w1 _ J
      have hcs:∀j<2,w1.cell? ⟨wr.heap.size,j,ν⟩=(wr.alloc (γ #[ι κ o.1,ι κ o.2] 276)).cell? ⟨wr.heap.size,j,ν⟩:=λj _=>by
       have e1:=ak (a:=⟨wr.heap.size,j,ν⟩) (V.block wr.heap.size (by simp;omega) (λe=>by have:=T.lt _ e.symm;omega));exact e1.trans ((gu _ _).cell (p:=⟨wr.heap.size,j,ν⟩) gZ)
      have d0:=(hcs 0 fF).trans (ay wr #[ι κ o.1,ι κ o.2] 276 (0,0) 0);have d1:=(hcs 1 fF).trans (ay wr #[ι κ o.1,ι κ o.2] 276 (0,0) 1);have QJ:wr.heap.size<w1.heap.size:=ai w1 _ d0
      have ue:Row w1 2 (σ (μ ⟨g',0,ν⟩) (m+1) E) (m+1) (jX (tH mg (os.take (k+1)))):=by
       rw[y.out,h.out,nZ];exact Y
      clear V D Y hcs keep;go_wp2;go_roundw;(case rel=>exact⟨k+1,_,m+1,E,fC,rfl,by go_num,fC,ue,λj Z=>mc oA Z,J,oB⟩);case measure=>simp[gj];omega
     have h:Hid (zu mg o=[(5,(mg%255+1))]):=by
      show _=_;simp at q1 M q6;simp[zu,M,q6]
     go_wp2_with(at_builtin;go_must(refine jN _ rfl (.tmp 41) (.tmp 47) 35 rfl 276 i0 (.agg #[ι κ 0,ι κ 0]) 2 16 underlying35 hi pB oR oe rfl fF (σ ao m cp) m (jX (tH mg (os.take k))) rfl ((T.alloc _).alloc _) _ 1 1 [ι κ 5,ι κ (mg%255+1)] rfl rfl fF (oQ _ _ _ _ _ gZ) (nC _ _ _ _) (by unfold maxLen;omega) fC ?_));intro g' E w1 Y V D;have oB:=nO (S.alloc S.size _) V (λj Z=>by have:=U j Z;omega);have oA:=pL (B:=w.heap.size+1) D fC U;have J:w1.cell? ⟨w.heap.size,1,ν⟩=μ (ι κ mg):=uF V (λe=>by have:=U _ e;omega) (((gu _ _).cell (p:=⟨w.heap.size,1,ν⟩) (by simp;omega)).trans A);have Kh:w.heap.size<w1.heap.size:=ai w1 _ J
     have hcs:∀j<2,w1.cell? ⟨wr.heap.size,j,ν⟩=(wr.alloc (γ #[ι κ o.1,ι κ o.2] 276)).cell? ⟨wr.heap.size,j,ν⟩:=λj _=>by
      have e1:=ak (a:=⟨wr.heap.size,j,ν⟩) (V.block wr.heap.size (by simp;omega) (λe=>by have:=T.lt _ e.symm;omega));exact e1.trans ((gu _ _).cell (p:=⟨wr.heap.size,j,ν⟩) gZ)
     have d0:=(hcs 0 fF).trans (ay wr #[ι κ o.1,ι κ o.2] 276 (0,0) 0);have d1:=(hcs 1 fF).trans (ay wr #[ι κ o.1,ι κ o.2] 276 (0,0) 1);have QJ:wr.heap.size<w1.heap.size:=ai w1 _ d0
     have ue:Row w1 2 (σ (μ ⟨g',0,ν⟩) (m+1) E) (m+1) (jX (tH mg (os.take (k+1)))):=by
      rw[y.out,h.out,nZ];exact Y
     clear V D Y hcs keep;go_wp2;go_roundw;(case rel=>exact⟨k+1,_,m+1,E,fC,rfl,by go_num,fC,ue,λj Z=>mc oA Z,J,oB⟩);case measure=>simp[gj];omega
    have M:(o.1==5)=false:=by simp at q1⊢;omega
    by_cases q2:o.2<40
    ·have h:Hid (zu mg o=[(1,40)]):=by
      show _=_;simp at q1;simp[zu,q1,q2]
     go_wp2_with(at_builtin;go_must(refine jN _ rfl (.tmp 22) (.tmp 24) 35 rfl 276 i0 (.agg #[ι κ 0,ι κ 0]) 2 16 underlying35 hi pB oR oe rfl fF (σ ao m cp) m (jX (tH mg (os.take k))) rfl ((T.alloc _).alloc _) _ 1 1 [ι κ 1,ι κ 40] rfl rfl fF (oQ _ _ _ _ _ gZ) (nC _ _ _ _) (by unfold maxLen;omega) fC ?_));intro g' E w1 Y V D;have oB:=nO (S.alloc S.size _) V (λj Z=>by have:=U j Z;omega);have oA:=pL (B:=w.heap.size+1) D fC U;have J:w1.cell? ⟨w.heap.size,1,ν⟩=μ (ι κ mg):=uF V (λe=>by have:=U _ e;omega) (((gu _ _).cell (p:=⟨w.heap.size,1,ν⟩) (by simp;omega)).trans A);have Kh:w.heap.size<w1.heap.size:=ai w1 _ J
     have hcs:∀j<2,w1.cell? ⟨wr.heap.size,j,ν⟩=(wr.alloc (γ #[ι κ o.1,ι κ o.2] 276)).cell? ⟨wr.heap.size,j,ν⟩:=λj _=>by
      have e1:=ak (a:=⟨wr.heap.size,j,ν⟩) (V.block wr.heap.size (by simp;omega) (λe=>by have:=T.lt _ e.symm;omega));exact e1.trans ((gu _ _).cell (p:=⟨wr.heap.size,j,ν⟩) gZ)
     have d0:=(hcs 0 fF).trans (ay wr #[ι κ o.1,ι κ o.2] 276 (0,0) 0);have d1:=(hcs 1 fF).trans (ay wr #[ι κ o.1,ι κ o.2] 276 (0,0) 1);have QJ:wr.heap.size<w1.heap.size:=ai w1 _ d0
     have ue:Row w1 2 (σ (μ ⟨g',0,ν⟩) (m+1) E) (m+1) (jX (tH mg (os.take (k+1)))):=by
      rw[y.out,h.out,nZ];exact Y
     clear V D Y hcs keep;go_wp2;go_roundw;(case rel=>exact⟨k+1,_,m+1,E,fC,rfl,by go_num,fC,ue,λj Z=>mc oA Z,J,oB⟩);case measure=>simp[gj];omega
    have Y:=keep (by simp at q1;simp[zu,q1,q2]);go_wp2;go_roundw;(case rel=>exact⟨k+1,_,m,cp,fC,rfl,by go_num,fC,Y.out,U,A,S⟩);case measure=>simp[gj];omega
   have AX:os.take k=os:=aR (by rw[ho.1];omega);rw[AX]at T;have Ca:m=(tH mg os).length:=by have:=T.1;rw[m9]at this;omega
   go_wp2;go_ret;exact⟨_,rfl,⟨by rw[<-Ca];exact T,λj Z=>by have:=U j Z;omega,jS⟩⟩
def not_nil(a:fq)(n cap:Nat)(w:fA):(binOp .eql 35 (σ (μ a) n cap) (σ ν 0 0)).run gg w=.ok (.bool false) w:=iV
def adH(w:fA):(binOp .eql 35 (σ ν 0 0) (σ ν 0 0)).run gg w=.ok (.bool true) w:=iV
def Fa(a:fq)(cap:Nat)(w:fA):
 gb gg 246 #[σ (μ a) 0 cap] w λe w'=>∃(v:fB),e=ρ v/\Made w w' v [] :=by
  have hq:=not_nil;go_in;go_wp2;go_ret;exact⟨_,rfl,⟨Row.made w 2 _ #[] (0,0) 0 0 [] rfl rfl (aj _) fF (.inl rfl) gZ,λj Z=>mc (aj _) Z,gu _ _⟩⟩
def Sy(w:fA):
 gb gg 246 #[σ ν 0 0] w λe w'=>∃(v:fB),e=ρ v/\Made w w' v [] :=by
  have hq:=adH;go_in;go_wp2;go_ret;exact⟨_,rfl,⟨Row.nil w 2,λj Z=>oL Z,aC _ _⟩⟩
def Ol(b off n cap:Nat)(os:List kS)(w:fA)(hn:n<=1000000)(T:0<n)(Y:kc w (μ ⟨b,off,ν⟩) n os):
 gb gg 246 #[σ (μ ⟨b,off,ν⟩) n cap] w λe w'=>∃(v:fB),e=ρ v/\Made w w' v os:=by
  obtain⟨i0,hi,h,A,y⟩:=bu Ex;have hq:=not_nil;have S:fP w (w.alloc (γ #[] 276)):=gu _ _;have hl:=Y.1;have M:Row (w.alloc (γ #[] 276)) 2 (σ (μ ⟨w.heap.size,0,ν⟩) 0 0) 0 [] :=Row.made w 2 _ #[] (0,0) 0 0 [] rfl rfl (aj _) fF (.inl rfl) gZ;go_in;go_wp2_with(at_builtin;go_must(refine jN _ rfl (.tmp 5) (.tmp 6) 35 rfl 276 i0 (.agg #[ι κ 0,ι κ 0]) 2 16 underlying35 hi h A y rfl fF (σ (μ ⟨w.heap.size,0,ν⟩) 0 0) 0 [] rfl M _ n cap (jX os) rfl (by rw[m9];omega) T ((Y.below S).cells T) (LK _) (by unfold maxLen;omega) fC ?_));intro g1 D7 w1 E U V;have J:=nO S U (λj Z=>mc (aj _) Z);have D:=pL (B:=w.heap.size) V fC (λj Z=>mc (aj _) Z);clear U V;go_wp2;go_ret;refine⟨_,rfl,⟨?_,λj Z=>mc D Z,J⟩⟩;rw[hl];exact E
def Sz(a:Option fq)(n cap:Nat)(os:List kS)(w:fA)(U:n<=1000000)(T:mG a cap)(Z:kc w a n os):
 gb gg 246 #[σ a n cap] w λe w'=>∃(v:fB),e=ρ v/\Made w w' v os:=by
  obtain V|⟨b,off,rfl,hc⟩:=Z.2;{subst V;have Y:os=[] :=aQ Z.1;subst Y;cases a with|none=>obtain rfl:=T rfl;exact Sy w|some a=>exact Fa a cap w};by_cases S:0<n;{exact Ol b off n cap os w U S Z};have V:n=0:=fC;subst V;have Y:os=[] :=aQ Z.1;subst Y;exact Fa _ cap w
def IP {w1:fA} {x y:fB} (Z:fJ (w.alloc (γ #[x,y] t)).heap.size (w.alloc (γ #[x,y] t)) w1):
 w1.cell? ⟨w.heap.size,0,ν⟩=μ x/\w1.cell? ⟨w.heap.size,1,ν⟩=μ y/\w.heap.size<w1.heap.size:=by
  have Y:w.heap.size<(w.alloc (γ #[x,y] t)).heap.size:=gZ;have hA:=λj=>ay w #[x,y] t (0,0) j;exact⟨(Z.cell (p:=⟨w.heap.size,0,ν⟩) Y).trans (hA 0),(Z.cell (p:=⟨w.heap.size,1,ν⟩) Y).trans (hA 1),aq Y Z.size⟩
def IQ(sz mg:Int)(a:Option fq)(n cap:Nat)(os:List kS)(w:fA)(NZ:0<=mg)(T:mg<=255)(S:n<=1000000)(lR:mG a cap)(M:kc w a n os):
 gb gg 228 #[.agg #[ι κ sz,ι κ mg],σ a n cap] w λe w'=>∃v,e=ρ (τ #[ι κ (nY mg os).1,v])/\Made w w' v (nY mg os).2:=by
  have E:fP w (w.alloc (γ #[ι κ sz,ι κ mg] 252)):=gu _ _;have hA:=λj=>ay w #[ι κ sz,ι κ mg] 252 (0,0) j;by_cases hu:vJ os=[]
  ·have Y:=Dd a n cap os _ S (M.below E);rw[hu]at Y;by_cases D:tH mg os=[]
   ·have V:nY mg os=(2,os):=by simp[nY,hu,D]
    rw[V];clear V;go_in;go_wp2_with fail;refine Y.mono ?_;rintro e w1 ⟨v,rfl,Z⟩;obtain⟨a1,QK,rfl,_,_⟩:=Z.shape;obtain⟨c0,c1,hl⟩:=IP Z.below;have J:=fQ E Z.below;have U:=E9 sz mg a n cap os w1 NZ T S (M.below J);rw[D]at U;simp only[fV];clear Y Z;go_wp2_with fail;refine U.mono ?_;rintro e w2 ⟨v,rfl,Z⟩;obtain⟨a2,A,rfl,_,_⟩:=Z.shape;have oB:=fQ J Z.below;simp only[fV];clear U Z;go_wp2_with fail;refine(Sz a n cap os w2 S lR (M.below oB)).mono ?_;rintro e w3 ⟨v,rfl,Z⟩;go_wp2;go_ret2;exact⟨_,rfl,Z.from oB⟩
   have V:nY mg os=(3,tH mg os):=by simp[nY,hu,D]
   rw[V];clear V;go_in;go_wp2_with fail;refine Y.mono ?_;rintro e w1 ⟨v,rfl,Z⟩;obtain⟨a1,QK,rfl,_,_⟩:=Z.shape;obtain⟨c0,c1,hl⟩:=IP Z.below;have J:=fQ E Z.below;have U:=E9 sz mg a n cap os w1 NZ T S (M.below J);simp only[fV];clear Y Z;go_wp2_with fail;refine U.mono ?_;rintro e w2 ⟨v,rfl,Z⟩;obtain⟨a2,A,rfl,_,_⟩:=Z.shape;have y:=Z.from J
   have rm:(0:Int)<((tH mg os).length:Int):=by
    have:(tH mg os).length≠0:=λh=>D (aQ h);omega
   clear U Z;go_wp2;go_ret2;exact⟨_,rfl,y⟩
  have Y:=Dd a n cap os _ S (M.below E);have V:nY mg os=(4,vJ os):=by simp[nY,hu]
  rw[V];clear V;go_in;go_wp2_with fail;refine Y.mono ?_;rintro e w1 ⟨v,rfl,Z⟩;obtain⟨a1,QK,rfl,_,_⟩:=Z.shape;have y:=Z.from E
  have rm:(0:Int)<((vJ os).length:Int):=by
   have:(vJ os).length≠0:=λh=>hu (aQ h);omega
  clear Y Z;go_wp2;go_ret2;exact⟨_,rfl,y⟩
structure N1(w:fA)(B:Nat)(s m:Int):Prop where
 c0:w.cell? ⟨B,0,ν⟩=μ (ι κ s)
 c1:w.cell? ⟨B,1,ν⟩=μ (ι κ m)
 f0:w.frozen? ⟨B,0,ν⟩=false
 f1:w.frozen? ⟨B,1,ν⟩=false
def N1.lt(h:N1 w B s m):B<w.heap.size:=ai w _ h.c0
def N1.below(h:N1 w B s m)(Z:fP w w'):N1 w' B s m:=
 ⟨(Z.cell (p:=⟨B,0,ν⟩) h.lt).trans h.c0,(Z.cell (p:=⟨B,1,ν⟩) h.lt).trans h.c1,
   (aV (a:=⟨B,0,ν⟩) (Z.block B h.lt)).trans h.f0,(aV (a:=⟨B,1,ν⟩) (Z.block B h.lt)).trans h.f1⟩
structure PV where
 code:Int
 id:Int
 a:Option fq
 n:Nat
 cap:Nat
 os:List kS
def PV.val(p:PV):fB:=σ p.a p.n p.cap
def PV.cells(p:PV):List fB:=[ι κ p.code,ι κ p.id,p.val]
def SB(ps:List PV):List fB:=ps.flatMap PV.cells
def VL(ps:List PV)(p:PV):SB (ps++ [p])=SB ps++ [ι κ p.code,ι κ p.id,p.val] :=by simp[SB,PV.cells]
structure xD(w:fA)(X:Nat->Prop)(v:fB)(p:PV):Prop where
 opt:kc w p.a p.n p.os
 nil:mG p.a p.cap
 le:p.n<=p.cap
 few:p.n<=1000
 far:∀k,wN p.a p.n=μ k->¬X k/\v.ownBlock≠μ k/\k<w.heap.size
structure LS where
 fs:Int
 fm:Int
 ns:Int
 nm:Int
 qs:Int
 qm:Int
 st:Int
 sz:Int
 lf:Int
 wt:Int
 ow:Int
def LS.c(s:LS)(v:fB):Array fB:=VI s.fs s.fm s.ns s.nm s.qs s.qm s.st s.sz s.lf s.wt s.ow v
structure tS(w:fA)(B:Nat)(X:Nat->Prop)(s:LS)(v:fB)(ps:List PV):Prop where
 lk:Lk w B (s.c v)
 row:Row w 3 v ps.length (SB ps)
 own:∀g,v.ownBlock=μ g->¬X g
 self:X B
 old:∀k,X k->k<w.heap.size
 pk:∀p∈ps,xD w X v p
structure Kept(w w':fA)(B:Nat)(o:Option Nat):Prop where
 os:w'.os=w.os
 tape:w'.tape=w.tape
 output:w'.output=w.output
 size:w.heap.size<=w'.heap.size
 block:∀i<w.heap.size,i≠B->o≠μ i->w'.heap[i]? =w.heap[i]?
def Kept.refl(w:fA)(B:Nat)(o:Option Nat):Kept w w B o:=⟨rfl,rfl,rfl,aj _,λ_ _ _ _=>rfl⟩
def Kept.jY(B:Nat)(o:Option Nat)(h:fP w w'):Kept w w' B o:=⟨h.os,h.tape,h.output,h.size,λi hi _ _=>h.block i hi⟩
def Kept.trans {a b c:fA} {B:Nat} {o o':Option Nat} (h:Kept a b B o)(k:Kept b c B o')(Z:∀i,o'=μ i->o=μ i \/a.heap.size<=i):Kept a c B o:=
 ⟨k.os.trans h.os,k.tape.trans h.tape,k.output.trans h.output,au h.size k.size,λi hi U V=>by
  rw[k.block i (aq hi h.size) U (λe=>by
   obtain Y|Y:=Z i e;{exact V Y}
   ·omega)]
  exact h.block i hi U V⟩
def xD.kept {v':fB} {p:PV} (h:xD w X v p)(S:X B)(k:Kept w w' B v.ownBlock)(hv:∀g,v'.ownBlock=μ g->v.ownBlock=μ g \/w.heap.size<=g):xD w' X v' p:=
 ⟨h.opt.QI (λj U=>by obtain⟨Z,Y,V⟩:=h.far j U;exact k.block j V (λe=>Z (by rw[e];exact S)) Y),h.nil,h.le,h.few,λj U=>by
  obtain⟨Z,Y,V⟩:=h.far j U;refine⟨Z,λe=> ?_,aq V k.size⟩;obtain T|T:=hv j e;{exact Y T}
  ·omega⟩
def tS.below {w w':fA} {B:Nat} {X:Nat->Prop} {s:LS} {v:fB} {ps:List PV} (h:tS w B X s v ps)(Z:fP w w'):tS w' B X s v ps:=
 ⟨h.lk.below Z,h.row.below Z,h.own,h.self,λk Y=>aq (h.old k Y) Z.size,λp V=>(h.pk p V).kept h.self (Kept.jY B _ Z) (λ_ e=>.inl e)⟩
def tS.ne {s:LS} {ps:List PV} (h:tS w B X s v ps):v.ownBlock≠μ B:=λe=>h.own B e h.self
def Z5(h:Lk w B C)(Z:(w.alloc o).drew.grownBy x v.ownBlock)(hv:v.ownBlock≠μ B):Lk x B C:=by
 refine h.keep ?_;rw[Z.block B (by show B<(w.alloc o).heap.size;have:=h.lt;simp;omega) (λe=>hv e.symm)];exact bk w o B h.lt
def SC(Z:(w.alloc o).drew.grownBy x v.ownBlock):Kept w x B v.ownBlock:=
 ⟨Z.os,Z.tape,Z.output,au (by show w.heap.size<=(w.alloc o).heap.size;simp) Z.size,λi hi _ Y=>by
  rw[Z.block i (by show i<(w.alloc o).heap.size;simp;omega) (λe=>Y e.symm)];exact bk w o i hi⟩
def mJ {o:Option Nat} (h:Kept w x B o)(j:Nat)(v:fB):Kept w (x.setCell ⟨B,j,ν⟩ v) B o:=by
 have b1:fJ 0 x (x.setCell ⟨B,j,ν⟩ v):=(aC 0 x).setCell (aw _) _;exact⟨b1.os.trans h.os,b1.tape.trans h.tape,b1.output.trans h.output,au h.size b1.size,λi hi Z Y=>(ax _ _ _ i Z).trans (h.block i hi Z Y)⟩
def Ki(B:Nat)(X:Nat->Prop)(s:LS)(v:fB)(ps:List PV)(p:PV)(w:fA)(h:tS w B X s v ps)(hp:xD w X v p)(hn:ps.length<=100):
 gb gg 225 #[π (μ ⟨B,0,ν⟩),.agg #[ι κ p.code,ι κ p.id,σ p.a p.n p.cap]] w λe w'=>e=ρ (τ #[])/\∃v',tS w' B X s v' (ps++ [p])/\Kept w w' B v.ownBlock/\(∀g,v'.ownBlock=μ g->v.ownBlock=μ g \/w.heap.size<=g):=by
  obtain⟨i0,hi,pB,oR,oe⟩:=bu VH;have sN:=gu w (γ #[ι κ p.code,ι κ p.id,σ p.a p.n p.cap] 37);have E:=h.below sN;have hA:=λj=>ay w #[ι κ p.code,ι κ p.id,σ p.a p.n p.cap] 37 (0,0) j;obtain⟨C,hC⟩:=fH (s.c);have tr:∀x,(C x)[11]? =μ x:=by rw[<-hC];intro x;rfl
  have hcs:∀x y,(C x).setIfInBounds 11 y=C y:=by rw[<-hC];intro x y;rfl
  have M:=E.lk;rw[hC]at M;have j0:=E.row;obtain⟨nn,B4⟩:=fH (ps.length);rw[B4]at j0 hn;go_in;go_wp2_with fail;obtain⟨Z,T⟩:=fH (w.heap.size);obtain⟨Y,S⟩:=fH (w.alloc (γ #[ι κ p.code,ι κ p.id,σ p.a p.n p.cap] 37));have d0:Y.cell? ⟨Z,0,ν⟩=μ (ι κ p.code):=by rw[<-S,<-T];exact hA 0
  have d1:Y.cell? ⟨Z,1,ν⟩=μ (ι κ p.id):=by rw[<-S,<-T];exact hA 1
  have d2:Y.cell? ⟨Z,2,ν⟩=μ (σ p.a p.n p.cap):=by rw[<-S,<-T];exact hA 2
  rw[S]at E sN M j0;rw[S,T];have Z6:B<Y.heap.size:=M.lt;have Lv:Z<Y.heap.size:=ai Y _ d0;have Z7:Y.cell? ⟨B,11,ν⟩=μ v:=(M.cell 11).trans (tr v);have HB:Hid _:=sN;have U:Hid _:=h;have HP:Hid _:=hp;have HO:Hid (v.ownBlock≠μ B):=h.ne;have HZ:Hid _:=T;have HC:Hid _:=hC;have HN:Hid _:=B4;have HL:Hid _:=hcs;have HK:Hid _:=tr;clear hA S T h sN hp E hC B4 hcs tr
  go_region_law ((refine nN (by rfl) (.tmp 8) (.tmp 10) 175 (by rfl) 37 i0 (.agg #[ι κ 0,ι κ 0,σ ν 0 0]) 3 40 underlying175 hi pB oR oe (by rfl) fF v nn (SB ps) (by rfl) ((j0.alloc _).drew) _ 1 1 [ι κ p.code,ι κ p.id,σ p.a p.n p.cap] (by rfl) (by rfl) fF (AY _ _ _ _ _ _ rfl) (VJ _ _ _ _ _) (by unfold maxLen;omega) fC ?_;intro V A x1 mQ mb kO;have Om:=Z5 M mb HO.out;have f11:=Om.frozen 11;have g11:x1.cell? ⟨B,11,ν⟩=μ v:=(Om.cell 11).trans (HK.out v)))
  all_goals
   go_wp2_with fail;go_end0
   have hgs:V≠B:=by
    obtain hh|hh:=kO;{exact λe=>HO.out (by rw[hh,e])};have:=M.lt;have h2:Y.heap.size<=V:=au (by show Y.heap.size<=(Y.alloc _).heap.size;simp) hh;omega
   have D:=mJ ((Kept.jY B v.ownBlock HB.out).trans (SC (B:=B) mb) (λi e=>.inl e)) 11 (σ (μ ⟨V,0,ν⟩) (nn+1) A)
   have hv:∀g,fD (σ (μ ⟨V,0,ν⟩) (nn+1) A)=μ g->v.ownBlock=μ g \/w.heap.size<=g:=by
    intro g hg;have SD:V=g:=by simpa[fD]using hg
    subst SD;obtain hh|hh:=kO;{exact .inl hh};right;have h2:Y.heap.size<=V:=au (by show Y.heap.size<=(Y.alloc _).heap.size;simp) hh;have:=HB.out.size;omega
   refine⟨rfl,σ (μ ⟨V,0,ν⟩) (nn+1) A,⟨?_,?_,?_,U.out.self,λk hk=>aq (U.out.old k hk) D.size,?_⟩,D,hv⟩;{have:=Om.set 11 (σ (μ ⟨V,0,ν⟩) (nn+1) A);rw[HL.out]at this;rw[HC.out];exact this}
   ·rw[VL,aG,HN.out];refine mQ.keep gZ (λk hk=> ?_);have AX:V=k:=by simpa[fD]using hk
    exact ax _ _ _ k (by show k≠B;omega)
   {intro g hg hx;obtain e|e:=hv g hg;{exact U.out.own g e hx};have:=U.out.old g hx;omega}
   ·intro q J;obtain J|J:=aA.1 J;{exact(U.out.pk q J).kept U.out.self D hv};have:q=p:=by simpa using J
    subst this;exact HP.out.kept U.out.self D hv
abbrev mH:=Int×Int×List kS
def PV.abs(p:PV):mH:=(p.code,p.id,p.os)
def LS.asked(s:LS):LS:={s with lf:=s.lf-1,wt:=3,ow:=(s.ow+1) %256}
def rP(c:UInt8)(s:LS):LS:=
 if c=105 then {s with lf:=4}else if c=122 then {s with lf:=0,wt:=3}else if c=114 then({s with qs:=s.ns,qm:=s.nm}:LS).asked else if c=116 then s.asked else s
def Ic(c:UInt8)(s:LS)(AZ:mH):List mH:=
 if c=114 then [(1,(s.ow+1) %256,ql s.ns s.nm)]else if c=116 then [(5,(s.ow+1) %256,[])]else if c=97 \/c=110 then [AZ]else if c=107 then [(6,AZ.2.1,[])]else []
def sO:List UInt8->LS->LS
 |[],s=>s
 |c::r,s=>sO r (rP c s)
def zU:List UInt8->LS->mH->List mH
 |[],_,_=>[]
 |c::r,s,AZ=>Ic c s AZ++zU r (rP c s) AZ
structure Bd(s:LS)(n:Int):Prop where
 o1:0<=s.ow
 o2:s.ow<=255
 l1: -n<=s.lf
 l2:s.lf<=n
def Bd.act {s:LS} {n:Int} (h:Bd s n)(hn:4<=n)(c:UInt8):Bd (rP c s) (n+1):=by
 obtain⟨a,b,d,e⟩:=h;unfold rP;split;{exact⟨a,b,by simp;omega,by simp;omega⟩};split;{exact⟨a,b,by simp;omega,by simp;omega⟩};split;{exact⟨by simp[LS.asked];omega,by simp[LS.asked];omega,by simp[LS.asked];omega,by simp[LS.asked];omega⟩};split;{exact⟨by simp[LS.asked];omega,by simp[LS.asked];omega,by simp[LS.asked];omega,by simp[LS.asked];omega⟩};exact⟨a,b,fC,fC⟩
structure o9(w w':fA)(B:Nat)(X:Nat->Prop)(s':LS)(v:fB)(ps:List PV)(out:List mH):Prop where
 more:∃v' qs,tS w' B X s' v' (ps++qs)/\qs.map PV.abs=out/\(∀g,v'.ownBlock=μ g->v.ownBlock=μ g \/w.heap.size<=g)
 kept:Kept w w' B v.ownBlock
def tS.nj {s:LS} {ps:List PV} (h:tS w B X s v ps)(j:Nat)(x:fB)(s':LS)(hs:(s.c v).setIfInBounds j x=s'.c v):tS (w.setCell ⟨B,j,ν⟩ x) B X s' v ps:=by
 have Z:Kept w (w.setCell ⟨B,j,ν⟩ x) B v.ownBlock:=mJ (Kept.refl w B _) j x;refine⟨?_,h.row.keep Z.size (λk U=> ?_),h.own,h.self,λk Y=>aq (h.old k Y) Z.size,λp V=>(h.pk p V).kept h.self Z (λ_ e=>.inl e)⟩;{have:=h.lk.set j x;rw[hs]at this;exact this};exact ax _ _ _ k (λe=>h.ne (by rw[U];exact congrArg μ e))
def QL(B:Nat)(X:Nat->Prop)(s:LS)(v:fB)(ps:List PV)(code:Int)(a:Option fq)(n cap:Nat)(os:List kS)(w:fA)(h:tS w B X s v ps)(J:Bd s 1000)(Y:xD w X v ⟨code,(s.ow+1) %256,a,n,cap,os⟩)(D:ps.length<=100):
 gb gg 223 #[π (μ ⟨B,0,ν⟩),ι κ code,σ a n cap] w λe w'=>e=ρ (τ #[])/\o9 w w' B X s.asked v ps [(code,(s.ow+1) %256,os)] :=by
  obtain⟨fs,fm,ns,nm,qs,qm,st,sz,lf,wt,ow⟩:=s;obtain⟨o1,o2,l1,l2⟩:=J;simp only at o1 o2 l1 l2 Y;have c8:w.cell? ⟨B,8,ν⟩=μ (ι κ lf):=h.lk.cell 8;have c9:w.cell? ⟨B,9,ν⟩=μ (ι κ wt):=h.lk.cell 9;have VM:w.cell? ⟨B,10,ν⟩=μ (ι κ ow):=h.lk.cell 10;have fz:∀j,w.frozen? ⟨B,j,ν⟩=false:=h.lk.frozen;have hl:=h.lk.lt;have T:tS (((w.setCell ⟨B,10,ν⟩ (ι κ ((ow+1) %256))).setCell ⟨B,8,ν⟩ (ι κ (lf-1))).setCell ⟨B,9,ν⟩ (ι κ 3)) B X ⟨fs,fm,ns,nm,qs,qm,st,sz,lf-1,3,(ow+1) %256⟩ v ps:=
   ((h.nj 10 _ ⟨fs,fm,ns,nm,qs,qm,st,sz,lf,wt,(ow+1) %256⟩ rfl).nj 8 _ ⟨fs,fm,ns,nm,qs,qm,st,sz,lf-1,wt,(ow+1) %256⟩ rfl).nj 9 _ _ rfl
  have Z:Kept w (((w.setCell ⟨B,10,ν⟩ (ι κ ((ow+1) %256))).setCell ⟨B,8,ν⟩ (ι κ (lf-1))).setCell ⟨B,9,ν⟩ (ι κ 3)) B v.ownBlock:=mJ (mJ (mJ (Kept.refl w B _) 10 _) 8 _) 9 _;have V:=Y.kept h.self Z (λ_ e=>.inl e);have U:=Ki B X _ v ps ⟨code,(ow+1) %256,a,n,cap,os⟩ _ T V D;clear h T Y V;go_in;go_wp2_with fail;refine U.mono ?_;rintro e w1 ⟨rfl,v',M,S,hv⟩;clear U;go_wp2_with fail;go_end0;refine⟨rfl,⟨v',[_],M,rfl,λg E=> ?_⟩,Z.trans S (λi e=>.inl e)⟩;obtain e|e:=hv g E;{exact .inl e};exact .inr (au Z.size e)
def o9.from {s':LS} {ps:List PV} {out:List mH} (h:o9 x w' B X s' v ps out)(Z:Kept w x B v.ownBlock):o9 w w' B X s' v ps out:=by
 obtain⟨⟨v',qs,V,T,hv⟩,Y⟩:=h;refine⟨⟨v',qs,V,T,λg U=> ?_⟩,Z.trans Y (λi e=>.inl e)⟩;obtain e|e:=hv g U;{exact .inl e};exact .inr (au Z.size e)
def o9.still {s':LS} {ps:List PV} (h:tS w' B X s' v ps)(Z:Kept w w' B v.ownBlock):o9 w w' B X s' v ps [] :=
 ⟨⟨v,[],by rw[aF];exact h,rfl,λ_ e=>.inl e⟩,Z⟩
def tu(w:fA)(X:Nat->Prop)(v:fB)(code id:Int):xD w X v ⟨code,id,ν,0,0,[]⟩:=
 ⟨kc.nil w ν,λ_=>rfl,aj _,aw _,λk Z=>by simp[wN]at Z⟩
def Kj {w0:fA} {l:List kS} (code id:Int)(Z:Made w0 w u l)(hl:l.length<=1000)(U:∀k,X k->k<w0.heap.size)(hv:∀k,v.ownBlock=μ k->k<w0.heap.size):
 ∃a n cap,u=σ a n cap/\xD w X v ⟨code,id,a,n,cap,l⟩:=by
  obtain⟨a,cap,rfl,S,Y⟩:=Z.shape;refine⟨a,l.length,cap,rfl,Z.opts.2,S,Y,hl,λk T=> ?_⟩;have V:fD (σ a l.length cap)=μ k:=E7 T;have h1:=Z.new k V;exact⟨λe=>by have:=U k e;omega,λe=>by have:=hv k e;omega,Z.row.lt k V⟩
def IU(a b:Int):(ql a b).length<=1000:=by
 unfold ql;split<;>split<;>simp
def Ey(c:UInt8)(B:Nat)(X:Nat->Prop)(s:LS)(v:fB)(ps:List PV)(p:PV)(w:fA)(h:tS w B X s v ps)(M:Bd s 1000)(T:xD w X v p)(hn:ps.length<=100):
 gb gg 208 #[π (μ ⟨B,0,ν⟩),.int .u8 (c.toNat:Int),.agg #[ι κ p.code,ι κ p.id,σ p.a p.n p.cap]] w λe w'=>e=ρ (τ #[])/\o9 w w' B X (rP c s) v ps (Ic c s p.abs):=by
  have Z:=gu w (γ #[ι κ p.code,ι κ p.id,σ p.a p.n p.cap] 37);have hl:=h.lk.lt;have fz:∀j,w.frozen? ⟨B,j,ν⟩=false:=h.lk.frozen
  have nb:∀k:UInt8,c≠k->((c.toNat:Int)==(k.toNat:Int))=false:=λk hk=>by
   rw[dm];intro e;exact hk (dq.mp fC)
  by_cases c1:c=105;{subst c1;have J:Hid (tS (w.setCell ⟨B,8,ν⟩ (ι κ 4)) B X {s with lf:=4} v ps):=h.nj 8 _ _ rfl;have k1:Kept w (w.setCell ⟨B,8,ν⟩ (ι κ 4)) B v.ownBlock:=mJ (Kept.refl w B _) 8 _;have d8:w.cell? ⟨B,8,ν⟩=μ (ι κ s.lf):=h.lk.cell 8;have V:((105:UInt8).toNat:Int)=105:=rfl;rw[V];clear h T M nb Z;go_in;go_wp2_with fail;go_end0;exact⟨rfl,o9.still (J.out.below (gu _ _)) (k1.trans (Kept.jY B v.ownBlock (gu _ _)) (λi e=>.inl e))⟩};by_cases c2:c=122;{subst c2;have J:Hid (tS ((w.setCell ⟨B,8,ν⟩ (ι κ 0)).setCell ⟨B,9,ν⟩ (ι κ 3)) B X {s with lf:=0,wt:=3} v ps):=(h.nj 8 _ {s with lf:=0} rfl).nj 9 _ _ rfl;have k1:Kept w ((w.setCell ⟨B,8,ν⟩ (ι κ 0)).setCell ⟨B,9,ν⟩ (ι κ 3)) B v.ownBlock:=mJ (mJ (Kept.refl w B _) 8 _) 9 _;have d8:w.cell? ⟨B,8,ν⟩=μ (ι κ s.lf):=h.lk.cell 8;have d9:w.cell? ⟨B,9,ν⟩=μ (ι κ s.wt):=h.lk.cell 9;have V:((122:UInt8).toNat:Int)=122:=rfl;rw[V];clear h T M nb Z c1;go_in;go_wp2_with fail;go_end0;exact⟨rfl,o9.still (J.out.below (gu _ _)) (k1.trans (Kept.jY B v.ownBlock (gu _ _)) (λi e=>.inl e))⟩};by_cases c3:c=114;{subst c3;have J:Hid (tS ((w.setCell ⟨B,4,ν⟩ (ι κ s.ns)).setCell ⟨B,5,ν⟩ (ι κ s.nm)) B X {s with qs:=s.ns,qm:=s.nm} v ps):=(h.nj 4 _ {s with qs:=s.ns} rfl).nj 5 _ _ rfl;have k1:Kept w ((w.setCell ⟨B,4,ν⟩ (ι κ s.ns)).setCell ⟨B,5,ν⟩ (ι κ s.nm)) B v.ownBlock:=mJ (mJ (Kept.refl w B _) 4 _) 5 _;have d2:w.cell? ⟨B,2,ν⟩=μ (ι κ s.ns):=h.lk.cell 2;have d3:w.cell? ⟨B,3,ν⟩=μ (ι κ s.nm):=h.lk.cell 3;have d4:w.cell? ⟨B,4,ν⟩=μ (ι κ s.qs):=h.lk.cell 4;have d5:w.cell? ⟨B,5,ν⟩=μ (ι κ s.qm):=h.lk.cell 5;have V:((114:UInt8).toNat:Int)=114:=rfl;have Z8:=h.row.lt;have Sn:=h.old;rw[V];clear h T nb Z c1 c2;go_in;go_wp2_with fail;refine(LM s.ns s.nm _).mono ?_;rintro e w1 ⟨u,rfl,hM⟩;have Fb:w.heap.size<=(((w.setCell ⟨B,4,ν⟩ (ι κ s.ns)).setCell ⟨B,5,ν⟩ (ι κ s.nm)).alloc (γ #[ι κ p.code,ι κ p.id,σ p.a p.n p.cap] 37)).heap.size:=gZ;obtain⟨a',n',kE,rfl,hP⟩:=Kj (X:=X) (v:=v) 1 ((s.ow+1) %256) hM (IU _ _) (λk hk=>aq (Sn k hk) Fb) (λk hk=>aq (Z8 k hk) Fb);have R2:=(J.out.below (gu _ _)).below hM.below;have K2:=k1.trans (Kept.jY B v.ownBlock (fQ (gu _ (γ #[ι κ p.code,ι κ p.id,σ p.a p.n p.cap] 37)) hM.below)) (λi e=>.inl e);have Y:=QL B X {s with qs:=s.ns,qm:=s.nm} v ps 1 a' n' kE (ql s.ns s.nm) w1 R2 ⟨M.o1,M.o2,M.l1,M.l2⟩ hP hn;clear J d2 d3 d4 d5 fz hM R2 hP Fb;go_wp2_with fail;refine Y.mono ?_;rintro e w2 ⟨rfl,hW⟩;clear Y;go_wp2_with fail;go_end0;exact⟨rfl,hW.from K2⟩};by_cases c4:c=116;{subst c4;have U:=h.below Z;have Y:=QL B X s v ps 5 ν 0 0 [] _ U M (tu _ _ _ _ _) hn;have S:=Kept.jY B v.ownBlock Z;have V:((116:UInt8).toNat:Int)=116:=rfl;rw[V];clear h T nb Z c1 c2 c3 U;go_in;go_wp2_with fail;refine Y.mono ?_;rintro e w2 ⟨rfl,hW⟩;clear Y;go_wp2_with fail;go_end0;exact⟨rfl,hW.from S⟩};by_cases E:c=107;{subst E;have U:=h.below Z;have Y:=Ki B X s v ps ⟨6,p.id,ν,0,0,[]⟩ _ U (tu _ _ _ _ _) hn;have S:=Kept.jY B v.ownBlock Z;have V:((107:UInt8).toNat:Int)=107:=rfl;have hz:∀w:fA,(zeroValue 37).run gg w=.ok (.agg #[ι κ 0,ι κ 0,σ ν 0 0]) w:=λw=>iV;rw[V];clear h T nb Z c1 c2 c3 c4 U;go_in;go_wp2_with fail;refine Y.mono ?_;rintro e w2 ⟨rfl,v',y,A,hv⟩;clear Y;go_wp2_with fail;go_end0;exact⟨rfl,(show o9 _ w2 B X s v ps [(6,p.id,[])]from⟨⟨v',[_],y,rfl,hv⟩,A⟩).from S⟩};have U:=h.below Z;have P1:=T.kept h.self (Kept.jY B v.ownBlock Z) (λ_ e=>.inl e);have Y:=Ki B X s v ps p _ U P1 hn;have S:=Kept.jY B v.ownBlock Z;by_cases D:c=97;{subst D;have V:((97:UInt8).toNat:Int)=97:=rfl;rw[V];clear h T nb Z c1 c2 c3 c4 E U P1;go_in;go_wp2_with fail;refine Y.mono ?_;rintro e w2 ⟨rfl,v',y,A,hv⟩;clear Y;go_wp2_with fail;go_end0;exact⟨rfl,(show o9 _ w2 B X s v ps [p.abs]from⟨⟨v',[_],y,rfl,hv⟩,A⟩).from S⟩};by_cases c7:c=110;{subst c7;have V:((110:UInt8).toNat:Int)=110:=rfl;rw[V];clear h T nb Z c1 c2 c3 c4 E D U P1;go_in;go_wp2_with fail;refine Y.mono ?_;rintro e w2 ⟨rfl,v',y,A,hv⟩;clear Y;go_wp2_with fail;go_end0;exact⟨rfl,(show o9 _ w2 B X s v ps [p.abs]from⟨⟨v',[_],y,rfl,hv⟩,A⟩).from S⟩}
  have hS:rP c s=s:=by simp[rP,c1,c2,c3,c4]
  have hO:Ic c s p.abs=[] :=by simp[Ic,c3,c4,E,D,c7]
  have q1:((c.toNat:Int)==105)=false:=nb 105 c1;have q2:((c.toNat:Int)==122)=false:=nb 122 c2;have q3:((c.toNat:Int)==114)=false:=nb 114 c3;have q4:((c.toNat:Int)==116)=false:=nb 116 c4;have q5:((c.toNat:Int)==107)=false:=nb 107 E;have q6:((c.toNat:Int)==97)=false:=nb 97 D;have q7:((c.toNat:Int)==110)=false:=nb 110 c7;rw[hS,hO];have HR:Hid _:=U;clear h T nb Z c1 c2 c3 c4 E D c7 U P1 Y hS hO;go_in;go_wp2_with fail;go_end0;exact⟨rfl,o9.still HR.out S⟩
def LS.next(s:LS)(nx:Int):LS:=if nx<=3 then {s with st:=nx,ns:=s.fs,nm:=s.fm,sz:=255}else {s with st:=nx}
def Kept.tab {o:Option Nat} (k:Kept w w' B o)(h:kd w)(hB:B≠0)(Y:o≠μ 0):kd w':=λe s Z hs=>
 (ak (a:=⟨0,e*10+s,ν⟩) (k.block 0 h.lt fC Y)).trans (h e s Z hs)
def QM(B:Nat)(X:Nat->Prop)(s:LS)(v:fB)(ps:List PV)(p:PV)(ev:Int)(D:List UInt8)(nx:Int)(f:Nat)(w:fA)(Y:kd w)(h:tS w B X s v ps)(T:ki s.st ev=(D,nx,f))(hf:f≠0):
 gb gg 171 #[π (μ ⟨B,0,ν⟩),ι κ ev,.agg #[ι κ p.code,ι κ p.id,σ p.a p.n p.cap]] w λe w'=>e=ρ (.iface 128 (ι κ (f:Int)))/\fP w w':=by
  have V:=gu w (γ #[ι κ p.code,ι κ p.id,σ p.a p.n p.cap] 37);have U:=Kf s.st ev D nx f T _ (Y.below V);have Z:kr f=.iface 128 (ι κ (f:Int)):=by simp[kr,hf]
  rw[Z]at U;have hl:=h.lk.lt;have c6:w.cell? ⟨B,6,ν⟩=μ (ι κ s.st):=h.lk.cell 6;clear h Y Z;go_in;go_wp2_with fail;refine U.mono ?_;rintro e w1 ⟨rfl,m1,rfl⟩;go_wp2;go_ret;exact⟨rfl,below_drewN V _⟩
structure SE(w wr:fA)(B:Nat)(X:Nat->Prop)(Z:Nat)(v:fB)(ps:List PV)(p:PV)(S:ByteArray)(k:Nat)(sF:LS)(oF:List mH)(sk:LS)(vk:fB)(qs:List PV):Prop where
 rep:tS wr B X sk vk (ps++qs)
 bd:Bd sk (100+k)
 fin:sO (S.data.toList.drop k) sk=sF
 out:qs.map PV.abs++zU (S.data.toList.drop k) sk p.abs=oF
 AZ:xD wr X vk p
 kept:Kept w wr B v.ownBlock
 hv:∀g,vk.ownBlock=μ g->v.ownBlock=μ g \/w.heap.size<=g
 d0:wr.cell? ⟨Z,0,ν⟩=μ (ι κ p.code)
 d1:wr.cell? ⟨Z,1,ν⟩=μ (ι κ p.id)
 d2:wr.cell? ⟨Z,2,ν⟩=μ (σ p.a p.n p.cap)
 nz:vk.ownBlock≠μ Z
 few:qs.length<=k
def LQ(c:UInt8)(s:LS)(a:mH):(Ic c s a).length<=1:=by
 unfold Ic;split;{simp};split;{simp};split;{simp};split<;>simp
def LR {V:fA} {Z:Nat} {ps:List PV} {p:PV} {S:ByteArray} {sF:LS} {oF:List mH} {sk:LS} {vk:fB} {qs:List PV} {c:UInt8} {r:List UInt8}
 (Y:SE w wr B X Z v ps p S k sF oF sk vk qs) (E:S.data.toList.drop k=c::r) (hW:o9 wr.drew V B X (rP c sk) vk (ps++qs) (Ic c sk p.abs)) (Z9:fP wr wr.drew):
 ∃v2 q2,SE w V B X Z v ps p S (k+1) sF oF (rP c sk) v2 q2:=by
  obtain⟨⟨v2,q2,hR,h,hv⟩,hK⟩:=hW
  have hr:S.data.toList.drop (k+1)=r:=by
   have:=congrArg (List.drop 1) E;simpa using this
  have M:Kept wr V B vk.ownBlock:=(Kept.jY B vk.ownBlock Z9).trans hK (λi e=>.inl e);have T:∀j,V.cell? ⟨Z,j,ν⟩=wr.cell? ⟨Z,j,ν⟩:=λj=>ak (a:=⟨Z,j,ν⟩) (M.block Z (ai wr _ Y.d0) (λe=>by
   subst e;have U:=Y.d0;have A:=Y.d1;have J:=Y.d2;have y:wr.cell? ⟨Z,2,ν⟩=μ (ι κ sk.ns):=Y.rep.lk.cell 2;rw[J]at y;simp at y) Y.nz)
  have ud:wr.drew.heap.size=wr.heap.size:=rfl;refine⟨v2,qs++q2,by rw[<-aK];exact hR,?_,?_,?_,?_,?_,?_,(T 0).trans Y.d0,(T 1).trans Y.d1,(T 2).trans Y.d2,?_,?_⟩;{have:=Bd.act Y.bd fC c;exact⟨this.o1,this.o2,by have:=this.l1;push_cast;omega,by have:=this.l2;push_cast;omega⟩};{rw[hr,<-Y.fin,E];rfl};{rw[hr,<-Y.out,E,dr,h,aK];rfl};{exact Y.AZ.kept Y.rep.self M (λg D=>hv g D)};{refine Y.kept.trans M (λi e=> ?_);obtain U|U:=Y.hv i e;{exact .inl U};exact .inr U};{intro g D;obtain U|U:=hv g D;{exact Y.hv g U};exact .inr (au Y.kept.size U)};{intro e;obtain U|U:=hv Z e;{exact Y.nz U};have J:Z<wr.heap.size:=ai wr _ Y.d0;have A:wr.heap.size<=Z:=U;omega};rw[aG];have U:q2.length=(Ic c sk p.abs).length:=by rw[<-h];simp
  have A:=LQ c sk p.abs;have J:=Y.few;omega
def VN(B:Nat)(X:Nat->Prop)(s:LS)(v:fB)(ps:List PV)(p:PV)(ev:Int)(S:ByteArray)(nx:Int)(w:fA)(hT:kd w)(h:tS w B X s v ps)(y:Bd s 100)(hp:xD w X v p)(hn:ps.length<=50)(hR:ki s.st ev=(S.data.toList,nx,0))(hS:S.size<=4):
 gb gg 171 #[π (μ ⟨B,0,ν⟩),ι κ ev,.agg #[ι κ p.code,ι κ p.id,σ p.a p.n p.cap]] w λe w'=>e=ρ η/\o9 w w' B X (sO S.data.toList (s.next nx)) v ps (zU S.data.toList (s.next nx) p.abs):=by
  have hk:=gu w (γ #[ι κ p.code,ι κ p.id,σ p.a p.n p.cap] 37);have hA:=λj=>ay w #[ι κ p.code,ι κ p.id,σ p.a p.n p.cap] 37 (0,0) j;have lz:=Kf s.st ev S.data.toList nx 0 hR _ (hT.below hk);have e0:kr 0=η:=rfl;have eS:(⟨S.data.toList.toArray⟩:ByteArray)=S:=gZ;rw[e0,eS]at lz;have hl:=h.lk.lt;have Z8:=h.row.lt;have c6:w.cell? ⟨B,6,ν⟩=μ (ι κ s.st):=h.lk.cell 6;have h0:=h.below hk;have hp0:=hp.kept h.self (Kept.jY B v.ownBlock hk) (λ_ e=>.inl e);obtain⟨M,hsF⟩:=fH (sO S.data.toList (s.next nx));obtain⟨J,hoF⟩:=fH (zU S.data.toList (s.next nx) p.abs);rw[hsF,hoF];have HsF:Hid _:=hsF;have HoF:Hid _:=hoF;clear hsF hoF;go_in;go_wp2_with fail;refine lz.mono ?_;rintro e w1 ⟨rfl,m1,rfl⟩;obtain⟨U,lK⟩:=fH ((w.alloc (γ #[ι κ p.code,ι κ p.id,σ p.a p.n p.cap] 37)).drewN m1);obtain⟨Z,hZ⟩:=fH (w.heap.size);have d0:U.cell? ⟨Z,0,ν⟩=μ (ι κ p.code):=by rw[<-lK,<-hZ];exact hA 0
  have d1:U.cell? ⟨Z,1,ν⟩=μ (ι κ p.id):=by rw[<-lK,<-hZ];exact hA 1
  have d2:U.cell? ⟨Z,2,ν⟩=μ (σ p.a p.n p.cap):=by rw[<-lK,<-hZ];exact hA 2
  have lU:fP w U:=by rw[<-lK];exact below_drewN hk m1
  have T:tS U B X s v ps:=h.below lU;have D8:xD U X v p:=hp.kept h.self (Kept.jY B v.ownBlock lU) (λ_ e=>.inl e);have Zv:=Kept.jY B v.ownBlock lU;rw[lK,hZ];have zV:B≠Z:=fC;have hnz:v.ownBlock≠μ Z:=λe=>by have:=Z8 Z e;omega
  clear lz lK hZ hA h0 hk h c6 hl e0 eS hT hp hp0 lU Z8;have Z6:=T.lk.lt;have c0:U.cell? ⟨B,0,ν⟩=μ (ι κ s.fs):=T.lk.cell 0;have c1:U.cell? ⟨B,1,ν⟩=μ (ι κ s.fm):=T.lk.cell 1;have c2:U.cell? ⟨B,2,ν⟩=μ (ι κ s.ns):=T.lk.cell 2;have c3:U.cell? ⟨B,3,ν⟩=μ (ι κ s.nm):=T.lk.cell 3;have c6:U.cell? ⟨B,6,ν⟩=μ (ι κ s.st):=T.lk.cell 6;have c7:U.cell? ⟨B,7,ν⟩=μ (ι κ s.sz):=T.lk.cell 7;have fz:∀j,U.frozen? ⟨B,j,ν⟩=false:=T.lk.frozen
  have tail:∀(A:fA) (s2:LS),tS A B X s2 v ps->Kept U A B v.ownBlock->s.next nx=s2->Bd s2 100->SE w A B X Z v ps p S 0 M J s2 v [] :=by
   intro A s2 Hz Ie Lw oB;have Fc:∀j,A.cell? ⟨Z,j,ν⟩=U.cell? ⟨Z,j,ν⟩:=λj=>ak (a:=⟨Z,j,ν⟩) (Ie.block Z (ai U _ d0) (λe=>zV e.symm) hnz);exact⟨by rw[aF];exact Hz,⟨oB.o1,oB.o2,by have:=oB.l1;omega,by have:=oB.l2;omega⟩,by rw[<-HsF.out,Lw];rfl,by rw[<-HoF.out,Lw];rfl,D8.kept T.self Ie (λ_ e=>.inl e),Zv.trans Ie (λi e=>.inl e),λ_ e=>.inl e,(Fc 0).trans d0,(Fc 1).trans d1,(Fc 2).trans d2,hnz,aj _⟩
  have HT:Hid _:=tail;clear tail;clear HsF HoF;by_cases hx:nx<=3
  ·have M0:Hid (SE w ((((U.setCell ⟨B,6,ν⟩ (ι κ nx)).setCell ⟨B,2,ν⟩ (ι κ s.fs)).setCell ⟨B,3,ν⟩ (ι κ s.fm)).setCell ⟨B,7,ν⟩ (ι κ 255)) B X Z v ps p S 0 M J {s with st:=nx,ns:=s.fs,nm:=s.fm,sz:=255} v []):=
    HT.out _ _ ((((T.nj 6 _ {s with st:=nx} rfl).nj 2 _ {s with st:=nx,ns:=s.fs} rfl).nj 3 _ {s with st:=nx,ns:=s.fs,nm:=s.fm} rfl).nj 7 _ _ rfl) (mJ (mJ (mJ (mJ (Kept.refl _ B _) 6 _) 2 _) 3 _) 7 _) (by simp[LS.next,hx]) ⟨y.o1,y.o2,y.l1,y.l2⟩
   clear HT T Zv D8;go_wp2_with fail;obtain⟨A,oW⟩:=fH (((((U.setCell ⟨B,6,ν⟩ (ι κ nx)).setCell ⟨B,2,ν⟩ (ι κ s.fs)).setCell ⟨B,3,ν⟩ (ι κ s.fm)).setCell ⟨B,7,ν⟩ (ι κ 255)));have M1:Hid (SE w A B X Z v ps p S 0 M J {s with st:=nx,ns:=s.fs,nm:=s.fm,sz:=255} v []):=by show SE _ _ _ _ _ _ _ _ _ _ _ _ _ _ _;rw[<-oW];exact M0.out
   rw[oW];clear M0 oW d0 d1 d2 c0 c1 c2 c3 c6 c7 fz;go_loopw [42] (λi wr=>∃(k:Nat) (E:LS) (D:fB) (qs:List PV),k<=S.size/\i=ι κ k/\SE w wr B X Z v ps p S k M J E D qs) (λi _=>S.size-(gj i).toNat);(case atStart=>exact⟨0,_,v,[],aw _,rfl,M1.out⟩)
   case round=>
    obtain⟨k,E,D,qs,hk,rfl,Y⟩:=hrel;by_cases lZ:k<S.size
    ·have pE:(k:Int)<(S.size:Int):=fC;have IV:(0:Int)<=(k:Int):=fC
     have HD:Hid (S.data.toList.drop k=S[k] ::S.data.toList.drop (k+1)):=by
      show _=_;rw[a9 (by simpa using lZ)];rfl
     obtain⟨x0,x1,x2⟩:=gp Y.d0 (gp Y.d1 Y.d2);have xl:Z<wr.heap.size:=ai wr _ x0;have Z9:fP wr wr.drew:=kN (aC _ _);have HC:=Ey S[k] B X E D (ps++qs) p wr.drew (Y.rep.below Z9) ⟨Y.bd.o1,Y.bd.o2,by have:=Y.bd.l1;omega,by have:=Y.bd.l2;omega⟩ (Y.AZ.kept Y.rep.self (Kept.jY B D.ownBlock Z9) (λ_ e=>.inl e)) (by rw[aG];have:=Y.few;omega);go_wp2;go_region_with(go_at_call 208;refine HC.mono ?_;rintro e V ⟨rfl,hW⟩);all_goals(have M2:Hid (∃v2 q2,SE w V B X Z v ps p S (k+1) M J (rP S[k] E) v2 q2):=LR Y HD.out hW Z9;clear HC;go_wp2;go_roundw;(case rel=>obtain⟨v2,q2,vZ⟩:=M2.out;exact⟨k+1,_,v2,q2,fC,by go_num,vZ⟩);(case measure=>simp[gj];omega))
    have IW:S.data.toList.drop k=[] :=bB (by
     have:S.data.toList.length=S.size:=gZ;omega)
    have HF:Hid (o9 w wr B X M v ps J):=by
     have T:=Y.fin;have h2:=Y.out;rw[IW]at T h2;have h3:E=M:=T;subst h3;refine⟨⟨D,qs,Y.rep,by simpa[zU]using h2,Y.hv⟩,Y.kept⟩
    clear Y IW;go_wp2;go_ret;exact⟨rfl,HF.out⟩
  have M0:Hid (SE w (U.setCell ⟨B,6,ν⟩ (ι κ nx)) B X Z v ps p S 0 M J {s with st:=nx} v []):=
   HT.out _ _ (T.nj 6 _ _ rfl) (mJ (Kept.refl _ B _) 6 _) (by simp[LS.next,hx]) ⟨y.o1,y.o2,y.l1,y.l2⟩
  clear HT T Zv D8;go_wp2_with fail;obtain⟨A,oW⟩:=fH ((U.setCell ⟨B,6,ν⟩ (ι κ nx)));have M1:Hid (SE w A B X Z v ps p S 0 M J {s with st:=nx} v []):=by show SE _ _ _ _ _ _ _ _ _ _ _ _ _ _ _;rw[<-oW];exact M0.out
  rw[oW];clear M0 oW d0 d1 d2 c0 c1 c2 c3 c6 c7 fz;go_loopw [42] (λi wr=>∃(k:Nat) (E:LS) (D:fB) (qs:List PV),k<=S.size/\i=ι κ k/\SE w wr B X Z v ps p S k M J E D qs) (λi _=>S.size-(gj i).toNat);(case atStart=>exact⟨0,_,v,[],aw _,rfl,M1.out⟩)
  case round=>
   obtain⟨k,E,D,qs,hk,rfl,Y⟩:=hrel;by_cases lZ:k<S.size
   ·have pE:(k:Int)<(S.size:Int):=fC;have IV:(0:Int)<=(k:Int):=fC
    have HD:Hid (S.data.toList.drop k=S[k] ::S.data.toList.drop (k+1)):=by
     show _=_;rw[a9 (by simpa using lZ)];rfl
    obtain⟨x0,x1,x2⟩:=gp Y.d0 (gp Y.d1 Y.d2);have xl:Z<wr.heap.size:=ai wr _ x0;have Z9:fP wr wr.drew:=kN (aC _ _);have HC:=Ey S[k] B X E D (ps++qs) p wr.drew (Y.rep.below Z9) ⟨Y.bd.o1,Y.bd.o2,by have:=Y.bd.l1;omega,by have:=Y.bd.l2;omega⟩ (Y.AZ.kept Y.rep.self (Kept.jY B D.ownBlock Z9) (λ_ e=>.inl e)) (by rw[aG];have:=Y.few;omega);go_wp2;go_region_with(go_at_call 208;refine HC.mono ?_;rintro e V ⟨rfl,hW⟩);all_goals(have M2:Hid (∃v2 q2,SE w V B X Z v ps p S (k+1) M J (rP S[k] E) v2 q2):=LR Y HD.out hW Z9;clear HC;go_wp2;go_roundw;(case rel=>obtain⟨v2,q2,vZ⟩:=M2.out;exact⟨k+1,_,v2,q2,fC,by go_num,vZ⟩);(case measure=>simp[gj];omega))
   have IW:S.data.toList.drop k=[] :=bB (by
    have:S.data.toList.length=S.size:=gZ;omega)
   have HF:Hid (o9 w wr B X M v ps J):=by
    have T:=Y.fin;have h2:=Y.out;rw[IW]at T h2;have h3:E=M:=T;subst h3;refine⟨⟨D,qs,Y.rep,by simpa[zU]using h2,Y.hv⟩,Y.kept⟩
   clear Y IW;go_wp2;go_ret;exact⟨rfl,HF.out⟩
def zW(n:Int):Bool:=decide (0<=n)&&decide (n<=255)
def nP(n:Int)(w:fA):gb gg 226 #[ι κ n] w λe w'=>e=ρ (.bool (zW n))/\w=w':=by
 by_cases Y:0<=n
 ·by_cases V:n<=255
  ·have Z:zW n=true:=by simp[zW,Y,V]
   rw[Z];clear Z;go_in;go_wp2;go_ret;exact⟨by first|rfl|(simp;omega),rfl⟩
  have Z:zW n=false:=by simp[zW,V]
  rw[Z];clear Z;go_in;go_wp2;go_ret;exact⟨by first|rfl|(simp;omega),rfl⟩
 have Z:zW n=false:=by simp[zW,Y]
 rw[Z];clear Z;go_in;go_wp2;go_ret;exact⟨by first|rfl|(simp;omega),rfl⟩
def Df(k n K:Int)(bo:Nat)(w:fA)(SF:bo<w.heap.size)(h:w.cell? ⟨bo,0,ν⟩=μ (ι κ K)):
 gb gg 243 #[.agg #[ι κ k,ι κ n],π (μ ⟨bo,0,ν⟩)] w λe w'=>e=ρ (.bool (k==K))/\fP w w':=by
  go_in;go_wp2;go_ret;exact⟨rfl,(aC _ _).alloc (aj _) _⟩
def SG(a:Option fq)(n cap:Nat)(os:List kS)(K:Int)(bo:Nat)(w:fA)(hn:n<=1000000)(E:bo<w.heap.size)(h:w.cell? ⟨bo,0,ν⟩=μ (ι κ K))(T:kc w a n os):
 gb gg 254 #[σ a n cap,.func (.func 243) #[] #[π (μ ⟨bo,0,ν⟩)]] w λe w'=>∃r:Int,e=ρ (ι κ r)/\(decide (0<=r)=os.any (λo=>o.1==K))/\fP w w':=by
  go_in;go_wp2;go_loopw [8] (λi wr=>∃k:Nat,k<=n/\i=ι κ k/\(os.take k).any (λo=>o.1==K)=false/\fP w wr) (λi _=>n-(gj i).toNat);(case atStart=>exact⟨0,aw _,rfl,rfl,aC _ _⟩)
  case round=>
   obtain⟨k,hk,rfl,V,Y⟩:=hrel;have Z:Hid _:=V;clear V;by_cases lZ:k<n
   ·have B2:=T.below Y;obtain h0|⟨b,off,rfl,hc⟩:=B2.2;{omega};have y:k<os.length:=by rw[T.1];exact lZ
    obtain⟨c1,c2⟩:=hc k y;have D:wr.cell? ⟨bo,0,ν⟩=μ (ι κ K):=(Y.cell (p:=⟨bo,0,ν⟩) E).trans h;have U:bo<wr.heap.size:=aq E Y.size;have J:Hid (os.take (k+1)=os.take k++ [os[k]]):=aJ y;have M:Hid (os[k] ∈os):=aO _;generalize os[k] =o at c1 c2 J M;clear hc;have pE:(k:Int)<(n:Int):=fC;cases A:(o.1==K);{go_wp2_with fail;refine(Df o.1 o.2 K bo wr U D).mono ?_;rintro e w1 ⟨rfl,S⟩;go_wp2;go_roundw;(case rel=>exact⟨k+1,fC,by go_num,by rw[J.out,List.any_append,Z.out];simp[A],fQ Y S⟩);case measure=>simp[gj];omega};go_wp2_with fail;refine(Df o.1 o.2 K bo wr U D).mono ?_;rintro e w1 ⟨rfl,S⟩;go_wp2;go_ret;refine⟨_,rfl,?_,fQ Y S⟩;have h1:os.any (λo=>o.1==K)=true:=List.any_eq_true.mpr ⟨o,M.out,A⟩;rw[h1];simp
   have AX:os.take k=os:=aR (by rw[T.1];omega);rw[AX]at Z;go_wp2;go_ret;exact⟨-1,rfl,by rw[Z.out];rfl,Y⟩
def Kk(a:Option fq)(n cap:Nat)(os:List kS)(K:Int)(bo:Nat)(w:fA)(V:n<=1000000)(Z:bo<w.heap.size)(h:w.cell? ⟨bo,0,ν⟩=μ (ι κ K))(U:kc w a n os):
 gb gg 242 #[σ a n cap,.func (.func 243) #[] #[π (μ ⟨bo,0,ν⟩)]] w λe w'=>e=ρ (.bool (os.any (λo=>o.1==K)))/\fP w w':=by
  go_in;go_wp2_with fail;refine(SG a n cap os K bo w V Z h U).mono ?_;rintro e w1 ⟨r,rfl,T,Y⟩;go_wp2;go_ret;exact⟨by rw[<-T];rfl,Y⟩
def rQ:List kS->List kS->Nat
 |_,[] =>0
 |seen,o::r=>if(zW o.1&&zW o.2)=false then 1 else if seen.any (λx=>x.1==o.1)=true then 3 else rQ (seen++ [o]) r
def Cb(a:Option fq)(n cap:Nat)(os:List kS)(w:fA)(hn:n<=1000000)(LU:n<=cap)(y:kc w a n os):
 gb gg 227 #[σ a n cap] w λe w'=>e=ρ (kr (rQ [] os))/\fP w w':=by
  go_in;go_wp2;go_loopw [7] (λi wr=>∃k:Nat,k<=n/\i=ι κ k/\rQ [] os=rQ (os.take k) (os.drop k)/\fP w wr) (λi _=>n-(gj i).toNat);(case atStart=>exact⟨0,aw _,rfl,rfl,aC _ _⟩)
  case round=>
   obtain⟨k,hk,rfl,QN,S⟩:=hrel;have hF:Hid _:=QN;clear QN;by_cases lZ:k<n
   ·have E:=y.below S;have VO:=E.take k fC;obtain h0|⟨b,off,rfl,hc⟩:=E.2;{omega};have sM:k<os.length:=by rw[y.1];exact lZ
    obtain⟨c1,c2⟩:=hc k sM;have HT:Hid (os.take (k+1)=os.take k++ [os[k]]):=aJ sM;have U:Hid (os.drop k=os[k] ::os.drop (k+1)):=a9 sM;generalize os[k] =o at c1 c2 HT U;clear hc;have pE:(k:Int)<(n:Int):=fC;have J:fP w (wr.alloc (γ #[ι κ o.1,ι κ o.2] 276)):=S.alloc S.size _;have T:kc (wr.alloc (γ #[ι κ o.1,ι κ o.2] 276)) (μ ⟨b,off,ν⟩) k (os.take k):=VO.below ((aC _ _).alloc (aj _) _);have A:(wr.alloc (γ #[ι κ o.1,ι κ o.2] 276)).cell? ⟨wr.heap.size,0,ν⟩=μ (ι κ o.1):=ay wr #[ι κ o.1,ι κ o.2] 276 (0,0) 0;have M:=Kk (μ ⟨b,off,ν⟩) k cap (os.take k) o.1 wr.heap.size (wr.alloc (γ #[ι κ o.1,ι κ o.2] 276)) fC gZ A T;clear VO T E;cases V:zW o.1
    ·have Y:Hid (rQ [] os=1):=by
      show rQ [] os=1;rw[hF.out,U.out,rQ,ag (by simp[V])]
     go_wp2_with fail;refine(nP o.1 _).mono ?_;rintro e w1 ⟨rfl,rfl⟩;go_wp2_with fail;rw[Y.out];go_ret;exact⟨rfl,J⟩
    cases D:zW o.2
    ·have Y:Hid (rQ [] os=1):=by
      show rQ [] os=1;rw[hF.out,U.out,rQ,ag (by simp[D])]
     go_wp2_with fail;refine(nP o.1 _).mono ?_;rintro e w1 ⟨rfl,rfl⟩;go_wp2_with fail;refine(nP o.2 _).mono ?_;rintro e w1 ⟨rfl,rfl⟩;go_wp2_with fail;rw[Y.out];go_ret;exact⟨rfl,J⟩
    cases Z:(os.take k).any (λx=>x.1==o.1)
    ·have Y:Hid (rQ [] os=rQ (os.take (k+1)) (os.drop (k+1))):=by
      show rQ [] os=_;rw[hF.out,U.out,rQ,af (by simp[V,D]),af (by simp[Z]),HT.out]
     rw[Z]at M;clear Z;go_wp2_with fail;refine(nP o.1 _).mono ?_;rintro e w1 ⟨rfl,rfl⟩;go_wp2_with fail;refine(nP o.2 _).mono ?_;rintro e w1 ⟨rfl,rfl⟩;go_wp2_with fail;refine M.mono ?_;rintro e w1 ⟨rfl,h⟩;go_wp2;go_roundw;(case rel=>exact⟨k+1,fC,by go_num,Y.out,fQ J h⟩);case measure=>simp[gj];omega
    have Y:Hid (rQ [] os=3):=by
     show rQ [] os=3;rw[hF.out,U.out,rQ,af (by simp[V,D]),ag Z]
    rw[Z]at M;clear Z;go_wp2_with fail;refine(nP o.1 _).mono ?_;rintro e w1 ⟨rfl,rfl⟩;go_wp2_with fail;refine(nP o.2 _).mono ?_;rintro e w1 ⟨rfl,rfl⟩;go_wp2_with fail;refine M.mono ?_;rintro e w1 ⟨rfl,h⟩;go_wp2_with fail;rw[Y.out];go_ret;exact⟨rfl,fQ J h⟩
   have Y:Hid (rQ [] os=0):=by
    show rQ [] os=0;have IW:os.drop k=[] :=bB (by rw[y.1];omega);rw[hF.out,IW,rQ]
   go_wp2_with fail;rw[Y.out];go_ret;exact⟨rfl,S⟩
def lg(code id:Int)(os:List kS):Nat:=
 if code<1 \/6<code \/zW id=false then 1
 else if 8<os.length then 2
 else if 5<=code/\0<os.length then 3
 else rQ [] os
def wa(code id:Int)(a:Option fq)(n cap:Nat)(os:List kS)(w:fA)(D:n<=1000000)(M:n<=cap)(T:kc w a n os):
 gb gg 209 #[.agg #[ι κ code,ι κ id,σ a n cap]] w λe w'=>e=ρ (kr (lg code id os))/\fP w w':=by
  have hl:=T.1;have Y:fP w (w.alloc (γ #[ι κ code,ι κ id,σ a n cap] 37)):=(aC _ _).alloc (aj _) _;have S:=Cb a n cap os (w.alloc (γ #[ι κ code,ι κ id,σ a n cap] 37)) D M (T.below Y);by_cases J:code<1
  ·have Z:Hid (lg code id os=1):=by show lg code id os=1;simp[lg,J]
   go_in;go_wp2_with fail;rw[Z.out];go_ret;exact⟨rfl,Y⟩
  by_cases E:6<code
  ·have Z:Hid (lg code id os=1):=by show lg code id os=1;simp[lg,E]
   go_in;go_wp2_with fail;rw[Z.out];go_ret;exact⟨rfl,Y⟩
  cases V:zW id
  ·have Z:Hid (lg code id os=1):=by show lg code id os=1;simp[lg,V]
   go_in;go_wp2_with fail;refine(nP id _).mono ?_;rintro e w1 ⟨rfl,rfl⟩;go_wp2_with fail;rw[Z.out];go_ret;exact⟨rfl,Y⟩
  by_cases h4:(8:Int)<(n:Int)
  ·have Z:Hid (lg code id os=2):=by
    show lg code id os=2;rw[lg,af (by simp[V];omega),ag fC]
   go_in;go_wp2_with fail;refine(nP id _).mono ?_;rintro e w1 ⟨rfl,rfl⟩;go_wp2_with fail;rw[Z.out];go_ret;exact⟨rfl,Y⟩
  by_cases h5:5<=code
  ·by_cases h6:(0:Int)<(n:Int)
   ·have Z:Hid (lg code id os=3):=by
     show lg code id os=3;rw[lg,af (by simp[V];omega),af fC,ag fC]
    go_in;go_wp2_with fail;refine(nP id _).mono ?_;rintro e w1 ⟨rfl,rfl⟩;go_wp2_with fail;rw[Z.out];go_ret;exact⟨rfl,Y⟩
   have Z:Hid (lg code id os=rQ [] os):=by
    show lg code id os=_;rw[lg,af (by simp[V];omega),af fC,af fC]
   go_in;go_wp2_with fail;refine(nP id _).mono ?_;rintro e w1 ⟨rfl,rfl⟩;go_wp2_with fail;refine S.mono ?_;rintro e w1 ⟨rfl,U⟩;go_wp2_with fail;rw[Z.out];go_ret;exact⟨rfl,fQ Y U⟩
  have Z:Hid (lg code id os=rQ [] os):=by
   show lg code id os=_;rw[lg,af (by simp[V];omega),af fC,af fC]
  go_in;go_wp2_with fail;refine(nP id _).mono ?_;rintro e w1 ⟨rfl,rfl⟩;go_wp2_with fail;refine S.mono ?_;rintro e w1 ⟨rfl,U⟩;go_wp2_with fail;rw[Z.out];go_ret;exact⟨rfl,fQ Y U⟩
def Cc(a b:Option fq)(ca y n m:Nat)(os qs:List kS)(w:fA)(J:kc w a n os)(E:kc w b m qs)(hn:n<=1000000)(hm:m<=1000000):
 gb gg 230 #[σ a n ca,σ b m y] w λe w'=>e=ρ (.bool (decide (os=qs)))/\∃k,w'=w.drewN k:=by
  have hl:=J.1;have Kh:=E.1;by_cases A:n=m
  ·subst A;have heq:((n:Int) !=(n:Int))=false:=gZ;go_in;go_wp2;go_loopw [13] (λi wr=>∃k m:Nat,k<=n/\i=ι κ k/\os.take k=qs.take k/\wr=w.drewN m) (λi _=>n-(gj i).toNat);(case atStart=>exact⟨0,0,aw _,rfl,rfl,rfl⟩)
   case round=>
    obtain⟨k,m,hk,rfl,M,rfl⟩:=hrel;have S:Hid _:=M;clear M;by_cases lZ:k<n
    ·obtain hA|⟨b1,o1,rfl,hA⟩:=J.2;{omega};obtain V|⟨b2,o2,rfl,V⟩:=E.2;{omega};obtain⟨c1,c2⟩:=hA k fC;obtain⟨c3,c4⟩:=V k fC;have U:Hid (os.take (k+1)=os.take k++ [os[k]'(by omega)]):=aJ fC;have T:Hid (qs.take (k+1)=qs.take k++ [qs[k]'(by omega)]):=aJ fC;have Y:Hid (os=qs->os[k]'(by omega)=qs[k]'(by omega)):=λh=>by subst h;rfl
     clear hA V;generalize os[k]'(by omega)=o at c1 c2 U Y;generalize qs[k]'(by omega)=q at c3 c4 T Y;have pE:(k:Int)<(n:Int):=fC;cases q1:(o.1==q.1)
     ·have Z:Hid (decide (os=qs)=false):=by
       show _=_;rw[b9];intro h;have:=Y.out h;rw[this]at q1;simp at q1
      go_wp2;go_quiet(fail);go_wp2_with fail;rw[Z.out];go_ret;exact⟨rfl,_,drewN_drewN _ _ _⟩
     cases q2:(o.2==q.2)
     ·have Z:Hid (decide (os=qs)=false):=by
       show _=_;rw[b9];intro h;have:=Y.out h;rw[this]at q2;simp at q2
      go_wp2;go_quiet(fail);go_wp2_with fail;rw[Z.out];go_ret;exact⟨rfl,_,drewN_drewN _ _ _⟩
     have D:Hid (os.take (k+1)=qs.take (k+1)):=by
      show _=_;rw[U.out,T.out,S.out];simp at q1 q2;congr 2;exact bq q1 q2
     go_wp2;go_quiet(fail);go_wp2;go_roundw;(case rel=>exact⟨k+1,_,fC,by go_num,D.out,rfl⟩);case measure=>simp[gj];omega
    have vj:decide (os=qs)=true:=by
     have h1:os.take k=os:=aR fC;have h2:qs.take k=qs:=aR fC;have:=S.out;rw[h1,h2]at this;simp[this]
    go_wp2_with fail;rw[vj];go_ret;exact⟨rfl,m,rfl⟩
  have heq:((n:Int) !=(m:Int))=true:=by simp;omega
  have Z:decide (os=qs)=false:=by
   rw[b9];intro h;subst h;omega
  rw[Z];go_in;go_wp2;go_ret;exact⟨rfl,0,rfl⟩
def pN(s:LS)(ev:Int):LS:=sO (ki s.st ev).1 (s.next (ki s.st ev).2.1)
def rF(s:LS)(ev:Int)(AZ:mH):List mH:=zU (ki s.st ev).1 (s.next (ki s.st ev).2.1) AZ
def Cd(s e:Int):(ki s e).1.length<=4:=by
 unfold ki;split;{simp};rename_i h;exact(show∀e<12,∀s<10,(ni s e).1.length<=4 by decide+kernel) e.toNat fC s.toNat fC
def A0(B:Nat)(X:Nat->Prop)(s:LS)(v:fB)(ps:List PV)(p:PV)(ev:Int)(w:fA)(Y:kd w)(h:tS w B X s v ps)(V:Bd s 100)(T:xD w X v p)(U:ps.length<=50)(hf:(ki s.st ev).2.2=0):
 gb gg 171 #[π (μ ⟨B,0,ν⟩),ι κ ev,.agg #[ι κ p.code,ι κ p.id,σ p.a p.n p.cap]] w λe w'=>e=ρ η/\o9 w w' B X (pN s ev) v ps (rF s ev p.abs):=by
  have hl:=Cd s.st ev;unfold pN rF;obtain⟨D,nx,f,Z⟩:∃D nx f,ki s.st ev=(D,nx,f):=⟨_,_,_,rfl⟩
  rw[Z]at hf hl⊢;simp only at hf hl⊢;subst hf;exact VN B X s v ps p ev ⟨D.toArray⟩ nx w Y h V T U Z (by show D.toArray.size<=4;simpa using hl)
def oX:List kS->Int
 |[] =>255
 |o::r=>if o.1=1 then o.2 else oX r
def Oo(a:Option fq)(n cap:Nat)(os:List kS)(w:fA)(hn:n<=1000000)(U:kc w a n os):
 gb gg 229 #[σ a n cap] w λe w'=>e=ρ (ι κ (oX os))/\fP w w':=by
  go_in;go_wp2;go_loopw [7] (λi wr=>∃k:Nat,k<=n/\i=ι κ k/\oX os=oX (os.drop k)/\fP w wr) (λi _=>n-(gj i).toNat);(case atStart=>exact⟨0,aw _,rfl,rfl,aC _ _⟩)
  case round=>
   obtain⟨k,hk,rfl,T,Y⟩:=hrel;have hF:Hid _:=T;clear T;by_cases D:k<n
   ·have J:=U.below Y;obtain h0|⟨b,off,rfl,hc⟩:=J.2;{omega};have M:k<os.length:=by rw[U.1];exact D
    obtain⟨c1,c2⟩:=hc k M;have V:Hid (os.drop k=os[k] ::os.drop (k+1)):=a9 M;generalize os[k] =o at c1 c2 V;clear hc;have pE:(k:Int)<(n:Int):=fC;have S:=Y.alloc Y.size (γ #[ι κ o.1,ι κ o.2] 276);cases q1:(o.1==1)
    ·have Z:Hid (oX os=oX (os.drop (k+1))):=by
      show _=_;rw[hF.out,V.out,oX,af (by simpa using q1)]
     go_wp2;go_roundw;(case rel=>exact⟨k+1,fC,by go_num,Z.out,S⟩);case measure=>simp[gj];omega
    have Z:Hid (oX os=o.2):=by
     show _=_;rw[hF.out,V.out,oX,ag (by simpa using q1)]
    go_wp2_with fail;rw[Z.out];go_ret;exact⟨rfl,S⟩
   have Z:Hid (oX os=255):=by
    show _=_;have E:os.drop k=[] :=bB (by rw[U.1];omega);rw[hF.out,E,oX]
   go_wp2_with fail;rw[Z.out];go_ret;exact⟨rfl,Y⟩
def LS.sized(s:LS)(os:List kS):LS:=if 6<=s.st then {s with sz:=oX os}else s
def LV(B:Nat)(X:Nat->Prop)(s:LS)(v:fB)(ps:List PV)(id:Int)(a:Option fq)(n cap:Nat)(os:List kS)(w:fA)(hT:kd w)(h:tS w B X s v ps)(hb:Bd s 100)(hn:ps.length<=50)
 (ho:kc w a n os) (wO:∀k,wN a n=μ k->¬X k/\v.ownBlock≠μ k/\k<w.heap.size) (lR:mG a cap) (B4:n<=1000) (m1:0<=s.nm) (m2:s.nm<=255) (hj:nY s.nm os=(2,os)) (hf:(ki s.st 6).2.2=0):
 gb gg 211 #[π (μ ⟨B,0,ν⟩),.agg #[ι κ 1,ι κ id,σ a n cap]] w λe w'=>e=ρ η/\o9 w w' B X ((pN s 6).sized os) v ps (rF s 6 (2,id,os)):=by
  have hk:=gu w (γ #[ι κ 1,ι κ id,σ a n cap] 37);have hA:=λj=>ay w #[ι κ 1,ι κ id,σ a n cap] 37 (0,0) j;have hl:=h.lk.lt;have Z8:=h.row.lt;have T:=h.below hk;have hz:∀w:fA,(zeroValue 37).run gg w=.ok (.agg #[ι κ 0,ι κ 0,σ ν 0 0]) w:=λw=>iV;have hol:=ho.1;obtain⟨U,lK⟩:=fH (w.alloc (γ #[ι κ 1,ι κ id,σ a n cap] 37));obtain⟨Z,hZ⟩:=fH (w.heap.size);have d1:U.cell? ⟨Z,1,ν⟩=μ (ι κ id):=by rw[<-lK,<-hZ];exact hA 1
  have d2:U.cell? ⟨Z,2,ν⟩=μ (σ a n cap):=by rw[<-lK,<-hZ];exact hA 2
  rw[lK]at T hk;have zV:B≠Z:=fC;have hnz:v.ownBlock≠μ Z:=λe=>by have:=Z8 Z e;omega
  have HW:Hid _:=lK;have HZ:Hid _:=hZ;clear hA lK hZ hl;have c2:U.cell? ⟨B,2,ν⟩=μ (ι κ s.ns):=T.lk.cell 2;have c3:U.cell? ⟨B,3,ν⟩=μ (ι κ s.nm):=T.lk.cell 3;have Z6:=T.lk.lt;have Lv:Z<U.heap.size:=ai U _ d1;have Sn:=T.old;have xm:=T.self;have hJ:=IQ s.ns s.nm a n cap os U.drew m1 m2 fC lR (ho.below (kN hk));rw[hj]at hJ;go_in;go_wp2_with fail;rw[HW.out,HZ.out];go_region_with(go_at_call 228;refine hJ.mono ?_;rintro e w2 ⟨u,rfl,hM⟩)
  all_goals
   obtain⟨a',n',kE,rfl,hP⟩:=Kj (X:=X) (v:=v) 2 id hM (show os.length<=1000 by omega) Sn (λk hk3=>aq (Z8 k hk3) hk.size);have A:fP U w2:=fQ (kN (aC _ _)) hM.below;have R2:=T.below A;have d1':w2.cell? ⟨Z,1,ν⟩=μ (ι κ id):=(A.cell (p:=⟨Z,1,ν⟩) Lv).trans d1;have d2':w2.cell? ⟨Z,2,ν⟩=μ (σ a n cap):=(A.cell (p:=⟨Z,2,ν⟩) Lv).trans d2;have Kl:Z<w2.heap.size:=ai w2 _ d1';have SH:=gu w2 (γ #[ι κ 2,ι κ id,σ a' n' kE] 37);have D:=fQ hk (fQ A SH);have R3:=R2.below SH;have P3:=hP.kept xm (Kept.jY B v.ownBlock SH) (λ_ e=>.inl e);have HC:=A0 B X s v ps ⟨2,id,a',n',kE,os⟩ 6 _ (hT.below D) R3 hb P3 hn hf;have S:=(SH.cell (p:=⟨Z,2,ν⟩) Kl).trans d2';have A1:=ho.below D;have agU:Z<(w2.alloc (γ #[ι κ 2,ι κ id,σ a' n' kE] 37)).heap.size:=ai _ _ S;clear hM hP R2 A c2 c3 d1 d2 T hJ R3 P3;go_wp2_with fail;refine HC.mono ?_;rintro e E ⟨rfl,hW⟩;obtain⟨⟨v',qs,Y,ho4,hv4⟩,V⟩:=hW;have c6:E.cell? ⟨B,6,ν⟩=μ (ι κ (pN s 6).st):=Y.lk.cell 6;have z2:E.cell? ⟨Z,2,ν⟩=μ (σ a n cap):=(ak (a:=⟨Z,2,ν⟩) (V.block Z agU (λe=>zV e.symm) hnz)).trans S;have Zx:kc E a n os:=A1.QI (λk hk4=>by obtain⟨q1,q2,q3⟩:=wO k hk4;exact V.block k (aq q3 D.size) (λe=>q1 (by rw[e];exact xm)) q2);have hl4:=Y.lk.lt;have arp:Z<E.heap.size:=ai E _ z2;have M:Kept w E B v.ownBlock:=(Kept.jY B v.ownBlock D).trans V (λi e=>.inl e)
   have hvv:∀g,v'.ownBlock=μ g->v.ownBlock=μ g \/w.heap.size<=g:=λg hg=>by
    obtain e|e:=hv4 g hg;{exact .inl e};exact .inr (au D.size e)
   clear HC hv4 V A1 S d2' d1' Kl agU SH D;obtain⟨s',J⟩:∃s',pN s 6=s':=⟨_,rfl⟩
   rw[J]at Y c6;have HS:Hid _:=J;clear J;by_cases h6:6<=s'.st
   ·go_wp2_with fail;refine(Oo a n cap os E fC Zx).mono ?_;rintro e w5 ⟨rfl,k5⟩;have y:=Y.below k5;have c7:w5.cell? ⟨B,7,ν⟩=μ (ι κ s'.sz):=y.lk.cell 7;have fz:∀j,w5.frozen? ⟨B,j,ν⟩=false:=y.lk.frozen;have hl5:=y.lk.lt;have HR6:Hid (tS (w5.setCell ⟨B,7,ν⟩ (ι κ (oX os))) B X {s' with sz:=oX os} v' (ps++qs)):=y.nj 7 _ _ rfl;have HK6:Hid (Kept w (w5.setCell ⟨B,7,ν⟩ (ι κ (oX os))) B v.ownBlock):=mJ (M.trans (Kept.jY B v.ownBlock k5) (λi e=>.inl e)) 7 _;clear y Y M k5 Zx z2 c6;go_wp2;go_ret;rw[HS.out];have e6:s'.sized os={s' with sz:=oX os}:=by simp[LS.sized,h6]
    rw[e6];exact⟨rfl,⟨v',qs,HR6.out,ho4,hvv⟩,HK6.out⟩
   ·go_wp2;go_ret;rw[HS.out];have e6:s'.sized os=s':=by unfold LS.sized;rw[af fC]
    rw[e6];exact⟨rfl,⟨v',qs,Y,ho4,hvv⟩,M⟩
def aae(B:Nat)(X:Nat->Prop)(s:LS)(v:fB)(ps:List PV)(w:fA)(h:tS w B X s v ps):
 gb gg 174 #[π (μ ⟨B,0,ν⟩)] w λe w'=>e=ρ v/\tS w' B X s (σ ν 0 0) [] /\Row w' 3 v ps.length (SB ps)/\(∀p∈ps,xD w' X v p)/\Kept w w' B ν:=by
  have hl:=h.lk.lt;have Z7:w.cell? ⟨B,11,ν⟩=μ v:=h.lk.cell 11;have fz:∀j,w.frozen? ⟨B,j,ν⟩=false:=h.lk.frozen;have Z:Kept w (w.setCell ⟨B,11,ν⟩ (σ ν 0 0)) B ν:=mJ (Kept.refl w B _) 11 _;have T:Kept w (w.setCell ⟨B,11,ν⟩ (σ ν 0 0)) B v.ownBlock:=mJ (Kept.refl w B _) 11 _;have M:Hid (tS (w.setCell ⟨B,11,ν⟩ (σ ν 0 0)) B X s (σ ν 0 0) []):=⟨h.lk.set 11 _,Row.nil _ 3,λg J=>by simp[fD]at J,h.self,λk V=>aq (h.old k V) Z.size,λp U=>by simp at U⟩
  have S:Hid (Row (w.setCell ⟨B,11,ν⟩ (σ ν 0 0)) 3 v ps.length (SB ps)):=h.row.keep Z.size (λk Y=>ax _ _ _ k (λe=>h.ne (by rw[Y];exact congrArg μ e)));have HP:Hid (∀p∈ps,xD (w.setCell ⟨B,11,ν⟩ (σ ν 0 0)) X v p):=λp U=>(h.pk p U).kept h.self T (λ_ e=>.inl e);clear h T;go_in;go_wp2;go_ret;exact⟨rfl,M.out,S.out,HP.out,Z⟩
def uH(w:fA):(zeroValue 37).run gg w=.ok (.agg #[ι κ 0,ι κ 0,σ ν 0 0]) w:=iV
def alF(ev:Int)(T:ev=0 \/ev=1 \/ev=2 \/ev=3)(B:Nat)(X:Nat->Prop)(s:LS)(v:fB)(ps:List PV)(w:fA)(Z:kd w)(h:tS w B X s v ps)(Y:Bd s 100)(U:ps.length<=50)(hf:(ki s.st ev).2.2=0):
 gb gg 120 #[π (μ ⟨B,0,ν⟩),ι κ ev] w λe w'=>e=ρ η/\o9 w w' B X (pN s ev) v ps (rF s ev (0,0,[])):=by
  have hz:=uH;have hc:=A0 B X s v ps ⟨0,0,ν,0,0,[]⟩ ev w Z h Y (tu _ _ _ _ _) U hf;clear h Z Y hf;obtain rfl|rfl|rfl|rfl:=T;all_goals(go_in;go_wp2_with fail;refine hc.mono ?_;rintro e w1 ⟨rfl,V⟩;clear hc;go_wp2;go_ret;exact⟨rfl,V⟩)
def IX(B:Nat)(X:Nat->Prop)(s:LS)(v:fB)(ps:List PV)(w:fA)(h:tS w B X s v ps):
 gb gg 114 #[π (μ ⟨B,0,ν⟩)] w λe w'=>e=ρ (ι κ s.st)/\w=w':=by
  have hl:=h.lk.lt;have c6:w.cell? ⟨B,6,ν⟩=μ (ι κ s.st):=h.lk.cell 6;clear h;go_in;go_wp2;go_ret;exact⟨rfl,rfl⟩
def lS(s:LS):LS:=if(decide (4<=s.st)&&decide (s.st<=8))=false then s else if 0<s.wt-1 then {s with wt:=s.wt-1}else if 0<s.lf then pN {s with wt:=s.wt-1} 4 else pN {s with wt:=s.wt-1} 5
def nD(s:LS):List mH:=if(decide (4<=s.st)&&decide (s.st<=8))=false then []else if 0<s.wt-1 then []else if 0<s.lf then rF {s with wt:=s.wt-1} 4 (0,0,[])else rF {s with wt:=s.wt-1} 5 (0,0,[])
def LW:∀s:Nat,4<=s->s<=8->(ni s 4).2.2=0/\(ni s 5).2.2=0:=by
 intro s Z h2;exact(show∀s<9,4<=s->(ni s 4).2.2=0/\(ni s 5).2.2=0 by decide+kernel) s fC Z
def VP(B:Nat)(X:Nat->Prop)(s:LS)(v:fB)(ps:List PV)(w:fA)(hT:kd w)(hB:B≠0)(Vh:v.ownBlock≠μ 0)(h:tS w B X s v ps)(M:Bd s 100)(hn:ps.length<=50)(w1: -1000<=s.wt)(w2:s.wt<=1000):
 gb gg 147 #[π (μ ⟨B,0,ν⟩)] w λe w'=>e=ρ (τ #[])/\o9 w w' B X (lS s) v ps (nD s):=by
  have hz:=uH;have hl:=h.lk.lt;have c6:w.cell? ⟨B,6,ν⟩=μ (ι κ s.st):=h.lk.cell 6;have c8:w.cell? ⟨B,8,ν⟩=μ (ι κ s.lf):=h.lk.cell 8;have c9:w.cell? ⟨B,9,ν⟩=μ (ι κ s.wt):=h.lk.cell 9;have fz:∀j,w.frozen? ⟨B,j,ν⟩=false:=h.lk.frozen;have S:=So s.st w;cases Z:(decide (4<=s.st)&&decide (s.st<=8))
  ·have Y:lS s=s:=by unfold lS;rw[ag Z]
   have V:nD s=[] :=by unfold nD;rw[ag Z]
   rw[Y,V];rw[Z]at S;have HW:Hid (o9 w w B X s v ps []):=o9.still h (Kept.refl _ _ _);clear h M Y V Z;go_in;go_wp2_with fail;refine S.mono ?_;rintro e w3 ⟨rfl,rfl⟩;go_wp2_with fail;refine nX rfl rfl ?_;exact⟨rfl,HW.out⟩
  have J:tS (w.setCell ⟨B,9,ν⟩ (ι κ (s.wt-1))) B X {s with wt:=s.wt-1} v ps:=h.nj 9 _ _ rfl;have A:Kept w (w.setCell ⟨B,9,ν⟩ (ι κ (s.wt-1))) B v.ownBlock:=mJ (Kept.refl _ _ _) 9 _;have U:=A.tab hT hB Vh;have D:Bd {s with wt:=s.wt-1} 100:=⟨M.o1,M.o2,M.l1,M.l2⟩
  have lz:4<=s.st/\s.st<=8:=by simpa using Z
  have y:(ki s.st 4).2.2=0/\(ki s.st 5).2.2=0:=by
   obtain⟨E,adP⟩:∃E:Nat,s.st=E:=⟨s.st.toNat,fC⟩
   rw[adP];have:=LW E fC fC;rw[show(4:Int)=((4:Nat):Int)from rfl,show(5:Int)=((5:Nat):Int)from rfl,oZ E 4 fC fF,oZ E 5 fC fF];exact this
  by_cases hw:0<s.wt-1
  ·have Y:lS s={s with wt:=s.wt-1}:=by unfold lS;rw[af (by rw[Z];simp),ag hw]
   have V:nD s=[] :=by unfold nD;rw[af (by rw[Z];simp),ag hw]
   rw[Y,V];rw[Z]at S;have HW:Hid (o9 w _ B X _ v ps []):=o9.still J A;clear h J M D Y V Z y lz U A;go_in;go_wp2_with fail;refine S.mono ?_;rintro e w3 ⟨rfl,rfl⟩;go_wp2_with fail;refine nX rfl rfl ?_;exact⟨rfl,HW.out⟩
  by_cases T:0<s.lf
  ·have Y:lS s=pN {s with wt:=s.wt-1} 4:=by unfold lS;rw[af (by rw[Z];simp),af hw,ag T]
   have V:nD s=rF {s with wt:=s.wt-1} 4 (0,0,[]):=by unfold nD;rw[af (by rw[Z];simp),af hw,ag T]
   rw[Y,V];rw[Z]at S;have hc:=A0 B X {s with wt:=s.wt-1} v ps ⟨0,0,ν,0,0,[]⟩ 4 _ U J D (tu _ _ _ _ _) hn y.1;clear h J M D Y V Z y lz U;go_in;go_wp2_with fail;refine S.mono ?_;rintro e w3 ⟨rfl,rfl⟩;go_wp2_with fail;refine hc.mono ?_;rintro e w4 ⟨rfl,hW⟩;clear hc;go_wp2_with fail;go_end0;exact⟨rfl,hW.from A⟩
  have Y:lS s=pN {s with wt:=s.wt-1} 5:=by unfold lS;rw[af (by rw[Z];simp),af hw,af T]
  have V:nD s=rF {s with wt:=s.wt-1} 5 (0,0,[]):=by unfold nD;rw[af (by rw[Z];simp),af hw,af T]
  rw[Y,V];rw[Z]at S;have hc:=A0 B X {s with wt:=s.wt-1} v ps ⟨0,0,ν,0,0,[]⟩ 5 _ U J D (tu _ _ _ _ _) hn y.2;clear h J M D Y V Z y lz U;go_in;go_wp2_with fail;refine S.mono ?_;rintro e w3 ⟨rfl,rfl⟩;go_wp2_with fail;refine hc.mono ?_;rintro e w4 ⟨rfl,hW⟩;clear hc;go_wp2_with fail;go_end0;exact⟨rfl,hW.from A⟩
def N1.set(h:N1 w B s m)(s' Z:Int):N1 ((w.setCell ⟨B,0,ν⟩ (ι κ s')).setCell ⟨B,1,ν⟩ (ι κ Z)) B s' Z:=by
 refine⟨?_,?_,?_,?_⟩;{exact(br _ ⟨B,1,ν⟩ ⟨B,0,ν⟩ _ gZ).trans (ew _ _ _ (by rw[h.c0];rfl))};{exact ew _ _ _ (by rw[br _ ⟨B,0,ν⟩ ⟨B,1,ν⟩ _ gZ,h.c1];rfl)};{simp[h.f0]};simp[h.f1]
def N1.other(h:N1 w B s m)(Z:B'≠B)(x y:fB):N1 ((w.setCell ⟨B',0,ν⟩ x).setCell ⟨B',1,ν⟩ y) B s m:=by
 refine⟨?_,?_,?_,?_⟩;{rw[aW _ _ _ _ Z,aW _ _ _ _ Z];exact h.c0};{rw[aW _ _ _ _ Z,aW _ _ _ _ Z];exact h.c1};{simp[h.f0]};simp[h.f1]
def VQ(sz mg code:Int)(a:Option fq)(n cap:Nat)(os:List kS)(w:fA)(hn:n<=1000000)(h:kc w a n os):
 gb gg 231 #[.agg #[ι κ sz,ι κ mg],ι κ code,σ a n cap] w λe w'=>
  e=ρ (.agg #[ι κ (qU code os (sz,mg)).1,ι κ (qU code os (sz,mg)).2])/\fP w w':=by
  have hz:=AW
  have P0:N1 ((w.alloc (γ #[ι κ sz,ι κ mg] 252)).alloc (γ #[ι κ 0,ι κ 0] 252)) w.heap.size sz mg:=by
   have hA:=λj=>ay w #[ι κ sz,ι κ mg] 252 (0,0) j;have hF:=λj=>dv w #[ι κ sz,ι κ mg] 252 0 0 j;exact N1.below ⟨hA 0,hA 1,by rw[hF];rfl,by rw[hF];rfl⟩ (gu _ _)
  have P1:N1 ((w.alloc (γ #[ι κ sz,ι κ mg] 252)).alloc (γ #[ι κ 0,ι κ 0] 252)) (w.heap.size+1) 0 0:=by
   have hA:=λj=>ay (w.alloc (γ #[ι κ sz,ι κ mg] 252)) #[ι κ 0,ι κ 0] 252 (0,0) j;have hF:=λj=>dv (w.alloc (γ #[ι κ sz,ι κ mg] 252)) #[ι κ 0,ι κ 0] 252 0 0 j;have e:(w.alloc (γ #[ι κ sz,ι κ mg] 252)).heap.size=w.heap.size+1:=gZ;rw[e]at hA hF;exact⟨hA 0,hA 1,by rw[hF];rfl,by rw[hF];rfl⟩
  have si:fP w ((w.alloc (γ #[ι κ sz,ι κ mg] 252)).alloc (γ #[ι κ 0,ι κ 0] 252)):=(gu _ _).alloc gZ _;go_in;go_wp2;go_loopw [11] (λi wr=>∃(k:Nat) (s m:Int),k<=n/\i=ι κ k/\qU code os (sz,mg)=qU code (os.drop k) (s,m)/\N1 wr w.heap.size s m/\N1 wr (w.heap.size+1) 0 0/\fP w wr) (λi _=>n-(gj i).toNat);(case atStart=>exact⟨0,sz,mg,aw _,rfl,rfl,P0,P1,si⟩)
  case round=>
   obtain⟨k,s,m,hk,rfl,Vj,hP,E,jS⟩:=hrel;have A:Hid _:=Vj;clear Vj P0 P1;have S:=hP;have Q1:=E;obtain⟨c0,c1,f0,f1⟩:=hP;obtain⟨d0,d1,g0,g1⟩:=E;have xR:w.heap.size<wr.heap.size:=ai wr _ c0;have Kg:w.heap.size+1<wr.heap.size:=ai wr _ d0;by_cases lZ:k<n
   ·have B2:=h.below jS;obtain h0|⟨b,off,rfl,hc⟩:=B2.2;{omega};have sM:k<os.length:=by rw[h.1];exact lZ
    obtain⟨e1,e2⟩:=hc k sM;have HD:Hid (os.drop k=os[k] ::os.drop (k+1)):=a9 sM;generalize os[k] =o at e1 e2 HD;clear hc;have pE:(k:Int)<(n:Int):=fC;have U:qU code os (sz,mg)=qU code (os.drop (k+1)) (lM code (s,m) o):=by rw[A.out,HD.out];rfl
    have Y:=gu wr (γ #[ι κ o.1,ι κ o.2] 276);have lU:=fQ jS Y;cases q4:(code==4)
    ·cases q3:(code==3)
     ·have hv:lM code (s,m) o=(s,m):=by simp at q3 q4;simp[lM,q3,q4]
      rw[hv]at U;have V:Hid _:=U;clear U hv;go_wp2;go_roundw;(case rel=>exact⟨k+1,s,m,fC,by go_num,V.out,S.below Y,Q1.below Y,lU⟩);case measure=>simp[gj];omega
     have T:code=3:=by simpa using q3
     have V:Hid (qU code os (sz,mg)=qU code (os.drop (k+1)) ((lM 3 (s,m) o).1,(lM 3 (s,m) o).2)):=by
      show _=_;rw[U,T]
     clear U T;go_wp2_with fail;refine(VK s m o.1 o.2 _).mono ?_;rintro e w1 ⟨rfl,Z⟩;have oB:=fQ lU Z;obtain⟨c0,c1,f0,f1⟩:=(S.below Y).below Z;obtain⟨d0,d1,g0,g1⟩:=(Q1.below Y).below Z;have xR:w.heap.size<w1.heap.size:=ai w1 _ c0;have y:=(((S.below Y).below Z).set (lM 3 (s,m) (o.1,o.2)).1 (lM 3 (s,m) (o.1,o.2)).2)
     have M:=(((Q1.below Y).below Z).other (B':=w.heap.size) fC (ι κ (lM 3 (s,m) (o.1,o.2)).1) (ι κ (lM 3 (s,m) (o.1,o.2)).2))
     have D:fP w ((w1.setCell ⟨w.heap.size,0,ν⟩ (ι κ (lM 3 (s,m) (o.1,o.2)).1)).setCell ⟨w.heap.size,1,ν⟩ (ι κ (lM 3 (s,m) (o.1,o.2)).2)):=(oB.setCell (aj _) _).setCell (aj _) _;go_wp2;go_roundw;(case rel=>exact⟨k+1,_,_,fC,by go_num,V.out,y,M,D⟩);case measure=>simp[gj];omega
    have T:code=4:=by simpa using q4
    have J:lM 4 (s,m) o=lM 4 (s,m) (o.1,0):=by simp[lM]
    have V:Hid (qU code os (sz,mg)=qU code (os.drop (k+1)) ((lM 4 (s,m) (o.1,0)).1,(lM 4 (s,m) (o.1,0)).2)):=by
     show _=_;rw[U,T,J]
    clear U T J;go_wp2_with fail;refine(LN s m o.1 _).mono ?_;rintro e w1 ⟨rfl,Z⟩;have oB:=fQ lU Z;obtain⟨c0,c1,f0,f1⟩:=(S.below Y).below Z;obtain⟨d0,d1,g0,g1⟩:=(Q1.below Y).below Z;have xR:w.heap.size<w1.heap.size:=ai w1 _ c0;have y:=(((S.below Y).below Z).set (lM 4 (s,m) (o.1,0)).1 (lM 4 (s,m) (o.1,0)).2)
    have M:=(((Q1.below Y).below Z).other (B':=w.heap.size) fC (ι κ (lM 4 (s,m) (o.1,0)).1) (ι κ (lM 4 (s,m) (o.1,0)).2))
    have D:fP w ((w1.setCell ⟨w.heap.size,0,ν⟩ (ι κ (lM 4 (s,m) (o.1,0)).1)).setCell ⟨w.heap.size,1,ν⟩ (ι κ (lM 4 (s,m) (o.1,0)).2)):=(oB.setCell (aj _) _).setCell (aj _) _;go_wp2;go_roundw;(case rel=>exact⟨k+1,_,_,fC,by go_num,V.out,y,M,D⟩);case measure=>simp[gj];omega
   have IW:os.drop k=[] :=bB (by rw[h.1];omega)
   have V:Hid (qU code os (sz,mg)=(s,m)):=by
    show _=_;rw[A.out,IW];rfl
   clear A IW;have D:fP w ((wr.setCell ⟨w.heap.size+1,0,ν⟩ (ι κ s)).setCell ⟨w.heap.size+1,1,ν⟩ (ι κ m)):=(jS.setCell gZ _).setCell gZ _;have M:=Q1.set s m;go_wp2_with fail;rw[V.out];obtain⟨r0,r1,_,_⟩:=M;refine aN (v:=.agg #[ι κ s,ι κ m]) (by simp[results,results231,go_sem,r0,r1]) rfl ?_;exact⟨rfl,D⟩
def vf(s:LS)(ev:Int)(AZ:mH):LS×List mH×Nat:=if(ki s.st ev).2.2=0 then(pN s ev,rF s ev AZ,0)else(s,[],(ki s.st ev).2.2)
def vL {s:LS} {ev:Int} (AZ:mH)(h:(ki s.st ev).2.2=0):vf s ev AZ=(pN s ev,rF s ev AZ,0):=by unfold vf;rw[ag h]
def xS {s:LS} {ev:Int} (AZ:mH)(h:(ki s.st ev).2.2≠0):vf s ev AZ=(s,[],(ki s.st ev).2.2):=by unfold vf;rw[af h]
def wh(B:Nat)(X:Nat->Prop)(s:LS)(v:fB)(ps:List PV)(p:PV)(ev:Int)(w:fA)(V:kd w)(h:tS w B X s v ps)(Z:Bd s 100)(T:xD w X v p)(U:ps.length<=50):
 gb gg 171 #[π (μ ⟨B,0,ν⟩),ι κ ev,.agg #[ι κ p.code,ι κ p.id,σ p.a p.n p.cap]] w λe w'=>e=ρ (kr (vf s ev p.abs).2.2)/\o9 w w' B X (vf s ev p.abs).1 v ps (vf s ev p.abs).2.1:=by
  by_cases hf:(ki s.st ev).2.2=0;{rw[vL _ hf];exact A0 B X s v ps p ev w V h Z T U hf};rw[xS _ hf];obtain⟨D,nx,f,Y⟩:∃D nx f,ki s.st ev=(D,nx,f):=⟨_,_,_,rfl⟩
  rw[Y]at hf⊢;refine(QM B X s v ps p ev D nx f w V h Y hf).mono ?_;rintro e w' ⟨rfl,Z⟩;exact⟨by simp only[kr];rw[af hf],o9.still (h.below Z) (Kept.jY B _ Z)⟩
def Oq {mg:Int} {os:List kS} (h:(nY mg os).1=2):nY mg os=(2,os):=by
 unfold nY at*;split;{rename_i Z;rw[ag Z]at h;simp at h};rename_i Z;rw[af Z]at h;split;{rename_i Y;rw[ag Y]at h;simp at h};rfl
def wj(s:LS)(id:Int)(os:List kS):LS×List mH×Nat:=
 if(nY s.nm os).1=2 then(if(vf s 6 (2,id,os)).2.2=0 then((vf s 6 (2,id,os)).1.sized os,(vf s 6 (2,id,os)).2.1,0)else vf s 6 (2,id,os))else vf s 7 ((nY s.nm os).1,id,(nY s.nm os).2)
def LY(mg:Int):∀os:List kS,(tH mg os).length<=os.length
 |[] =>by simp[tH]
 |o::r=>by
  have ih:=LY mg r;have e:tH mg (o::r)=zu mg o++tH mg r:=by simp[tH]
  have h1:(zu mg o).length<=1:=by
   unfold zu;split;{simp};{split<;>simp}
  rw[e,aG,dh];omega
def Ot(mg:Int)(os:List kS):(nY mg os).2.length<=os.length:=by
 unfold nY;split;{exact cZ _ _};split;{exact LY mg os};exact aj _
def Fe(B:Nat)(X:Nat->Prop)(s:LS)(v:fB)(ps:List PV)(id:Int)(a:Option fq)(n cap:Nat)(os:List kS)(w:fA)(hT:kd w)(h:tS w B X s v ps)(hb:Bd s 100)(hn:ps.length<=50)
 (ho:kc w a n os) (lR:mG a cap) (B4:n<=1000) (m1:0<=s.nm) (m2:s.nm<=255) (Y:Int) (V:List kS) (hj:nY s.nm os=(Y,V)) (ev:Int) (xQ:Y=2/\ev=6/\(ki s.st 6).2.2≠0 \/Y≠2/\ev=7):
 gb gg 211 #[π (μ ⟨B,0,ν⟩),.agg #[ι κ 1,ι κ id,σ a n cap]] w λe w'=>e=ρ (kr (vf s ev (Y,id,V)).2.2)/\o9 w w' B X (vf s ev (Y,id,V)).1 v ps (vf s ev (Y,id,V)).2.1:=by
  have D:=gu w (γ #[ι κ 1,ι κ id,σ a n cap] 37);have hA:=λj=>ay w #[ι κ 1,ι κ id,σ a n cap] 37 (0,0) j;have hl:=h.lk.lt;have Z8:=h.row.lt;have T:=h.below D;have hz:∀w:fA,(zeroValue 37).run gg w=.ok (.agg #[ι κ 0,ι κ 0,σ ν 0 0]) w:=λw=>iV;have hol:=ho.1;obtain⟨U,A⟩:=fH (w.alloc (γ #[ι κ 1,ι κ id,σ a n cap] 37));obtain⟨Z,hZ⟩:=fH (w.heap.size);have d1:U.cell? ⟨Z,1,ν⟩=μ (ι κ id):=by rw[<-A,<-hZ];exact hA 1
  have d2:U.cell? ⟨Z,2,ν⟩=μ (σ a n cap):=by rw[<-A,<-hZ];exact hA 2
  rw[A]at T D;have HW:Hid _:=A;have HZ:Hid _:=hZ;clear hA A hZ hl;have c2:U.cell? ⟨B,2,ν⟩=μ (ι κ s.ns):=T.lk.cell 2;have c3:U.cell? ⟨B,3,ν⟩=μ (ι κ s.nm):=T.lk.cell 3;have Z6:=T.lk.lt;have Lv:Z<U.heap.size:=ai U _ d1;have Sn:=T.old;have xm:=T.self;have hJ:=IQ s.ns s.nm a n cap os U.drew m1 m2 fC lR (ho.below (kN D));have xT:=Ot s.nm os;rw[hj]at hJ xT;simp only at hJ xT;have hlj:V.length<=1000:=fC;clear xT hj;obtain⟨E,hE⟩:=fH (kr (vf s ev (Y,id,V)).2.2);obtain⟨S',M⟩:∃S',(vf s ev (Y,id,V)).1=S':=⟨_,rfl⟩
  obtain⟨O',S⟩:∃O',(vf s ev (Y,id,V)).2.1=O':=⟨_,rfl⟩
  rw[hE,M,S]
  have alG:Y=2/\ev=6/\(∃f:Nat,E=.iface 128 (ι κ (f:Int))) \/Y≠2/\ev=7:=by
   obtain⟨rfl,rfl,hf⟩|h7:=xQ;{refine .inl ⟨rfl,rfl,(ki s.st 6).2.2,?_⟩;rw[<-hE,xS _ hf];simp only[kr];rw[af hf]};exact .inr h7
  have HE:Hid _:=gp hE (gp M S);clear xQ hE M S;go_in;go_wp2_with fail;rw[HW.out,HZ.out];go_region_with(go_at_call 228;refine hJ.mono ?_;rintro e w2 ⟨u,rfl,hM⟩)
  all_goals
   obtain⟨a',n',kE,rfl,hP⟩:=Kj (X:=X) (v:=v) Y id hM hlj Sn (λk hk3=>aq (Z8 k hk3) D.size);have y:fP U w2:=fQ (kN (aC _ _)) hM.below;have R2:=T.below y;have d1':w2.cell? ⟨Z,1,ν⟩=μ (ι κ id):=(y.cell (p:=⟨Z,1,ν⟩) Lv).trans d1;have Kl:Z<w2.heap.size:=ai w2 _ d1';have SH:=gu w2 (γ #[ι κ Y,ι κ id,σ a' n' kE] 37);have Zw:=fQ D (fQ y SH);have R3:=R2.below SH;have P3:=hP.kept xm (Kept.jY B v.ownBlock SH) (λ_ e=>.inl e);have J:=wh B X s v ps ⟨Y,id,a',n',kE,V⟩ ev _ (hT.below Zw) R3 hb P3 hn;have Ez:PV.abs ⟨Y,id,a',n',kE,V⟩=(Y,id,V):=rfl;rw[Ez,HE.out.1,HE.out.2.1,HE.out.2.2]at J;clear Ez HE;clear hM hP R2 y c2 c3 d1 d2 T hJ R3 P3;obtain⟨rfl,rfl,f,rfl⟩|⟨hc,rfl⟩:=alG;{go_wp2_with fail;refine J.mono ?_;rintro e w4 ⟨rfl,hW⟩;clear J;go_wp2;go_ret;exact⟨rfl,hW.from (Kept.jY B v.ownBlock Zw)⟩}
   ·have wP:(Y !=2)=true:=by simpa using hc
    clear hc;go_wp2_with fail;refine J.mono ?_;rintro e w4 ⟨rfl,hW⟩;clear J;go_wp2;go_ret;exact⟨rfl,hW.from (Kept.jY B v.ownBlock Zw)⟩
def LZ(B:Nat)(X:Nat->Prop)(s:LS)(v:fB)(ps:List PV)(id:Int)(a:Option fq)(n cap:Nat)(os:List kS)(w:fA)(V:kd w)(h:tS w B X s v ps)(U:Bd s 100)(T:ps.length<=50)
 (S:kc w a n os) (E:∀k,wN a n=μ k->¬X k/\v.ownBlock≠μ k/\k<w.heap.size) (M:mG a cap) (Y:n<=1000) (m1:0<=s.nm) (m2:s.nm<=255):
 gb gg 211 #[π (μ ⟨B,0,ν⟩),.agg #[ι κ 1,ι κ id,σ a n cap]] w λe w'=>e=ρ (kr (wj s id os).2.2)/\o9 w w' B X (wj s id os).1 v ps (wj s id os).2.1:=by
  by_cases Z:(nY s.nm os).1=2
  ·have J:=Oq Z;by_cases hf:(ki s.st 6).2.2=0
   ·have e:wj s id os=((pN s 6).sized os,rF s 6 (2,id,os),0):=by
     unfold wj;rw[ag Z,vL _ hf,ag rfl]
    rw[e];exact LV B X s v ps id a n cap os w V h U T S E M Y m1 m2 J hf
   have e:wj s id os=vf s 6 (2,id,os):=by
    unfold wj;rw[ag Z,xS _ hf,af hf]
   rw[e];exact Fe B X s v ps id a n cap os w V h U T S M Y m1 m2 2 os J 6 (.inl ⟨rfl,rfl,hf⟩)
  have e:wj s id os=vf s 7 ((nY s.nm os).1,id,(nY s.nm os).2):=by
   unfold wj;rw[af Z]
  rw[e];exact Fe B X s v ps id a n cap os w V h U T S M Y m1 m2 _ _ rfl 7 (.inr ⟨Z,rfl⟩)
def LS.tell(s:LS)(code:Int)(os:List kS):LS:=if 6<=s.st then {s with ns:=(qU code os (s.ns,s.nm)).1,nm:=(qU code os (s.ns,s.nm)).2}else s
def vM(s:LS)(code id:Int)(os:List kS):LS×List mH×Nat:=
 if id≠s.ow then(s,[],6)else if code=2 then(if os≠ql s.qs s.qm then(s,[],6)else vf s 8 (0,id,[]))else vf (s.tell code os) 9 (0,id,[])
def Ou(B:Nat)(X:Nat->Prop)(s:LS)(v:fB)(ps:List PV)(code id:Int)(a:Option fq)(n cap:Nat)(os:List kS)(w:fA)(hT:kd w)(yR:B≠0)(Vh:v.ownBlock≠μ 0)(h:tS w B X s v ps)(hb:Bd s 100)(hn:ps.length<=50)
 (ho:kc w a n os) (B4:n<=1000):
 gb gg 212 #[π (μ ⟨B,0,ν⟩),.agg #[ι κ code,ι κ id,σ a n cap]] w λe w'=>e=ρ (kr (vM s code id os).2.2)/\o9 w w' B X (vM s code id os).1 v ps (vM s code id os).2.1:=by
  have hk:=gu w (γ #[ι κ code,ι κ id,σ a n cap] 37);have hA:=λj=>ay w #[ι κ code,ι κ id,σ a n cap] 37 (0,0) j;have hl:=h.lk.lt;have M:=h.below hk;have hz:∀w:fA,(zeroValue 37).run gg w=.ok (.agg #[ι κ 0,ι κ 0,σ ν 0 0]) w:=λw=>iV;obtain⟨U,lK⟩:=fH (w.alloc (γ #[ι κ code,ι κ id,σ a n cap] 37));obtain⟨Z,hZ⟩:=fH (w.heap.size);have d0:U.cell? ⟨Z,0,ν⟩=μ (ι κ code):=by rw[<-lK,<-hZ];exact hA 0
  have d1:U.cell? ⟨Z,1,ν⟩=μ (ι κ id):=by rw[<-lK,<-hZ];exact hA 1
  have d2:U.cell? ⟨Z,2,ν⟩=μ (σ a n cap):=by rw[<-lK,<-hZ];exact hA 2
  rw[lK]at M hk;have HW:Hid _:=lK;have HZ:Hid _:=hZ;have HBZ:Hid (B≠Z):=by show B≠Z;omega
  clear hA lK hZ hl;have c2:U.cell? ⟨B,2,ν⟩=μ (ι κ s.ns):=M.lk.cell 2;have c3:U.cell? ⟨B,3,ν⟩=μ (ι κ s.nm):=M.lk.cell 3;have c4:U.cell? ⟨B,4,ν⟩=μ (ι κ s.qs):=M.lk.cell 4;have c5:U.cell? ⟨B,5,ν⟩=μ (ι κ s.qm):=M.lk.cell 5;have c6:U.cell? ⟨B,6,ν⟩=μ (ι κ s.st):=M.lk.cell 6;have VM:U.cell? ⟨B,10,ν⟩=μ (ι κ s.ow):=M.lk.cell 10;have Z6:=M.lk.lt;have J:Z<U.heap.size:=ai U _ d1;cases Vk:(id !=s.ow)
  ·have qo:id=s.ow:=by simpa using Vk
   cases h22:(code==2)
   ·have Vl:code≠2:=by simpa using h22
    have y:vM s code id os=vf (s.tell code os) 9 (0,id,[]):=by
     unfold vM;rw[af (by simpa using qo),af Vl]
    rw[y];clear y Vl qo;by_cases h6:6<=s.st
    ·have et:s.tell code os={s with ns:=(qU code os (s.ns,s.nm)).1,nm:=(qU code os (s.ns,s.nm)).2}:=by unfold LS.tell;rw[ag h6]
     rw[et];clear et;have hTo:=λ(W:fA) (hW:fP w W)=>VQ s.ns s.nm code a n cap os W fC (ho.below hW);generalize (qU code os (s.ns,s.nm)).1=ts at hTo⊢;generalize (qU code os (s.ns,s.nm)).2=tm at hTo⊢;obtain⟨E,hE⟩:=fH (kr (vf {s with ns:=ts,nm:=tm} 9 (0,id,[])).2.2);obtain⟨S',hS'⟩:∃S',(vf {s with ns:=ts,nm:=tm} 9 (0,id,[])).1=S':=⟨_,rfl⟩
     obtain⟨O',hO'⟩:∃O',(vf {s with ns:=ts,nm:=tm} 9 (0,id,[])).2.1=O':=⟨_,rfl⟩
     rw[hE,hS',hO'];have HE:Hid _:=gp hE (gp hS' hO');have HTo:Hid _:=hTo;clear hE hS' hO' hTo;go_in;go_wp2_with fail;rw[HW.out,HZ.out];go_quiet(fail);go_wp2_with fail;obtain⟨Y,D⟩:=fH (U.drewN nq);have V:fP U Y:=by rw[<-D];exact below_drewN (aC _ _) _
     rw[D];have S:=M.below V;have e0:Y.cell? ⟨Z,0,ν⟩=μ (ι κ code):=(V.cell (p:=⟨Z,0,ν⟩) J).trans d0;have e1:Y.cell? ⟨Z,1,ν⟩=μ (ι κ id):=(V.cell (p:=⟨Z,1,ν⟩) J).trans d1;have e2:Y.cell? ⟨Z,2,ν⟩=μ (σ a n cap):=(V.cell (p:=⟨Z,2,ν⟩) J).trans d2;have f2:Y.cell? ⟨B,2,ν⟩=μ (ι κ s.ns):=S.lk.cell 2;have f3:Y.cell? ⟨B,3,ν⟩=μ (ι κ s.nm):=S.lk.cell 3;have agX:=S.lk.lt;have Kl:Z<Y.heap.size:=ai Y _ e1;have T:=fQ hk V;have HR2:Hid _:=S;have hC:=HTo.out Y.drew (kN T);clear d0 d1 d2 c2 c3 c4 c5 c6 VM M D V Z6 J S HTo;go_region_with(go_at_call 231;refine hC.mono ?_;rintro e w3 ⟨rfl,b3⟩;have SH:fP Y w3:=fQ (kN (aC _ _)) b3;have R3:=HR2.out.below SH;have g2:w3.cell? ⟨B,2,ν⟩=μ (ι κ s.ns):=R3.lk.cell 2;have g3:w3.cell? ⟨B,3,ν⟩=μ (ι κ s.nm):=R3.lk.cell 3;have gf:∀j,w3.frozen? ⟨B,j,ν⟩=false:=R3.lk.frozen;have gl:=R3.lk.lt;have z1:w3.cell? ⟨Z,1,ν⟩=μ (ι κ id):=(SH.cell (p:=⟨Z,1,ν⟩) Kl).trans e1);all_goals(have R4:tS ((w3.setCell ⟨B,2,ν⟩ (ι κ ts)).setCell ⟨B,3,ν⟩ (ι κ tm)) B X {s with ns:=ts,nm:=tm} v ps:=(R3.nj 2 _ {s with ns:=ts} rfl).nj 3 _ _ rfl;have K4:Kept w ((w3.setCell ⟨B,2,ν⟩ (ι κ ts)).setCell ⟨B,3,ν⟩ (ι κ tm)) B v.ownBlock:=mJ (mJ (Kept.jY B _ (fQ T SH)) 2 _) 3 _;have A:=wh B X {s with ns:=ts,nm:=tm} v ps ⟨0,id,ν,0,0,[]⟩ 9 _ (K4.tab hT yR Vh) R4 ⟨hb.o1,hb.o2,hb.l1,hb.l2⟩ (tu _ _ _ _ _) hn;have Ez:PV.abs ⟨0,id,ν,0,0,[]⟩=(0,id,[]):=rfl;rw[Ez,HE.out.1,HE.out.2.1,HE.out.2.2]at A;clear Ez HE R4 R3 hC;have arw:Z<w3.heap.size:=ai w3 _ z1;have zV:=HBZ.out;go_wp2_with fail;refine A.mono ?_;rintro e w5 ⟨rfl,hW⟩;clear A;go_wp2;go_ret;exact⟨rfl,hW.from K4⟩)
    have et:s.tell code os=s:=by unfold LS.tell;rw[af h6]
    rw[et];clear et;go_in;go_wp2_with fail;rw[HW.out,HZ.out];go_quiet(fail);obtain⟨Y,D⟩:=fH (U.drewN nq);have V:fP U Y:=by rw[<-D];exact below_drewN (aC _ _) _
    rw[D];have S:=M.below V;have e0:Y.cell? ⟨Z,0,ν⟩=μ (ι κ code):=(V.cell (p:=⟨Z,0,ν⟩) J).trans d0;have e1:Y.cell? ⟨Z,1,ν⟩=μ (ι κ id):=(V.cell (p:=⟨Z,1,ν⟩) J).trans d1;have f6:Y.cell? ⟨B,6,ν⟩=μ (ι κ s.st):=S.lk.cell 6;have agX:=S.lk.lt;have Kl:Z<Y.heap.size:=ai Y _ e1;have T:=fQ hk V;have A:=wh B X s v ps ⟨0,id,ν,0,0,[]⟩ 9 _ (hT.below T) S hb (tu _ _ _ _ _) hn;clear d0 d1 d2 c2 c3 c4 c5 c6 VM M D V Z6 J S;go_wp2_with fail;refine A.mono ?_;rintro e w5 ⟨rfl,hW⟩;clear A;go_wp2;go_ret;exact⟨rfl,hW.from (Kept.jY B v.ownBlock T)⟩
   have Vl:code=2:=by simpa using h22
   subst Vl;have HID:Hid _:=qo;clear h22 qo;go_in;go_wp2_with fail;rw[HW.out,HZ.out];go_quiet(fail);go_wp2_with fail;obtain⟨Y,D⟩:=fH (U.drewN nq);have V:fP U Y:=by rw[<-D];exact below_drewN (aC _ _) _
   rw[D];have S:=M.below V;have e0:Y.cell? ⟨Z,0,ν⟩=μ (ι κ 2):=(V.cell (p:=⟨Z,0,ν⟩) J).trans d0;have e1:Y.cell? ⟨Z,1,ν⟩=μ (ι κ id):=(V.cell (p:=⟨Z,1,ν⟩) J).trans d1;have e2:Y.cell? ⟨Z,2,ν⟩=μ (σ a n cap):=(V.cell (p:=⟨Z,2,ν⟩) J).trans d2;have f4:Y.cell? ⟨B,4,ν⟩=μ (ι κ s.qs):=S.lk.cell 4;have f5:Y.cell? ⟨B,5,ν⟩=μ (ι κ s.qm):=S.lk.cell 5;have agX:=S.lk.lt;have Kl:Z<Y.heap.size:=ai Y _ e1;have T:=fQ hk V;clear d0 d1 d2 c2 c3 c4 c5 c6 VM M D V Z6 J Vk
   go_region_with(first
    |(go_at_call 224;refine(LM s.qs s.qm _).mono ?_;rintro e w3 ⟨u,rfl,hM⟩;obtain⟨ua,uc,rfl,un,ul⟩:=hM.shape;have k3:=hM.below;have g2:w3.cell? ⟨Z,2,none⟩=some (.slice a n cap):=(k3.cell (p:=⟨Z,2,none⟩) Kl).trans e2)
    |(go_at_call 230;refine(Cc a ua cap uc n _ os (ql s.qs s.qm) w3 (ho.below (fQ (kN T) k3)) hM.opts.2 fC (by have:=IU s.qs s.qm;omega)).mono ?_;rintro e w4 ⟨rfl,m4,rfl⟩))
   all_goals
    have k04:fP w (w3.drewN m4):=below_drewN (fQ (kN T) k3) m4;have k24:fP Y (w3.drewN m4):=below_drewN (fQ (kN (aC _ _)) k3) m4;have R4:=S.below k24;have g1:(w3.drewN m4).cell? ⟨Z,1,ν⟩=μ (ι κ id):=(k24.cell (p:=⟨Z,1,ν⟩) Kl).trans e1;have arx:Z<(w3.drewN m4).heap.size:=ai _ _ g1;have A:=wh B X s v ps ⟨0,id,ν,0,0,[]⟩ 8 _ (hT.below k04) R4 hb (tu _ _ _ _ _) hn;have HR4:Hid _:=R4;clear S R4 k24 hM;by_cases Hy:os=ql s.qs s.qm
    ·have hd:decide (os=ql s.qs s.qm)=true:=by simp[Hy]
     have y:vM s 2 id os=vf s 8 (0,id,[]):=by
      unfold vM;rw[af (by simpa using HID.out),ag rfl,af (by simpa using Hy)]
     clear Hy;(try rw[hd]);go_wp2_with fail;refine A.mono ?_;rintro e w5 ⟨rfl,hW⟩;clear A;go_wp2;go_ret;rw[y];exact⟨rfl,hW.from (Kept.jY B v.ownBlock k04)⟩
    ·have hd:decide (os=ql s.qs s.qm)=false:=by simp[Hy]
     have y:vM s 2 id os=(s,[],6):=by
      unfold vM;rw[af (by simpa using HID.out),ag rfl,ag Hy]
     clear Hy A;(try rw[hd]);go_wp2;go_ret;rw[y];exact⟨rfl,o9.still HR4.out (Kept.jY B v.ownBlock k04)⟩
  have qo:id≠s.ow:=by simpa using Vk
  have y:vM s code id os=(s,[],6):=by
   unfold vM;rw[ag qo]
  rw[y];clear y qo;go_in;go_wp2_with fail;rw[HW.out,HZ.out];go_quiet(fail);go_wp2;go_ret;exact⟨rfl,o9.still (M.below (below_drewN (aC _ _) _)) (Kept.jY B v.ownBlock (below_drewN hk _))⟩
def kV(s:LS)(p:mH):LS×List mH×Nat:=
 if lg p.1 p.2.1 p.2.2≠0 then(s,[],lg p.1 p.2.1 p.2.2)else if p.1=1 then wj s p.2.1 p.2.2 else if p.1=5 then vf s 10 (0,p.2.1,[])else if p.1=6 then vf s 11 (0,p.2.1,[])else vM s p.1 p.2.1 p.2.2
def VR(B:Nat)(X:Nat->Prop)(s:LS)(v:fB)(ps:List PV)(p:PV)(w:fA)(hT:kd w)(yR:B≠0)(Vh:v.ownBlock≠μ 0)(h:tS w B X s v ps)(hb:Bd s 100)(hn:ps.length<=50)(hp:xD w X v p)(m1:0<=s.nm)(m2:s.nm<=255):
 gb gg 185 #[π (μ ⟨B,0,ν⟩),.agg #[ι κ p.code,ι κ p.id,σ p.a p.n p.cap]] w λe w'=>e=ρ (kr (kV s p.abs).2.2)/\o9 w w' B X (kV s p.abs).1 v ps (kV s p.abs).2.1:=by
  obtain⟨code,id,a,n,cap,os⟩:=p;obtain⟨J,lR,y,xT,wO⟩:=hp;simp only at J lR y xT;have A:∀k,wN a n=μ k->¬X k/\v.ownBlock≠μ k/\k<w.heap.size:=wO;have Ez:PV.abs ⟨code,id,a,n,cap,os⟩=(code,id,os):=rfl;rw[Ez];have E:=gu w (γ #[ι κ code,ι κ id,σ a n cap] 37);have hA:=λj=>ay w #[ι κ code,ι κ id,σ a n cap] 37 (0,0) j;have hC:=wa code id a n cap os _ fC y (J.below E);have hz:∀w:fA,(zeroValue 37).run gg w=.ok (.agg #[ι κ 0,ι κ 0,σ ν 0 0]) w:=λw=>iV;obtain⟨Z,hZ⟩:=fH (w.heap.size);have U:∀j,(w.alloc (γ #[ι κ code,ι κ id,σ a n cap] 37)).cell? ⟨Z,j,ν⟩= #[ι κ code,ι κ id,σ a n cap][j]? :=by rw[<-hZ];exact hA
  have V:Z<(w.alloc (γ #[ι κ code,ι κ id,σ a n cap] 37)).heap.size:=by simp;omega
  have HZ:Hid _:=hZ;clear hA hZ wO Ez;by_cases D:lg code id os=0
  ·have e0:kr 0=η:=rfl;rw[D,e0]at hC
   have main:∀(ev:Int),∀Y:fA,fP w Y->gb gg 171 #[π (μ ⟨B,0,ν⟩),ι κ ev,.agg #[ι κ 0,ι κ id,σ ν 0 0]] Y λe w'=>e=ρ (kr (vf s ev (0,id,[])).2.2)/\o9 w w' B X (vf s ev (0,id,[])).1 v ps (vf s ev (0,id,[])).2.1:=by
    intro ev Y k;refine(wh B X s v ps ⟨0,id,ν,0,0,[]⟩ ev Y (hT.below k) (h.below k) hb (tu _ _ _ _ _) hn).mono ?_;rintro e w' ⟨rfl,T⟩;exact⟨rfl,T.from (Kept.jY B v.ownBlock k)⟩
   have M:kV s (code,id,os)=if code=1 then wj s id os else if code=5 then vf s 10 (0,id,[])else if code=6 then vf s 11 (0,id,[])else vM s code id os:=by
    unfold kV;rw[af (by simpa using D)]
   rw[M];clear M D e0;by_cases h1:code=1
   ·subst h1;rw[ag rfl]
    have HH:∀Y:fA,fP w Y->gb gg 211 #[π (μ ⟨B,0,ν⟩),.agg #[ι κ 1,ι κ id,σ a n cap]] Y λe w'=>e=ρ (kr (wj s id os).2.2)/\o9 w w' B X (wj s id os).1 v ps (wj s id os).2.1:=by
     intro Y k;refine(LZ B X s v ps id a n cap os Y (hT.below k) (h.below k) hb hn (J.below k) (λj QH=>by obtain⟨q1,q2,q3⟩:=A j QH;exact⟨q1,q2,aq q3 k.size⟩) lR fC m1 m2).mono ?_;rintro e w' ⟨rfl,T⟩;exact⟨rfl,T.from (Kept.jY B v.ownBlock k)⟩
    clear main A h J;go_in;go_wp2_with fail;refine hC.mono ?_;rintro e w1 ⟨rfl,k1⟩;have d0:w1.cell? ⟨Z,0,ν⟩=μ (ι κ 1):=(k1.cell (p:=⟨Z,0,ν⟩) V).trans (U 0);have d1:w1.cell? ⟨Z,1,ν⟩=μ (ι κ id):=(k1.cell (p:=⟨Z,1,ν⟩) V).trans (U 1);have d2:w1.cell? ⟨Z,2,ν⟩=μ (σ a n cap):=(k1.cell (p:=⟨Z,2,ν⟩) V).trans (U 2);have Kg:Z<w1.heap.size:=ai w1 _ d0;have S:=HH w1 (fQ E k1);clear hC U V HH;rw[HZ.out];go_wp2_with fail;refine S.mono ?_;rintro e w2 ⟨rfl,T⟩;clear S;go_wp2;go_ret;exact⟨rfl,T⟩
   rw[af h1];have b1:(code==1)=false:=by simpa using h1
   by_cases h5:code=5;{subst h5;rw[ag rfl];clear A h J;go_in;go_wp2_with fail;refine hC.mono ?_;rintro e w1 ⟨rfl,k1⟩;have d0:w1.cell? ⟨Z,0,ν⟩=μ (ι κ 5):=(k1.cell (p:=⟨Z,0,ν⟩) V).trans (U 0);have d1:w1.cell? ⟨Z,1,ν⟩=μ (ι κ id):=(k1.cell (p:=⟨Z,1,ν⟩) V).trans (U 1);have Kg:Z<w1.heap.size:=ai w1 _ d0;have S:=main 10 w1 (fQ E k1);clear hC U V main;rw[HZ.out];go_wp2_with fail;refine S.mono ?_;rintro e w2 ⟨rfl,T⟩;clear S;go_wp2;go_ret;exact⟨rfl,T⟩};rw[af h5];have b5:(code==5)=false:=by simpa using h5
   by_cases h6:code=6;{subst h6;rw[ag rfl];clear A h J;go_in;go_wp2_with fail;refine hC.mono ?_;rintro e w1 ⟨rfl,k1⟩;have d0:w1.cell? ⟨Z,0,ν⟩=μ (ι κ 6):=(k1.cell (p:=⟨Z,0,ν⟩) V).trans (U 0);have d1:w1.cell? ⟨Z,1,ν⟩=μ (ι κ id):=(k1.cell (p:=⟨Z,1,ν⟩) V).trans (U 1);have Kg:Z<w1.heap.size:=ai w1 _ d0;have S:=main 11 w1 (fQ E k1);clear hC U V main;rw[HZ.out];go_wp2_with fail;refine S.mono ?_;rintro e w2 ⟨rfl,T⟩;clear S;go_wp2;go_ret;exact⟨rfl,T⟩};rw[af h6];have b6:(code==6)=false:=by simpa using h6
   have HH:∀Y:fA,fP w Y->gb gg 212 #[π (μ ⟨B,0,ν⟩),.agg #[ι κ code,ι κ id,σ a n cap]] Y λe w'=>e=ρ (kr (vM s code id os).2.2)/\o9 w w' B X (vM s code id os).1 v ps (vM s code id os).2.1:=by
    intro Y k;refine(Ou B X s v ps code id a n cap os Y (hT.below k) yR Vh (h.below k) hb hn (J.below k) fC).mono ?_;rintro e w' ⟨rfl,T⟩;exact⟨rfl,T.from (Kept.jY B v.ownBlock k)⟩
   clear main A h J h1 h5 h6;go_in;go_wp2_with fail;refine hC.mono ?_;rintro e w1 ⟨rfl,k1⟩;have d0:w1.cell? ⟨Z,0,ν⟩=μ (ι κ code):=(k1.cell (p:=⟨Z,0,ν⟩) V).trans (U 0);have d1:w1.cell? ⟨Z,1,ν⟩=μ (ι κ id):=(k1.cell (p:=⟨Z,1,ν⟩) V).trans (U 1);have d2:w1.cell? ⟨Z,2,ν⟩=μ (σ a n cap):=(k1.cell (p:=⟨Z,2,ν⟩) V).trans (U 2);have Kg:Z<w1.heap.size:=ai w1 _ d0;have S:=HH w1 (fQ E k1);clear hC U V HH;rw[HZ.out];go_wp2_with fail;refine S.mono ?_;rintro e w2 ⟨rfl,T⟩;clear S;go_wp2;go_ret;exact⟨rfl,T⟩
  have M:kV s (code,id,os)=(s,[],lg code id os):=by
   unfold kV;rw[ag D]
  rw[M];have ee:kr (lg code id os)=.iface 128 (ι κ (lg code id os:Int)):=by simp only[kr];rw[af D]
  simp only[ee]at hC⊢;have HR:Hid (∀Y:fA,fP w Y->tS Y B X s v ps):=λY k=>h.below k;clear M D ee h J;generalize lg code id os=f at hC⊢;go_in;go_wp2_with fail;refine hC.mono ?_;rintro e w1 ⟨rfl,k1⟩;clear hC;go_wp2;go_ret;exact⟨rfl,o9.still (HR.out _ (fQ E k1)) (Kept.jY B v.ownBlock (fQ E k1))⟩
def mV(s:LS)(ev:Int):LS×List mH×Nat:=if ev=0 \/ev=1 \/ev=2 \/ev=3 then vf s ev (0,0,[])else(s,[],1)
def adU(ev:Int)(B:Nat)(X:Nat->Prop)(s:LS)(v:fB)(ps:List PV)(w:fA)(Y:kd w)(h:tS w B X s v ps)(V:Bd s 100)(S:ps.length<=50):
 gb gg 120 #[π (μ ⟨B,0,ν⟩),ι κ ev] w λe w'=>e=ρ (kr (mV s ev).2.2)/\o9 w w' B X (mV s ev).1 v ps (mV s ev).2.1:=by
  have hz:=uH;have hc:=wh B X s v ps ⟨0,0,ν,0,0,[]⟩ ev w Y h V (tu _ _ _ _ _) S;by_cases Z:ev=0 \/ev=1 \/ev=2 \/ev=3
  ·have e:mV s ev=vf s ev (0,0,[]):=by unfold mV;rw[ag Z]
   rw[e];clear h Y V e;obtain rfl|rfl|rfl|rfl:=Z;all_goals(go_in;go_wp2_with fail;refine hc.mono ?_;rintro e w1 ⟨rfl,T⟩;clear hc;go_wp2;go_ret;exact⟨rfl,T⟩)
  have e:mV s ev=(s,[],1):=by unfold mV;rw[af Z]
  rw[e];have b0:(ev==0)=false:=by simp;omega
  have b1:(ev==1)=false:=by simp;omega
  have b2:(ev==2)=false:=by simp;omega
  have b3:(ev==3)=false:=by simp;omega
  have U:Hid (o9 w w B X s v ps []):=o9.still h (Kept.refl _ _ _);clear hc h Y V e Z;go_in;go_wp2;go_ret;exact⟨rfl,U.out⟩
def EA(x:Int):zW x=true↔0<=x/\x<=255:=by simp[zW]
def lfL:List UInt8->Int->Int
 |[],x=>x
 |c::r,x=>lfL r (if c=105 then 4 else if c=122 then 0 else if c=114 then x-1 else if c=116 then x-1 else x)
def wtL:List UInt8->Int->Int
 |[],x=>x
 |c::r,x=>wtL r (if c=105 then x else if c=122 then 3 else if c=114 then 3 else if c=116 then 3 else x)
def IY:∀(L:List UInt8) (s:LS),0<=s.ow->s.ow<=255->(sO L s).st=s.st/\(sO L s).sz=s.sz/\(sO L s).fs=s.fs/\(sO L s).fm=s.fm/\(sO L s).ns=s.ns/\(sO L s).nm=s.nm/\(sO L s).lf=lfL L s.lf/\(sO L s).wt=wtL L s.wt/\0<=(sO L s).ow/\(sO L s).ow<=255
 |[],s,h1,h2=>⟨rfl,rfl,rfl,rfl,rfl,rfl,rfl,rfl,h1,h2⟩
 |c::r,s,h1,h2=>by
  have e:sO (c::r) s=sO r (rP c s):=rfl;have U:(rP c s).st=s.st/\(rP c s).sz=s.sz/\(rP c s).fs=s.fs/\(rP c s).fm=s.fm/\(rP c s).ns=s.ns/\(rP c s).nm=s.nm/\(rP c s).lf=(if c=105 then 4 else if c=122 then 0 else if c=114 then s.lf-1 else if c=116 then s.lf-1 else s.lf)/\(rP c s).wt=(if c=105 then s.wt else if c=122 then 3 else if c=114 then 3 else if c=116 then 3 else s.wt)/\0<=(rP c s).ow/\(rP c s).ow<=255:=by
   by_cases c1:c=105;{subst c1;exact⟨rfl,rfl,rfl,rfl,rfl,rfl,rfl,rfl,h1,h2⟩}
   ·by_cases c2:c=122;{subst c2;exact⟨rfl,rfl,rfl,rfl,rfl,rfl,rfl,rfl,h1,h2⟩}
    ·by_cases c3:c=114;{subst c3;exact⟨rfl,rfl,rfl,rfl,rfl,rfl,rfl,rfl,by show 0<=(s.ow+1) %256;omega,by show(s.ow+1) %256<=255;omega⟩}
     ·by_cases c4:c=116;{subst c4;exact⟨rfl,rfl,rfl,rfl,rfl,rfl,rfl,rfl,by show 0<=(s.ow+1) %256;omega,by show(s.ow+1) %256<=255;omega⟩}
      ·have V:rP c s=s:=by simp[rP,c1,c2,c3,c4]
       rw[V,af c1,af c2,af c3,af c4,af c1,af c2,af c3,af c4];exact⟨rfl,rfl,rfl,rfl,rfl,rfl,rfl,rfl,h1,h2⟩
  obtain⟨T,S,p3,M,J,E,D,A,y,Z⟩:=U;obtain⟨q1,q2,h,q4,q5,q6,q7,q8,q9,Y⟩:=IY r (rP c s) y Z;rw[e];exact⟨q1.trans T,q2.trans S,h.trans p3,q4.trans M,q5.trans J,q6.trans E,by rw[q7,D];rfl,by rw[q8,A];rfl,q9,Y⟩
def zw(st lf wt:Int):Bool:=decide (0<=st)&&decide (st<=9)&&decide (0<=lf)&&decide (lf<=4)&& (!(decide (st=7)||decide (st=9))||decide (lf=4))&&decide (0<=wt)&&decide (wt<=3)&& (!(decide (4<=st)&&decide (st<=8))||decide (1<=wt))
def uJ(st lf wt:Int):zw st lf wt=true↔(0<=st/\st<=9/\0<=lf/\lf<=4/\(st=7 \/st=9->lf=4)/\0<=wt/\wt<=3/\(4<=st/\st<=8->1<=wt)):=by
 simp only[zw,Bool.and_eq_true,gq,Bool.not_eq_true',decide_eq_true_eq,decide_eq_false_iff_not,Bool.or_eq_false_iff,Bool.and_eq_false_iff];constructor;{rintro⟨⟨⟨⟨⟨⟨⟨a,b⟩,c⟩,d⟩,e⟩,f⟩,g⟩,h⟩;exact⟨a,b,c,d,fC,f,g,fC⟩};rintro⟨a,b,c,d,e,f,g,h⟩;exact⟨⟨⟨⟨⟨⟨⟨a,b⟩,c⟩,d⟩,fC⟩,f⟩,g⟩,fC⟩
def adV:((gw 12).all λe=>(gw 10).all λs=>(gw 5).all λl=>(gw 4).all λt=> !(e !=4&&e !=5&&zw (s:Int) (l:Int) (t:Int)&& ((ni s e).2.2==0))||zw (ni s e).2.1 (lfL (ni s e).1 (l:Int)) (wtL (ni s e).1 (t:Int)))=true:=by decide+kernel
def VT(e:Nat)(S:e<12)(s:Nat)(hs:s<10)(l:Nat)(hl:l<5)(t:Nat)(M:t<4)(h:e≠4/\e≠5/\zw (s:Int) (l:Int) (t:Int)=true/\(ni s e).2.2=0):zw (ni s e).2.1 (lfL (ni s e).1 (l:Int)) (wtL (ni s e).1 (t:Int))=true:=by
 have Z:=bz.1 (bz.1 (bz.1 (bz.1 adV e (aU.2 S)) s (aU.2 hs)) l (aU.2 hl)) t (aU.2 M);obtain⟨Y,V,U,T⟩:=h;have b4:(e !=4)=true:=by simpa using Y
 have b5:(e !=5)=true:=by simpa using V
 have b7:((ni s e).2.2==0)=true:=by simpa using T
 rw[b4,b5,U,b7]at Z;simpa using Z
def L4:∀s:Nat,s<10->∀l:Nat,l<5->(4<=s/\s<=8/\1<=l/\zw (s:Int) (l:Int) 1=true)->zw (ni s 4).2.1 (lfL (ni s 4).1 (l:Int)) (wtL (ni s 4).1 0)=true:=by decide+kernel
def L5:∀s:Nat,s<10->(4<=s/\s<=8/\zw (s:Int) 0 1=true)->zw (ni s 5).2.1 (lfL (ni s 5).1 0) (wtL (ni s 5).1 0)=true:=by decide+kernel
structure B5(s:LS):Prop where
 ok:zw s.st s.lf s.wt=true
 o1:0<=s.ow
 o2:s.ow<=255
 m1:0<=s.nm
 m2:s.nm<=255
 f1:0<=s.fm
 f2:s.fm<=255
def B5.bd {s:LS} (h:B5 s):Bd s 100:=by
 obtain⟨a,b,c,d,_⟩:=(uJ _ _ _).1 h.ok;exact⟨h.o1,h.o2,fC,fC⟩
def B5.wt {s:LS} (h:B5 s):0<=s.wt/\s.wt<=3:=by
 obtain⟨_,_,_,_,_,a,b,_⟩:=(uJ _ _ _).1 h.ok;exact⟨a,b⟩
def zX {s:LS} (h1:0<=s.ow)(h2:s.ow<=255)(m1:0<=s.nm)(m2:s.nm<=255)(f1:0<=s.fm)(f2:s.fm<=255)(ev:Int)(Z:zw (ki s.st ev).2.1 (lfL (ki s.st ev).1 s.lf) (wtL (ki s.st ev).1 s.wt)=true):B5 (pN s ev):=by
 unfold pN;obtain⟨D,nx,f,T⟩:∃D nx f,ki s.st ev=(D,nx,f):=⟨_,_,_,rfl⟩
 rw[T]at Z⊢;simp only at Z⊢
 have S:(s.next nx).st=nx/\(s.next nx).lf=s.lf/\(s.next nx).wt=s.wt/\(s.next nx).ow=s.ow/\(s.next nx).fm=s.fm/\((s.next nx).nm=s.nm \/(s.next nx).nm=s.fm):=by
  unfold LS.next;split;{exact⟨rfl,rfl,rfl,rfl,rfl,.inr rfl⟩};exact⟨rfl,rfl,rfl,rfl,rfl,.inl rfl⟩
 obtain⟨n1,M,n3,n4,V,n6⟩:=S;obtain⟨q1,_,_,U,_,q6,J,E,A,Y⟩:=IY D (s.next nx) fC fC;refine⟨by rw[q1,J,E,n1,M,n3];exact Z,A,Y,?_,?_,by rw[U,V];exact f1,by rw[U,V];exact f2⟩;{rw[q6];obtain e|e:=n6<;>rw[e] <;>assumption};rw[q6];obtain e|e:=n6<;>rw[e] <;>assumption
def B5.ev {s:LS} (h:B5 s)(e:Nat)(Z:e<12)(T:e≠4)(S:e≠5)(AZ:mH):B5 (vf s e AZ).1:=by
 by_cases hf:(ki s.st e).2.2=0
 ·rw[vL _ hf];obtain⟨a,b,c,d,_,f,g,_⟩:=(uJ _ _ _).1 h.ok;refine zX h.o1 h.o2 h.m1 h.m2 h.f1 h.f2 e ?_;have U:=h.ok;obtain⟨st,Y⟩:∃st:Nat,s.st=st:=⟨s.st.toNat,fC⟩
  obtain⟨l,hl⟩:∃l:Nat,s.lf=l:=⟨s.lf.toNat,fC⟩
  obtain⟨t,V⟩:∃t:Nat,s.wt=t:=⟨s.wt.toNat,fC⟩
  rw[Y]at hf;rw[oZ st e fC Z]at hf;rw[Y,hl,V,oZ st e fC Z];rw[Y,hl,V]at U;exact VT e Z st fC l fC t fC ⟨T,S,U,hf⟩
 rw[xS _ hf];exact h
def B5.mV {s:LS} (h:B5 s)(ev:Int):B5 (mV s ev).1:=by
 unfold Go.Proofs.YtieklnlbljejdaaGreatDoor.mV;split;{rename_i Z;obtain rfl|rfl|rfl|rfl:=Z;{exact h.ev 0 fF fF fF _};{exact h.ev 1 fF fF fF _};{exact h.ev 2 fF fF fF _};exact h.ev 3 fF fF fF _};exact h
def B5.tick {s:LS} (h:B5 s):B5 (lS s):=by
 obtain⟨a,b,c,d,E,f,g,hw⟩:=(uJ _ _ _).1 h.ok;unfold lS;by_cases J:4<=s.st/\s.st<=8
 ·rw[af (by simp;omega)];by_cases U:0<s.wt-1;{rw[ag U];exact⟨(uJ _ _ _).2 ⟨a,b,c,d,E,by show 0<=s.wt-1;omega,by show s.wt-1<=3;omega,λ_=>by show 1<=s.wt-1;omega⟩,h.o1,h.o2,h.m1,h.m2,h.f1,h.f2⟩};rw[af U];have T:s.wt=1:=by have:=hw J;omega
  have S:s.wt-1=0:=fC;have Y:=h.ok;obtain⟨st,V⟩:∃st:Nat,s.st=st:=⟨s.st.toNat,fC⟩
  obtain⟨l,hl⟩:∃l:Nat,s.lf=l:=⟨s.lf.toNat,fC⟩
  by_cases Z:0<s.lf;{rw[ag Z];refine zX (s:={s with wt:=s.wt-1}) h.o1 h.o2 h.m1 h.m2 h.f1 h.f2 4 ?_;show zw (ki s.st 4).2.1 (lfL (ki s.st 4).1 s.lf) (wtL (ki s.st 4).1 (s.wt-1))=true;rw[S,V,hl,show(4:Int)=((4:Nat):Int)from rfl,oZ st 4 fC fF];rw[V,hl,T]at Y;exact L4 st fC l fC ⟨fC,fC,fC,Y⟩};rw[af Z];refine zX (s:={s with wt:=s.wt-1}) h.o1 h.o2 h.m1 h.m2 h.f1 h.f2 5 ?_;show zw (ki s.st 5).2.1 (lfL (ki s.st 5).1 s.lf) (wtL (ki s.st 5).1 (s.wt-1))=true;have M:s.lf=0:=fC;rw[S,V,M,show(5:Int)=((5:Nat):Int)from rfl,oZ st 5 fC fF];rw[V,M,T]at Y;exact L5 st fC ⟨fC,fC,Y⟩
 rw[ag (by simp;omega)];exact h
def Ff:∀(os seen:List kS),rQ seen os=0->∀o∈os,zW o.1=true/\zW o.2=true
 |[],_,_=>λo Y=>by simp at Y
 |o::r,seen,h=>by
  unfold rQ at h;split at h;{simp at h}
  ·rename_i Z
   split at h;{simp at h};{intro x hx;obtain rfl|hx:=aS.1 hx;{simpa using Z};{exact Ff r (seen++ [o]) h x hx}}
def L6 {code id:Int} {os:List kS} (h:lg code id os=0):∀o∈os,zW o.1=true/\zW o.2=true:=by
 unfold lg at h;split at h;{simp at h};split at h;{simp at h};split at h;{simp at h};exact Ff os [] h
def QR(code:Int):∀(os:List kS) (p:Int×Int),(∀o∈os,zW o.1=true/\zW o.2=true)->0<=p.2->p.2<=255->0<=(qU code os p).2/\(qU code os p).2<=255
 |[],_,_,h1,h2=>⟨h1,h2⟩
 |o::r,p,hb,h1,h2=>by
  have e:qU code (o::r) p=qU code r (lM code p o):=rfl;rw[e];have Y:=(EA o.2).1 (hb o gZ).2;have Z:0<=(lM code p o).2/\(lM code p o).2<=255:=by
   unfold lM;split;{split;{exact⟨h1,h2⟩};{split;{exact⟨aZ _,show(0:Int)<=255 by decide⟩};{exact⟨h1,h2⟩}}};{split;{split;{exact⟨h1,h2⟩};{split;{exact Y};{exact⟨h1,h2⟩}}};{exact⟨h1,h2⟩}}
  exact QR code r _ (λx hx=>hb x (by simp[hx])) Z.1 Z.2
def B5.sized {s:LS} (h:B5 s)(os:List kS):B5 (s.sized os):=by
 unfold LS.sized;split;{exact⟨h.ok,h.o1,h.o2,h.m1,h.m2,h.f1,h.f2⟩};exact h
def B5.kV {s:LS} (h:B5 s)(p:mH):B5 (kV s p).1:=by
 unfold Go.Proofs.YtieklnlbljejdaaGreatDoor.kV;split;{exact h};rename_i V;have Z:lg p.1 p.2.1 p.2.2=0:=by simpa using V
 split;{unfold wj;split;{split;{exact(h.ev 6 fF fF fF _).sized _};exact h.ev 6 fF fF fF _};exact h.ev 7 fF fF fF _};split;{exact h.ev 10 fF fF fF _};split;{exact h.ev 11 fF fF fF _};unfold vM;split;{exact h};split;{split;{exact h};exact h.ev 8 fF fF fF _}
 have Y:B5 (s.tell p.1 p.2.2):=by
  unfold LS.tell;split;{have:=QR p.1 p.2.2 (s.ns,s.nm) (L6 Z) h.m1 h.m2;exact⟨h.ok,h.o1,h.o2,this.1,this.2,h.f1,h.f2⟩};exact h
 exact Y.ev 9 fF fF fF _
end Go.Proofs.YtieklnlbljejdaaGreatDoor
namespace Go.Proofs.YtieklnlbljejdaaGreatDoor.Plain
open Go.RowKit
def xU(a b:Nat)(Z:a<65536)(Y:b<65536):bits .xor .i64 (a:Int) (b:Int)=((a^^^b:Nat):Int):=by
 have h:a^^^b<65536:=gA (n:=16) Z Y
 have e:∀n:Nat,n<65536->(gD 64 (n:Int)).toNat=n:=by
  intro n hn;rw[BitVec.toNat_ofInt];simp;omega
 have V:(gD 64 (a:Int) ^^^gD 64 (b:Int)).toNat=a^^^b:=by
  rw[BitVec.toNat_xor,e a Z,e b Y]
 show IntKind.i64.wrap ((gD 64 (a:Int) ^^^gD 64 (b:Int)).toNat:Int)=_;rw[V,IntKind.wrap_i64];omega
def turn(x:Nat):Nat:=if x%2=1 then x/2^^^33800 else x/2
def turns:Nat->Nat->Nat
 |0,x=>x
 |n+1,x=>turns n (turn x)
def Km(x:Nat)(c:UInt8):Nat:=turns 8 (x^^^c.toNat)
def reg(l:List UInt8):Nat:=l.foldl Km 65535
def sum(l:List UInt8):Nat:=reg l^^^65535
def Kn(a b:Nat)(Z:a<65536)(Y:b<65536):a^^^b<65536:=gA (n:=16) Z Y
def VU(c:UInt8):c.toNat<65536:=by have:=c.toNat_lt;omega
def aai(x:Nat)(h:x<65536):turn x<65536:=by
 unfold turn;split;{exact Kn _ _ fC fC};omega
def Fg:∀n x,x<65536->turns n x<65536
 |0,_,h=>h
 |n+1,x,h=>Fg n _ (aai x h)
def Fh:∀n x,turns (n+1) x=turn (turns n x)
 |0,_=>rfl
 |n+1,x=>by rw[turns,Fh n (turn x)];rfl
def SI(x:Nat)(c:UInt8)(h:x<65536):Km x c<65536:=Fg 8 _ (Kn _ _ h (VU c))
def L7:∀(l:List UInt8) x,x<65536->l.foldl Km x<65536
 |[],_,h=>h
 |c::l,x,h=>L7 l _ (SI x c h)
def Ko(l:List UInt8):reg l<65536:=L7 l _ fC
def Ow(l:List UInt8):sum l<65536:=Kn _ _ (Ko l) fC
def VW(l:List UInt8)(c:UInt8):reg (l++ [c])=Km (reg l) c:=by simp[reg]
end Go.Proofs.YtieklnlbljejdaaGreatDoor.Plain
namespace Go.Proofs.YtieklnlbljejdaaGreatDoor
open Go.RowKit Plain
def aaj {k:IntKind} {a b:Int} (h:a=b):Ending.returned (.int k a)=ρ (.int k b):=by rw[h]
def IZ(s:ByteArray)(k:Nat)(h:k<s.size):s.data.toList.take (k+1)=s.data.toList.take k++ [s[k]] :=by
 rw[aJ (by simpa using h)];rfl
def VX(x:Nat)(h:x<65536)(h1:(x:Int) %2=1):bits .xor .i64 ((x:Int)/2) 33800=(turn x:Int):=by
 have e:=xU (x/2) 33800 fC fC;have:x%2=1:=fC;simp only[turn,this,if_true];rw[<-e];simp
def SJ(x:Nat)(h1:¬(x:Int) %2=1):(x:Int)/2=(turn x:Int):=by
 have:¬x%2=1:=fC;simp[turn,this]
def QS(s:ByteArray)(w:fA)(hs:s.size<=maxLen):
 gb gg 210 #[.string s] w λe w'=>e=ρ (ι κ (Plain.sum s.data.toList:Nat))/\w=w':=by
  unfold maxLen at hs;go_in;go_wp2
  go_loop [3,8] (λx i=>∃k:Nat,k<=s.size/\i=ι κ k/\x=ι κ (reg (s.data.toList.take k):Nat)) (λ_ i=>s.size-(gj i).toNat)
  (case atStart=>exact⟨0,aw _,rfl,rfl⟩)
  case round=>
   obtain⟨k,hk,rfl,rfl⟩:=hrel;by_cases D:k<s.size
   ·have U:=IZ s k D;have V:Hid (reg (s.data.toList.take (k+1))=turns 8 (reg (s.data.toList.take k) ^^^s[k].toNat)):=by rw[U,VW];rfl
    have T:bits .xor .i64 (reg (s.data.toList.take k):Nat) (wrap64 (s[k].toNat:Nat))=((reg (s.data.toList.take k) ^^^s[k].toNat:Nat):Int):=by
     have hb:=s[k].toNat_lt;rw[cX _ ⟨fC,fC⟩];exact xU _ _ (Ko _) (VU _)
    have Z:reg (s.data.toList.take k) ^^^s[k].toNat<65536:=Kn _ _ (Ko _) (VU _);clear U;generalize reg (s.data.toList.take k) ^^^s[k].toNat=X at T Z V;go_wp2
    go_loop [3,17] (λx i=>∃j:Nat,j<=8/\i=ι κ j/\x=ι κ (turns j X:Nat)) (λ_ i=>8-(gj i).toNat)
    (case atStart=>exact⟨0,aw _,rfl,rfl⟩)
    case round=>
     obtain⟨j,hj,rfl,rfl⟩:=hrel;by_cases hj8:j<8
     ·have hl:=Fg j X Z;have M:turns (j+1) X=turn (turns j X):=Fh j X;have E:=VX (turns j X) hl;have J:=SJ (turns j X);generalize turns j X=Y at*;go_wp2
      all_goals
       go_round
       (case rel=>exact⟨j+1,fC,by go_num,by rw[M];first|rw[E (by simp_all)] |rw[J (by simp_all)]⟩);(case measure=>simp[gj];omega)
     have S:j=8:=fC;subst S;go_wp2
     go_round
     (case rel=>exact⟨k+1,fC,by go_num,by rw[V.out]⟩);case measure=>simp[gj];omega
   go_wp2;go_ret;have e:k=s.size:=fC;exact⟨aaj (by rw[aR (by simp;omega)];exact xU _ 65535 (Ko _) fF),rfl⟩
end Go.Proofs.YtieklnlbljejdaaGreatDoor
namespace Go.Proofs.YtieklnlbljejdaaGreatDoor.Plain
open Go.RowKit
def uf(c:UInt8):Bool:=c==126||c==125||decide (c<32)
def D9(c:UInt8):List UInt8:=if uf c then [125,c^^^32]else [c]
def uK(l:List UInt8):List UInt8:=l.flatMap D9
def L8(l:List UInt8):UInt8:=gE (sum l%256)
def L9(l:List UInt8):UInt8:=gE (sum l/256)
def nK(l:List UInt8):List UInt8:=l++ [L8 l,L9 l]
def mW(l:List UInt8):List UInt8:=126::(uK (nK l)++ [126])
def I0(l:List UInt8):((L8 l).toNat:Int)=((sum l:Nat):Int) %256:=by
 have:=Ow l;unfold L8;rw[cJ (by show sum l%256<256;omega)];omega
def I1(l:List UInt8):((L9 l).toNat:Int)=((sum l:Nat):Int)/256:=by
 have:=Ow l;unfold L9;rw[cJ (by show sum l/256<256;omega)];omega
def SK(l:List UInt8)(c:UInt8):uK (l++ [c])=uK l++D9 c:=by simp[uK]
def aak(c:UInt8):(D9 c).length<=2:=by unfold D9;split<;>simp
def EB:∀l:List UInt8,(uK l).length<=2*l.length
 |[] =>by simp[uK]
 |c::l=>by
  have:=EB l;have h:=aak c;simp only[uK,fS,fT,fU]at this⊢;omega
def qp(l:List UInt8):(nK l).length=l.length+2:=by simp[nK]
def SL(c:UInt8):uf c=true↔(c.toNat:Int)=126 \/(c.toNat:Int)=125 \/(c.toNat:Int)<32:=by
 unfold uf;simp only[gq,beq_iff_eq,decide_eq_true_eq,UInt8.lt_iff_toNat_lt]
 have Z:c=126↔(c.toNat:Int)=126:=by
  rw[<-dq];show c.toNat=126↔_;omega
 have Y:c=125↔(c.toNat:Int)=125:=by
  rw[<-dq];show c.toNat=125↔_;omega
 rw[Z,Y];show(_ \/_) \/c.toNat<32↔_;omega
def acn(c:UInt8):bits .xor .u8 (c.toNat:Int) 32=((c^^^32).toNat:Int):=by
 have:=c.toNat_lt;have e:=u8_xor_nat c.toNat 32 fC fC;rw[UInt8.toNat_xor];exact e
end Go.Proofs.YtieklnlbljejdaaGreatDoor.Plain
namespace Go.Proofs.YtieklnlbljejdaaGreatDoor
open Go.RowKit
variable {F G:Nat->Value} {g m o:Nat} {w w':World}
def sg(w:fA)(g o m:Nat)(F:Nat->fB):Prop:=∀j<m,w.cell? ⟨g,o+j,ν⟩=μ (F j)/\w.frozen? ⟨g,o+j,ν⟩=false
def ui(F:Nat->fB)(i:Nat)(v:fB):Nat->fB:=λj=>if j=i then v else F j
def rG(F:Nat->fB)(i:Nat)(v:fB):ui F i v i=v:=by simp[ui]
def kU(F:Nat->fB) {i j:Nat} (v:fB)(h:j≠i):ui F i v j=F j:=by simp[ui,h]
def og(w:fA)(a x:fq)(v:fB):(w.setCell a v).frozen? x=w.frozen? x:=gZ
def sg.cell {w:fA} {g o m:Nat} {F:Nat->fB} (h:sg w g o m F)(j:Nat)(Z:j<m):w.cell? ⟨g,o+j,ν⟩=μ (F j):=(h j Z).1
def sg.fz(h:sg w g o m F)(j:Nat)(Z:j<m):w.frozen? ⟨g,o+j,ν⟩=false:=(h j Z).2
def sg.lt(h:sg w g o m F)(Z:0<m):g<w.heap.size:=ai w _ (h.cell 0 Z)
def sg.set(h:sg w g o m F)(i:Nat)(hi:i<m)(v:fB):sg (w.setCell ⟨g,o+i,ν⟩ v) g o m (ui F i v):=by
 intro j Z;refine⟨?_,(og _ _ _ _).trans (h.fz j Z)⟩;by_cases e:j=i;{subst e;rw[rG];exact World.cell?_setCell_same _ _ _ (h.cell j Z)};rw[kU F v e,br _ _ _ _ (λe=>by have:=congrArg Addr.off e;simp at this;omega)];exact h.cell j Z
def sg.keep(h:sg w g o m F)(Z:w'.heap[g]? =w.heap[g]?):sg w' g o m F:=λj Y=>by
 refine⟨(ak (a:=⟨g,o+j,ν⟩) Z).trans (h.cell j Y),?_⟩;have:w'.frozen? ⟨g,o+j,ν⟩=w.frozen? ⟨g,o+j,ν⟩:=by
  simp only[World.frozen?,Z]
 exact this.trans (h.fz j Y)
def sg.below(h:sg w g o m F)(Y:0<m)(Z:fP w w'):sg w' g o m F:=h.keep (Z.block g (h.lt Y))
def sg.sub(h:sg w g o m F)(a k:Nat)(hk:a+k<=m):sg w g (o+a) k (λj=>F (a+j)):=λj hj=>by
 have:=h (a+j) fC;rw[bP];exact this
def sg.congr(h:sg w g o m F)(e:∀j<m,F j=G j):sg w g o m G:=λj Z=>by rw[<-e j Z];exact h j Z
structure na(w w':fA)(g o m:Nat):Prop where
 os:w'.os=w.os
 tape:w'.tape=w.tape
 output:w'.output=w.output
 size:w.heap.size<=w'.heap.size
 block:∀i<w.heap.size,i≠g->w'.heap[i]? =w.heap[i]?
 cell:∀j,j<o \/o+m<=j->w'.cell? ⟨g,j,ν⟩=w.cell? ⟨g,j,ν⟩
 fz:∀j,w'.frozen? ⟨g,j,ν⟩=w.frozen? ⟨g,j,ν⟩
def na.refl(w:fA)(g o m:Nat):na w w g o m:=⟨rfl,rfl,rfl,aj _,λ_ _ _=>rfl,λ_ _=>rfl,λ_=>rfl⟩
def na.trans {a b c:fA} {g o m:Nat} (h:na a b g o m)(k:na b c g o m):na a c g o m:=
 ⟨k.os.trans h.os,k.tape.trans h.tape,k.output.trans h.output,au h.size k.size,λi hi Y=>(k.block i (aq hi h.size) Y).trans (h.block i hi Y),λj Z=>(k.cell j Z).trans (h.cell j Z),λj=>(k.fz j).trans (h.fz j)⟩
def na.set {x:fA} (h:na w x g o m)(j:Nat)(h1:o<=j)(h2:j<o+m)(v:fB):na w (x.setCell ⟨g,j,ν⟩ v) g o m:=by
 have b1:fJ 0 x (x.setCell ⟨g,j,ν⟩ v):=(aC 0 x).setCell (aw _) _;exact⟨b1.os.trans h.os,b1.tape.trans h.tape,b1.output.trans h.output,au h.size b1.size,λi hi Z=>(ax _ _ _ i Z).trans (h.block i hi Z),
  λi hi=>(br _ _ _ _ (λe=>by have:=congrArg Addr.off e;simp at this;omega)).trans (h.cell i hi),λi=>(og _ _ _ _).trans (h.fz i)⟩
def na.drewN {w x:fA} {g o m:Nat} (h:na w x g o m)(n:Nat):na w (x.drewN n) g o m:=⟨h.os,h.tape,h.output,h.size,h.block,h.cell,h.fz⟩
def na.drew {w x:fA} {g o m:Nat} (h:na w x g o m):na w x.drew g o m:=⟨h.os,h.tape,h.output,h.size,h.block,h.cell,h.fz⟩
def sg.join {a k:Nat} (h:sg w g o m F)(V:na w w' g (o+a) k)(T:sg w' g (o+a) k G):sg w' g o m (λj=>if a<=j/\j<a+k then G (j-a)else F j):=λj Y=>by
 by_cases e:a<=j/\j<a+k;{have Z:=T (j-a) fC;have U:o+a+(j-a)=o+j:=fC;rw[U]at Z;simp only[if_pos e];exact Z};{simp only[if_neg e];exact⟨(V.cell (o+j) fC).trans (h.cell j Y),(V.fz _).trans (h.fz j Y)⟩}
open Go.ChangeShapes Go.WideShapes Go.ChangeAt
def SM {H:Type} {enc:fE×fB->H} {W:fA} {a:Option fq} {n cap:Nat} {d:fX H} {ps:List MemPlace}
 (h:DataW.Trod enc gg W 0 (λ_=>true) true 35 (σ a n cap) d ps):
 ∃os:List kS,kc W a n os/\mG a cap/\n<=maxLen:=by
  obtain⟨fuel,hf⟩:=h;obtain⟨hcs,_⟩|⟨x,len,cp,m',n',Y,V,D0,D1,P0,P1,hcs,_,hl,hm,M,_,hx⟩:=eB underlying35 underlying276 iV rfl rfl iV iV hf;{simp[gG]at hcs;obtain⟨rfl,rfl,rfl⟩:=hcs;exact⟨[],⟨rfl,.inl rfl⟩,λ_=>rfl,fF⟩};simp[gG]at hcs;obtain⟨rfl,rfl,rfl⟩:=hcs;simp at M
  have each:∀i<n,W.cell? (x.add (i*2))=μ (ι κ (gj (Y i)))/\W.cell? (x.add (i*2+1))=μ (ι κ (gj (V i))):=by
   intro i hi;obtain⟨q1,q2,D,A⟩:=hx i fC;obtain⟨k,f0,_,_⟩:=bF underlying3 D;obtain⟨n,f1,_,_⟩:=bF underlying3 A;simp at f0 f1;exact⟨by rw[q1,f0];rfl,by rw[q2,f1];rfl⟩
  refine⟨(gw n).map (λi=>(gj (Y i),gj (V i))),⟨gZ,?_⟩,λh=>by simp at h,fC⟩;by_cases J:n=0;{exact .inl J};obtain⟨b,off,Z⟩:=x;have hc:=(each 0 fC).1;have T:Z=ν:=by simpa[ft]using dG hc
  subst T;refine .inr ⟨b,off,rfl,λj E=> ?_⟩;have S:j<n:=by simpa using E
  have U:=each j S;rw[oP,oP]at U;simpa[bP]using U
